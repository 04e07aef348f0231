/-
  Texts of this claim, put together: LgGd, LgL3.
-/
import Derived.Test.YtfgnjpdlchimpaaLc1
import Derived.Test.YtfgnjpdlchimpaaLc3
import Derived.Test.YtfgnjpdlchimpaaLc4
import Derived.Test.YtfgnjpdlchimpaaLc5
import Derived.Test.YtfgnjpdlchimpaaLd1
import Derived.Test.YtfgnjpdlchimpaaLg1
import Derived.Deep.DeepFit
import Derived.Lib.AppendZeros
namespace Go.Proofs.Ytfgnjpdlchimpaa
open Go.RowKit
set_option linter.unusedSimpArgs false
set_option linter.unusedVariables false

theorem take_room {yk size : Int} (h : takeE yk size = 0) (h0 : 0 ≤ yk) : takeV yk size = yk - 1000 * size ∧ 0 ≤ yk - 1000 * size := by
  unfold takeE at h
  unfold takeV
  split at h
  · cases h
  · rename_i h9
    rw [if_neg h9]
    refine ⟨rfl, ?_⟩
    unfold poorB wholeS at h9
    simp at h9
    omega
theorem chkF_may : ∀ (L : List TnE) (last : Int), chkF last L = true → ∀ z ∈ L, mayT z = true
  | [], _, _ => fun z h => absurd h (by simp)
  | y :: r, last, h => by
    unfold chkF at h
    simp only [Bool.and_eq_true, decide_eq_true_eq] at h
    intro z hz
    rcases List.mem_cons.1 hz with rfl | hz
    · exact h.1.2
    · exact chkF_may r y.id h.2 z hz
theorem setB_of {L : List TnE} {te lf : Int} (hc : chk L = true) (hs : (fnd te L).isSome = true) (hg : ((fnd te L).getD z0).gone = false) (h0 : 0 ≤ lf) (h1 : lf ≤ 1000000000) : setB L ⟨((fnd te L).getD z0).id, ((fnd te L).getD z0).rate, ((fnd te L).getD z0).burst, lf, false⟩ = true := by
  obtain ⟨y, hy⟩ := Option.isSome_iff_exists.1 hs
  rw [hy] at hg ⊢
  have hm := chkF_may L 0 hc y (List.mem_of_find?_eq_some hy)
  unfold setB
  rw [hc]
  unfold mayT fullB zeroB at hm ⊢
  simp only [Option.getD_some, Bool.and_eq_true, decide_eq_true_eq] at hm hg ⊢
  refine ⟨trivial, ⟨⟨hm.1.1.1, hm.1.1.2⟩, h0, h1⟩, ?_⟩
  simp
set_option maxRecDepth 100000 in
set_option maxHeartbeats 16000000 in
theorem rgrant_any (v : Value) (s : StE) (sh ep nu te size : Int) (w : World) (h : SV w v s) (hf : fewS s) (hbd : (-9223372036854775808 ≤ sh ∧ sh ≤ 9223372036854775807) ∧ (-9223372036854775808 ≤ ep ∧ ep ≤ 9223372036854775807) ∧ (-9223372036854775808 ≤ nu ∧ nu ≤ 9223372036854775807) ∧ (-9223372036854775808 ≤ te ∧ te ≤ 9223372036854775807)) :
    Calls Try.prog 21 #[v, .int .i64 sh, .int .i64 ep, .int .i64 nu, .int .i64 te, .int .i64 size] w fun e w' => ∃ v', e = .returned (.tuple #[v', grA s sh ep nu te size]) ∧ SV w' v' (grS s sh ep nu te size) ∧ Below w.heap.size w w' := by
  have HFEW := zh hf
  obtain ⟨f1, f2, f3, f4⟩ := hf
  obtain ⟨vt, vl, vs, vd, rfl, ht, hl, hs, hd⟩ := h
  obtain ⟨ta, tn, tc, rfl, Htn, tn1, tn2⟩ := ht.sh
  obtain ⟨la, ln, lc, rfl, Hln, ln1, ln2⟩ := hl.sh
  obtain ⟨sa, sn, sc, rfl, Hsn, sn1, sn2⟩ := hs.sh
  obtain ⟨da, dn, dc, rfl, Hdn, dn1, dn2⟩ := hd.sh
  have HT0 := zh ht
  have HL0 := zh hl
  have HS0 := zh hs
  have HD0 := zh hd
  have HT := zh ht
  have HL := zh hl
  have HS := zh hs
  have HD := zh hd
  clear ht hl hs hd
  rw [← Hln.out] at f2
  rw [← Htn.out] at f1
  have HSV : Hid (∀ W, TV W (.slice ta tn tc) s.ts → LeV W (.slice la ln lc) s.ls → SeV W (.slice sa sn sc) s.ss → DkV W (.slice da dn dc) s.ds → SV W (.agg #[.int .i64 s.term, .int .i64 s.stamp, .int .i64 s.next, .slice ta tn tc, .slice la ln lc, .slice sa sn sc, .slice da dn dc]) s):=zh (fun W h1 h2 h3 h4 => ⟨_, _, _, _, rfl, h1, h2, h3, h4⟩)
  have HCK:=zh (fun W v (h : SV W v s) => rcheckS_any v s W h HFEW.out)
  have HTW:=zh (fun W v (h : SV W v s) => rcopyO_any v s W h HFEW.out)
  obtain ⟨C, hC⟩ : ∃ C, C = chkS s := ⟨_, rfl⟩
  have HSZ:=zh (fun h : C = true => lesB_size (s := s) (by rw [hC] at h; unfold chkS at h; simp only [Bool.and_eq_true] at h; exact h.1.2))
  rw [← hC] at HCK
  have HCE := zh hC
  clear hC
  have HRF:=zh (fun er W v (h : SV W v s) => refused_any v s er W h HFEW.out)
  obtain ⟨R, hR⟩ : ∃ R, R = grS s sh ep nu te size := ⟨_, rfl⟩
  obtain ⟨RA, hRA⟩ : ∃ RA, RA = grA s sh ep nu te size := ⟨_, rfl⟩
  rw [← hR, ← hRA]
  unfold grS at hR
  unfold grA at hRA
  rw [← HCE.out] at hR hRA HRF
  have HR9 := zh hR
  have HRA := zh hRA
  have HCP:=zh (fun h : C = true => chkS_parts (HCE.out.symm.trans h))
  have HGE:=zh (grE_eq s sh ep nu te size)
  clear hR hRA
  have HB : Hid (Below w.heap.size w w):=zh (Below.refl _ _)
  go_enter Try.func21, Try.ntmps21
  go_upto_region 1 with fail
  obtain ⟨N, hN⟩ : ∃ n0, n0 = w.heap.size := ⟨_, rfl⟩
  have HLON : Hid (w.heap.size ≤ N):=zh (by have := HB.out.size; omega)
  obtain ⟨W1, hA0⟩ : ∃ W0, W0 = w.alloc (.cells #[.int .i64 s.term, .int .i64 s.stamp, .int .i64 s.next, .slice ta tn tc, .slice la ln lc, .slice sa sn sc, .slice da dn dc] 27) := ⟨_, rfl⟩
  have hB : Below w.heap.size w W1 := by rw [hA0]; exact (Below.refl _ _).alloc (Nat.le_refl _) _
  have hS0 : W1.heap.size = N + 1 := by rw [hA0]; simp [← hN]
  have HR:=zh (show Blk W1 N #[.int .i64 s.term, .int .i64 s.stamp, .int .i64 s.next, .slice ta tn tc, .slice la ln lc, .slice sa sn sc, .slice da dn dc] 27 by rw [hA0, hN]; exact blk_new _ _ _)
  replace HB:=zh (HB.out.trans (hB.mono HB.out.size))
  replace HT:=zh (HT0.out.below HB.out)
  replace HL:=zh (HL0.out.below HB.out)
  replace HS:=zh (HS0.out.below HB.out)
  replace HD:=zh (HD0.out.below HB.out)
  clear hB
  obtain ⟨W2, hA1⟩ : ∃ W0, W0 = W1.alloc (.cells #[.int .i64 0, .int .i64 0, .int .i64 0, .slice none 0 0, .slice none 0 0, .slice none 0 0, .slice none 0 0] 27) := ⟨_, rfl⟩
  have hB : Below W1.heap.size W1 W2 := by rw [hA1]; exact (Below.refl _ _).alloc (Nat.le_refl _) _
  have hS1 : W2.heap.size = N + 2 := by rw [hA1]; simp [hS0]
  have HO:=zh (show Blk W2 (N + 1) #[.int .i64 0, .int .i64 0, .int .i64 0, .slice none 0 0, .slice none 0 0, .slice none 0 0, .slice none 0 0] 27 by rw [hA1, ← hS0]; exact blk_new _ _ _)
  replace HB:=zh (HB.out.trans (hB.mono HB.out.size))
  replace HT:=zh (HT0.out.below HB.out)
  replace HL:=zh (HL0.out.below HB.out)
  replace HS:=zh (HS0.out.below HB.out)
  replace HD:=zh (HD0.out.below HB.out)
  replace HR:=zh (HR.out.step hB)
  clear hB
  obtain ⟨W3, hA2⟩ : ∃ W0, W0 = W2.alloc (.cells #[.int .i64 0, .int .i64 0, .int .i64 0, .int .i64 0, .int .i64 0] 41) := ⟨_, rfl⟩
  have hB : Below W2.heap.size W2 W3 := by rw [hA2]; exact (Below.refl _ _).alloc (Nat.le_refl _) _
  have hS2 : W3.heap.size = N + 3 := by rw [hA2]; simp [hS1]
  have HA:=zh (show Blk W3 (N + 1 + 1) #[.int .i64 0, .int .i64 0, .int .i64 0, .int .i64 0, .int .i64 0] 41 by rw [hA2, ← hS1]; exact blk_new _ _ _)
  replace HB:=zh (HB.out.trans (hB.mono HB.out.size))
  replace HT:=zh (HT0.out.below HB.out)
  replace HL:=zh (HL0.out.below HB.out)
  replace HS:=zh (HS0.out.below HB.out)
  replace HD:=zh (HD0.out.below HB.out)
  replace HR:=zh (HR.out.step hB)
  replace HO:=zh (HO.out.step hB)
  clear hB
  have HSN := zh hS2
  rw [← hN, ← hA0, ← hA1, ← hA2]
  clear hA2 hA1 hA0 hN hS0 hS1 hS2
  have qR0 : W3.cell? ⟨N, 0, none⟩ = some (.int .i64 s.term) := cell_at HR.out 0
  have qR1 : W3.cell? ⟨N, 1, none⟩ = some (.int .i64 s.stamp) := cell_at HR.out 1
  have qR2 : W3.cell? ⟨N, 2, none⟩ = some (.int .i64 s.next) := cell_at HR.out 2
  have qR3 : W3.cell? ⟨N, 3, none⟩ = some (.slice ta tn tc) := cell_at HR.out 3
  have qR4 : W3.cell? ⟨N, 4, none⟩ = some (.slice la ln lc) := cell_at HR.out 4
  have qR5 : W3.cell? ⟨N, 5, none⟩ = some (.slice sa sn sc) := cell_at HR.out 5
  have qR6 : W3.cell? ⟨N, 6, none⟩ = some (.slice da dn dc) := cell_at HR.out 6
  have qRl : N < W3.heap.size := HR.out.lt
  go_wp2_with fail
  go_at_call 13
  go_fit (HCK.out _ _ (HSV.out _ HT.out HL.out HS.out HD.out))
  rintro e W4 ⟨rfl, hB⟩
  clear qR0 qR1 qR2 qR3 qR4 qR5 qR6 qRl
  replace HB:=zh (HB.out.trans (hB.mono HB.out.size))
  replace HT:=zh (HT0.out.below HB.out)
  replace HL:=zh (HL0.out.below HB.out)
  replace HS:=zh (HS0.out.below HB.out)
  replace HD:=zh (HD0.out.below HB.out)
  replace HR:=zh (HR.out.step hB)
  replace HO:=zh (HO.out.step hB)
  replace HA:=zh (HA.out.step hB)
  clear hB
  cases C
  · skip
    have qR0 : W4.cell? ⟨N, 0, none⟩ = some (.int .i64 s.term) := cell_at HR.out 0
    have qR1 : W4.cell? ⟨N, 1, none⟩ = some (.int .i64 s.stamp) := cell_at HR.out 1
    have qR2 : W4.cell? ⟨N, 2, none⟩ = some (.int .i64 s.next) := cell_at HR.out 2
    have qR3 : W4.cell? ⟨N, 3, none⟩ = some (.slice ta tn tc) := cell_at HR.out 3
    have qR4 : W4.cell? ⟨N, 4, none⟩ = some (.slice la ln lc) := cell_at HR.out 4
    have qR5 : W4.cell? ⟨N, 5, none⟩ = some (.slice sa sn sc) := cell_at HR.out 5
    have qR6 : W4.cell? ⟨N, 6, none⟩ = some (.slice da dn dc) := cell_at HR.out 6
    have qRl : N < W4.heap.size := HR.out.lt
    have qO0 : W4.cell? ⟨(N + 1), 0, none⟩ = some (.int .i64 0) := cell_at HO.out 0
    have qO1 : W4.cell? ⟨(N + 1), 1, none⟩ = some (.int .i64 0) := cell_at HO.out 1
    have qO2 : W4.cell? ⟨(N + 1), 2, none⟩ = some (.int .i64 0) := cell_at HO.out 2
    have qO3 : W4.cell? ⟨(N + 1), 3, none⟩ = some (.slice none 0 0) := cell_at HO.out 3
    have qO4 : W4.cell? ⟨(N + 1), 4, none⟩ = some (.slice none 0 0) := cell_at HO.out 4
    have qO5 : W4.cell? ⟨(N + 1), 5, none⟩ = some (.slice none 0 0) := cell_at HO.out 5
    have qO6 : W4.cell? ⟨(N + 1), 6, none⟩ = some (.slice none 0 0) := cell_at HO.out 6
    have qOz : ∀ j, W4.frozen? ⟨(N + 1), j, none⟩ = false := fun j => free_at HO.out j
    have qOl : (N + 1) < W4.heap.size := HO.out.lt
    have qA0 : W4.cell? ⟨(N + 1 + 1), 0, none⟩ = some (.int .i64 0) := cell_at HA.out 0
    have qA1 : W4.cell? ⟨(N + 1 + 1), 1, none⟩ = some (.int .i64 0) := cell_at HA.out 1
    have qA2 : W4.cell? ⟨(N + 1 + 1), 2, none⟩ = some (.int .i64 0) := cell_at HA.out 2
    have qA3 : W4.cell? ⟨(N + 1 + 1), 3, none⟩ = some (.int .i64 0) := cell_at HA.out 3
    have qA4 : W4.cell? ⟨(N + 1 + 1), 4, none⟩ = some (.int .i64 0) := cell_at HA.out 4
    have qAz : ∀ j, W4.frozen? ⟨(N + 1 + 1), j, none⟩ = false := fun j => free_at HA.out j
    have qAl : (N + 1 + 1) < W4.heap.size := HA.out.lt
    go_wp2_with fail
    go_at_call 49
    go_fit (HRF.out _ _ _ (HSV.out _ HT.out HL.out HS.out HD.out))
    rintro e W5 ⟨hc9, hB⟩
    clear qR0 qR1 qR2 qR3 qR4 qR5 qR6 qRl qO0 qO1 qO2 qO3 qO4 qO5 qO6 qOz qOl qA0 qA1 qA2 qA3 qA4 qAz qAl
    replace HB:=zh (HB.out.trans (hB.mono HB.out.size))
    replace HT:=zh (HT0.out.below HB.out)
    replace HL:=zh (HL0.out.below HB.out)
    replace HS:=zh (HS0.out.below HB.out)
    replace HD:=zh (HD0.out.below HB.out)
    replace HR:=zh (HR.out.step hB)
    replace HO:=zh (HO.out.step hB)
    replace HA:=zh (HA.out.step hB)
    clear hB
    obtain rfl : e = .returned (.tuple #[.agg #[.int .i64 s.term, .int .i64 s.stamp, .int .i64 s.next, .slice ta tn tc, .slice la ln lc, .slice sa sn sc, .slice da dn dc], ansG 2 0 0 0 0]) := by
      rcases hc9 with ⟨_, h9⟩ | ⟨h9, _⟩
      · exact h9
      · exact absurd h9 (by decide)
    clear hc9
    unfold ansG
    have qR0 : W5.cell? ⟨N, 0, none⟩ = some (.int .i64 s.term) := cell_at HR.out 0
    have qR1 : W5.cell? ⟨N, 1, none⟩ = some (.int .i64 s.stamp) := cell_at HR.out 1
    have qR2 : W5.cell? ⟨N, 2, none⟩ = some (.int .i64 s.next) := cell_at HR.out 2
    have qR3 : W5.cell? ⟨N, 3, none⟩ = some (.slice ta tn tc) := cell_at HR.out 3
    have qR4 : W5.cell? ⟨N, 4, none⟩ = some (.slice la ln lc) := cell_at HR.out 4
    have qR5 : W5.cell? ⟨N, 5, none⟩ = some (.slice sa sn sc) := cell_at HR.out 5
    have qR6 : W5.cell? ⟨N, 6, none⟩ = some (.slice da dn dc) := cell_at HR.out 6
    have qRl : N < W5.heap.size := HR.out.lt
    have qO0 : W5.cell? ⟨(N + 1), 0, none⟩ = some (.int .i64 0) := cell_at HO.out 0
    have qO1 : W5.cell? ⟨(N + 1), 1, none⟩ = some (.int .i64 0) := cell_at HO.out 1
    have qO2 : W5.cell? ⟨(N + 1), 2, none⟩ = some (.int .i64 0) := cell_at HO.out 2
    have qO3 : W5.cell? ⟨(N + 1), 3, none⟩ = some (.slice none 0 0) := cell_at HO.out 3
    have qO4 : W5.cell? ⟨(N + 1), 4, none⟩ = some (.slice none 0 0) := cell_at HO.out 4
    have qO5 : W5.cell? ⟨(N + 1), 5, none⟩ = some (.slice none 0 0) := cell_at HO.out 5
    have qO6 : W5.cell? ⟨(N + 1), 6, none⟩ = some (.slice none 0 0) := cell_at HO.out 6
    have qOz : ∀ j, W5.frozen? ⟨(N + 1), j, none⟩ = false := fun j => free_at HO.out j
    have qOl : (N + 1) < W5.heap.size := HO.out.lt
    have qA0 : W5.cell? ⟨(N + 1 + 1), 0, none⟩ = some (.int .i64 0) := cell_at HA.out 0
    have qA1 : W5.cell? ⟨(N + 1 + 1), 1, none⟩ = some (.int .i64 0) := cell_at HA.out 1
    have qA2 : W5.cell? ⟨(N + 1 + 1), 2, none⟩ = some (.int .i64 0) := cell_at HA.out 2
    have qA3 : W5.cell? ⟨(N + 1 + 1), 3, none⟩ = some (.int .i64 0) := cell_at HA.out 3
    have qA4 : W5.cell? ⟨(N + 1 + 1), 4, none⟩ = some (.int .i64 0) := cell_at HA.out 4
    have qAz : ∀ j, W5.frozen? ⟨(N + 1 + 1), j, none⟩ = false := fun j => free_at HA.out j
    have qAl : (N + 1 + 1) < W5.heap.size := HA.out.lt
    go_wp2_with fail
    clear qR0 qR1 qR2 qR3 qR4 qR5 qR6 qRl qO0 qO1 qO2 qO3 qO4 qO5 qO6 qOz qOl qA0 qA1 qA2 qA3 qA4 qAz qAl
    obtain ⟨LS, hLS⟩ : ∃ L : List Value, L = [.int .i64 s.term, .int .i64 s.stamp, .int .i64 s.next, .slice ta tn tc, .slice la ln lc, .slice sa sn sc, .slice da dn dc] := ⟨_, rfl⟩
    obtain ⟨W6, hWS⟩ : ∃ WS, WS = W5.setCells (N + 1) 0 LS := ⟨_, rfl⟩
    have hch := hWS
    rw [hLS] at hch
    simp only [World.setCells, Nat.zero_add, Nat.reduceAdd] at hch
    rw [← hch]
    clear hch
    have hkS := stC_blk HO.out LS (by rw [hLS]; rfl)
    have hfS := stC_fr (N + 1) LS 0 W5
    rw [← hWS] at hkS hfS
    rw [hLS] at hkS
    replace HB:=zh (HB.out.trans (hfS.below HB.out.size (by have := HLON.out; simp; try omega)))
    replace HT:=zh (HT0.out.below HB.out)
    replace HL:=zh (HL0.out.below HB.out)
    replace HS:=zh (HS0.out.below HB.out)
    replace HD:=zh (HD0.out.below HB.out)
    replace HR:=zh (show Blk W6 N #[.int .i64 s.term, .int .i64 s.stamp, .int .i64 s.next, .slice ta tn tc, .slice la ln lc, .slice sa sn sc, .slice da dn dc] 27 from (hfS.block _ HR.out.lt (by simp; try omega)).trans HR.out)
    replace HA:=zh (show Blk W6 (N + 1 + 1) #[.int .i64 0, .int .i64 0, .int .i64 0, .int .i64 0, .int .i64 0] 41 from (hfS.block _ HA.out.lt (by simp; try omega)).trans HA.out)
    replace HO:=zh (show Blk W6 (N + 1) #[.int .i64 s.term, .int .i64 s.stamp, .int .i64 s.next, .slice ta tn tc, .slice la ln lc, .slice sa sn sc, .slice da dn dc] 27 from hkS)
    clear hWS hLS hkS hfS
    obtain ⟨LS, hLS⟩ : ∃ L : List Value, L = [.int .i64 2, .int .i64 0, .int .i64 0, .int .i64 0, .int .i64 0] := ⟨_, rfl⟩
    obtain ⟨W7, hWS⟩ : ∃ WS, WS = W6.setCells (N + 1 + 1) 0 LS := ⟨_, rfl⟩
    have hch := hWS
    rw [hLS] at hch
    simp only [World.setCells, Nat.zero_add, Nat.reduceAdd] at hch
    rw [← hch]
    clear hch
    have hkS := stC_blk HA.out LS (by rw [hLS]; rfl)
    have hfS := stC_fr (N + 1 + 1) LS 0 W6
    rw [← hWS] at hkS hfS
    rw [hLS] at hkS
    replace HB:=zh (HB.out.trans (hfS.below HB.out.size (by have := HLON.out; simp; try omega)))
    replace HT:=zh (HT0.out.below HB.out)
    replace HL:=zh (HL0.out.below HB.out)
    replace HS:=zh (HS0.out.below HB.out)
    replace HD:=zh (HD0.out.below HB.out)
    replace HR:=zh (show Blk W7 N #[.int .i64 s.term, .int .i64 s.stamp, .int .i64 s.next, .slice ta tn tc, .slice la ln lc, .slice sa sn sc, .slice da dn dc] 27 from (hfS.block _ HR.out.lt (by simp; try omega)).trans HR.out)
    replace HO:=zh (show Blk W7 (N + 1) #[.int .i64 s.term, .int .i64 s.stamp, .int .i64 s.next, .slice ta tn tc, .slice la ln lc, .slice sa sn sc, .slice da dn dc] 27 from (hfS.block _ HO.out.lt (by simp; try omega)).trans HO.out)
    replace HA:=zh (show Blk W7 (N + 1 + 1) #[.int .i64 2, .int .i64 0, .int .i64 0, .int .i64 0, .int .i64 0] 41 from hkS)
    clear hWS hLS hkS hfS
    have qO0 : W7.cell? ⟨(N + 1), 0, none⟩ = some (.int .i64 s.term) := cell_at HO.out 0
    have qO1 : W7.cell? ⟨(N + 1), 1, none⟩ = some (.int .i64 s.stamp) := cell_at HO.out 1
    have qO2 : W7.cell? ⟨(N + 1), 2, none⟩ = some (.int .i64 s.next) := cell_at HO.out 2
    have qO3 : W7.cell? ⟨(N + 1), 3, none⟩ = some (.slice ta tn tc) := cell_at HO.out 3
    have qO4 : W7.cell? ⟨(N + 1), 4, none⟩ = some (.slice la ln lc) := cell_at HO.out 4
    have qO5 : W7.cell? ⟨(N + 1), 5, none⟩ = some (.slice sa sn sc) := cell_at HO.out 5
    have qO6 : W7.cell? ⟨(N + 1), 6, none⟩ = some (.slice da dn dc) := cell_at HO.out 6
    have qOz : ∀ j, W7.frozen? ⟨(N + 1), j, none⟩ = false := fun j => free_at HO.out j
    have qOl : (N + 1) < W7.heap.size := HO.out.lt
    have qA0 : W7.cell? ⟨(N + 1 + 1), 0, none⟩ = some (.int .i64 2) := cell_at HA.out 0
    have qA1 : W7.cell? ⟨(N + 1 + 1), 1, none⟩ = some (.int .i64 0) := cell_at HA.out 1
    have qA2 : W7.cell? ⟨(N + 1 + 1), 2, none⟩ = some (.int .i64 0) := cell_at HA.out 2
    have qA3 : W7.cell? ⟨(N + 1 + 1), 3, none⟩ = some (.int .i64 0) := cell_at HA.out 3
    have qA4 : W7.cell? ⟨(N + 1 + 1), 4, none⟩ = some (.int .i64 0) := cell_at HA.out 4
    have qAz : ∀ j, W7.frozen? ⟨(N + 1 + 1), j, none⟩ = false := fun j => free_at HA.out j
    have qAl : (N + 1 + 1) < W7.heap.size := HA.out.lt
    exact bodyPost_ret (v := .tuple #[.agg #[.int .i64 s.term, .int .i64 s.stamp, .int .i64 s.next, .slice ta tn tc, .slice la ln lc, .slice sa sn sc, .slice da dn dc], .agg #[.int .i64 2, .int .i64 0, .int .i64 0, .int .i64 0, .int .i64 0]]) (by simp [results, Try.results21, go_sem, qO0, qO1, qO2, qO3, qO4, qO5, qO6, qA0, qA1, qA2, qA3, qA4]) rfl ⟨_, (by rw [show RA = ansG 2 0 0 0 0 from HRA.out]; rfl), (by rw [show R = s from HR9.out]; exact ⟨_, _, _, _, rfl, HT.out, HL.out, HS.out, HD.out⟩), HB.out⟩
  replace HR9 : Hid (R = if grE s sh ep nu te size = 0 then sweptS (grL s sh ep nu te size) else sweptS s) := HR9
  replace HRA : Hid (RA = if grE s sh ep nu te size = 0 then ansG 0 ((fnd te s.ts).getD z0).rate ((fnd te s.ts).getD z0).burst s.next size else ansG (grE s sh ep nu te size) 0 0 0 0) := HRA
  obtain ⟨hck, hlb, hcb⟩ := HCP.out rfl
  have hsz := HSZ.out rfl
  have HSZ9 := zh hsz
  obtain ⟨hl64, hn1, hn2⟩ := lesB_next hlb
  have ht16 := chk_len hck
  rw [← Hln.out] at hl64
  rw [← Htn.out] at ht16
  have HFD:=zh (fun W (h : TV W (.slice ta tn tc) s.ts) => rfind_any _ s.ts te W h)
  have hfc : fndC te s.ts = fnd te s.ts := by unfold fndC; rw [hck]; rfl
  rw [hfc] at HFD
  have hbd9 := fnd_bd te hck
  have hok9 := fnd_ok te HT.out.ok
  obtain ⟨y, hy⟩ : ∃ y, y = (fnd te s.ts).getD z0 := ⟨_, rfl⟩
  obtain ⟨sm, hsm⟩ : ∃ sm, sm = (fnd te s.ts).isSome := ⟨_, rfl⟩
  unfold TnE.agg at HFD
  rw [← hy] at HFD HGE HRA hbd9 hok9
  rw [← hsm] at HFD HGE
  have HY := zh hy
  obtain ⟨yg, hyg⟩ : ∃ yg, yg = y.gone := ⟨_, rfl⟩
  rw [← hyg] at HFD HGE
  have HYG := zh hyg
  have HOKY := zh hok9
  obtain ⟨yk, hyk⟩ : ∃ yk, yk = y.bkt := ⟨_, rfl⟩
  rw [← hyk] at HFD HGE hbd9
  have HYK := zh hyk
  have HTK:=zh (fun W => rtake_any yk size (by omega) (by omega) W)
  obtain ⟨lf, hlf⟩ : ∃ lf, lf = takeV yk size := ⟨_, rfl⟩
  obtain ⟨e0, he0⟩ : ∃ e0, e0 = takeE yk size := ⟨_, rfl⟩
  rw [← hlf, ← he0] at HTK
  rw [← he0] at HGE
  have HLF := zh hlf
  have HE0 := zh he0
  obtain ⟨ge, hge⟩ : ∃ ge, ge = grE s sh ep nu te size := ⟨_, rfl⟩
  rw [← hge] at HGE HR9 HRA
  have HGEE := zh hge
  have HAG : Hid (argG sh ep nu size = ((decide (1 ≤ sh) && decide (sh ≤ 8)) && decide (1 ≤ ep) && decide (1 ≤ nu) && (decide (1 ≤ size) && decide (size ≤ 1000000)))) := zh rfl
  have HSB : Hid (∀ b, (decide (1 ≤ size) && decide (size ≤ 1000000)) = b → b = true → 1 ≤ size ∧ size ≤ 1000000):=zh (fun b h1 h2 => by rw [h2] at h1; simpa using h1)
  obtain ⟨shb, hshb⟩ : ∃ b, b = (decide (1 ≤ sh) && decide (sh ≤ 8)) := ⟨_, rfl⟩
  obtain ⟨szb, hszb⟩ : ∃ b, b = (decide (1 ≤ size) && decide (size ≤ 1000000)) := ⟨_, rfl⟩
  rw [← hshb] at HAG
  rw [← hszb] at HAG
  have HSB2 : Hid (szb = true → 1 ≤ size ∧ size ≤ 1000000):=zh (HSB.out szb hszb.symm)
  have HCHK := zh hck
  have HSM := zh hsm
  have HBD9 := zh hbd9
  have HSHB := zh hshb
  have HSZB := zh hszb
  clear hck hlb hcb hsz hfc hy hsm hyg hok9 hyk hlf he0 hge hshb hszb HSB HCP HSZ HCE
  by_cases hp : sh < 1
  · skip
    have ttp : decide (sh < 1) = true := decide_eq_true hp
    obtain rfl : shb = false := by rw [HSHB.out]; simp; omega
    have hge : ge = 2 := by rw [HGE.out]; rw [if_pos (by rw [HAG.out]; simp [*])]
    have HGX := zh hge
    clear hge
    have qR0 : W4.cell? ⟨N, 0, none⟩ = some (.int .i64 s.term) := cell_at HR.out 0
    have qR1 : W4.cell? ⟨N, 1, none⟩ = some (.int .i64 s.stamp) := cell_at HR.out 1
    have qR2 : W4.cell? ⟨N, 2, none⟩ = some (.int .i64 s.next) := cell_at HR.out 2
    have qR3 : W4.cell? ⟨N, 3, none⟩ = some (.slice ta tn tc) := cell_at HR.out 3
    have qR4 : W4.cell? ⟨N, 4, none⟩ = some (.slice la ln lc) := cell_at HR.out 4
    have qR5 : W4.cell? ⟨N, 5, none⟩ = some (.slice sa sn sc) := cell_at HR.out 5
    have qR6 : W4.cell? ⟨N, 6, none⟩ = some (.slice da dn dc) := cell_at HR.out 6
    have qRl : N < W4.heap.size := HR.out.lt
    have FP0 := zh HA.out.lt
    go_wp2_with fail
    go_at_call 49
    go_fit (HRF.out 2 _ _ (HSV.out _ HT.out HL.out HS.out HD.out))
    rintro e W5 ⟨hc9, hB⟩
    clear qR0 qR1 qR2 qR3 qR4 qR5 qR6 qRl
    replace HB:=zh (HB.out.trans (hB.mono HB.out.size))
    replace HT:=zh (HT0.out.below HB.out)
    replace HL:=zh (HL0.out.below HB.out)
    replace HS:=zh (HS0.out.below HB.out)
    replace HD:=zh (HD0.out.below HB.out)
    replace HR:=zh (HR.out.step hB)
    replace HO:=zh (HO.out.step hB)
    replace HA:=zh (HA.out.step hB)
    clear hB
    replace hc9 : ∃ vt vl vs vd ol os od, e = .returned (.tuple #[.agg #[.int .i64 s.term, .int .i64 s.stamp, .int .i64 s.next, vt, vl, vs, vd], ansG 2 0 0 0 0]) ∧ TV W5 vt (sweptS s).ts ∧ LeO W4.heap.size W5 vl ol s.ls ∧ SeO W4.heap.size W5 vs os s.ss ∧ DkO W4.heap.size W5 vd od s.ds := by
      rcases hc9 with ⟨h9, _⟩ | ⟨_, h9⟩
      · exact absurd h9 (by decide)
      · exact h9
    obtain ⟨vt9, vl9, vs9, vd9, ol9, os9, od9, rfl, ht9, hl9, hs9, hd9⟩ := hc9
    unfold ansG
    obtain ⟨t9, q9, c9, rfl, _, _, _⟩ := ht9.sh
    obtain ⟨t8, q8, c8, rfl, _, _, _⟩ := hl9.v.sh
    obtain ⟨t7, q7, c7, rfl, _, _, _⟩ := hs9.v.sh
    obtain ⟨t6, q6, c6, rfl, _, _, _⟩ := hd9.v.sh
    have HQ9 := zh ht9
    have P2 := zh hl9
    have P3 := zh hs9
    have P4 := zh hd9
    have FP2:=zh (show (N + 1 + 1) < W4.heap.size from FP0.out)
    have FP3 := FP2
    have FP4 := FP2
    clear ht9 hl9 hs9 hd9
    have qO0 : W5.cell? ⟨(N + 1), 0, none⟩ = some (.int .i64 0) := cell_at HO.out 0
    have qO1 : W5.cell? ⟨(N + 1), 1, none⟩ = some (.int .i64 0) := cell_at HO.out 1
    have qO2 : W5.cell? ⟨(N + 1), 2, none⟩ = some (.int .i64 0) := cell_at HO.out 2
    have qO3 : W5.cell? ⟨(N + 1), 3, none⟩ = some (.slice none 0 0) := cell_at HO.out 3
    have qO4 : W5.cell? ⟨(N + 1), 4, none⟩ = some (.slice none 0 0) := cell_at HO.out 4
    have qO5 : W5.cell? ⟨(N + 1), 5, none⟩ = some (.slice none 0 0) := cell_at HO.out 5
    have qO6 : W5.cell? ⟨(N + 1), 6, none⟩ = some (.slice none 0 0) := cell_at HO.out 6
    have qOz : ∀ j, W5.frozen? ⟨(N + 1), j, none⟩ = false := fun j => free_at HO.out j
    have qOl : (N + 1) < W5.heap.size := HO.out.lt
    have qA0 : W5.cell? ⟨(N + 1 + 1), 0, none⟩ = some (.int .i64 0) := cell_at HA.out 0
    have qA1 : W5.cell? ⟨(N + 1 + 1), 1, none⟩ = some (.int .i64 0) := cell_at HA.out 1
    have qA2 : W5.cell? ⟨(N + 1 + 1), 2, none⟩ = some (.int .i64 0) := cell_at HA.out 2
    have qA3 : W5.cell? ⟨(N + 1 + 1), 3, none⟩ = some (.int .i64 0) := cell_at HA.out 3
    have qA4 : W5.cell? ⟨(N + 1 + 1), 4, none⟩ = some (.int .i64 0) := cell_at HA.out 4
    have qAz : ∀ j, W5.frozen? ⟨(N + 1 + 1), j, none⟩ = false := fun j => free_at HA.out j
    have qAl : (N + 1 + 1) < W5.heap.size := HA.out.lt
    go_wp2_with fail
    clear qO0 qO1 qO2 qO3 qO4 qO5 qO6 qOz qOl qA0 qA1 qA2 qA3 qA4 qAz qAl
    obtain ⟨LS, hLS⟩ : ∃ L : List Value, L = [.int .i64 s.term, .int .i64 s.stamp, .int .i64 s.next, .slice t9 q9 c9, .slice t8 q8 c8, .slice t7 q7 c7, .slice t6 q6 c6] := ⟨_, rfl⟩
    obtain ⟨W6, hWS⟩ : ∃ WS, WS = W5.setCells (N + 1) 0 LS := ⟨_, rfl⟩
    have hch := hWS
    rw [hLS] at hch
    simp only [World.setCells, Nat.zero_add, Nat.reduceAdd] at hch
    rw [← hch]
    clear hch
    have hkS := stC_blk HO.out LS (by rw [hLS]; rfl)
    have hfS := stC_fr (N + 1) LS 0 W5
    rw [← hWS] at hkS hfS
    rw [hLS] at hkS
    replace HB:=zh (HB.out.trans (hfS.below HB.out.size (by have := HLON.out; simp; try omega)))
    replace HA:=zh (show Blk W6 (N + 1 + 1) #[.int .i64 0, .int .i64 0, .int .i64 0, .int .i64 0, .int .i64 0] 41 from (hfS.block _ HA.out.lt (by simp; try omega)).trans HA.out)
    replace HQ9:=zh (HQ9.out.fr HO.out hfS)
    replace P2:=zh (P2.out.fr hfS (by have := FP2.out; omega))
    replace P3:=zh (P3.out.fr hfS (by have := FP3.out; omega))
    replace P4:=zh (P4.out.fr hfS (by have := FP4.out; omega))
    replace HO:=zh (show Blk W6 (N + 1) #[.int .i64 s.term, .int .i64 s.stamp, .int .i64 s.next, .slice t9 q9 c9, .slice t8 q8 c8, .slice t7 q7 c7, .slice t6 q6 c6] 27 from hkS)
    clear hWS hLS hkS hfS
    obtain ⟨LS, hLS⟩ : ∃ L : List Value, L = [.int .i64 2, .int .i64 0, .int .i64 0, .int .i64 0, .int .i64 0] := ⟨_, rfl⟩
    obtain ⟨W7, hWS⟩ : ∃ WS, WS = W6.setCells (N + 1 + 1) 0 LS := ⟨_, rfl⟩
    have hch := hWS
    rw [hLS] at hch
    simp only [World.setCells, Nat.zero_add, Nat.reduceAdd] at hch
    rw [← hch]
    clear hch
    have hkS := stC_blk HA.out LS (by rw [hLS]; rfl)
    have hfS := stC_fr (N + 1 + 1) LS 0 W6
    rw [← hWS] at hkS hfS
    rw [hLS] at hkS
    replace HB:=zh (HB.out.trans (hfS.below HB.out.size (by have := HLON.out; simp; try omega)))
    replace HO:=zh (show Blk W7 (N + 1) #[.int .i64 s.term, .int .i64 s.stamp, .int .i64 s.next, .slice t9 q9 c9, .slice t8 q8 c8, .slice t7 q7 c7, .slice t6 q6 c6] 27 from (hfS.block _ HO.out.lt (by simp; try omega)).trans HO.out)
    replace HQ9:=zh (HQ9.out.fr HA.out hfS)
    replace P2:=zh (P2.out.fr hfS (by have := FP2.out; omega))
    replace P3:=zh (P3.out.fr hfS (by have := FP3.out; omega))
    replace P4:=zh (P4.out.fr hfS (by have := FP4.out; omega))
    replace HA:=zh (show Blk W7 (N + 1 + 1) #[.int .i64 2, .int .i64 0, .int .i64 0, .int .i64 0, .int .i64 0] 41 from hkS)
    clear hWS hLS hkS hfS
    have qO0 : W7.cell? ⟨(N + 1), 0, none⟩ = some (.int .i64 s.term) := cell_at HO.out 0
    have qO1 : W7.cell? ⟨(N + 1), 1, none⟩ = some (.int .i64 s.stamp) := cell_at HO.out 1
    have qO2 : W7.cell? ⟨(N + 1), 2, none⟩ = some (.int .i64 s.next) := cell_at HO.out 2
    have qO3 : W7.cell? ⟨(N + 1), 3, none⟩ = some (.slice t9 q9 c9) := cell_at HO.out 3
    have qO4 : W7.cell? ⟨(N + 1), 4, none⟩ = some (.slice t8 q8 c8) := cell_at HO.out 4
    have qO5 : W7.cell? ⟨(N + 1), 5, none⟩ = some (.slice t7 q7 c7) := cell_at HO.out 5
    have qO6 : W7.cell? ⟨(N + 1), 6, none⟩ = some (.slice t6 q6 c6) := cell_at HO.out 6
    have qOz : ∀ j, W7.frozen? ⟨(N + 1), j, none⟩ = false := fun j => free_at HO.out j
    have qOl : (N + 1) < W7.heap.size := HO.out.lt
    have qA0 : W7.cell? ⟨(N + 1 + 1), 0, none⟩ = some (.int .i64 2) := cell_at HA.out 0
    have qA1 : W7.cell? ⟨(N + 1 + 1), 1, none⟩ = some (.int .i64 0) := cell_at HA.out 1
    have qA2 : W7.cell? ⟨(N + 1 + 1), 2, none⟩ = some (.int .i64 0) := cell_at HA.out 2
    have qA3 : W7.cell? ⟨(N + 1 + 1), 3, none⟩ = some (.int .i64 0) := cell_at HA.out 3
    have qA4 : W7.cell? ⟨(N + 1 + 1), 4, none⟩ = some (.int .i64 0) := cell_at HA.out 4
    have qAz : ∀ j, W7.frozen? ⟨(N + 1 + 1), j, none⟩ = false := fun j => free_at HA.out j
    have qAl : (N + 1 + 1) < W7.heap.size := HA.out.lt
    exact bodyPost_ret (v := .tuple #[.agg #[.int .i64 s.term, .int .i64 s.stamp, .int .i64 s.next, .slice t9 q9 c9, .slice t8 q8 c8, .slice t7 q7 c7, .slice t6 q6 c6], .agg #[.int .i64 2, .int .i64 0, .int .i64 0, .int .i64 0, .int .i64 0]]) (by simp [results, Try.results21, go_sem, qO0, qO1, qO2, qO3, qO4, qO5, qO6, qA0, qA1, qA2, qA3, qA4]) rfl ⟨_, (by rw [HRA.out, if_neg (by rw [HGX.out]; first | decide | assumption), HGX.out]; rfl), (by rw [HR9.out, if_neg (by rw [HGX.out]; first | decide | assumption)]; exact ⟨_, _, _, _, rfl, HQ9.out, P2.out.v, P3.out.v, P4.out.v⟩), HB.out⟩
  have ttp : decide (sh < 1) = false := decide_eq_false hp
  by_cases hq : 8 < sh
  · skip
    have ttq : decide (8 < sh) = true := decide_eq_true hq
    obtain rfl : shb = false := by rw [HSHB.out]; simp; omega
    have hge : ge = 2 := by rw [HGE.out]; rw [if_pos (by rw [HAG.out]; simp [*])]
    have HGX := zh hge
    clear hge
    have qR0 : W4.cell? ⟨N, 0, none⟩ = some (.int .i64 s.term) := cell_at HR.out 0
    have qR1 : W4.cell? ⟨N, 1, none⟩ = some (.int .i64 s.stamp) := cell_at HR.out 1
    have qR2 : W4.cell? ⟨N, 2, none⟩ = some (.int .i64 s.next) := cell_at HR.out 2
    have qR3 : W4.cell? ⟨N, 3, none⟩ = some (.slice ta tn tc) := cell_at HR.out 3
    have qR4 : W4.cell? ⟨N, 4, none⟩ = some (.slice la ln lc) := cell_at HR.out 4
    have qR5 : W4.cell? ⟨N, 5, none⟩ = some (.slice sa sn sc) := cell_at HR.out 5
    have qR6 : W4.cell? ⟨N, 6, none⟩ = some (.slice da dn dc) := cell_at HR.out 6
    have qRl : N < W4.heap.size := HR.out.lt
    have FP0 := zh HA.out.lt
    go_wp2_with fail
    go_at_call 49
    go_fit (HRF.out 2 _ _ (HSV.out _ HT.out HL.out HS.out HD.out))
    rintro e W5 ⟨hc9, hB⟩
    clear qR0 qR1 qR2 qR3 qR4 qR5 qR6 qRl
    replace HB:=zh (HB.out.trans (hB.mono HB.out.size))
    replace HT:=zh (HT0.out.below HB.out)
    replace HL:=zh (HL0.out.below HB.out)
    replace HS:=zh (HS0.out.below HB.out)
    replace HD:=zh (HD0.out.below HB.out)
    replace HR:=zh (HR.out.step hB)
    replace HO:=zh (HO.out.step hB)
    replace HA:=zh (HA.out.step hB)
    clear hB
    replace hc9 : ∃ vt vl vs vd ol os od, e = .returned (.tuple #[.agg #[.int .i64 s.term, .int .i64 s.stamp, .int .i64 s.next, vt, vl, vs, vd], ansG 2 0 0 0 0]) ∧ TV W5 vt (sweptS s).ts ∧ LeO W4.heap.size W5 vl ol s.ls ∧ SeO W4.heap.size W5 vs os s.ss ∧ DkO W4.heap.size W5 vd od s.ds := by
      rcases hc9 with ⟨h9, _⟩ | ⟨_, h9⟩
      · exact absurd h9 (by decide)
      · exact h9
    obtain ⟨vt9, vl9, vs9, vd9, ol9, os9, od9, rfl, ht9, hl9, hs9, hd9⟩ := hc9
    unfold ansG
    obtain ⟨t9, q9, c9, rfl, _, _, _⟩ := ht9.sh
    obtain ⟨t8, q8, c8, rfl, _, _, _⟩ := hl9.v.sh
    obtain ⟨t7, q7, c7, rfl, _, _, _⟩ := hs9.v.sh
    obtain ⟨t6, q6, c6, rfl, _, _, _⟩ := hd9.v.sh
    have HQ9 := zh ht9
    have P2 := zh hl9
    have P3 := zh hs9
    have P4 := zh hd9
    have FP2:=zh (show (N + 1 + 1) < W4.heap.size from FP0.out)
    have FP3 := FP2
    have FP4 := FP2
    clear ht9 hl9 hs9 hd9
    have qO0 : W5.cell? ⟨(N + 1), 0, none⟩ = some (.int .i64 0) := cell_at HO.out 0
    have qO1 : W5.cell? ⟨(N + 1), 1, none⟩ = some (.int .i64 0) := cell_at HO.out 1
    have qO2 : W5.cell? ⟨(N + 1), 2, none⟩ = some (.int .i64 0) := cell_at HO.out 2
    have qO3 : W5.cell? ⟨(N + 1), 3, none⟩ = some (.slice none 0 0) := cell_at HO.out 3
    have qO4 : W5.cell? ⟨(N + 1), 4, none⟩ = some (.slice none 0 0) := cell_at HO.out 4
    have qO5 : W5.cell? ⟨(N + 1), 5, none⟩ = some (.slice none 0 0) := cell_at HO.out 5
    have qO6 : W5.cell? ⟨(N + 1), 6, none⟩ = some (.slice none 0 0) := cell_at HO.out 6
    have qOz : ∀ j, W5.frozen? ⟨(N + 1), j, none⟩ = false := fun j => free_at HO.out j
    have qOl : (N + 1) < W5.heap.size := HO.out.lt
    have qA0 : W5.cell? ⟨(N + 1 + 1), 0, none⟩ = some (.int .i64 0) := cell_at HA.out 0
    have qA1 : W5.cell? ⟨(N + 1 + 1), 1, none⟩ = some (.int .i64 0) := cell_at HA.out 1
    have qA2 : W5.cell? ⟨(N + 1 + 1), 2, none⟩ = some (.int .i64 0) := cell_at HA.out 2
    have qA3 : W5.cell? ⟨(N + 1 + 1), 3, none⟩ = some (.int .i64 0) := cell_at HA.out 3
    have qA4 : W5.cell? ⟨(N + 1 + 1), 4, none⟩ = some (.int .i64 0) := cell_at HA.out 4
    have qAz : ∀ j, W5.frozen? ⟨(N + 1 + 1), j, none⟩ = false := fun j => free_at HA.out j
    have qAl : (N + 1 + 1) < W5.heap.size := HA.out.lt
    go_wp2_with fail
    clear qO0 qO1 qO2 qO3 qO4 qO5 qO6 qOz qOl qA0 qA1 qA2 qA3 qA4 qAz qAl
    obtain ⟨LS, hLS⟩ : ∃ L : List Value, L = [.int .i64 s.term, .int .i64 s.stamp, .int .i64 s.next, .slice t9 q9 c9, .slice t8 q8 c8, .slice t7 q7 c7, .slice t6 q6 c6] := ⟨_, rfl⟩
    obtain ⟨W6, hWS⟩ : ∃ WS, WS = W5.setCells (N + 1) 0 LS := ⟨_, rfl⟩
    have hch := hWS
    rw [hLS] at hch
    simp only [World.setCells, Nat.zero_add, Nat.reduceAdd] at hch
    rw [← hch]
    clear hch
    have hkS := stC_blk HO.out LS (by rw [hLS]; rfl)
    have hfS := stC_fr (N + 1) LS 0 W5
    rw [← hWS] at hkS hfS
    rw [hLS] at hkS
    replace HB:=zh (HB.out.trans (hfS.below HB.out.size (by have := HLON.out; simp; try omega)))
    replace HA:=zh (show Blk W6 (N + 1 + 1) #[.int .i64 0, .int .i64 0, .int .i64 0, .int .i64 0, .int .i64 0] 41 from (hfS.block _ HA.out.lt (by simp; try omega)).trans HA.out)
    replace HQ9:=zh (HQ9.out.fr HO.out hfS)
    replace P2:=zh (P2.out.fr hfS (by have := FP2.out; omega))
    replace P3:=zh (P3.out.fr hfS (by have := FP3.out; omega))
    replace P4:=zh (P4.out.fr hfS (by have := FP4.out; omega))
    replace HO:=zh (show Blk W6 (N + 1) #[.int .i64 s.term, .int .i64 s.stamp, .int .i64 s.next, .slice t9 q9 c9, .slice t8 q8 c8, .slice t7 q7 c7, .slice t6 q6 c6] 27 from hkS)
    clear hWS hLS hkS hfS
    obtain ⟨LS, hLS⟩ : ∃ L : List Value, L = [.int .i64 2, .int .i64 0, .int .i64 0, .int .i64 0, .int .i64 0] := ⟨_, rfl⟩
    obtain ⟨W7, hWS⟩ : ∃ WS, WS = W6.setCells (N + 1 + 1) 0 LS := ⟨_, rfl⟩
    have hch := hWS
    rw [hLS] at hch
    simp only [World.setCells, Nat.zero_add, Nat.reduceAdd] at hch
    rw [← hch]
    clear hch
    have hkS := stC_blk HA.out LS (by rw [hLS]; rfl)
    have hfS := stC_fr (N + 1 + 1) LS 0 W6
    rw [← hWS] at hkS hfS
    rw [hLS] at hkS
    replace HB:=zh (HB.out.trans (hfS.below HB.out.size (by have := HLON.out; simp; try omega)))
    replace HO:=zh (show Blk W7 (N + 1) #[.int .i64 s.term, .int .i64 s.stamp, .int .i64 s.next, .slice t9 q9 c9, .slice t8 q8 c8, .slice t7 q7 c7, .slice t6 q6 c6] 27 from (hfS.block _ HO.out.lt (by simp; try omega)).trans HO.out)
    replace HQ9:=zh (HQ9.out.fr HA.out hfS)
    replace P2:=zh (P2.out.fr hfS (by have := FP2.out; omega))
    replace P3:=zh (P3.out.fr hfS (by have := FP3.out; omega))
    replace P4:=zh (P4.out.fr hfS (by have := FP4.out; omega))
    replace HA:=zh (show Blk W7 (N + 1 + 1) #[.int .i64 2, .int .i64 0, .int .i64 0, .int .i64 0, .int .i64 0] 41 from hkS)
    clear hWS hLS hkS hfS
    have qO0 : W7.cell? ⟨(N + 1), 0, none⟩ = some (.int .i64 s.term) := cell_at HO.out 0
    have qO1 : W7.cell? ⟨(N + 1), 1, none⟩ = some (.int .i64 s.stamp) := cell_at HO.out 1
    have qO2 : W7.cell? ⟨(N + 1), 2, none⟩ = some (.int .i64 s.next) := cell_at HO.out 2
    have qO3 : W7.cell? ⟨(N + 1), 3, none⟩ = some (.slice t9 q9 c9) := cell_at HO.out 3
    have qO4 : W7.cell? ⟨(N + 1), 4, none⟩ = some (.slice t8 q8 c8) := cell_at HO.out 4
    have qO5 : W7.cell? ⟨(N + 1), 5, none⟩ = some (.slice t7 q7 c7) := cell_at HO.out 5
    have qO6 : W7.cell? ⟨(N + 1), 6, none⟩ = some (.slice t6 q6 c6) := cell_at HO.out 6
    have qOz : ∀ j, W7.frozen? ⟨(N + 1), j, none⟩ = false := fun j => free_at HO.out j
    have qOl : (N + 1) < W7.heap.size := HO.out.lt
    have qA0 : W7.cell? ⟨(N + 1 + 1), 0, none⟩ = some (.int .i64 2) := cell_at HA.out 0
    have qA1 : W7.cell? ⟨(N + 1 + 1), 1, none⟩ = some (.int .i64 0) := cell_at HA.out 1
    have qA2 : W7.cell? ⟨(N + 1 + 1), 2, none⟩ = some (.int .i64 0) := cell_at HA.out 2
    have qA3 : W7.cell? ⟨(N + 1 + 1), 3, none⟩ = some (.int .i64 0) := cell_at HA.out 3
    have qA4 : W7.cell? ⟨(N + 1 + 1), 4, none⟩ = some (.int .i64 0) := cell_at HA.out 4
    have qAz : ∀ j, W7.frozen? ⟨(N + 1 + 1), j, none⟩ = false := fun j => free_at HA.out j
    have qAl : (N + 1 + 1) < W7.heap.size := HA.out.lt
    exact bodyPost_ret (v := .tuple #[.agg #[.int .i64 s.term, .int .i64 s.stamp, .int .i64 s.next, .slice t9 q9 c9, .slice t8 q8 c8, .slice t7 q7 c7, .slice t6 q6 c6], .agg #[.int .i64 2, .int .i64 0, .int .i64 0, .int .i64 0, .int .i64 0]]) (by simp [results, Try.results21, go_sem, qO0, qO1, qO2, qO3, qO4, qO5, qO6, qA0, qA1, qA2, qA3, qA4]) rfl ⟨_, (by rw [HRA.out, if_neg (by rw [HGX.out]; first | decide | assumption), HGX.out]; rfl), (by rw [HR9.out, if_neg (by rw [HGX.out]; first | decide | assumption)]; exact ⟨_, _, _, _, rfl, HQ9.out, P2.out.v, P3.out.v, P4.out.v⟩), HB.out⟩
  have ttq : decide (8 < sh) = false := decide_eq_false hq
  obtain rfl : shb = true := by rw [HSHB.out]; simp; omega
  by_cases ha : ep < 1
  · skip
    have tta : decide (ep < 1) = true := decide_eq_true ha
    have uu : decide (1 ≤ ep) = false := decide_eq_false (by omega)
    have hge : ge = 2 := by rw [HGE.out]; rw [if_pos (by rw [HAG.out]; simp [*])]
    have HGX := zh hge
    clear hge
    have qR0 : W4.cell? ⟨N, 0, none⟩ = some (.int .i64 s.term) := cell_at HR.out 0
    have qR1 : W4.cell? ⟨N, 1, none⟩ = some (.int .i64 s.stamp) := cell_at HR.out 1
    have qR2 : W4.cell? ⟨N, 2, none⟩ = some (.int .i64 s.next) := cell_at HR.out 2
    have qR3 : W4.cell? ⟨N, 3, none⟩ = some (.slice ta tn tc) := cell_at HR.out 3
    have qR4 : W4.cell? ⟨N, 4, none⟩ = some (.slice la ln lc) := cell_at HR.out 4
    have qR5 : W4.cell? ⟨N, 5, none⟩ = some (.slice sa sn sc) := cell_at HR.out 5
    have qR6 : W4.cell? ⟨N, 6, none⟩ = some (.slice da dn dc) := cell_at HR.out 6
    have qRl : N < W4.heap.size := HR.out.lt
    have FP0 := zh HA.out.lt
    go_wp2_with fail
    go_at_call 49
    go_fit (HRF.out 2 _ _ (HSV.out _ HT.out HL.out HS.out HD.out))
    rintro e W5 ⟨hc9, hB⟩
    clear qR0 qR1 qR2 qR3 qR4 qR5 qR6 qRl
    replace HB:=zh (HB.out.trans (hB.mono HB.out.size))
    replace HT:=zh (HT0.out.below HB.out)
    replace HL:=zh (HL0.out.below HB.out)
    replace HS:=zh (HS0.out.below HB.out)
    replace HD:=zh (HD0.out.below HB.out)
    replace HR:=zh (HR.out.step hB)
    replace HO:=zh (HO.out.step hB)
    replace HA:=zh (HA.out.step hB)
    clear hB
    replace hc9 : ∃ vt vl vs vd ol os od, e = .returned (.tuple #[.agg #[.int .i64 s.term, .int .i64 s.stamp, .int .i64 s.next, vt, vl, vs, vd], ansG 2 0 0 0 0]) ∧ TV W5 vt (sweptS s).ts ∧ LeO W4.heap.size W5 vl ol s.ls ∧ SeO W4.heap.size W5 vs os s.ss ∧ DkO W4.heap.size W5 vd od s.ds := by
      rcases hc9 with ⟨h9, _⟩ | ⟨_, h9⟩
      · exact absurd h9 (by decide)
      · exact h9
    obtain ⟨vt9, vl9, vs9, vd9, ol9, os9, od9, rfl, ht9, hl9, hs9, hd9⟩ := hc9
    unfold ansG
    obtain ⟨t9, q9, c9, rfl, _, _, _⟩ := ht9.sh
    obtain ⟨t8, q8, c8, rfl, _, _, _⟩ := hl9.v.sh
    obtain ⟨t7, q7, c7, rfl, _, _, _⟩ := hs9.v.sh
    obtain ⟨t6, q6, c6, rfl, _, _, _⟩ := hd9.v.sh
    have HQ9 := zh ht9
    have P2 := zh hl9
    have P3 := zh hs9
    have P4 := zh hd9
    have FP2:=zh (show (N + 1 + 1) < W4.heap.size from FP0.out)
    have FP3 := FP2
    have FP4 := FP2
    clear ht9 hl9 hs9 hd9
    have qO0 : W5.cell? ⟨(N + 1), 0, none⟩ = some (.int .i64 0) := cell_at HO.out 0
    have qO1 : W5.cell? ⟨(N + 1), 1, none⟩ = some (.int .i64 0) := cell_at HO.out 1
    have qO2 : W5.cell? ⟨(N + 1), 2, none⟩ = some (.int .i64 0) := cell_at HO.out 2
    have qO3 : W5.cell? ⟨(N + 1), 3, none⟩ = some (.slice none 0 0) := cell_at HO.out 3
    have qO4 : W5.cell? ⟨(N + 1), 4, none⟩ = some (.slice none 0 0) := cell_at HO.out 4
    have qO5 : W5.cell? ⟨(N + 1), 5, none⟩ = some (.slice none 0 0) := cell_at HO.out 5
    have qO6 : W5.cell? ⟨(N + 1), 6, none⟩ = some (.slice none 0 0) := cell_at HO.out 6
    have qOz : ∀ j, W5.frozen? ⟨(N + 1), j, none⟩ = false := fun j => free_at HO.out j
    have qOl : (N + 1) < W5.heap.size := HO.out.lt
    have qA0 : W5.cell? ⟨(N + 1 + 1), 0, none⟩ = some (.int .i64 0) := cell_at HA.out 0
    have qA1 : W5.cell? ⟨(N + 1 + 1), 1, none⟩ = some (.int .i64 0) := cell_at HA.out 1
    have qA2 : W5.cell? ⟨(N + 1 + 1), 2, none⟩ = some (.int .i64 0) := cell_at HA.out 2
    have qA3 : W5.cell? ⟨(N + 1 + 1), 3, none⟩ = some (.int .i64 0) := cell_at HA.out 3
    have qA4 : W5.cell? ⟨(N + 1 + 1), 4, none⟩ = some (.int .i64 0) := cell_at HA.out 4
    have qAz : ∀ j, W5.frozen? ⟨(N + 1 + 1), j, none⟩ = false := fun j => free_at HA.out j
    have qAl : (N + 1 + 1) < W5.heap.size := HA.out.lt
    go_wp2_with fail
    clear qO0 qO1 qO2 qO3 qO4 qO5 qO6 qOz qOl qA0 qA1 qA2 qA3 qA4 qAz qAl
    obtain ⟨LS, hLS⟩ : ∃ L : List Value, L = [.int .i64 s.term, .int .i64 s.stamp, .int .i64 s.next, .slice t9 q9 c9, .slice t8 q8 c8, .slice t7 q7 c7, .slice t6 q6 c6] := ⟨_, rfl⟩
    obtain ⟨W6, hWS⟩ : ∃ WS, WS = W5.setCells (N + 1) 0 LS := ⟨_, rfl⟩
    have hch := hWS
    rw [hLS] at hch
    simp only [World.setCells, Nat.zero_add, Nat.reduceAdd] at hch
    rw [← hch]
    clear hch
    have hkS := stC_blk HO.out LS (by rw [hLS]; rfl)
    have hfS := stC_fr (N + 1) LS 0 W5
    rw [← hWS] at hkS hfS
    rw [hLS] at hkS
    replace HB:=zh (HB.out.trans (hfS.below HB.out.size (by have := HLON.out; simp; try omega)))
    replace HA:=zh (show Blk W6 (N + 1 + 1) #[.int .i64 0, .int .i64 0, .int .i64 0, .int .i64 0, .int .i64 0] 41 from (hfS.block _ HA.out.lt (by simp; try omega)).trans HA.out)
    replace HQ9:=zh (HQ9.out.fr HO.out hfS)
    replace P2:=zh (P2.out.fr hfS (by have := FP2.out; omega))
    replace P3:=zh (P3.out.fr hfS (by have := FP3.out; omega))
    replace P4:=zh (P4.out.fr hfS (by have := FP4.out; omega))
    replace HO:=zh (show Blk W6 (N + 1) #[.int .i64 s.term, .int .i64 s.stamp, .int .i64 s.next, .slice t9 q9 c9, .slice t8 q8 c8, .slice t7 q7 c7, .slice t6 q6 c6] 27 from hkS)
    clear hWS hLS hkS hfS
    obtain ⟨LS, hLS⟩ : ∃ L : List Value, L = [.int .i64 2, .int .i64 0, .int .i64 0, .int .i64 0, .int .i64 0] := ⟨_, rfl⟩
    obtain ⟨W7, hWS⟩ : ∃ WS, WS = W6.setCells (N + 1 + 1) 0 LS := ⟨_, rfl⟩
    have hch := hWS
    rw [hLS] at hch
    simp only [World.setCells, Nat.zero_add, Nat.reduceAdd] at hch
    rw [← hch]
    clear hch
    have hkS := stC_blk HA.out LS (by rw [hLS]; rfl)
    have hfS := stC_fr (N + 1 + 1) LS 0 W6
    rw [← hWS] at hkS hfS
    rw [hLS] at hkS
    replace HB:=zh (HB.out.trans (hfS.below HB.out.size (by have := HLON.out; simp; try omega)))
    replace HO:=zh (show Blk W7 (N + 1) #[.int .i64 s.term, .int .i64 s.stamp, .int .i64 s.next, .slice t9 q9 c9, .slice t8 q8 c8, .slice t7 q7 c7, .slice t6 q6 c6] 27 from (hfS.block _ HO.out.lt (by simp; try omega)).trans HO.out)
    replace HQ9:=zh (HQ9.out.fr HA.out hfS)
    replace P2:=zh (P2.out.fr hfS (by have := FP2.out; omega))
    replace P3:=zh (P3.out.fr hfS (by have := FP3.out; omega))
    replace P4:=zh (P4.out.fr hfS (by have := FP4.out; omega))
    replace HA:=zh (show Blk W7 (N + 1 + 1) #[.int .i64 2, .int .i64 0, .int .i64 0, .int .i64 0, .int .i64 0] 41 from hkS)
    clear hWS hLS hkS hfS
    have qO0 : W7.cell? ⟨(N + 1), 0, none⟩ = some (.int .i64 s.term) := cell_at HO.out 0
    have qO1 : W7.cell? ⟨(N + 1), 1, none⟩ = some (.int .i64 s.stamp) := cell_at HO.out 1
    have qO2 : W7.cell? ⟨(N + 1), 2, none⟩ = some (.int .i64 s.next) := cell_at HO.out 2
    have qO3 : W7.cell? ⟨(N + 1), 3, none⟩ = some (.slice t9 q9 c9) := cell_at HO.out 3
    have qO4 : W7.cell? ⟨(N + 1), 4, none⟩ = some (.slice t8 q8 c8) := cell_at HO.out 4
    have qO5 : W7.cell? ⟨(N + 1), 5, none⟩ = some (.slice t7 q7 c7) := cell_at HO.out 5
    have qO6 : W7.cell? ⟨(N + 1), 6, none⟩ = some (.slice t6 q6 c6) := cell_at HO.out 6
    have qOz : ∀ j, W7.frozen? ⟨(N + 1), j, none⟩ = false := fun j => free_at HO.out j
    have qOl : (N + 1) < W7.heap.size := HO.out.lt
    have qA0 : W7.cell? ⟨(N + 1 + 1), 0, none⟩ = some (.int .i64 2) := cell_at HA.out 0
    have qA1 : W7.cell? ⟨(N + 1 + 1), 1, none⟩ = some (.int .i64 0) := cell_at HA.out 1
    have qA2 : W7.cell? ⟨(N + 1 + 1), 2, none⟩ = some (.int .i64 0) := cell_at HA.out 2
    have qA3 : W7.cell? ⟨(N + 1 + 1), 3, none⟩ = some (.int .i64 0) := cell_at HA.out 3
    have qA4 : W7.cell? ⟨(N + 1 + 1), 4, none⟩ = some (.int .i64 0) := cell_at HA.out 4
    have qAz : ∀ j, W7.frozen? ⟨(N + 1 + 1), j, none⟩ = false := fun j => free_at HA.out j
    have qAl : (N + 1 + 1) < W7.heap.size := HA.out.lt
    exact bodyPost_ret (v := .tuple #[.agg #[.int .i64 s.term, .int .i64 s.stamp, .int .i64 s.next, .slice t9 q9 c9, .slice t8 q8 c8, .slice t7 q7 c7, .slice t6 q6 c6], .agg #[.int .i64 2, .int .i64 0, .int .i64 0, .int .i64 0, .int .i64 0]]) (by simp [results, Try.results21, go_sem, qO0, qO1, qO2, qO3, qO4, qO5, qO6, qA0, qA1, qA2, qA3, qA4]) rfl ⟨_, (by rw [HRA.out, if_neg (by rw [HGX.out]; first | decide | assumption), HGX.out]; rfl), (by rw [HR9.out, if_neg (by rw [HGX.out]; first | decide | assumption)]; exact ⟨_, _, _, _, rfl, HQ9.out, P2.out.v, P3.out.v, P4.out.v⟩), HB.out⟩
  have tta : decide (ep < 1) = false := decide_eq_false ha
  have ua : decide (1 ≤ ep) = true := decide_eq_true (by omega)
  by_cases hb : nu < 1
  · skip
    have ttb : decide (nu < 1) = true := decide_eq_true hb
    have uu : decide (1 ≤ nu) = false := decide_eq_false (by omega)
    have hge : ge = 2 := by rw [HGE.out]; rw [if_pos (by rw [HAG.out]; simp [*])]
    have HGX := zh hge
    clear hge
    have qR0 : W4.cell? ⟨N, 0, none⟩ = some (.int .i64 s.term) := cell_at HR.out 0
    have qR1 : W4.cell? ⟨N, 1, none⟩ = some (.int .i64 s.stamp) := cell_at HR.out 1
    have qR2 : W4.cell? ⟨N, 2, none⟩ = some (.int .i64 s.next) := cell_at HR.out 2
    have qR3 : W4.cell? ⟨N, 3, none⟩ = some (.slice ta tn tc) := cell_at HR.out 3
    have qR4 : W4.cell? ⟨N, 4, none⟩ = some (.slice la ln lc) := cell_at HR.out 4
    have qR5 : W4.cell? ⟨N, 5, none⟩ = some (.slice sa sn sc) := cell_at HR.out 5
    have qR6 : W4.cell? ⟨N, 6, none⟩ = some (.slice da dn dc) := cell_at HR.out 6
    have qRl : N < W4.heap.size := HR.out.lt
    have FP0 := zh HA.out.lt
    go_wp2_with fail
    go_at_call 49
    go_fit (HRF.out 2 _ _ (HSV.out _ HT.out HL.out HS.out HD.out))
    rintro e W5 ⟨hc9, hB⟩
    clear qR0 qR1 qR2 qR3 qR4 qR5 qR6 qRl
    replace HB:=zh (HB.out.trans (hB.mono HB.out.size))
    replace HT:=zh (HT0.out.below HB.out)
    replace HL:=zh (HL0.out.below HB.out)
    replace HS:=zh (HS0.out.below HB.out)
    replace HD:=zh (HD0.out.below HB.out)
    replace HR:=zh (HR.out.step hB)
    replace HO:=zh (HO.out.step hB)
    replace HA:=zh (HA.out.step hB)
    clear hB
    replace hc9 : ∃ vt vl vs vd ol os od, e = .returned (.tuple #[.agg #[.int .i64 s.term, .int .i64 s.stamp, .int .i64 s.next, vt, vl, vs, vd], ansG 2 0 0 0 0]) ∧ TV W5 vt (sweptS s).ts ∧ LeO W4.heap.size W5 vl ol s.ls ∧ SeO W4.heap.size W5 vs os s.ss ∧ DkO W4.heap.size W5 vd od s.ds := by
      rcases hc9 with ⟨h9, _⟩ | ⟨_, h9⟩
      · exact absurd h9 (by decide)
      · exact h9
    obtain ⟨vt9, vl9, vs9, vd9, ol9, os9, od9, rfl, ht9, hl9, hs9, hd9⟩ := hc9
    unfold ansG
    obtain ⟨t9, q9, c9, rfl, _, _, _⟩ := ht9.sh
    obtain ⟨t8, q8, c8, rfl, _, _, _⟩ := hl9.v.sh
    obtain ⟨t7, q7, c7, rfl, _, _, _⟩ := hs9.v.sh
    obtain ⟨t6, q6, c6, rfl, _, _, _⟩ := hd9.v.sh
    have HQ9 := zh ht9
    have P2 := zh hl9
    have P3 := zh hs9
    have P4 := zh hd9
    have FP2:=zh (show (N + 1 + 1) < W4.heap.size from FP0.out)
    have FP3 := FP2
    have FP4 := FP2
    clear ht9 hl9 hs9 hd9
    have qO0 : W5.cell? ⟨(N + 1), 0, none⟩ = some (.int .i64 0) := cell_at HO.out 0
    have qO1 : W5.cell? ⟨(N + 1), 1, none⟩ = some (.int .i64 0) := cell_at HO.out 1
    have qO2 : W5.cell? ⟨(N + 1), 2, none⟩ = some (.int .i64 0) := cell_at HO.out 2
    have qO3 : W5.cell? ⟨(N + 1), 3, none⟩ = some (.slice none 0 0) := cell_at HO.out 3
    have qO4 : W5.cell? ⟨(N + 1), 4, none⟩ = some (.slice none 0 0) := cell_at HO.out 4
    have qO5 : W5.cell? ⟨(N + 1), 5, none⟩ = some (.slice none 0 0) := cell_at HO.out 5
    have qO6 : W5.cell? ⟨(N + 1), 6, none⟩ = some (.slice none 0 0) := cell_at HO.out 6
    have qOz : ∀ j, W5.frozen? ⟨(N + 1), j, none⟩ = false := fun j => free_at HO.out j
    have qOl : (N + 1) < W5.heap.size := HO.out.lt
    have qA0 : W5.cell? ⟨(N + 1 + 1), 0, none⟩ = some (.int .i64 0) := cell_at HA.out 0
    have qA1 : W5.cell? ⟨(N + 1 + 1), 1, none⟩ = some (.int .i64 0) := cell_at HA.out 1
    have qA2 : W5.cell? ⟨(N + 1 + 1), 2, none⟩ = some (.int .i64 0) := cell_at HA.out 2
    have qA3 : W5.cell? ⟨(N + 1 + 1), 3, none⟩ = some (.int .i64 0) := cell_at HA.out 3
    have qA4 : W5.cell? ⟨(N + 1 + 1), 4, none⟩ = some (.int .i64 0) := cell_at HA.out 4
    have qAz : ∀ j, W5.frozen? ⟨(N + 1 + 1), j, none⟩ = false := fun j => free_at HA.out j
    have qAl : (N + 1 + 1) < W5.heap.size := HA.out.lt
    go_wp2_with fail
    clear qO0 qO1 qO2 qO3 qO4 qO5 qO6 qOz qOl qA0 qA1 qA2 qA3 qA4 qAz qAl
    obtain ⟨LS, hLS⟩ : ∃ L : List Value, L = [.int .i64 s.term, .int .i64 s.stamp, .int .i64 s.next, .slice t9 q9 c9, .slice t8 q8 c8, .slice t7 q7 c7, .slice t6 q6 c6] := ⟨_, rfl⟩
    obtain ⟨W6, hWS⟩ : ∃ WS, WS = W5.setCells (N + 1) 0 LS := ⟨_, rfl⟩
    have hch := hWS
    rw [hLS] at hch
    simp only [World.setCells, Nat.zero_add, Nat.reduceAdd] at hch
    rw [← hch]
    clear hch
    have hkS := stC_blk HO.out LS (by rw [hLS]; rfl)
    have hfS := stC_fr (N + 1) LS 0 W5
    rw [← hWS] at hkS hfS
    rw [hLS] at hkS
    replace HB:=zh (HB.out.trans (hfS.below HB.out.size (by have := HLON.out; simp; try omega)))
    replace HA:=zh (show Blk W6 (N + 1 + 1) #[.int .i64 0, .int .i64 0, .int .i64 0, .int .i64 0, .int .i64 0] 41 from (hfS.block _ HA.out.lt (by simp; try omega)).trans HA.out)
    replace HQ9:=zh (HQ9.out.fr HO.out hfS)
    replace P2:=zh (P2.out.fr hfS (by have := FP2.out; omega))
    replace P3:=zh (P3.out.fr hfS (by have := FP3.out; omega))
    replace P4:=zh (P4.out.fr hfS (by have := FP4.out; omega))
    replace HO:=zh (show Blk W6 (N + 1) #[.int .i64 s.term, .int .i64 s.stamp, .int .i64 s.next, .slice t9 q9 c9, .slice t8 q8 c8, .slice t7 q7 c7, .slice t6 q6 c6] 27 from hkS)
    clear hWS hLS hkS hfS
    obtain ⟨LS, hLS⟩ : ∃ L : List Value, L = [.int .i64 2, .int .i64 0, .int .i64 0, .int .i64 0, .int .i64 0] := ⟨_, rfl⟩
    obtain ⟨W7, hWS⟩ : ∃ WS, WS = W6.setCells (N + 1 + 1) 0 LS := ⟨_, rfl⟩
    have hch := hWS
    rw [hLS] at hch
    simp only [World.setCells, Nat.zero_add, Nat.reduceAdd] at hch
    rw [← hch]
    clear hch
    have hkS := stC_blk HA.out LS (by rw [hLS]; rfl)
    have hfS := stC_fr (N + 1 + 1) LS 0 W6
    rw [← hWS] at hkS hfS
    rw [hLS] at hkS
    replace HB:=zh (HB.out.trans (hfS.below HB.out.size (by have := HLON.out; simp; try omega)))
    replace HO:=zh (show Blk W7 (N + 1) #[.int .i64 s.term, .int .i64 s.stamp, .int .i64 s.next, .slice t9 q9 c9, .slice t8 q8 c8, .slice t7 q7 c7, .slice t6 q6 c6] 27 from (hfS.block _ HO.out.lt (by simp; try omega)).trans HO.out)
    replace HQ9:=zh (HQ9.out.fr HA.out hfS)
    replace P2:=zh (P2.out.fr hfS (by have := FP2.out; omega))
    replace P3:=zh (P3.out.fr hfS (by have := FP3.out; omega))
    replace P4:=zh (P4.out.fr hfS (by have := FP4.out; omega))
    replace HA:=zh (show Blk W7 (N + 1 + 1) #[.int .i64 2, .int .i64 0, .int .i64 0, .int .i64 0, .int .i64 0] 41 from hkS)
    clear hWS hLS hkS hfS
    have qO0 : W7.cell? ⟨(N + 1), 0, none⟩ = some (.int .i64 s.term) := cell_at HO.out 0
    have qO1 : W7.cell? ⟨(N + 1), 1, none⟩ = some (.int .i64 s.stamp) := cell_at HO.out 1
    have qO2 : W7.cell? ⟨(N + 1), 2, none⟩ = some (.int .i64 s.next) := cell_at HO.out 2
    have qO3 : W7.cell? ⟨(N + 1), 3, none⟩ = some (.slice t9 q9 c9) := cell_at HO.out 3
    have qO4 : W7.cell? ⟨(N + 1), 4, none⟩ = some (.slice t8 q8 c8) := cell_at HO.out 4
    have qO5 : W7.cell? ⟨(N + 1), 5, none⟩ = some (.slice t7 q7 c7) := cell_at HO.out 5
    have qO6 : W7.cell? ⟨(N + 1), 6, none⟩ = some (.slice t6 q6 c6) := cell_at HO.out 6
    have qOz : ∀ j, W7.frozen? ⟨(N + 1), j, none⟩ = false := fun j => free_at HO.out j
    have qOl : (N + 1) < W7.heap.size := HO.out.lt
    have qA0 : W7.cell? ⟨(N + 1 + 1), 0, none⟩ = some (.int .i64 2) := cell_at HA.out 0
    have qA1 : W7.cell? ⟨(N + 1 + 1), 1, none⟩ = some (.int .i64 0) := cell_at HA.out 1
    have qA2 : W7.cell? ⟨(N + 1 + 1), 2, none⟩ = some (.int .i64 0) := cell_at HA.out 2
    have qA3 : W7.cell? ⟨(N + 1 + 1), 3, none⟩ = some (.int .i64 0) := cell_at HA.out 3
    have qA4 : W7.cell? ⟨(N + 1 + 1), 4, none⟩ = some (.int .i64 0) := cell_at HA.out 4
    have qAz : ∀ j, W7.frozen? ⟨(N + 1 + 1), j, none⟩ = false := fun j => free_at HA.out j
    have qAl : (N + 1 + 1) < W7.heap.size := HA.out.lt
    exact bodyPost_ret (v := .tuple #[.agg #[.int .i64 s.term, .int .i64 s.stamp, .int .i64 s.next, .slice t9 q9 c9, .slice t8 q8 c8, .slice t7 q7 c7, .slice t6 q6 c6], .agg #[.int .i64 2, .int .i64 0, .int .i64 0, .int .i64 0, .int .i64 0]]) (by simp [results, Try.results21, go_sem, qO0, qO1, qO2, qO3, qO4, qO5, qO6, qA0, qA1, qA2, qA3, qA4]) rfl ⟨_, (by rw [HRA.out, if_neg (by rw [HGX.out]; first | decide | assumption), HGX.out]; rfl), (by rw [HR9.out, if_neg (by rw [HGX.out]; first | decide | assumption)]; exact ⟨_, _, _, _, rfl, HQ9.out, P2.out.v, P3.out.v, P4.out.v⟩), HB.out⟩
  have ttb : decide (nu < 1) = false := decide_eq_false hb
  have ub : decide (1 ≤ nu) = true := decide_eq_true (by omega)
  by_cases hr : size < 1
  · skip
    have ttr : decide (size < 1) = true := decide_eq_true hr
    obtain rfl : szb = false := by rw [HSZB.out]; simp; omega
    have hge : ge = 2 := by rw [HGE.out]; rw [if_pos (by rw [HAG.out]; simp [*])]
    have HGX := zh hge
    clear hge
    have qR0 : W4.cell? ⟨N, 0, none⟩ = some (.int .i64 s.term) := cell_at HR.out 0
    have qR1 : W4.cell? ⟨N, 1, none⟩ = some (.int .i64 s.stamp) := cell_at HR.out 1
    have qR2 : W4.cell? ⟨N, 2, none⟩ = some (.int .i64 s.next) := cell_at HR.out 2
    have qR3 : W4.cell? ⟨N, 3, none⟩ = some (.slice ta tn tc) := cell_at HR.out 3
    have qR4 : W4.cell? ⟨N, 4, none⟩ = some (.slice la ln lc) := cell_at HR.out 4
    have qR5 : W4.cell? ⟨N, 5, none⟩ = some (.slice sa sn sc) := cell_at HR.out 5
    have qR6 : W4.cell? ⟨N, 6, none⟩ = some (.slice da dn dc) := cell_at HR.out 6
    have qRl : N < W4.heap.size := HR.out.lt
    have FP0 := zh HA.out.lt
    go_wp2_with fail
    go_at_call 49
    go_fit (HRF.out 2 _ _ (HSV.out _ HT.out HL.out HS.out HD.out))
    rintro e W5 ⟨hc9, hB⟩
    clear qR0 qR1 qR2 qR3 qR4 qR5 qR6 qRl
    replace HB:=zh (HB.out.trans (hB.mono HB.out.size))
    replace HT:=zh (HT0.out.below HB.out)
    replace HL:=zh (HL0.out.below HB.out)
    replace HS:=zh (HS0.out.below HB.out)
    replace HD:=zh (HD0.out.below HB.out)
    replace HR:=zh (HR.out.step hB)
    replace HO:=zh (HO.out.step hB)
    replace HA:=zh (HA.out.step hB)
    clear hB
    replace hc9 : ∃ vt vl vs vd ol os od, e = .returned (.tuple #[.agg #[.int .i64 s.term, .int .i64 s.stamp, .int .i64 s.next, vt, vl, vs, vd], ansG 2 0 0 0 0]) ∧ TV W5 vt (sweptS s).ts ∧ LeO W4.heap.size W5 vl ol s.ls ∧ SeO W4.heap.size W5 vs os s.ss ∧ DkO W4.heap.size W5 vd od s.ds := by
      rcases hc9 with ⟨h9, _⟩ | ⟨_, h9⟩
      · exact absurd h9 (by decide)
      · exact h9
    obtain ⟨vt9, vl9, vs9, vd9, ol9, os9, od9, rfl, ht9, hl9, hs9, hd9⟩ := hc9
    unfold ansG
    obtain ⟨t9, q9, c9, rfl, _, _, _⟩ := ht9.sh
    obtain ⟨t8, q8, c8, rfl, _, _, _⟩ := hl9.v.sh
    obtain ⟨t7, q7, c7, rfl, _, _, _⟩ := hs9.v.sh
    obtain ⟨t6, q6, c6, rfl, _, _, _⟩ := hd9.v.sh
    have HQ9 := zh ht9
    have P2 := zh hl9
    have P3 := zh hs9
    have P4 := zh hd9
    have FP2:=zh (show (N + 1 + 1) < W4.heap.size from FP0.out)
    have FP3 := FP2
    have FP4 := FP2
    clear ht9 hl9 hs9 hd9
    have qO0 : W5.cell? ⟨(N + 1), 0, none⟩ = some (.int .i64 0) := cell_at HO.out 0
    have qO1 : W5.cell? ⟨(N + 1), 1, none⟩ = some (.int .i64 0) := cell_at HO.out 1
    have qO2 : W5.cell? ⟨(N + 1), 2, none⟩ = some (.int .i64 0) := cell_at HO.out 2
    have qO3 : W5.cell? ⟨(N + 1), 3, none⟩ = some (.slice none 0 0) := cell_at HO.out 3
    have qO4 : W5.cell? ⟨(N + 1), 4, none⟩ = some (.slice none 0 0) := cell_at HO.out 4
    have qO5 : W5.cell? ⟨(N + 1), 5, none⟩ = some (.slice none 0 0) := cell_at HO.out 5
    have qO6 : W5.cell? ⟨(N + 1), 6, none⟩ = some (.slice none 0 0) := cell_at HO.out 6
    have qOz : ∀ j, W5.frozen? ⟨(N + 1), j, none⟩ = false := fun j => free_at HO.out j
    have qOl : (N + 1) < W5.heap.size := HO.out.lt
    have qA0 : W5.cell? ⟨(N + 1 + 1), 0, none⟩ = some (.int .i64 0) := cell_at HA.out 0
    have qA1 : W5.cell? ⟨(N + 1 + 1), 1, none⟩ = some (.int .i64 0) := cell_at HA.out 1
    have qA2 : W5.cell? ⟨(N + 1 + 1), 2, none⟩ = some (.int .i64 0) := cell_at HA.out 2
    have qA3 : W5.cell? ⟨(N + 1 + 1), 3, none⟩ = some (.int .i64 0) := cell_at HA.out 3
    have qA4 : W5.cell? ⟨(N + 1 + 1), 4, none⟩ = some (.int .i64 0) := cell_at HA.out 4
    have qAz : ∀ j, W5.frozen? ⟨(N + 1 + 1), j, none⟩ = false := fun j => free_at HA.out j
    have qAl : (N + 1 + 1) < W5.heap.size := HA.out.lt
    go_wp2_with fail
    clear qO0 qO1 qO2 qO3 qO4 qO5 qO6 qOz qOl qA0 qA1 qA2 qA3 qA4 qAz qAl
    obtain ⟨LS, hLS⟩ : ∃ L : List Value, L = [.int .i64 s.term, .int .i64 s.stamp, .int .i64 s.next, .slice t9 q9 c9, .slice t8 q8 c8, .slice t7 q7 c7, .slice t6 q6 c6] := ⟨_, rfl⟩
    obtain ⟨W6, hWS⟩ : ∃ WS, WS = W5.setCells (N + 1) 0 LS := ⟨_, rfl⟩
    have hch := hWS
    rw [hLS] at hch
    simp only [World.setCells, Nat.zero_add, Nat.reduceAdd] at hch
    rw [← hch]
    clear hch
    have hkS := stC_blk HO.out LS (by rw [hLS]; rfl)
    have hfS := stC_fr (N + 1) LS 0 W5
    rw [← hWS] at hkS hfS
    rw [hLS] at hkS
    replace HB:=zh (HB.out.trans (hfS.below HB.out.size (by have := HLON.out; simp; try omega)))
    replace HA:=zh (show Blk W6 (N + 1 + 1) #[.int .i64 0, .int .i64 0, .int .i64 0, .int .i64 0, .int .i64 0] 41 from (hfS.block _ HA.out.lt (by simp; try omega)).trans HA.out)
    replace HQ9:=zh (HQ9.out.fr HO.out hfS)
    replace P2:=zh (P2.out.fr hfS (by have := FP2.out; omega))
    replace P3:=zh (P3.out.fr hfS (by have := FP3.out; omega))
    replace P4:=zh (P4.out.fr hfS (by have := FP4.out; omega))
    replace HO:=zh (show Blk W6 (N + 1) #[.int .i64 s.term, .int .i64 s.stamp, .int .i64 s.next, .slice t9 q9 c9, .slice t8 q8 c8, .slice t7 q7 c7, .slice t6 q6 c6] 27 from hkS)
    clear hWS hLS hkS hfS
    obtain ⟨LS, hLS⟩ : ∃ L : List Value, L = [.int .i64 2, .int .i64 0, .int .i64 0, .int .i64 0, .int .i64 0] := ⟨_, rfl⟩
    obtain ⟨W7, hWS⟩ : ∃ WS, WS = W6.setCells (N + 1 + 1) 0 LS := ⟨_, rfl⟩
    have hch := hWS
    rw [hLS] at hch
    simp only [World.setCells, Nat.zero_add, Nat.reduceAdd] at hch
    rw [← hch]
    clear hch
    have hkS := stC_blk HA.out LS (by rw [hLS]; rfl)
    have hfS := stC_fr (N + 1 + 1) LS 0 W6
    rw [← hWS] at hkS hfS
    rw [hLS] at hkS
    replace HB:=zh (HB.out.trans (hfS.below HB.out.size (by have := HLON.out; simp; try omega)))
    replace HO:=zh (show Blk W7 (N + 1) #[.int .i64 s.term, .int .i64 s.stamp, .int .i64 s.next, .slice t9 q9 c9, .slice t8 q8 c8, .slice t7 q7 c7, .slice t6 q6 c6] 27 from (hfS.block _ HO.out.lt (by simp; try omega)).trans HO.out)
    replace HQ9:=zh (HQ9.out.fr HA.out hfS)
    replace P2:=zh (P2.out.fr hfS (by have := FP2.out; omega))
    replace P3:=zh (P3.out.fr hfS (by have := FP3.out; omega))
    replace P4:=zh (P4.out.fr hfS (by have := FP4.out; omega))
    replace HA:=zh (show Blk W7 (N + 1 + 1) #[.int .i64 2, .int .i64 0, .int .i64 0, .int .i64 0, .int .i64 0] 41 from hkS)
    clear hWS hLS hkS hfS
    have qO0 : W7.cell? ⟨(N + 1), 0, none⟩ = some (.int .i64 s.term) := cell_at HO.out 0
    have qO1 : W7.cell? ⟨(N + 1), 1, none⟩ = some (.int .i64 s.stamp) := cell_at HO.out 1
    have qO2 : W7.cell? ⟨(N + 1), 2, none⟩ = some (.int .i64 s.next) := cell_at HO.out 2
    have qO3 : W7.cell? ⟨(N + 1), 3, none⟩ = some (.slice t9 q9 c9) := cell_at HO.out 3
    have qO4 : W7.cell? ⟨(N + 1), 4, none⟩ = some (.slice t8 q8 c8) := cell_at HO.out 4
    have qO5 : W7.cell? ⟨(N + 1), 5, none⟩ = some (.slice t7 q7 c7) := cell_at HO.out 5
    have qO6 : W7.cell? ⟨(N + 1), 6, none⟩ = some (.slice t6 q6 c6) := cell_at HO.out 6
    have qOz : ∀ j, W7.frozen? ⟨(N + 1), j, none⟩ = false := fun j => free_at HO.out j
    have qOl : (N + 1) < W7.heap.size := HO.out.lt
    have qA0 : W7.cell? ⟨(N + 1 + 1), 0, none⟩ = some (.int .i64 2) := cell_at HA.out 0
    have qA1 : W7.cell? ⟨(N + 1 + 1), 1, none⟩ = some (.int .i64 0) := cell_at HA.out 1
    have qA2 : W7.cell? ⟨(N + 1 + 1), 2, none⟩ = some (.int .i64 0) := cell_at HA.out 2
    have qA3 : W7.cell? ⟨(N + 1 + 1), 3, none⟩ = some (.int .i64 0) := cell_at HA.out 3
    have qA4 : W7.cell? ⟨(N + 1 + 1), 4, none⟩ = some (.int .i64 0) := cell_at HA.out 4
    have qAz : ∀ j, W7.frozen? ⟨(N + 1 + 1), j, none⟩ = false := fun j => free_at HA.out j
    have qAl : (N + 1 + 1) < W7.heap.size := HA.out.lt
    exact bodyPost_ret (v := .tuple #[.agg #[.int .i64 s.term, .int .i64 s.stamp, .int .i64 s.next, .slice t9 q9 c9, .slice t8 q8 c8, .slice t7 q7 c7, .slice t6 q6 c6], .agg #[.int .i64 2, .int .i64 0, .int .i64 0, .int .i64 0, .int .i64 0]]) (by simp [results, Try.results21, go_sem, qO0, qO1, qO2, qO3, qO4, qO5, qO6, qA0, qA1, qA2, qA3, qA4]) rfl ⟨_, (by rw [HRA.out, if_neg (by rw [HGX.out]; first | decide | assumption), HGX.out]; rfl), (by rw [HR9.out, if_neg (by rw [HGX.out]; first | decide | assumption)]; exact ⟨_, _, _, _, rfl, HQ9.out, P2.out.v, P3.out.v, P4.out.v⟩), HB.out⟩
  have ttr : decide (size < 1) = false := decide_eq_false hr
  by_cases hs9 : 1000000 < size
  · skip
    have tts9 : decide (1000000 < size) = true := decide_eq_true hs9
    obtain rfl : szb = false := by rw [HSZB.out]; simp; omega
    have hge : ge = 2 := by rw [HGE.out]; rw [if_pos (by rw [HAG.out]; simp [*])]
    have HGX := zh hge
    clear hge
    have qR0 : W4.cell? ⟨N, 0, none⟩ = some (.int .i64 s.term) := cell_at HR.out 0
    have qR1 : W4.cell? ⟨N, 1, none⟩ = some (.int .i64 s.stamp) := cell_at HR.out 1
    have qR2 : W4.cell? ⟨N, 2, none⟩ = some (.int .i64 s.next) := cell_at HR.out 2
    have qR3 : W4.cell? ⟨N, 3, none⟩ = some (.slice ta tn tc) := cell_at HR.out 3
    have qR4 : W4.cell? ⟨N, 4, none⟩ = some (.slice la ln lc) := cell_at HR.out 4
    have qR5 : W4.cell? ⟨N, 5, none⟩ = some (.slice sa sn sc) := cell_at HR.out 5
    have qR6 : W4.cell? ⟨N, 6, none⟩ = some (.slice da dn dc) := cell_at HR.out 6
    have qRl : N < W4.heap.size := HR.out.lt
    have FP0 := zh HA.out.lt
    go_wp2_with fail
    go_at_call 49
    go_fit (HRF.out 2 _ _ (HSV.out _ HT.out HL.out HS.out HD.out))
    rintro e W5 ⟨hc9, hB⟩
    clear qR0 qR1 qR2 qR3 qR4 qR5 qR6 qRl
    replace HB:=zh (HB.out.trans (hB.mono HB.out.size))
    replace HT:=zh (HT0.out.below HB.out)
    replace HL:=zh (HL0.out.below HB.out)
    replace HS:=zh (HS0.out.below HB.out)
    replace HD:=zh (HD0.out.below HB.out)
    replace HR:=zh (HR.out.step hB)
    replace HO:=zh (HO.out.step hB)
    replace HA:=zh (HA.out.step hB)
    clear hB
    replace hc9 : ∃ vt vl vs vd ol os od, e = .returned (.tuple #[.agg #[.int .i64 s.term, .int .i64 s.stamp, .int .i64 s.next, vt, vl, vs, vd], ansG 2 0 0 0 0]) ∧ TV W5 vt (sweptS s).ts ∧ LeO W4.heap.size W5 vl ol s.ls ∧ SeO W4.heap.size W5 vs os s.ss ∧ DkO W4.heap.size W5 vd od s.ds := by
      rcases hc9 with ⟨h9, _⟩ | ⟨_, h9⟩
      · exact absurd h9 (by decide)
      · exact h9
    obtain ⟨vt9, vl9, vs9, vd9, ol9, os9, od9, rfl, ht9, hl9, hs9, hd9⟩ := hc9
    unfold ansG
    obtain ⟨t9, q9, c9, rfl, _, _, _⟩ := ht9.sh
    obtain ⟨t8, q8, c8, rfl, _, _, _⟩ := hl9.v.sh
    obtain ⟨t7, q7, c7, rfl, _, _, _⟩ := hs9.v.sh
    obtain ⟨t6, q6, c6, rfl, _, _, _⟩ := hd9.v.sh
    have HQ9 := zh ht9
    have P2 := zh hl9
    have P3 := zh hs9
    have P4 := zh hd9
    have FP2:=zh (show (N + 1 + 1) < W4.heap.size from FP0.out)
    have FP3 := FP2
    have FP4 := FP2
    clear ht9 hl9 hs9 hd9
    have qO0 : W5.cell? ⟨(N + 1), 0, none⟩ = some (.int .i64 0) := cell_at HO.out 0
    have qO1 : W5.cell? ⟨(N + 1), 1, none⟩ = some (.int .i64 0) := cell_at HO.out 1
    have qO2 : W5.cell? ⟨(N + 1), 2, none⟩ = some (.int .i64 0) := cell_at HO.out 2
    have qO3 : W5.cell? ⟨(N + 1), 3, none⟩ = some (.slice none 0 0) := cell_at HO.out 3
    have qO4 : W5.cell? ⟨(N + 1), 4, none⟩ = some (.slice none 0 0) := cell_at HO.out 4
    have qO5 : W5.cell? ⟨(N + 1), 5, none⟩ = some (.slice none 0 0) := cell_at HO.out 5
    have qO6 : W5.cell? ⟨(N + 1), 6, none⟩ = some (.slice none 0 0) := cell_at HO.out 6
    have qOz : ∀ j, W5.frozen? ⟨(N + 1), j, none⟩ = false := fun j => free_at HO.out j
    have qOl : (N + 1) < W5.heap.size := HO.out.lt
    have qA0 : W5.cell? ⟨(N + 1 + 1), 0, none⟩ = some (.int .i64 0) := cell_at HA.out 0
    have qA1 : W5.cell? ⟨(N + 1 + 1), 1, none⟩ = some (.int .i64 0) := cell_at HA.out 1
    have qA2 : W5.cell? ⟨(N + 1 + 1), 2, none⟩ = some (.int .i64 0) := cell_at HA.out 2
    have qA3 : W5.cell? ⟨(N + 1 + 1), 3, none⟩ = some (.int .i64 0) := cell_at HA.out 3
    have qA4 : W5.cell? ⟨(N + 1 + 1), 4, none⟩ = some (.int .i64 0) := cell_at HA.out 4
    have qAz : ∀ j, W5.frozen? ⟨(N + 1 + 1), j, none⟩ = false := fun j => free_at HA.out j
    have qAl : (N + 1 + 1) < W5.heap.size := HA.out.lt
    go_wp2_with fail
    clear qO0 qO1 qO2 qO3 qO4 qO5 qO6 qOz qOl qA0 qA1 qA2 qA3 qA4 qAz qAl
    obtain ⟨LS, hLS⟩ : ∃ L : List Value, L = [.int .i64 s.term, .int .i64 s.stamp, .int .i64 s.next, .slice t9 q9 c9, .slice t8 q8 c8, .slice t7 q7 c7, .slice t6 q6 c6] := ⟨_, rfl⟩
    obtain ⟨W6, hWS⟩ : ∃ WS, WS = W5.setCells (N + 1) 0 LS := ⟨_, rfl⟩
    have hch := hWS
    rw [hLS] at hch
    simp only [World.setCells, Nat.zero_add, Nat.reduceAdd] at hch
    rw [← hch]
    clear hch
    have hkS := stC_blk HO.out LS (by rw [hLS]; rfl)
    have hfS := stC_fr (N + 1) LS 0 W5
    rw [← hWS] at hkS hfS
    rw [hLS] at hkS
    replace HB:=zh (HB.out.trans (hfS.below HB.out.size (by have := HLON.out; simp; try omega)))
    replace HA:=zh (show Blk W6 (N + 1 + 1) #[.int .i64 0, .int .i64 0, .int .i64 0, .int .i64 0, .int .i64 0] 41 from (hfS.block _ HA.out.lt (by simp; try omega)).trans HA.out)
    replace HQ9:=zh (HQ9.out.fr HO.out hfS)
    replace P2:=zh (P2.out.fr hfS (by have := FP2.out; omega))
    replace P3:=zh (P3.out.fr hfS (by have := FP3.out; omega))
    replace P4:=zh (P4.out.fr hfS (by have := FP4.out; omega))
    replace HO:=zh (show Blk W6 (N + 1) #[.int .i64 s.term, .int .i64 s.stamp, .int .i64 s.next, .slice t9 q9 c9, .slice t8 q8 c8, .slice t7 q7 c7, .slice t6 q6 c6] 27 from hkS)
    clear hWS hLS hkS hfS
    obtain ⟨LS, hLS⟩ : ∃ L : List Value, L = [.int .i64 2, .int .i64 0, .int .i64 0, .int .i64 0, .int .i64 0] := ⟨_, rfl⟩
    obtain ⟨W7, hWS⟩ : ∃ WS, WS = W6.setCells (N + 1 + 1) 0 LS := ⟨_, rfl⟩
    have hch := hWS
    rw [hLS] at hch
    simp only [World.setCells, Nat.zero_add, Nat.reduceAdd] at hch
    rw [← hch]
    clear hch
    have hkS := stC_blk HA.out LS (by rw [hLS]; rfl)
    have hfS := stC_fr (N + 1 + 1) LS 0 W6
    rw [← hWS] at hkS hfS
    rw [hLS] at hkS
    replace HB:=zh (HB.out.trans (hfS.below HB.out.size (by have := HLON.out; simp; try omega)))
    replace HO:=zh (show Blk W7 (N + 1) #[.int .i64 s.term, .int .i64 s.stamp, .int .i64 s.next, .slice t9 q9 c9, .slice t8 q8 c8, .slice t7 q7 c7, .slice t6 q6 c6] 27 from (hfS.block _ HO.out.lt (by simp; try omega)).trans HO.out)
    replace HQ9:=zh (HQ9.out.fr HA.out hfS)
    replace P2:=zh (P2.out.fr hfS (by have := FP2.out; omega))
    replace P3:=zh (P3.out.fr hfS (by have := FP3.out; omega))
    replace P4:=zh (P4.out.fr hfS (by have := FP4.out; omega))
    replace HA:=zh (show Blk W7 (N + 1 + 1) #[.int .i64 2, .int .i64 0, .int .i64 0, .int .i64 0, .int .i64 0] 41 from hkS)
    clear hWS hLS hkS hfS
    have qO0 : W7.cell? ⟨(N + 1), 0, none⟩ = some (.int .i64 s.term) := cell_at HO.out 0
    have qO1 : W7.cell? ⟨(N + 1), 1, none⟩ = some (.int .i64 s.stamp) := cell_at HO.out 1
    have qO2 : W7.cell? ⟨(N + 1), 2, none⟩ = some (.int .i64 s.next) := cell_at HO.out 2
    have qO3 : W7.cell? ⟨(N + 1), 3, none⟩ = some (.slice t9 q9 c9) := cell_at HO.out 3
    have qO4 : W7.cell? ⟨(N + 1), 4, none⟩ = some (.slice t8 q8 c8) := cell_at HO.out 4
    have qO5 : W7.cell? ⟨(N + 1), 5, none⟩ = some (.slice t7 q7 c7) := cell_at HO.out 5
    have qO6 : W7.cell? ⟨(N + 1), 6, none⟩ = some (.slice t6 q6 c6) := cell_at HO.out 6
    have qOz : ∀ j, W7.frozen? ⟨(N + 1), j, none⟩ = false := fun j => free_at HO.out j
    have qOl : (N + 1) < W7.heap.size := HO.out.lt
    have qA0 : W7.cell? ⟨(N + 1 + 1), 0, none⟩ = some (.int .i64 2) := cell_at HA.out 0
    have qA1 : W7.cell? ⟨(N + 1 + 1), 1, none⟩ = some (.int .i64 0) := cell_at HA.out 1
    have qA2 : W7.cell? ⟨(N + 1 + 1), 2, none⟩ = some (.int .i64 0) := cell_at HA.out 2
    have qA3 : W7.cell? ⟨(N + 1 + 1), 3, none⟩ = some (.int .i64 0) := cell_at HA.out 3
    have qA4 : W7.cell? ⟨(N + 1 + 1), 4, none⟩ = some (.int .i64 0) := cell_at HA.out 4
    have qAz : ∀ j, W7.frozen? ⟨(N + 1 + 1), j, none⟩ = false := fun j => free_at HA.out j
    have qAl : (N + 1 + 1) < W7.heap.size := HA.out.lt
    exact bodyPost_ret (v := .tuple #[.agg #[.int .i64 s.term, .int .i64 s.stamp, .int .i64 s.next, .slice t9 q9 c9, .slice t8 q8 c8, .slice t7 q7 c7, .slice t6 q6 c6], .agg #[.int .i64 2, .int .i64 0, .int .i64 0, .int .i64 0, .int .i64 0]]) (by simp [results, Try.results21, go_sem, qO0, qO1, qO2, qO3, qO4, qO5, qO6, qA0, qA1, qA2, qA3, qA4]) rfl ⟨_, (by rw [HRA.out, if_neg (by rw [HGX.out]; first | decide | assumption), HGX.out]; rfl), (by rw [HR9.out, if_neg (by rw [HGX.out]; first | decide | assumption)]; exact ⟨_, _, _, _, rfl, HQ9.out, P2.out.v, P3.out.v, P4.out.v⟩), HB.out⟩
  have tts9 : decide (1000000 < size) = false := decide_eq_false hs9
  obtain rfl : szb = true := by rw [HSZB.out]; simp; omega
  have hag : argG sh ep nu size = true := by rw [HAG.out, ua, ub]; rfl
  replace HGE : Hid (ge = if sm = false ∨ yg = true then 161 else if 64 ≤ s.ls.length ∨ 1099511627776 ≤ s.next then 100 else e0):=zh (by rw [HGE.out, if_neg (by rw [hag]; simp)])
  clear hag
  have qR0 : W4.cell? ⟨N, 0, none⟩ = some (.int .i64 s.term) := cell_at HR.out 0
  have qR1 : W4.cell? ⟨N, 1, none⟩ = some (.int .i64 s.stamp) := cell_at HR.out 1
  have qR2 : W4.cell? ⟨N, 2, none⟩ = some (.int .i64 s.next) := cell_at HR.out 2
  have qR3 : W4.cell? ⟨N, 3, none⟩ = some (.slice ta tn tc) := cell_at HR.out 3
  have qR4 : W4.cell? ⟨N, 4, none⟩ = some (.slice la ln lc) := cell_at HR.out 4
  have qR5 : W4.cell? ⟨N, 5, none⟩ = some (.slice sa sn sc) := cell_at HR.out 5
  have qR6 : W4.cell? ⟨N, 6, none⟩ = some (.slice da dn dc) := cell_at HR.out 6
  have qRl : N < W4.heap.size := HR.out.lt
  go_wp2_with fail
  go_at_call 26
  go_fit (HFD.out _ HT.out)
  rintro e W5 ⟨rfl, hB⟩
  clear qR0 qR1 qR2 qR3 qR4 qR5 qR6 qRl
  replace HB:=zh (HB.out.trans (hB.mono HB.out.size))
  replace HT:=zh (HT0.out.below HB.out)
  replace HL:=zh (HL0.out.below HB.out)
  replace HS:=zh (HS0.out.below HB.out)
  replace HD:=zh (HD0.out.below HB.out)
  replace HR:=zh (HR.out.step hB)
  replace HO:=zh (HO.out.step hB)
  replace HA:=zh (HA.out.step hB)
  clear hB
  go_upto_region 4 with fail
  obtain ⟨T9, hT9⟩ : ∃ n0, n0 = W5.heap.size := ⟨_, rfl⟩
  have HXT9HR : Hid (N < T9):=zh (by rw [hT9]; exact HR.out.lt)
  have HXT9HO : Hid ((N + 1) < T9):=zh (by rw [hT9]; exact HO.out.lt)
  have HXT9HA : Hid ((N + 1 + 1) < T9):=zh (by rw [hT9]; exact HA.out.lt)
  have HLOT9 : Hid (w.heap.size ≤ T9):=zh (by have := HB.out.size; omega)
  obtain ⟨W6, hA0⟩ : ∃ W0, W0 = W5.alloc (.cells #[.int .i64 y.id, .int .i64 y.rate, .int .i64 y.burst, .int .i64 yk, .bool yg] 54) := ⟨_, rfl⟩
  have hB : Below W5.heap.size W5 W6 := by rw [hA0]; exact (Below.refl _ _).alloc (Nat.le_refl _) _
  have hS0 : W6.heap.size = T9 + 1 := by rw [hA0]; simp [← hT9]
  have HT9:=zh (show Blk W6 T9 #[.int .i64 y.id, .int .i64 y.rate, .int .i64 y.burst, .int .i64 yk, .bool yg] 54 by rw [hA0, hT9]; exact blk_new _ _ _)
  replace HB:=zh (HB.out.trans (hB.mono HB.out.size))
  replace HT:=zh (HT0.out.below HB.out)
  replace HL:=zh (HL0.out.below HB.out)
  replace HS:=zh (HS0.out.below HB.out)
  replace HD:=zh (HD0.out.below HB.out)
  replace HR:=zh (HR.out.step hB)
  replace HO:=zh (HO.out.step hB)
  replace HA:=zh (HA.out.step hB)
  clear hB
  have HST9 := zh hS0
  rw [← hT9, ← hA0]
  clear hA0 hT9 hS0
  cases sm
  · skip
    have hge : ge = 161 := by rw [HGE.out]; rw [if_pos (.inl rfl)]
    have HGX := zh hge
    clear hge
    have qR0 : W6.cell? ⟨N, 0, none⟩ = some (.int .i64 s.term) := cell_at HR.out 0
    have qR1 : W6.cell? ⟨N, 1, none⟩ = some (.int .i64 s.stamp) := cell_at HR.out 1
    have qR2 : W6.cell? ⟨N, 2, none⟩ = some (.int .i64 s.next) := cell_at HR.out 2
    have qR3 : W6.cell? ⟨N, 3, none⟩ = some (.slice ta tn tc) := cell_at HR.out 3
    have qR4 : W6.cell? ⟨N, 4, none⟩ = some (.slice la ln lc) := cell_at HR.out 4
    have qR5 : W6.cell? ⟨N, 5, none⟩ = some (.slice sa sn sc) := cell_at HR.out 5
    have qR6 : W6.cell? ⟨N, 6, none⟩ = some (.slice da dn dc) := cell_at HR.out 6
    have qRl : N < W6.heap.size := HR.out.lt
    have qT90 : W6.cell? ⟨T9, 0, none⟩ = some (.int .i64 y.id) := cell_at HT9.out 0
    have qT91 : W6.cell? ⟨T9, 1, none⟩ = some (.int .i64 y.rate) := cell_at HT9.out 1
    have qT92 : W6.cell? ⟨T9, 2, none⟩ = some (.int .i64 y.burst) := cell_at HT9.out 2
    have qT93 : W6.cell? ⟨T9, 3, none⟩ = some (.int .i64 yk) := cell_at HT9.out 3
    have qT94 : W6.cell? ⟨T9, 4, none⟩ = some (.bool yg) := cell_at HT9.out 4
    have qT9z : ∀ j, W6.frozen? ⟨T9, j, none⟩ = false := fun j => free_at HT9.out j
    have qT9l : T9 < W6.heap.size := HT9.out.lt
    have FP0 := zh HA.out.lt
    go_wp2_with fail
    go_at_call 49
    go_fit (HRF.out 161 _ _ (HSV.out _ HT.out HL.out HS.out HD.out))
    rintro e W7 ⟨hc9, hB⟩
    clear qR0 qR1 qR2 qR3 qR4 qR5 qR6 qRl qT90 qT91 qT92 qT93 qT94 qT9z qT9l
    replace HB:=zh (HB.out.trans (hB.mono HB.out.size))
    replace HT:=zh (HT0.out.below HB.out)
    replace HL:=zh (HL0.out.below HB.out)
    replace HS:=zh (HS0.out.below HB.out)
    replace HD:=zh (HD0.out.below HB.out)
    replace HR:=zh (HR.out.step hB)
    replace HO:=zh (HO.out.step hB)
    replace HA:=zh (HA.out.step hB)
    replace HT9:=zh (HT9.out.step hB)
    clear hB
    replace hc9 : ∃ vt vl vs vd ol os od, e = .returned (.tuple #[.agg #[.int .i64 s.term, .int .i64 s.stamp, .int .i64 s.next, vt, vl, vs, vd], ansG 161 0 0 0 0]) ∧ TV W7 vt (sweptS s).ts ∧ LeO W6.heap.size W7 vl ol s.ls ∧ SeO W6.heap.size W7 vs os s.ss ∧ DkO W6.heap.size W7 vd od s.ds := by
      rcases hc9 with ⟨h9, _⟩ | ⟨_, h9⟩
      · exact absurd h9 (by decide)
      · exact h9
    obtain ⟨vt9, vl9, vs9, vd9, ol9, os9, od9, rfl, ht9, hl9, hs9, hd9⟩ := hc9
    unfold ansG
    obtain ⟨t9, q9, c9, rfl, _, _, _⟩ := ht9.sh
    obtain ⟨t8, q8, c8, rfl, _, _, _⟩ := hl9.v.sh
    obtain ⟨t7, q7, c7, rfl, _, _, _⟩ := hs9.v.sh
    obtain ⟨t6, q6, c6, rfl, _, _, _⟩ := hd9.v.sh
    have HQ9 := zh ht9
    have P2 := zh hl9
    have P3 := zh hs9
    have P4 := zh hd9
    have FP2:=zh (show (N + 1 + 1) < W6.heap.size from FP0.out)
    have FP3 := FP2
    have FP4 := FP2
    clear ht9 hl9 hs9 hd9
    have qO0 : W7.cell? ⟨(N + 1), 0, none⟩ = some (.int .i64 0) := cell_at HO.out 0
    have qO1 : W7.cell? ⟨(N + 1), 1, none⟩ = some (.int .i64 0) := cell_at HO.out 1
    have qO2 : W7.cell? ⟨(N + 1), 2, none⟩ = some (.int .i64 0) := cell_at HO.out 2
    have qO3 : W7.cell? ⟨(N + 1), 3, none⟩ = some (.slice none 0 0) := cell_at HO.out 3
    have qO4 : W7.cell? ⟨(N + 1), 4, none⟩ = some (.slice none 0 0) := cell_at HO.out 4
    have qO5 : W7.cell? ⟨(N + 1), 5, none⟩ = some (.slice none 0 0) := cell_at HO.out 5
    have qO6 : W7.cell? ⟨(N + 1), 6, none⟩ = some (.slice none 0 0) := cell_at HO.out 6
    have qOz : ∀ j, W7.frozen? ⟨(N + 1), j, none⟩ = false := fun j => free_at HO.out j
    have qOl : (N + 1) < W7.heap.size := HO.out.lt
    have qA0 : W7.cell? ⟨(N + 1 + 1), 0, none⟩ = some (.int .i64 0) := cell_at HA.out 0
    have qA1 : W7.cell? ⟨(N + 1 + 1), 1, none⟩ = some (.int .i64 0) := cell_at HA.out 1
    have qA2 : W7.cell? ⟨(N + 1 + 1), 2, none⟩ = some (.int .i64 0) := cell_at HA.out 2
    have qA3 : W7.cell? ⟨(N + 1 + 1), 3, none⟩ = some (.int .i64 0) := cell_at HA.out 3
    have qA4 : W7.cell? ⟨(N + 1 + 1), 4, none⟩ = some (.int .i64 0) := cell_at HA.out 4
    have qAz : ∀ j, W7.frozen? ⟨(N + 1 + 1), j, none⟩ = false := fun j => free_at HA.out j
    have qAl : (N + 1 + 1) < W7.heap.size := HA.out.lt
    go_wp2_with fail
    clear qO0 qO1 qO2 qO3 qO4 qO5 qO6 qOz qOl qA0 qA1 qA2 qA3 qA4 qAz qAl
    obtain ⟨LS, hLS⟩ : ∃ L : List Value, L = [.int .i64 s.term, .int .i64 s.stamp, .int .i64 s.next, .slice t9 q9 c9, .slice t8 q8 c8, .slice t7 q7 c7, .slice t6 q6 c6] := ⟨_, rfl⟩
    obtain ⟨W8, hWS⟩ : ∃ WS, WS = W7.setCells (N + 1) 0 LS := ⟨_, rfl⟩
    have hch := hWS
    rw [hLS] at hch
    simp only [World.setCells, Nat.zero_add, Nat.reduceAdd] at hch
    rw [← hch]
    clear hch
    have hkS := stC_blk HO.out LS (by rw [hLS]; rfl)
    have hfS := stC_fr (N + 1) LS 0 W7
    rw [← hWS] at hkS hfS
    rw [hLS] at hkS
    replace HB:=zh (HB.out.trans (hfS.below HB.out.size (by have := HLON.out; simp; try omega)))
    replace HA:=zh (show Blk W8 (N + 1 + 1) #[.int .i64 0, .int .i64 0, .int .i64 0, .int .i64 0, .int .i64 0] 41 from (hfS.block _ HA.out.lt (by have hx0 := HXT9HR.out; have hx1 := HXT9HO.out; have hx2 := HXT9HA.out; simp; try omega)).trans HA.out)
    replace HQ9:=zh (HQ9.out.fr HO.out hfS)
    replace P2:=zh (P2.out.fr hfS (by have := FP2.out; omega))
    replace P3:=zh (P3.out.fr hfS (by have := FP3.out; omega))
    replace P4:=zh (P4.out.fr hfS (by have := FP4.out; omega))
    replace HO:=zh (show Blk W8 (N + 1) #[.int .i64 s.term, .int .i64 s.stamp, .int .i64 s.next, .slice t9 q9 c9, .slice t8 q8 c8, .slice t7 q7 c7, .slice t6 q6 c6] 27 from hkS)
    clear hWS hLS hkS hfS
    obtain ⟨LS, hLS⟩ : ∃ L : List Value, L = [.int .i64 161, .int .i64 0, .int .i64 0, .int .i64 0, .int .i64 0] := ⟨_, rfl⟩
    obtain ⟨W9, hWS⟩ : ∃ WS, WS = W8.setCells (N + 1 + 1) 0 LS := ⟨_, rfl⟩
    have hch := hWS
    rw [hLS] at hch
    simp only [World.setCells, Nat.zero_add, Nat.reduceAdd] at hch
    rw [← hch]
    clear hch
    have hkS := stC_blk HA.out LS (by rw [hLS]; rfl)
    have hfS := stC_fr (N + 1 + 1) LS 0 W8
    rw [← hWS] at hkS hfS
    rw [hLS] at hkS
    replace HB:=zh (HB.out.trans (hfS.below HB.out.size (by have := HLON.out; simp; try omega)))
    replace HO:=zh (show Blk W9 (N + 1) #[.int .i64 s.term, .int .i64 s.stamp, .int .i64 s.next, .slice t9 q9 c9, .slice t8 q8 c8, .slice t7 q7 c7, .slice t6 q6 c6] 27 from (hfS.block _ HO.out.lt (by have hx0 := HXT9HR.out; have hx1 := HXT9HO.out; have hx2 := HXT9HA.out; simp; try omega)).trans HO.out)
    replace HQ9:=zh (HQ9.out.fr HA.out hfS)
    replace P2:=zh (P2.out.fr hfS (by have := FP2.out; omega))
    replace P3:=zh (P3.out.fr hfS (by have := FP3.out; omega))
    replace P4:=zh (P4.out.fr hfS (by have := FP4.out; omega))
    replace HA:=zh (show Blk W9 (N + 1 + 1) #[.int .i64 161, .int .i64 0, .int .i64 0, .int .i64 0, .int .i64 0] 41 from hkS)
    clear hWS hLS hkS hfS
    have qO0 : W9.cell? ⟨(N + 1), 0, none⟩ = some (.int .i64 s.term) := cell_at HO.out 0
    have qO1 : W9.cell? ⟨(N + 1), 1, none⟩ = some (.int .i64 s.stamp) := cell_at HO.out 1
    have qO2 : W9.cell? ⟨(N + 1), 2, none⟩ = some (.int .i64 s.next) := cell_at HO.out 2
    have qO3 : W9.cell? ⟨(N + 1), 3, none⟩ = some (.slice t9 q9 c9) := cell_at HO.out 3
    have qO4 : W9.cell? ⟨(N + 1), 4, none⟩ = some (.slice t8 q8 c8) := cell_at HO.out 4
    have qO5 : W9.cell? ⟨(N + 1), 5, none⟩ = some (.slice t7 q7 c7) := cell_at HO.out 5
    have qO6 : W9.cell? ⟨(N + 1), 6, none⟩ = some (.slice t6 q6 c6) := cell_at HO.out 6
    have qOz : ∀ j, W9.frozen? ⟨(N + 1), j, none⟩ = false := fun j => free_at HO.out j
    have qOl : (N + 1) < W9.heap.size := HO.out.lt
    have qA0 : W9.cell? ⟨(N + 1 + 1), 0, none⟩ = some (.int .i64 161) := cell_at HA.out 0
    have qA1 : W9.cell? ⟨(N + 1 + 1), 1, none⟩ = some (.int .i64 0) := cell_at HA.out 1
    have qA2 : W9.cell? ⟨(N + 1 + 1), 2, none⟩ = some (.int .i64 0) := cell_at HA.out 2
    have qA3 : W9.cell? ⟨(N + 1 + 1), 3, none⟩ = some (.int .i64 0) := cell_at HA.out 3
    have qA4 : W9.cell? ⟨(N + 1 + 1), 4, none⟩ = some (.int .i64 0) := cell_at HA.out 4
    have qAz : ∀ j, W9.frozen? ⟨(N + 1 + 1), j, none⟩ = false := fun j => free_at HA.out j
    have qAl : (N + 1 + 1) < W9.heap.size := HA.out.lt
    exact bodyPost_ret (v := .tuple #[.agg #[.int .i64 s.term, .int .i64 s.stamp, .int .i64 s.next, .slice t9 q9 c9, .slice t8 q8 c8, .slice t7 q7 c7, .slice t6 q6 c6], .agg #[.int .i64 161, .int .i64 0, .int .i64 0, .int .i64 0, .int .i64 0]]) (by simp [results, Try.results21, go_sem, qO0, qO1, qO2, qO3, qO4, qO5, qO6, qA0, qA1, qA2, qA3, qA4]) rfl ⟨_, (by rw [HRA.out, if_neg (by rw [HGX.out]; first | decide | assumption), HGX.out]; rfl), (by rw [HR9.out, if_neg (by rw [HGX.out]; first | decide | assumption)]; exact ⟨_, _, _, _, rfl, HQ9.out, P2.out.v, P3.out.v, P4.out.v⟩), HB.out⟩
  cases yg
  rotate_left
  · skip
    have hge : ge = 161 := by rw [HGE.out]; rw [if_pos (.inr rfl)]
    have HGX := zh hge
    clear hge
    have qR0 : W6.cell? ⟨N, 0, none⟩ = some (.int .i64 s.term) := cell_at HR.out 0
    have qR1 : W6.cell? ⟨N, 1, none⟩ = some (.int .i64 s.stamp) := cell_at HR.out 1
    have qR2 : W6.cell? ⟨N, 2, none⟩ = some (.int .i64 s.next) := cell_at HR.out 2
    have qR3 : W6.cell? ⟨N, 3, none⟩ = some (.slice ta tn tc) := cell_at HR.out 3
    have qR4 : W6.cell? ⟨N, 4, none⟩ = some (.slice la ln lc) := cell_at HR.out 4
    have qR5 : W6.cell? ⟨N, 5, none⟩ = some (.slice sa sn sc) := cell_at HR.out 5
    have qR6 : W6.cell? ⟨N, 6, none⟩ = some (.slice da dn dc) := cell_at HR.out 6
    have qRl : N < W6.heap.size := HR.out.lt
    have qT90 : W6.cell? ⟨T9, 0, none⟩ = some (.int .i64 y.id) := cell_at HT9.out 0
    have qT91 : W6.cell? ⟨T9, 1, none⟩ = some (.int .i64 y.rate) := cell_at HT9.out 1
    have qT92 : W6.cell? ⟨T9, 2, none⟩ = some (.int .i64 y.burst) := cell_at HT9.out 2
    have qT93 : W6.cell? ⟨T9, 3, none⟩ = some (.int .i64 yk) := cell_at HT9.out 3
    have qT94 : W6.cell? ⟨T9, 4, none⟩ = some (.bool true) := cell_at HT9.out 4
    have qT9z : ∀ j, W6.frozen? ⟨T9, j, none⟩ = false := fun j => free_at HT9.out j
    have qT9l : T9 < W6.heap.size := HT9.out.lt
    have FP0 := zh HA.out.lt
    go_wp2_with fail
    go_at_call 49
    go_fit (HRF.out 161 _ _ (HSV.out _ HT.out HL.out HS.out HD.out))
    rintro e W7 ⟨hc9, hB⟩
    clear qR0 qR1 qR2 qR3 qR4 qR5 qR6 qRl qT90 qT91 qT92 qT93 qT94 qT9z qT9l
    replace HB:=zh (HB.out.trans (hB.mono HB.out.size))
    replace HT:=zh (HT0.out.below HB.out)
    replace HL:=zh (HL0.out.below HB.out)
    replace HS:=zh (HS0.out.below HB.out)
    replace HD:=zh (HD0.out.below HB.out)
    replace HR:=zh (HR.out.step hB)
    replace HO:=zh (HO.out.step hB)
    replace HA:=zh (HA.out.step hB)
    replace HT9:=zh (HT9.out.step hB)
    clear hB
    replace hc9 : ∃ vt vl vs vd ol os od, e = .returned (.tuple #[.agg #[.int .i64 s.term, .int .i64 s.stamp, .int .i64 s.next, vt, vl, vs, vd], ansG 161 0 0 0 0]) ∧ TV W7 vt (sweptS s).ts ∧ LeO W6.heap.size W7 vl ol s.ls ∧ SeO W6.heap.size W7 vs os s.ss ∧ DkO W6.heap.size W7 vd od s.ds := by
      rcases hc9 with ⟨h9, _⟩ | ⟨_, h9⟩
      · exact absurd h9 (by decide)
      · exact h9
    obtain ⟨vt9, vl9, vs9, vd9, ol9, os9, od9, rfl, ht9, hl9, hs9, hd9⟩ := hc9
    unfold ansG
    obtain ⟨t9, q9, c9, rfl, _, _, _⟩ := ht9.sh
    obtain ⟨t8, q8, c8, rfl, _, _, _⟩ := hl9.v.sh
    obtain ⟨t7, q7, c7, rfl, _, _, _⟩ := hs9.v.sh
    obtain ⟨t6, q6, c6, rfl, _, _, _⟩ := hd9.v.sh
    have HQ9 := zh ht9
    have P2 := zh hl9
    have P3 := zh hs9
    have P4 := zh hd9
    have FP2:=zh (show (N + 1 + 1) < W6.heap.size from FP0.out)
    have FP3 := FP2
    have FP4 := FP2
    clear ht9 hl9 hs9 hd9
    have qO0 : W7.cell? ⟨(N + 1), 0, none⟩ = some (.int .i64 0) := cell_at HO.out 0
    have qO1 : W7.cell? ⟨(N + 1), 1, none⟩ = some (.int .i64 0) := cell_at HO.out 1
    have qO2 : W7.cell? ⟨(N + 1), 2, none⟩ = some (.int .i64 0) := cell_at HO.out 2
    have qO3 : W7.cell? ⟨(N + 1), 3, none⟩ = some (.slice none 0 0) := cell_at HO.out 3
    have qO4 : W7.cell? ⟨(N + 1), 4, none⟩ = some (.slice none 0 0) := cell_at HO.out 4
    have qO5 : W7.cell? ⟨(N + 1), 5, none⟩ = some (.slice none 0 0) := cell_at HO.out 5
    have qO6 : W7.cell? ⟨(N + 1), 6, none⟩ = some (.slice none 0 0) := cell_at HO.out 6
    have qOz : ∀ j, W7.frozen? ⟨(N + 1), j, none⟩ = false := fun j => free_at HO.out j
    have qOl : (N + 1) < W7.heap.size := HO.out.lt
    have qA0 : W7.cell? ⟨(N + 1 + 1), 0, none⟩ = some (.int .i64 0) := cell_at HA.out 0
    have qA1 : W7.cell? ⟨(N + 1 + 1), 1, none⟩ = some (.int .i64 0) := cell_at HA.out 1
    have qA2 : W7.cell? ⟨(N + 1 + 1), 2, none⟩ = some (.int .i64 0) := cell_at HA.out 2
    have qA3 : W7.cell? ⟨(N + 1 + 1), 3, none⟩ = some (.int .i64 0) := cell_at HA.out 3
    have qA4 : W7.cell? ⟨(N + 1 + 1), 4, none⟩ = some (.int .i64 0) := cell_at HA.out 4
    have qAz : ∀ j, W7.frozen? ⟨(N + 1 + 1), j, none⟩ = false := fun j => free_at HA.out j
    have qAl : (N + 1 + 1) < W7.heap.size := HA.out.lt
    go_wp2_with fail
    clear qO0 qO1 qO2 qO3 qO4 qO5 qO6 qOz qOl qA0 qA1 qA2 qA3 qA4 qAz qAl
    obtain ⟨LS, hLS⟩ : ∃ L : List Value, L = [.int .i64 s.term, .int .i64 s.stamp, .int .i64 s.next, .slice t9 q9 c9, .slice t8 q8 c8, .slice t7 q7 c7, .slice t6 q6 c6] := ⟨_, rfl⟩
    obtain ⟨W8, hWS⟩ : ∃ WS, WS = W7.setCells (N + 1) 0 LS := ⟨_, rfl⟩
    have hch := hWS
    rw [hLS] at hch
    simp only [World.setCells, Nat.zero_add, Nat.reduceAdd] at hch
    rw [← hch]
    clear hch
    have hkS := stC_blk HO.out LS (by rw [hLS]; rfl)
    have hfS := stC_fr (N + 1) LS 0 W7
    rw [← hWS] at hkS hfS
    rw [hLS] at hkS
    replace HB:=zh (HB.out.trans (hfS.below HB.out.size (by have := HLON.out; simp; try omega)))
    replace HA:=zh (show Blk W8 (N + 1 + 1) #[.int .i64 0, .int .i64 0, .int .i64 0, .int .i64 0, .int .i64 0] 41 from (hfS.block _ HA.out.lt (by have hx0 := HXT9HR.out; have hx1 := HXT9HO.out; have hx2 := HXT9HA.out; simp; try omega)).trans HA.out)
    replace HQ9:=zh (HQ9.out.fr HO.out hfS)
    replace P2:=zh (P2.out.fr hfS (by have := FP2.out; omega))
    replace P3:=zh (P3.out.fr hfS (by have := FP3.out; omega))
    replace P4:=zh (P4.out.fr hfS (by have := FP4.out; omega))
    replace HO:=zh (show Blk W8 (N + 1) #[.int .i64 s.term, .int .i64 s.stamp, .int .i64 s.next, .slice t9 q9 c9, .slice t8 q8 c8, .slice t7 q7 c7, .slice t6 q6 c6] 27 from hkS)
    clear hWS hLS hkS hfS
    obtain ⟨LS, hLS⟩ : ∃ L : List Value, L = [.int .i64 161, .int .i64 0, .int .i64 0, .int .i64 0, .int .i64 0] := ⟨_, rfl⟩
    obtain ⟨W9, hWS⟩ : ∃ WS, WS = W8.setCells (N + 1 + 1) 0 LS := ⟨_, rfl⟩
    have hch := hWS
    rw [hLS] at hch
    simp only [World.setCells, Nat.zero_add, Nat.reduceAdd] at hch
    rw [← hch]
    clear hch
    have hkS := stC_blk HA.out LS (by rw [hLS]; rfl)
    have hfS := stC_fr (N + 1 + 1) LS 0 W8
    rw [← hWS] at hkS hfS
    rw [hLS] at hkS
    replace HB:=zh (HB.out.trans (hfS.below HB.out.size (by have := HLON.out; simp; try omega)))
    replace HO:=zh (show Blk W9 (N + 1) #[.int .i64 s.term, .int .i64 s.stamp, .int .i64 s.next, .slice t9 q9 c9, .slice t8 q8 c8, .slice t7 q7 c7, .slice t6 q6 c6] 27 from (hfS.block _ HO.out.lt (by have hx0 := HXT9HR.out; have hx1 := HXT9HO.out; have hx2 := HXT9HA.out; simp; try omega)).trans HO.out)
    replace HQ9:=zh (HQ9.out.fr HA.out hfS)
    replace P2:=zh (P2.out.fr hfS (by have := FP2.out; omega))
    replace P3:=zh (P3.out.fr hfS (by have := FP3.out; omega))
    replace P4:=zh (P4.out.fr hfS (by have := FP4.out; omega))
    replace HA:=zh (show Blk W9 (N + 1 + 1) #[.int .i64 161, .int .i64 0, .int .i64 0, .int .i64 0, .int .i64 0] 41 from hkS)
    clear hWS hLS hkS hfS
    have qO0 : W9.cell? ⟨(N + 1), 0, none⟩ = some (.int .i64 s.term) := cell_at HO.out 0
    have qO1 : W9.cell? ⟨(N + 1), 1, none⟩ = some (.int .i64 s.stamp) := cell_at HO.out 1
    have qO2 : W9.cell? ⟨(N + 1), 2, none⟩ = some (.int .i64 s.next) := cell_at HO.out 2
    have qO3 : W9.cell? ⟨(N + 1), 3, none⟩ = some (.slice t9 q9 c9) := cell_at HO.out 3
    have qO4 : W9.cell? ⟨(N + 1), 4, none⟩ = some (.slice t8 q8 c8) := cell_at HO.out 4
    have qO5 : W9.cell? ⟨(N + 1), 5, none⟩ = some (.slice t7 q7 c7) := cell_at HO.out 5
    have qO6 : W9.cell? ⟨(N + 1), 6, none⟩ = some (.slice t6 q6 c6) := cell_at HO.out 6
    have qOz : ∀ j, W9.frozen? ⟨(N + 1), j, none⟩ = false := fun j => free_at HO.out j
    have qOl : (N + 1) < W9.heap.size := HO.out.lt
    have qA0 : W9.cell? ⟨(N + 1 + 1), 0, none⟩ = some (.int .i64 161) := cell_at HA.out 0
    have qA1 : W9.cell? ⟨(N + 1 + 1), 1, none⟩ = some (.int .i64 0) := cell_at HA.out 1
    have qA2 : W9.cell? ⟨(N + 1 + 1), 2, none⟩ = some (.int .i64 0) := cell_at HA.out 2
    have qA3 : W9.cell? ⟨(N + 1 + 1), 3, none⟩ = some (.int .i64 0) := cell_at HA.out 3
    have qA4 : W9.cell? ⟨(N + 1 + 1), 4, none⟩ = some (.int .i64 0) := cell_at HA.out 4
    have qAz : ∀ j, W9.frozen? ⟨(N + 1 + 1), j, none⟩ = false := fun j => free_at HA.out j
    have qAl : (N + 1 + 1) < W9.heap.size := HA.out.lt
    exact bodyPost_ret (v := .tuple #[.agg #[.int .i64 s.term, .int .i64 s.stamp, .int .i64 s.next, .slice t9 q9 c9, .slice t8 q8 c8, .slice t7 q7 c7, .slice t6 q6 c6], .agg #[.int .i64 161, .int .i64 0, .int .i64 0, .int .i64 0, .int .i64 0]]) (by simp [results, Try.results21, go_sem, qO0, qO1, qO2, qO3, qO4, qO5, qO6, qA0, qA1, qA2, qA3, qA4]) rfl ⟨_, (by rw [HRA.out, if_neg (by rw [HGX.out]; first | decide | assumption), HGX.out]; rfl), (by rw [HR9.out, if_neg (by rw [HGX.out]; first | decide | assumption)]; exact ⟨_, _, _, _, rfl, HQ9.out, P2.out.v, P3.out.v, P4.out.v⟩), HB.out⟩
  replace HGE : Hid (ge = if 64 ≤ s.ls.length ∨ 1099511627776 ≤ s.next then 100 else e0):=zh (by rw [HGE.out, if_neg (by simp)])
  by_cases hc : 64 ≤ ln
  · skip
    have ttc : decide ((64 : Int) ≤ (ln : Int)) = true := decide_eq_true (by omega)
    have hge : ge = 100 := by rw [HGE.out]; rw [if_pos (.inl (by rw [← Hln.out]; exact hc))]
    have HGX := zh hge
    clear hge
    have qR0 : W6.cell? ⟨N, 0, none⟩ = some (.int .i64 s.term) := cell_at HR.out 0
    have qR1 : W6.cell? ⟨N, 1, none⟩ = some (.int .i64 s.stamp) := cell_at HR.out 1
    have qR2 : W6.cell? ⟨N, 2, none⟩ = some (.int .i64 s.next) := cell_at HR.out 2
    have qR3 : W6.cell? ⟨N, 3, none⟩ = some (.slice ta tn tc) := cell_at HR.out 3
    have qR4 : W6.cell? ⟨N, 4, none⟩ = some (.slice la ln lc) := cell_at HR.out 4
    have qR5 : W6.cell? ⟨N, 5, none⟩ = some (.slice sa sn sc) := cell_at HR.out 5
    have qR6 : W6.cell? ⟨N, 6, none⟩ = some (.slice da dn dc) := cell_at HR.out 6
    have qRl : N < W6.heap.size := HR.out.lt
    have qT90 : W6.cell? ⟨T9, 0, none⟩ = some (.int .i64 y.id) := cell_at HT9.out 0
    have qT91 : W6.cell? ⟨T9, 1, none⟩ = some (.int .i64 y.rate) := cell_at HT9.out 1
    have qT92 : W6.cell? ⟨T9, 2, none⟩ = some (.int .i64 y.burst) := cell_at HT9.out 2
    have qT93 : W6.cell? ⟨T9, 3, none⟩ = some (.int .i64 yk) := cell_at HT9.out 3
    have qT94 : W6.cell? ⟨T9, 4, none⟩ = some (.bool false) := cell_at HT9.out 4
    have qT9z : ∀ j, W6.frozen? ⟨T9, j, none⟩ = false := fun j => free_at HT9.out j
    have qT9l : T9 < W6.heap.size := HT9.out.lt
    have FP0 := zh HA.out.lt
    go_wp2_with fail
    go_at_call 49
    go_fit (HRF.out 100 _ _ (HSV.out _ HT.out HL.out HS.out HD.out))
    rintro e W7 ⟨hc9, hB⟩
    clear qR0 qR1 qR2 qR3 qR4 qR5 qR6 qRl qT90 qT91 qT92 qT93 qT94 qT9z qT9l
    replace HB:=zh (HB.out.trans (hB.mono HB.out.size))
    replace HT:=zh (HT0.out.below HB.out)
    replace HL:=zh (HL0.out.below HB.out)
    replace HS:=zh (HS0.out.below HB.out)
    replace HD:=zh (HD0.out.below HB.out)
    replace HR:=zh (HR.out.step hB)
    replace HO:=zh (HO.out.step hB)
    replace HA:=zh (HA.out.step hB)
    replace HT9:=zh (HT9.out.step hB)
    clear hB
    replace hc9 : ∃ vt vl vs vd ol os od, e = .returned (.tuple #[.agg #[.int .i64 s.term, .int .i64 s.stamp, .int .i64 s.next, vt, vl, vs, vd], ansG 100 0 0 0 0]) ∧ TV W7 vt (sweptS s).ts ∧ LeO W6.heap.size W7 vl ol s.ls ∧ SeO W6.heap.size W7 vs os s.ss ∧ DkO W6.heap.size W7 vd od s.ds := by
      rcases hc9 with ⟨h9, _⟩ | ⟨_, h9⟩
      · exact absurd h9 (by decide)
      · exact h9
    obtain ⟨vt9, vl9, vs9, vd9, ol9, os9, od9, rfl, ht9, hl9, hs9, hd9⟩ := hc9
    unfold ansG
    obtain ⟨t9, q9, c9, rfl, _, _, _⟩ := ht9.sh
    obtain ⟨t8, q8, c8, rfl, _, _, _⟩ := hl9.v.sh
    obtain ⟨t7, q7, c7, rfl, _, _, _⟩ := hs9.v.sh
    obtain ⟨t6, q6, c6, rfl, _, _, _⟩ := hd9.v.sh
    have HQ9 := zh ht9
    have P2 := zh hl9
    have P3 := zh hs9
    have P4 := zh hd9
    have FP2:=zh (show (N + 1 + 1) < W6.heap.size from FP0.out)
    have FP3 := FP2
    have FP4 := FP2
    clear ht9 hl9 hs9 hd9
    have qO0 : W7.cell? ⟨(N + 1), 0, none⟩ = some (.int .i64 0) := cell_at HO.out 0
    have qO1 : W7.cell? ⟨(N + 1), 1, none⟩ = some (.int .i64 0) := cell_at HO.out 1
    have qO2 : W7.cell? ⟨(N + 1), 2, none⟩ = some (.int .i64 0) := cell_at HO.out 2
    have qO3 : W7.cell? ⟨(N + 1), 3, none⟩ = some (.slice none 0 0) := cell_at HO.out 3
    have qO4 : W7.cell? ⟨(N + 1), 4, none⟩ = some (.slice none 0 0) := cell_at HO.out 4
    have qO5 : W7.cell? ⟨(N + 1), 5, none⟩ = some (.slice none 0 0) := cell_at HO.out 5
    have qO6 : W7.cell? ⟨(N + 1), 6, none⟩ = some (.slice none 0 0) := cell_at HO.out 6
    have qOz : ∀ j, W7.frozen? ⟨(N + 1), j, none⟩ = false := fun j => free_at HO.out j
    have qOl : (N + 1) < W7.heap.size := HO.out.lt
    have qA0 : W7.cell? ⟨(N + 1 + 1), 0, none⟩ = some (.int .i64 0) := cell_at HA.out 0
    have qA1 : W7.cell? ⟨(N + 1 + 1), 1, none⟩ = some (.int .i64 0) := cell_at HA.out 1
    have qA2 : W7.cell? ⟨(N + 1 + 1), 2, none⟩ = some (.int .i64 0) := cell_at HA.out 2
    have qA3 : W7.cell? ⟨(N + 1 + 1), 3, none⟩ = some (.int .i64 0) := cell_at HA.out 3
    have qA4 : W7.cell? ⟨(N + 1 + 1), 4, none⟩ = some (.int .i64 0) := cell_at HA.out 4
    have qAz : ∀ j, W7.frozen? ⟨(N + 1 + 1), j, none⟩ = false := fun j => free_at HA.out j
    have qAl : (N + 1 + 1) < W7.heap.size := HA.out.lt
    go_wp2_with fail
    clear qO0 qO1 qO2 qO3 qO4 qO5 qO6 qOz qOl qA0 qA1 qA2 qA3 qA4 qAz qAl
    obtain ⟨LS, hLS⟩ : ∃ L : List Value, L = [.int .i64 s.term, .int .i64 s.stamp, .int .i64 s.next, .slice t9 q9 c9, .slice t8 q8 c8, .slice t7 q7 c7, .slice t6 q6 c6] := ⟨_, rfl⟩
    obtain ⟨W8, hWS⟩ : ∃ WS, WS = W7.setCells (N + 1) 0 LS := ⟨_, rfl⟩
    have hch := hWS
    rw [hLS] at hch
    simp only [World.setCells, Nat.zero_add, Nat.reduceAdd] at hch
    rw [← hch]
    clear hch
    have hkS := stC_blk HO.out LS (by rw [hLS]; rfl)
    have hfS := stC_fr (N + 1) LS 0 W7
    rw [← hWS] at hkS hfS
    rw [hLS] at hkS
    replace HB:=zh (HB.out.trans (hfS.below HB.out.size (by have := HLON.out; simp; try omega)))
    replace HA:=zh (show Blk W8 (N + 1 + 1) #[.int .i64 0, .int .i64 0, .int .i64 0, .int .i64 0, .int .i64 0] 41 from (hfS.block _ HA.out.lt (by have hx0 := HXT9HR.out; have hx1 := HXT9HO.out; have hx2 := HXT9HA.out; simp; try omega)).trans HA.out)
    replace HQ9:=zh (HQ9.out.fr HO.out hfS)
    replace P2:=zh (P2.out.fr hfS (by have := FP2.out; omega))
    replace P3:=zh (P3.out.fr hfS (by have := FP3.out; omega))
    replace P4:=zh (P4.out.fr hfS (by have := FP4.out; omega))
    replace HO:=zh (show Blk W8 (N + 1) #[.int .i64 s.term, .int .i64 s.stamp, .int .i64 s.next, .slice t9 q9 c9, .slice t8 q8 c8, .slice t7 q7 c7, .slice t6 q6 c6] 27 from hkS)
    clear hWS hLS hkS hfS
    obtain ⟨LS, hLS⟩ : ∃ L : List Value, L = [.int .i64 100, .int .i64 0, .int .i64 0, .int .i64 0, .int .i64 0] := ⟨_, rfl⟩
    obtain ⟨W9, hWS⟩ : ∃ WS, WS = W8.setCells (N + 1 + 1) 0 LS := ⟨_, rfl⟩
    have hch := hWS
    rw [hLS] at hch
    simp only [World.setCells, Nat.zero_add, Nat.reduceAdd] at hch
    rw [← hch]
    clear hch
    have hkS := stC_blk HA.out LS (by rw [hLS]; rfl)
    have hfS := stC_fr (N + 1 + 1) LS 0 W8
    rw [← hWS] at hkS hfS
    rw [hLS] at hkS
    replace HB:=zh (HB.out.trans (hfS.below HB.out.size (by have := HLON.out; simp; try omega)))
    replace HO:=zh (show Blk W9 (N + 1) #[.int .i64 s.term, .int .i64 s.stamp, .int .i64 s.next, .slice t9 q9 c9, .slice t8 q8 c8, .slice t7 q7 c7, .slice t6 q6 c6] 27 from (hfS.block _ HO.out.lt (by have hx0 := HXT9HR.out; have hx1 := HXT9HO.out; have hx2 := HXT9HA.out; simp; try omega)).trans HO.out)
    replace HQ9:=zh (HQ9.out.fr HA.out hfS)
    replace P2:=zh (P2.out.fr hfS (by have := FP2.out; omega))
    replace P3:=zh (P3.out.fr hfS (by have := FP3.out; omega))
    replace P4:=zh (P4.out.fr hfS (by have := FP4.out; omega))
    replace HA:=zh (show Blk W9 (N + 1 + 1) #[.int .i64 100, .int .i64 0, .int .i64 0, .int .i64 0, .int .i64 0] 41 from hkS)
    clear hWS hLS hkS hfS
    have qO0 : W9.cell? ⟨(N + 1), 0, none⟩ = some (.int .i64 s.term) := cell_at HO.out 0
    have qO1 : W9.cell? ⟨(N + 1), 1, none⟩ = some (.int .i64 s.stamp) := cell_at HO.out 1
    have qO2 : W9.cell? ⟨(N + 1), 2, none⟩ = some (.int .i64 s.next) := cell_at HO.out 2
    have qO3 : W9.cell? ⟨(N + 1), 3, none⟩ = some (.slice t9 q9 c9) := cell_at HO.out 3
    have qO4 : W9.cell? ⟨(N + 1), 4, none⟩ = some (.slice t8 q8 c8) := cell_at HO.out 4
    have qO5 : W9.cell? ⟨(N + 1), 5, none⟩ = some (.slice t7 q7 c7) := cell_at HO.out 5
    have qO6 : W9.cell? ⟨(N + 1), 6, none⟩ = some (.slice t6 q6 c6) := cell_at HO.out 6
    have qOz : ∀ j, W9.frozen? ⟨(N + 1), j, none⟩ = false := fun j => free_at HO.out j
    have qOl : (N + 1) < W9.heap.size := HO.out.lt
    have qA0 : W9.cell? ⟨(N + 1 + 1), 0, none⟩ = some (.int .i64 100) := cell_at HA.out 0
    have qA1 : W9.cell? ⟨(N + 1 + 1), 1, none⟩ = some (.int .i64 0) := cell_at HA.out 1
    have qA2 : W9.cell? ⟨(N + 1 + 1), 2, none⟩ = some (.int .i64 0) := cell_at HA.out 2
    have qA3 : W9.cell? ⟨(N + 1 + 1), 3, none⟩ = some (.int .i64 0) := cell_at HA.out 3
    have qA4 : W9.cell? ⟨(N + 1 + 1), 4, none⟩ = some (.int .i64 0) := cell_at HA.out 4
    have qAz : ∀ j, W9.frozen? ⟨(N + 1 + 1), j, none⟩ = false := fun j => free_at HA.out j
    have qAl : (N + 1 + 1) < W9.heap.size := HA.out.lt
    exact bodyPost_ret (v := .tuple #[.agg #[.int .i64 s.term, .int .i64 s.stamp, .int .i64 s.next, .slice t9 q9 c9, .slice t8 q8 c8, .slice t7 q7 c7, .slice t6 q6 c6], .agg #[.int .i64 100, .int .i64 0, .int .i64 0, .int .i64 0, .int .i64 0]]) (by simp [results, Try.results21, go_sem, qO0, qO1, qO2, qO3, qO4, qO5, qO6, qA0, qA1, qA2, qA3, qA4]) rfl ⟨_, (by rw [HRA.out, if_neg (by rw [HGX.out]; first | decide | assumption), HGX.out]; rfl), (by rw [HR9.out, if_neg (by rw [HGX.out]; first | decide | assumption)]; exact ⟨_, _, _, _, rfl, HQ9.out, P2.out.v, P3.out.v, P4.out.v⟩), HB.out⟩
  have ttc : decide ((64 : Int) ≤ (ln : Int)) = false := decide_eq_false (by omega)
  by_cases hd : 1099511627776 ≤ s.next
  · skip
    have ttd : decide (1099511627776 ≤ s.next) = true := decide_eq_true hd
    have hge : ge = 100 := by rw [HGE.out]; rw [if_pos (.inr hd)]
    have HGX := zh hge
    clear hge
    have qR0 : W6.cell? ⟨N, 0, none⟩ = some (.int .i64 s.term) := cell_at HR.out 0
    have qR1 : W6.cell? ⟨N, 1, none⟩ = some (.int .i64 s.stamp) := cell_at HR.out 1
    have qR2 : W6.cell? ⟨N, 2, none⟩ = some (.int .i64 s.next) := cell_at HR.out 2
    have qR3 : W6.cell? ⟨N, 3, none⟩ = some (.slice ta tn tc) := cell_at HR.out 3
    have qR4 : W6.cell? ⟨N, 4, none⟩ = some (.slice la ln lc) := cell_at HR.out 4
    have qR5 : W6.cell? ⟨N, 5, none⟩ = some (.slice sa sn sc) := cell_at HR.out 5
    have qR6 : W6.cell? ⟨N, 6, none⟩ = some (.slice da dn dc) := cell_at HR.out 6
    have qRl : N < W6.heap.size := HR.out.lt
    have qT90 : W6.cell? ⟨T9, 0, none⟩ = some (.int .i64 y.id) := cell_at HT9.out 0
    have qT91 : W6.cell? ⟨T9, 1, none⟩ = some (.int .i64 y.rate) := cell_at HT9.out 1
    have qT92 : W6.cell? ⟨T9, 2, none⟩ = some (.int .i64 y.burst) := cell_at HT9.out 2
    have qT93 : W6.cell? ⟨T9, 3, none⟩ = some (.int .i64 yk) := cell_at HT9.out 3
    have qT94 : W6.cell? ⟨T9, 4, none⟩ = some (.bool false) := cell_at HT9.out 4
    have qT9z : ∀ j, W6.frozen? ⟨T9, j, none⟩ = false := fun j => free_at HT9.out j
    have qT9l : T9 < W6.heap.size := HT9.out.lt
    have FP0 := zh HA.out.lt
    go_wp2_with fail
    go_at_call 49
    go_fit (HRF.out 100 _ _ (HSV.out _ HT.out HL.out HS.out HD.out))
    rintro e W7 ⟨hc9, hB⟩
    clear qR0 qR1 qR2 qR3 qR4 qR5 qR6 qRl qT90 qT91 qT92 qT93 qT94 qT9z qT9l
    replace HB:=zh (HB.out.trans (hB.mono HB.out.size))
    replace HT:=zh (HT0.out.below HB.out)
    replace HL:=zh (HL0.out.below HB.out)
    replace HS:=zh (HS0.out.below HB.out)
    replace HD:=zh (HD0.out.below HB.out)
    replace HR:=zh (HR.out.step hB)
    replace HO:=zh (HO.out.step hB)
    replace HA:=zh (HA.out.step hB)
    replace HT9:=zh (HT9.out.step hB)
    clear hB
    replace hc9 : ∃ vt vl vs vd ol os od, e = .returned (.tuple #[.agg #[.int .i64 s.term, .int .i64 s.stamp, .int .i64 s.next, vt, vl, vs, vd], ansG 100 0 0 0 0]) ∧ TV W7 vt (sweptS s).ts ∧ LeO W6.heap.size W7 vl ol s.ls ∧ SeO W6.heap.size W7 vs os s.ss ∧ DkO W6.heap.size W7 vd od s.ds := by
      rcases hc9 with ⟨h9, _⟩ | ⟨_, h9⟩
      · exact absurd h9 (by decide)
      · exact h9
    obtain ⟨vt9, vl9, vs9, vd9, ol9, os9, od9, rfl, ht9, hl9, hs9, hd9⟩ := hc9
    unfold ansG
    obtain ⟨t9, q9, c9, rfl, _, _, _⟩ := ht9.sh
    obtain ⟨t8, q8, c8, rfl, _, _, _⟩ := hl9.v.sh
    obtain ⟨t7, q7, c7, rfl, _, _, _⟩ := hs9.v.sh
    obtain ⟨t6, q6, c6, rfl, _, _, _⟩ := hd9.v.sh
    have HQ9 := zh ht9
    have P2 := zh hl9
    have P3 := zh hs9
    have P4 := zh hd9
    have FP2:=zh (show (N + 1 + 1) < W6.heap.size from FP0.out)
    have FP3 := FP2
    have FP4 := FP2
    clear ht9 hl9 hs9 hd9
    have qO0 : W7.cell? ⟨(N + 1), 0, none⟩ = some (.int .i64 0) := cell_at HO.out 0
    have qO1 : W7.cell? ⟨(N + 1), 1, none⟩ = some (.int .i64 0) := cell_at HO.out 1
    have qO2 : W7.cell? ⟨(N + 1), 2, none⟩ = some (.int .i64 0) := cell_at HO.out 2
    have qO3 : W7.cell? ⟨(N + 1), 3, none⟩ = some (.slice none 0 0) := cell_at HO.out 3
    have qO4 : W7.cell? ⟨(N + 1), 4, none⟩ = some (.slice none 0 0) := cell_at HO.out 4
    have qO5 : W7.cell? ⟨(N + 1), 5, none⟩ = some (.slice none 0 0) := cell_at HO.out 5
    have qO6 : W7.cell? ⟨(N + 1), 6, none⟩ = some (.slice none 0 0) := cell_at HO.out 6
    have qOz : ∀ j, W7.frozen? ⟨(N + 1), j, none⟩ = false := fun j => free_at HO.out j
    have qOl : (N + 1) < W7.heap.size := HO.out.lt
    have qA0 : W7.cell? ⟨(N + 1 + 1), 0, none⟩ = some (.int .i64 0) := cell_at HA.out 0
    have qA1 : W7.cell? ⟨(N + 1 + 1), 1, none⟩ = some (.int .i64 0) := cell_at HA.out 1
    have qA2 : W7.cell? ⟨(N + 1 + 1), 2, none⟩ = some (.int .i64 0) := cell_at HA.out 2
    have qA3 : W7.cell? ⟨(N + 1 + 1), 3, none⟩ = some (.int .i64 0) := cell_at HA.out 3
    have qA4 : W7.cell? ⟨(N + 1 + 1), 4, none⟩ = some (.int .i64 0) := cell_at HA.out 4
    have qAz : ∀ j, W7.frozen? ⟨(N + 1 + 1), j, none⟩ = false := fun j => free_at HA.out j
    have qAl : (N + 1 + 1) < W7.heap.size := HA.out.lt
    go_wp2_with fail
    clear qO0 qO1 qO2 qO3 qO4 qO5 qO6 qOz qOl qA0 qA1 qA2 qA3 qA4 qAz qAl
    obtain ⟨LS, hLS⟩ : ∃ L : List Value, L = [.int .i64 s.term, .int .i64 s.stamp, .int .i64 s.next, .slice t9 q9 c9, .slice t8 q8 c8, .slice t7 q7 c7, .slice t6 q6 c6] := ⟨_, rfl⟩
    obtain ⟨W8, hWS⟩ : ∃ WS, WS = W7.setCells (N + 1) 0 LS := ⟨_, rfl⟩
    have hch := hWS
    rw [hLS] at hch
    simp only [World.setCells, Nat.zero_add, Nat.reduceAdd] at hch
    rw [← hch]
    clear hch
    have hkS := stC_blk HO.out LS (by rw [hLS]; rfl)
    have hfS := stC_fr (N + 1) LS 0 W7
    rw [← hWS] at hkS hfS
    rw [hLS] at hkS
    replace HB:=zh (HB.out.trans (hfS.below HB.out.size (by have := HLON.out; simp; try omega)))
    replace HA:=zh (show Blk W8 (N + 1 + 1) #[.int .i64 0, .int .i64 0, .int .i64 0, .int .i64 0, .int .i64 0] 41 from (hfS.block _ HA.out.lt (by have hx0 := HXT9HR.out; have hx1 := HXT9HO.out; have hx2 := HXT9HA.out; simp; try omega)).trans HA.out)
    replace HQ9:=zh (HQ9.out.fr HO.out hfS)
    replace P2:=zh (P2.out.fr hfS (by have := FP2.out; omega))
    replace P3:=zh (P3.out.fr hfS (by have := FP3.out; omega))
    replace P4:=zh (P4.out.fr hfS (by have := FP4.out; omega))
    replace HO:=zh (show Blk W8 (N + 1) #[.int .i64 s.term, .int .i64 s.stamp, .int .i64 s.next, .slice t9 q9 c9, .slice t8 q8 c8, .slice t7 q7 c7, .slice t6 q6 c6] 27 from hkS)
    clear hWS hLS hkS hfS
    obtain ⟨LS, hLS⟩ : ∃ L : List Value, L = [.int .i64 100, .int .i64 0, .int .i64 0, .int .i64 0, .int .i64 0] := ⟨_, rfl⟩
    obtain ⟨W9, hWS⟩ : ∃ WS, WS = W8.setCells (N + 1 + 1) 0 LS := ⟨_, rfl⟩
    have hch := hWS
    rw [hLS] at hch
    simp only [World.setCells, Nat.zero_add, Nat.reduceAdd] at hch
    rw [← hch]
    clear hch
    have hkS := stC_blk HA.out LS (by rw [hLS]; rfl)
    have hfS := stC_fr (N + 1 + 1) LS 0 W8
    rw [← hWS] at hkS hfS
    rw [hLS] at hkS
    replace HB:=zh (HB.out.trans (hfS.below HB.out.size (by have := HLON.out; simp; try omega)))
    replace HO:=zh (show Blk W9 (N + 1) #[.int .i64 s.term, .int .i64 s.stamp, .int .i64 s.next, .slice t9 q9 c9, .slice t8 q8 c8, .slice t7 q7 c7, .slice t6 q6 c6] 27 from (hfS.block _ HO.out.lt (by have hx0 := HXT9HR.out; have hx1 := HXT9HO.out; have hx2 := HXT9HA.out; simp; try omega)).trans HO.out)
    replace HQ9:=zh (HQ9.out.fr HA.out hfS)
    replace P2:=zh (P2.out.fr hfS (by have := FP2.out; omega))
    replace P3:=zh (P3.out.fr hfS (by have := FP3.out; omega))
    replace P4:=zh (P4.out.fr hfS (by have := FP4.out; omega))
    replace HA:=zh (show Blk W9 (N + 1 + 1) #[.int .i64 100, .int .i64 0, .int .i64 0, .int .i64 0, .int .i64 0] 41 from hkS)
    clear hWS hLS hkS hfS
    have qO0 : W9.cell? ⟨(N + 1), 0, none⟩ = some (.int .i64 s.term) := cell_at HO.out 0
    have qO1 : W9.cell? ⟨(N + 1), 1, none⟩ = some (.int .i64 s.stamp) := cell_at HO.out 1
    have qO2 : W9.cell? ⟨(N + 1), 2, none⟩ = some (.int .i64 s.next) := cell_at HO.out 2
    have qO3 : W9.cell? ⟨(N + 1), 3, none⟩ = some (.slice t9 q9 c9) := cell_at HO.out 3
    have qO4 : W9.cell? ⟨(N + 1), 4, none⟩ = some (.slice t8 q8 c8) := cell_at HO.out 4
    have qO5 : W9.cell? ⟨(N + 1), 5, none⟩ = some (.slice t7 q7 c7) := cell_at HO.out 5
    have qO6 : W9.cell? ⟨(N + 1), 6, none⟩ = some (.slice t6 q6 c6) := cell_at HO.out 6
    have qOz : ∀ j, W9.frozen? ⟨(N + 1), j, none⟩ = false := fun j => free_at HO.out j
    have qOl : (N + 1) < W9.heap.size := HO.out.lt
    have qA0 : W9.cell? ⟨(N + 1 + 1), 0, none⟩ = some (.int .i64 100) := cell_at HA.out 0
    have qA1 : W9.cell? ⟨(N + 1 + 1), 1, none⟩ = some (.int .i64 0) := cell_at HA.out 1
    have qA2 : W9.cell? ⟨(N + 1 + 1), 2, none⟩ = some (.int .i64 0) := cell_at HA.out 2
    have qA3 : W9.cell? ⟨(N + 1 + 1), 3, none⟩ = some (.int .i64 0) := cell_at HA.out 3
    have qA4 : W9.cell? ⟨(N + 1 + 1), 4, none⟩ = some (.int .i64 0) := cell_at HA.out 4
    have qAz : ∀ j, W9.frozen? ⟨(N + 1 + 1), j, none⟩ = false := fun j => free_at HA.out j
    have qAl : (N + 1 + 1) < W9.heap.size := HA.out.lt
    exact bodyPost_ret (v := .tuple #[.agg #[.int .i64 s.term, .int .i64 s.stamp, .int .i64 s.next, .slice t9 q9 c9, .slice t8 q8 c8, .slice t7 q7 c7, .slice t6 q6 c6], .agg #[.int .i64 100, .int .i64 0, .int .i64 0, .int .i64 0, .int .i64 0]]) (by simp [results, Try.results21, go_sem, qO0, qO1, qO2, qO3, qO4, qO5, qO6, qA0, qA1, qA2, qA3, qA4]) rfl ⟨_, (by rw [HRA.out, if_neg (by rw [HGX.out]; first | decide | assumption), HGX.out]; rfl), (by rw [HR9.out, if_neg (by rw [HGX.out]; first | decide | assumption)]; exact ⟨_, _, _, _, rfl, HQ9.out, P2.out.v, P3.out.v, P4.out.v⟩), HB.out⟩
  have ttd : decide (1099511627776 ≤ s.next) = false := decide_eq_false hd
  replace HGE : Hid (ge = e0):=zh (by rw [HGE.out, if_neg (by rw [← Hln.out]; omega)])
  have qT90 : W6.cell? ⟨T9, 0, none⟩ = some (.int .i64 y.id) := cell_at HT9.out 0
  have qT91 : W6.cell? ⟨T9, 1, none⟩ = some (.int .i64 y.rate) := cell_at HT9.out 1
  have qT92 : W6.cell? ⟨T9, 2, none⟩ = some (.int .i64 y.burst) := cell_at HT9.out 2
  have qT93 : W6.cell? ⟨T9, 3, none⟩ = some (.int .i64 yk) := cell_at HT9.out 3
  have qT94 : W6.cell? ⟨T9, 4, none⟩ = some (.bool false) := cell_at HT9.out 4
  have qT9z : ∀ j, W6.frozen? ⟨T9, j, none⟩ = false := fun j => free_at HT9.out j
  have qT9l : T9 < W6.heap.size := HT9.out.lt
  have qR0 : W6.cell? ⟨N, 0, none⟩ = some (.int .i64 s.term) := cell_at HR.out 0
  have qR1 : W6.cell? ⟨N, 1, none⟩ = some (.int .i64 s.stamp) := cell_at HR.out 1
  have qR2 : W6.cell? ⟨N, 2, none⟩ = some (.int .i64 s.next) := cell_at HR.out 2
  have qR3 : W6.cell? ⟨N, 3, none⟩ = some (.slice ta tn tc) := cell_at HR.out 3
  have qR4 : W6.cell? ⟨N, 4, none⟩ = some (.slice la ln lc) := cell_at HR.out 4
  have qR5 : W6.cell? ⟨N, 5, none⟩ = some (.slice sa sn sc) := cell_at HR.out 5
  have qR6 : W6.cell? ⟨N, 6, none⟩ = some (.slice da dn dc) := cell_at HR.out 6
  have qRl : N < W6.heap.size := HR.out.lt
  go_wp2_with fail
  go_at_call 50
  go_fit (HTK.out _)
  rintro e WK ⟨rfl, rfl⟩
  clear qT90 qT91 qT92 qT93 qT94 qT9z qT9l qR0 qR1 qR2 qR3 qR4 qR5 qR6 qRl
  by_cases hz0 : e0 = 0
  rotate_left
  · skip
    have d3 : (e0 != 0) = true := by simp [hz0]
    have d4 : decide (e0 = 0) = false := decide_eq_false hz0
    have hge : ge = e0 := by rw [HGE.out]
    have HGX := zh hge
    clear hge
    have qR0 : W6.cell? ⟨N, 0, none⟩ = some (.int .i64 s.term) := cell_at HR.out 0
    have qR1 : W6.cell? ⟨N, 1, none⟩ = some (.int .i64 s.stamp) := cell_at HR.out 1
    have qR2 : W6.cell? ⟨N, 2, none⟩ = some (.int .i64 s.next) := cell_at HR.out 2
    have qR3 : W6.cell? ⟨N, 3, none⟩ = some (.slice ta tn tc) := cell_at HR.out 3
    have qR4 : W6.cell? ⟨N, 4, none⟩ = some (.slice la ln lc) := cell_at HR.out 4
    have qR5 : W6.cell? ⟨N, 5, none⟩ = some (.slice sa sn sc) := cell_at HR.out 5
    have qR6 : W6.cell? ⟨N, 6, none⟩ = some (.slice da dn dc) := cell_at HR.out 6
    have qRl : N < W6.heap.size := HR.out.lt
    have qT90 : W6.cell? ⟨T9, 0, none⟩ = some (.int .i64 y.id) := cell_at HT9.out 0
    have qT91 : W6.cell? ⟨T9, 1, none⟩ = some (.int .i64 y.rate) := cell_at HT9.out 1
    have qT92 : W6.cell? ⟨T9, 2, none⟩ = some (.int .i64 y.burst) := cell_at HT9.out 2
    have qT93 : W6.cell? ⟨T9, 3, none⟩ = some (.int .i64 yk) := cell_at HT9.out 3
    have qT94 : W6.cell? ⟨T9, 4, none⟩ = some (.bool false) := cell_at HT9.out 4
    have qT9z : ∀ j, W6.frozen? ⟨T9, j, none⟩ = false := fun j => free_at HT9.out j
    have qT9l : T9 < W6.heap.size := HT9.out.lt
    have FP0 := zh HA.out.lt
    go_wp2_with fail
    go_at_call 49
    go_fit (HRF.out e0 _ _ (HSV.out _ HT.out HL.out HS.out HD.out))
    rintro e W7 ⟨hc9, hB⟩
    clear qR0 qR1 qR2 qR3 qR4 qR5 qR6 qRl qT90 qT91 qT92 qT93 qT94 qT9z qT9l
    replace HB:=zh (HB.out.trans (hB.mono HB.out.size))
    replace HT:=zh (HT0.out.below HB.out)
    replace HL:=zh (HL0.out.below HB.out)
    replace HS:=zh (HS0.out.below HB.out)
    replace HD:=zh (HD0.out.below HB.out)
    replace HR:=zh (HR.out.step hB)
    replace HO:=zh (HO.out.step hB)
    replace HA:=zh (HA.out.step hB)
    replace HT9:=zh (HT9.out.step hB)
    clear hB
    replace hc9 : ∃ vt vl vs vd ol os od, e = .returned (.tuple #[.agg #[.int .i64 s.term, .int .i64 s.stamp, .int .i64 s.next, vt, vl, vs, vd], ansG e0 0 0 0 0]) ∧ TV W7 vt (sweptS s).ts ∧ LeO W6.heap.size W7 vl ol s.ls ∧ SeO W6.heap.size W7 vs os s.ss ∧ DkO W6.heap.size W7 vd od s.ds := by
      rcases hc9 with ⟨h9, _⟩ | ⟨_, h9⟩
      · exact absurd h9 (by decide)
      · exact h9
    obtain ⟨vt9, vl9, vs9, vd9, ol9, os9, od9, rfl, ht9, hl9, hs9, hd9⟩ := hc9
    unfold ansG
    obtain ⟨t9, q9, c9, rfl, _, _, _⟩ := ht9.sh
    obtain ⟨t8, q8, c8, rfl, _, _, _⟩ := hl9.v.sh
    obtain ⟨t7, q7, c7, rfl, _, _, _⟩ := hs9.v.sh
    obtain ⟨t6, q6, c6, rfl, _, _, _⟩ := hd9.v.sh
    have HQ9 := zh ht9
    have P2 := zh hl9
    have P3 := zh hs9
    have P4 := zh hd9
    have FP2:=zh (show (N + 1 + 1) < W6.heap.size from FP0.out)
    have FP3 := FP2
    have FP4 := FP2
    clear ht9 hl9 hs9 hd9
    have qO0 : W7.cell? ⟨(N + 1), 0, none⟩ = some (.int .i64 0) := cell_at HO.out 0
    have qO1 : W7.cell? ⟨(N + 1), 1, none⟩ = some (.int .i64 0) := cell_at HO.out 1
    have qO2 : W7.cell? ⟨(N + 1), 2, none⟩ = some (.int .i64 0) := cell_at HO.out 2
    have qO3 : W7.cell? ⟨(N + 1), 3, none⟩ = some (.slice none 0 0) := cell_at HO.out 3
    have qO4 : W7.cell? ⟨(N + 1), 4, none⟩ = some (.slice none 0 0) := cell_at HO.out 4
    have qO5 : W7.cell? ⟨(N + 1), 5, none⟩ = some (.slice none 0 0) := cell_at HO.out 5
    have qO6 : W7.cell? ⟨(N + 1), 6, none⟩ = some (.slice none 0 0) := cell_at HO.out 6
    have qOz : ∀ j, W7.frozen? ⟨(N + 1), j, none⟩ = false := fun j => free_at HO.out j
    have qOl : (N + 1) < W7.heap.size := HO.out.lt
    have qA0 : W7.cell? ⟨(N + 1 + 1), 0, none⟩ = some (.int .i64 0) := cell_at HA.out 0
    have qA1 : W7.cell? ⟨(N + 1 + 1), 1, none⟩ = some (.int .i64 0) := cell_at HA.out 1
    have qA2 : W7.cell? ⟨(N + 1 + 1), 2, none⟩ = some (.int .i64 0) := cell_at HA.out 2
    have qA3 : W7.cell? ⟨(N + 1 + 1), 3, none⟩ = some (.int .i64 0) := cell_at HA.out 3
    have qA4 : W7.cell? ⟨(N + 1 + 1), 4, none⟩ = some (.int .i64 0) := cell_at HA.out 4
    have qAz : ∀ j, W7.frozen? ⟨(N + 1 + 1), j, none⟩ = false := fun j => free_at HA.out j
    have qAl : (N + 1 + 1) < W7.heap.size := HA.out.lt
    go_wp2_with fail
    clear qO0 qO1 qO2 qO3 qO4 qO5 qO6 qOz qOl qA0 qA1 qA2 qA3 qA4 qAz qAl
    obtain ⟨LS, hLS⟩ : ∃ L : List Value, L = [.int .i64 s.term, .int .i64 s.stamp, .int .i64 s.next, .slice t9 q9 c9, .slice t8 q8 c8, .slice t7 q7 c7, .slice t6 q6 c6] := ⟨_, rfl⟩
    obtain ⟨W8, hWS⟩ : ∃ WS, WS = W7.setCells (N + 1) 0 LS := ⟨_, rfl⟩
    have hch := hWS
    rw [hLS] at hch
    simp only [World.setCells, Nat.zero_add, Nat.reduceAdd] at hch
    rw [← hch]
    clear hch
    have hkS := stC_blk HO.out LS (by rw [hLS]; rfl)
    have hfS := stC_fr (N + 1) LS 0 W7
    rw [← hWS] at hkS hfS
    rw [hLS] at hkS
    replace HB:=zh (HB.out.trans (hfS.below HB.out.size (by have := HLON.out; simp; try omega)))
    replace HA:=zh (show Blk W8 (N + 1 + 1) #[.int .i64 0, .int .i64 0, .int .i64 0, .int .i64 0, .int .i64 0] 41 from (hfS.block _ HA.out.lt (by have hx0 := HXT9HR.out; have hx1 := HXT9HO.out; have hx2 := HXT9HA.out; simp; try omega)).trans HA.out)
    replace HQ9:=zh (HQ9.out.fr HO.out hfS)
    replace P2:=zh (P2.out.fr hfS (by have := FP2.out; omega))
    replace P3:=zh (P3.out.fr hfS (by have := FP3.out; omega))
    replace P4:=zh (P4.out.fr hfS (by have := FP4.out; omega))
    replace HO:=zh (show Blk W8 (N + 1) #[.int .i64 s.term, .int .i64 s.stamp, .int .i64 s.next, .slice t9 q9 c9, .slice t8 q8 c8, .slice t7 q7 c7, .slice t6 q6 c6] 27 from hkS)
    clear hWS hLS hkS hfS
    obtain ⟨LS, hLS⟩ : ∃ L : List Value, L = [.int .i64 e0, .int .i64 0, .int .i64 0, .int .i64 0, .int .i64 0] := ⟨_, rfl⟩
    obtain ⟨W9, hWS⟩ : ∃ WS, WS = W8.setCells (N + 1 + 1) 0 LS := ⟨_, rfl⟩
    have hch := hWS
    rw [hLS] at hch
    simp only [World.setCells, Nat.zero_add, Nat.reduceAdd] at hch
    rw [← hch]
    clear hch
    have hkS := stC_blk HA.out LS (by rw [hLS]; rfl)
    have hfS := stC_fr (N + 1 + 1) LS 0 W8
    rw [← hWS] at hkS hfS
    rw [hLS] at hkS
    replace HB:=zh (HB.out.trans (hfS.below HB.out.size (by have := HLON.out; simp; try omega)))
    replace HO:=zh (show Blk W9 (N + 1) #[.int .i64 s.term, .int .i64 s.stamp, .int .i64 s.next, .slice t9 q9 c9, .slice t8 q8 c8, .slice t7 q7 c7, .slice t6 q6 c6] 27 from (hfS.block _ HO.out.lt (by have hx0 := HXT9HR.out; have hx1 := HXT9HO.out; have hx2 := HXT9HA.out; simp; try omega)).trans HO.out)
    replace HQ9:=zh (HQ9.out.fr HA.out hfS)
    replace P2:=zh (P2.out.fr hfS (by have := FP2.out; omega))
    replace P3:=zh (P3.out.fr hfS (by have := FP3.out; omega))
    replace P4:=zh (P4.out.fr hfS (by have := FP4.out; omega))
    replace HA:=zh (show Blk W9 (N + 1 + 1) #[.int .i64 e0, .int .i64 0, .int .i64 0, .int .i64 0, .int .i64 0] 41 from hkS)
    clear hWS hLS hkS hfS
    have qO0 : W9.cell? ⟨(N + 1), 0, none⟩ = some (.int .i64 s.term) := cell_at HO.out 0
    have qO1 : W9.cell? ⟨(N + 1), 1, none⟩ = some (.int .i64 s.stamp) := cell_at HO.out 1
    have qO2 : W9.cell? ⟨(N + 1), 2, none⟩ = some (.int .i64 s.next) := cell_at HO.out 2
    have qO3 : W9.cell? ⟨(N + 1), 3, none⟩ = some (.slice t9 q9 c9) := cell_at HO.out 3
    have qO4 : W9.cell? ⟨(N + 1), 4, none⟩ = some (.slice t8 q8 c8) := cell_at HO.out 4
    have qO5 : W9.cell? ⟨(N + 1), 5, none⟩ = some (.slice t7 q7 c7) := cell_at HO.out 5
    have qO6 : W9.cell? ⟨(N + 1), 6, none⟩ = some (.slice t6 q6 c6) := cell_at HO.out 6
    have qOz : ∀ j, W9.frozen? ⟨(N + 1), j, none⟩ = false := fun j => free_at HO.out j
    have qOl : (N + 1) < W9.heap.size := HO.out.lt
    have qA0 : W9.cell? ⟨(N + 1 + 1), 0, none⟩ = some (.int .i64 e0) := cell_at HA.out 0
    have qA1 : W9.cell? ⟨(N + 1 + 1), 1, none⟩ = some (.int .i64 0) := cell_at HA.out 1
    have qA2 : W9.cell? ⟨(N + 1 + 1), 2, none⟩ = some (.int .i64 0) := cell_at HA.out 2
    have qA3 : W9.cell? ⟨(N + 1 + 1), 3, none⟩ = some (.int .i64 0) := cell_at HA.out 3
    have qA4 : W9.cell? ⟨(N + 1 + 1), 4, none⟩ = some (.int .i64 0) := cell_at HA.out 4
    have qAz : ∀ j, W9.frozen? ⟨(N + 1 + 1), j, none⟩ = false := fun j => free_at HA.out j
    have qAl : (N + 1 + 1) < W9.heap.size := HA.out.lt
    exact bodyPost_ret (v := .tuple #[.agg #[.int .i64 s.term, .int .i64 s.stamp, .int .i64 s.next, .slice t9 q9 c9, .slice t8 q8 c8, .slice t7 q7 c7, .slice t6 q6 c6], .agg #[.int .i64 e0, .int .i64 0, .int .i64 0, .int .i64 0, .int .i64 0]]) (by simp [results, Try.results21, go_sem, qO0, qO1, qO2, qO3, qO4, qO5, qO6, qA0, qA1, qA2, qA3, qA4]) rfl ⟨_, (by rw [HRA.out, if_neg (by rw [HGX.out]; first | decide | assumption), HGX.out]; rfl), (by rw [HR9.out, if_neg (by rw [HGX.out]; first | decide | assumption)]; exact ⟨_, _, _, _, rfl, HQ9.out, P2.out.v, P3.out.v, P4.out.v⟩), HB.out⟩
  have hsz12 := HSB2.out (by first | rfl | trivial)
  have hsz1 := hsz12.1
  have hsz2 := hsz12.2
  have hgz : ge = 0 := HGE.out.trans hz0
  have HGZ := zh hgz
  have hrm := take_room (HE0.out.symm.trans hz0) hbd9.1
  rw [← HLF.out] at hrm
  have HSB:=zh (setB_of (lf := lf) HCHK.out HSM.out.symm (by rw [← HY.out]; exact HYG.out.symm) (by omega) (by omega))
  rw [← HY.out] at HSB
  have HOKX : Hid (TnE.ok ⟨y.id, y.rate, y.burst, lf, false⟩) := zh ⟨HOKY.out.1, HOKY.out.2.1, HOKY.out.2.2.1, (show -9223372036854775808 ≤ lf ∧ lf ≤ 9223372036854775807 by omega), trivial⟩
  subst hz0
  clear hgz hrm HGE hsz12
  have FOA0 := zh HA.out.lt
  have qR0 : W6.cell? ⟨N, 0, none⟩ = some (.int .i64 s.term) := cell_at HR.out 0
  have qR1 : W6.cell? ⟨N, 1, none⟩ = some (.int .i64 s.stamp) := cell_at HR.out 1
  have qR2 : W6.cell? ⟨N, 2, none⟩ = some (.int .i64 s.next) := cell_at HR.out 2
  have qR3 : W6.cell? ⟨N, 3, none⟩ = some (.slice ta tn tc) := cell_at HR.out 3
  have qR4 : W6.cell? ⟨N, 4, none⟩ = some (.slice la ln lc) := cell_at HR.out 4
  have qR5 : W6.cell? ⟨N, 5, none⟩ = some (.slice sa sn sc) := cell_at HR.out 5
  have qR6 : W6.cell? ⟨N, 6, none⟩ = some (.slice da dn dc) := cell_at HR.out 6
  have qRl : N < W6.heap.size := HR.out.lt
  have FOO := zh HT9.out.lt
  have HB0L : Hid (w.heap.size ≤ W6.heap.size) := zh HB.out.size
  go_wp2_with fail
  go_at_call 40
  go_fit (HTW.out _ _ (HSV.out _ HT.out HL.out HS.out HD.out))
  rintro e W7 ⟨v2, rfl, hso, hB⟩
  clear qR0 qR1 qR2 qR3 qR4 qR5 qR6 qRl
  replace HB:=zh (HB.out.trans (hB.mono HB.out.size))
  replace HT:=zh (HT0.out.below HB.out)
  replace HL:=zh (HL0.out.below HB.out)
  replace HS:=zh (HS0.out.below HB.out)
  replace HD:=zh (HD0.out.below HB.out)
  replace HR:=zh (HR.out.step hB)
  replace HO:=zh (HO.out.step hB)
  replace HA:=zh (HA.out.step hB)
  replace HT9:=zh (HT9.out.step hB)
  clear hB
  obtain ⟨vt2, vl2, vs2, vd2, ot, ol, os, od, rfl, o1, o2, o3, o4⟩ := hso
  obtain ⟨b1, m1, k1, rfl, Hb1, x1, y1⟩ := o1.v.sh
  obtain ⟨b2, m2, k2, rfl, Hb2, x2, y2⟩ := o2.v.sh
  obtain ⟨b3, m3, k3, rfl, Hb3, x3, y3⟩ := o3.v.sh
  obtain ⟨b4, m4, k4, rfl, Hb4, x4, y4⟩ := o4.v.sh
  have O1 := zh o1
  have FO1:=zh (show T9 < W6.heap.size from FOO.out)
  have O2 := zh o2
  have FO2:=zh (show T9 < W6.heap.size from FOO.out)
  have O3 := zh o3
  have FO3:=zh (show T9 < W6.heap.size from FOO.out)
  have O4 := zh o4
  have FO4:=zh (show T9 < W6.heap.size from FOO.out)
  clear o1 o2 o3 o4
  go_upto_region 12 with fail
  obtain ⟨U9, hU9⟩ : ∃ n0, n0 = W7.heap.size := ⟨_, rfl⟩
  have HXU9HR : Hid (N < U9):=zh (by rw [hU9]; exact HR.out.lt)
  have HXU9HO : Hid ((N + 1) < U9):=zh (by rw [hU9]; exact HO.out.lt)
  have HXU9HA : Hid ((N + 1 + 1) < U9):=zh (by rw [hU9]; exact HA.out.lt)
  have HXU9HT9 : Hid (T9 < U9):=zh (by rw [hU9]; exact HT9.out.lt)
  have HUU9O1 : Hid (∀ g, ot = some g → g < U9):=zh (fun g e => by rw [hU9]; first | (subst e; exact O1.out.1.lt) | (obtain rfl := Option.some.inj e; exact O1.out.1.lt))
  have HUU9O2 : Hid (∀ g, ol = some g → g < U9):=zh (fun g e => by rw [hU9]; first | (subst e; exact O2.out.1.lt) | (obtain rfl := Option.some.inj e; exact O2.out.1.lt))
  have HUU9O3 : Hid (∀ g, os = some g → g < U9):=zh (fun g e => by rw [hU9]; first | (subst e; exact O3.out.1.lt) | (obtain rfl := Option.some.inj e; exact O3.out.1.lt))
  have HUU9O4 : Hid (∀ g, od = some g → g < U9):=zh (fun g e => by rw [hU9]; first | (subst e; exact O4.out.1.lt) | (obtain rfl := Option.some.inj e; exact O4.out.1.lt))
  have HLOU9 : Hid (w.heap.size ≤ U9):=zh (by have := HB.out.size; omega)
  obtain ⟨W8, hA0⟩ : ∃ W0, W0 = W7.alloc (.cells #[.int .i64 s.term, .int .i64 s.stamp, .int .i64 s.next, .slice b1 m1 k1, .slice b2 m2 k2, .slice b3 m3 k3, .slice b4 m4 k4] 27) := ⟨_, rfl⟩
  have hB : Below W7.heap.size W7 W8 := by rw [hA0]; exact (Below.refl _ _).alloc (Nat.le_refl _) _
  have hS0 : W8.heap.size = U9 + 1 := by rw [hA0]; simp [← hU9]
  have HU:=zh (show Blk W8 U9 #[.int .i64 s.term, .int .i64 s.stamp, .int .i64 s.next, .slice b1 m1 k1, .slice b2 m2 k2, .slice b3 m3 k3, .slice b4 m4 k4] 27 by rw [hA0, hU9]; exact blk_new _ _ _)
  replace HB:=zh (HB.out.trans (hB.mono HB.out.size))
  replace HT:=zh (HT0.out.below HB.out)
  replace HL:=zh (HL0.out.below HB.out)
  replace HS:=zh (HS0.out.below HB.out)
  replace HD:=zh (HD0.out.below HB.out)
  replace HR:=zh (HR.out.step hB)
  replace HO:=zh (HO.out.step hB)
  replace HA:=zh (HA.out.step hB)
  replace HT9:=zh (HT9.out.step hB)
  replace O1:=zh (O1.out.step hB)
  replace O2:=zh (O2.out.step hB)
  replace O3:=zh (O3.out.step hB)
  replace O4:=zh (O4.out.step hB)
  clear hB
  have HSU9 := zh hS0
  rw [← hU9, ← hA0]
  clear hA0 hU9 hS0
  have qT90 : W8.cell? ⟨T9, 0, none⟩ = some (.int .i64 y.id) := cell_at HT9.out 0
  have qT91 : W8.cell? ⟨T9, 1, none⟩ = some (.int .i64 y.rate) := cell_at HT9.out 1
  have qT92 : W8.cell? ⟨T9, 2, none⟩ = some (.int .i64 y.burst) := cell_at HT9.out 2
  have qT93 : W8.cell? ⟨T9, 3, none⟩ = some (.int .i64 yk) := cell_at HT9.out 3
  have qT94 : W8.cell? ⟨T9, 4, none⟩ = some (.bool false) := cell_at HT9.out 4
  have qT9z : ∀ j, W8.frozen? ⟨T9, j, none⟩ = false := fun j => free_at HT9.out j
  have qT9l : T9 < W8.heap.size := HT9.out.lt
  have qR0 : W8.cell? ⟨N, 0, none⟩ = some (.int .i64 s.term) := cell_at HR.out 0
  have qR1 : W8.cell? ⟨N, 1, none⟩ = some (.int .i64 s.stamp) := cell_at HR.out 1
  have qR2 : W8.cell? ⟨N, 2, none⟩ = some (.int .i64 s.next) := cell_at HR.out 2
  have qR3 : W8.cell? ⟨N, 3, none⟩ = some (.slice ta tn tc) := cell_at HR.out 3
  have qR4 : W8.cell? ⟨N, 4, none⟩ = some (.slice la ln lc) := cell_at HR.out 4
  have qR5 : W8.cell? ⟨N, 5, none⟩ = some (.slice sa sn sc) := cell_at HR.out 5
  have qR6 : W8.cell? ⟨N, 6, none⟩ = some (.slice da dn dc) := cell_at HR.out 6
  have qRl : N < W8.heap.size := HR.out.lt
  go_upto_region 13 with fail
  clear qT90 qT91 qT92 qT93 qT94 qT9z qT9l qR0 qR1 qR2 qR3 qR4 qR5 qR6 qRl
  obtain ⟨W9, hWS⟩ : ∃ WS, WS = W8.setCell ⟨T9, 3, none⟩ (.int .i64 lf) := ⟨_, rfl⟩
  rw [← hWS]
  have hfS : Fr [T9] W8 W9 := by rw [hWS]; exact (Fr.refl _ _).setCell _ (.inl (by simp)) _
  have hkS : Blk W9 T9 #[.int .i64 y.id, .int .i64 y.rate, .int .i64 y.burst, .int .i64 lf, .bool false] 54 := by rw [hWS]; exact HT9.out.set 3 _
  replace HB:=zh (HB.out.trans (hfS.below HB.out.size (by have := HLOT9.out; simp; try omega)))
  replace HT:=zh (HT0.out.below HB.out)
  replace HL:=zh (HL0.out.below HB.out)
  replace HS:=zh (HS0.out.below HB.out)
  replace HD:=zh (HD0.out.below HB.out)
  replace HR:=zh (show Blk W9 N #[.int .i64 s.term, .int .i64 s.stamp, .int .i64 s.next, .slice ta tn tc, .slice la ln lc, .slice sa sn sc, .slice da dn dc] 27 from (hfS.block _ HR.out.lt (by have hx0 := HXT9HR.out; have hx1 := HXT9HO.out; have hx2 := HXT9HA.out; have hx3 := HXU9HR.out; have hx4 := HXU9HO.out; have hx5 := HXU9HA.out; have hx6 := HXU9HT9.out; simp; try omega)).trans HR.out)
  replace HO:=zh (show Blk W9 (N + 1) #[.int .i64 0, .int .i64 0, .int .i64 0, .slice none 0 0, .slice none 0 0, .slice none 0 0, .slice none 0 0] 27 from (hfS.block _ HO.out.lt (by have hx0 := HXT9HR.out; have hx1 := HXT9HO.out; have hx2 := HXT9HA.out; have hx3 := HXU9HR.out; have hx4 := HXU9HO.out; have hx5 := HXU9HA.out; have hx6 := HXU9HT9.out; simp; try omega)).trans HO.out)
  replace HA:=zh (show Blk W9 (N + 1 + 1) #[.int .i64 0, .int .i64 0, .int .i64 0, .int .i64 0, .int .i64 0] 41 from (hfS.block _ HA.out.lt (by have hx0 := HXT9HR.out; have hx1 := HXT9HO.out; have hx2 := HXT9HA.out; have hx3 := HXU9HR.out; have hx4 := HXU9HO.out; have hx5 := HXU9HA.out; have hx6 := HXU9HT9.out; simp; try omega)).trans HA.out)
  replace O1:=zh (O1.out.fr hfS (by have := FO1.out; omega))
  replace O2:=zh (O2.out.fr hfS (by have := FO2.out; omega))
  replace O3:=zh (O3.out.fr hfS (by have := FO3.out; omega))
  replace O4:=zh (O4.out.fr hfS (by have := FO4.out; omega))
  replace HU:=zh (show Blk W9 U9 #[.int .i64 s.term, .int .i64 s.stamp, .int .i64 s.next, .slice b1 m1 k1, .slice b2 m2 k2, .slice b3 m3 k3, .slice b4 m4 k4] 27 from (hfS.block _ HU.out.lt (by have hx0 := HXT9HR.out; have hx1 := HXT9HO.out; have hx2 := HXT9HA.out; have hx3 := HXU9HR.out; have hx4 := HXU9HO.out; have hx5 := HXU9HA.out; have hx6 := HXU9HT9.out; simp; try omega)).trans HU.out)
  replace HT9:=zh (show Blk W9 T9 #[.int .i64 y.id, .int .i64 y.rate, .int .i64 y.burst, .int .i64 lf, .bool false] 54 from hkS)
  clear hWS hfS hkS
  replace FO1:=zh (show (N + 1 + 1) < W6.heap.size from FOA0.out)
  replace FO2:=zh (show (N + 1 + 1) < W6.heap.size from FOA0.out)
  replace FO3:=zh (show (N + 1 + 1) < W6.heap.size from FOA0.out)
  replace FO4:=zh (show (N + 1 + 1) < W6.heap.size from FOA0.out)
  have HSE:=zh (rset_own _ s.ts ⟨y.id, y.rate, y.burst, lf, false⟩ W9 (tn_tv O1.out.v) (by rw [← Htn.out]; omega) HOKX.out HSB.out)
  have qT90 : W9.cell? ⟨T9, 0, none⟩ = some (.int .i64 y.id) := cell_at HT9.out 0
  have qT91 : W9.cell? ⟨T9, 1, none⟩ = some (.int .i64 y.rate) := cell_at HT9.out 1
  have qT92 : W9.cell? ⟨T9, 2, none⟩ = some (.int .i64 y.burst) := cell_at HT9.out 2
  have qT93 : W9.cell? ⟨T9, 3, none⟩ = some (.int .i64 lf) := cell_at HT9.out 3
  have qT94 : W9.cell? ⟨T9, 4, none⟩ = some (.bool false) := cell_at HT9.out 4
  have qT9z : ∀ j, W9.frozen? ⟨T9, j, none⟩ = false := fun j => free_at HT9.out j
  have qT9l : T9 < W9.heap.size := HT9.out.lt
  have qU0 : W9.cell? ⟨U9, 0, none⟩ = some (.int .i64 s.term) := cell_at HU.out 0
  have qU1 : W9.cell? ⟨U9, 1, none⟩ = some (.int .i64 s.stamp) := cell_at HU.out 1
  have qU2 : W9.cell? ⟨U9, 2, none⟩ = some (.int .i64 s.next) := cell_at HU.out 2
  have qU3 : W9.cell? ⟨U9, 3, none⟩ = some (.slice b1 m1 k1) := cell_at HU.out 3
  have qU4 : W9.cell? ⟨U9, 4, none⟩ = some (.slice b2 m2 k2) := cell_at HU.out 4
  have qU5 : W9.cell? ⟨U9, 5, none⟩ = some (.slice b3 m3 k3) := cell_at HU.out 5
  have qU6 : W9.cell? ⟨U9, 6, none⟩ = some (.slice b4 m4 k4) := cell_at HU.out 6
  have qUz : ∀ j, W9.frozen? ⟨U9, j, none⟩ = false := fun j => free_at HU.out j
  have qUl : U9 < W9.heap.size := HU.out.lt
  have FTQ0 := zh HU.out.lt
  have FTQA := zh HA.out.lt
  have HOB:=zh (show ∀ g, ol = some g → g < W9.heap.size from fun g e => by subst e; exact O2.out.1.lt)
  go_wp2_with fail
  go_at_call 51
  go_fit HSE.out
  rintro e W10 ⟨v5, rfl, hv5, hB⟩
  clear qT90 qT91 qT92 qT93 qT94 qT9z qT9l qU0 qU1 qU2 qU3 qU4 qU5 qU6 qUz qUl
  replace HB:=zh (HB.out.trans (hB.mono HB.out.size))
  replace HT:=zh (HT0.out.below HB.out)
  replace HL:=zh (HL0.out.below HB.out)
  replace HS:=zh (HS0.out.below HB.out)
  replace HD:=zh (HD0.out.below HB.out)
  replace HR:=zh (HR.out.step hB)
  replace HO:=zh (HO.out.step hB)
  replace HA:=zh (HA.out.step hB)
  replace HT9:=zh (HT9.out.step hB)
  replace O1:=zh (O1.out.step hB)
  replace O2:=zh (O2.out.step hB)
  replace O3:=zh (O3.out.step hB)
  replace O4:=zh (O4.out.step hB)
  replace HU:=zh (HU.out.step hB)
  clear hB
  obtain ⟨b5, m5, k5, rfl, Hb5, x5, y5⟩ := hv5.tv.sh
  have TQ := zh hv5
  have FTQ := FTQ0
  clear hv5 HSE
  have qU0 : W10.cell? ⟨U9, 0, none⟩ = some (.int .i64 s.term) := cell_at HU.out 0
  have qU1 : W10.cell? ⟨U9, 1, none⟩ = some (.int .i64 s.stamp) := cell_at HU.out 1
  have qU2 : W10.cell? ⟨U9, 2, none⟩ = some (.int .i64 s.next) := cell_at HU.out 2
  have qU3 : W10.cell? ⟨U9, 3, none⟩ = some (.slice b1 m1 k1) := cell_at HU.out 3
  have qU4 : W10.cell? ⟨U9, 4, none⟩ = some (.slice b2 m2 k2) := cell_at HU.out 4
  have qU5 : W10.cell? ⟨U9, 5, none⟩ = some (.slice b3 m3 k3) := cell_at HU.out 5
  have qU6 : W10.cell? ⟨U9, 6, none⟩ = some (.slice b4 m4 k4) := cell_at HU.out 6
  have qUz : ∀ j, W10.frozen? ⟨U9, j, none⟩ = false := fun j => free_at HU.out j
  have qUl : U9 < W10.heap.size := HU.out.lt
  go_upto_region 14 with fail
  clear qU0 qU1 qU2 qU3 qU4 qU5 qU6 qUz qUl
  obtain ⟨W11, hWS⟩ : ∃ WS, WS = W10.setCell ⟨U9, 3, none⟩ (.slice b5 m5 k5) := ⟨_, rfl⟩
  rw [← hWS]
  have hfS : Fr [U9] W10 W11 := by rw [hWS]; exact (Fr.refl _ _).setCell _ (.inl (by simp)) _
  have hkS : Blk W11 U9 #[.int .i64 s.term, .int .i64 s.stamp, .int .i64 s.next, .slice b5 m5 k5, .slice b2 m2 k2, .slice b3 m3 k3, .slice b4 m4 k4] 27 := by rw [hWS]; exact HU.out.set 3 _
  replace HB:=zh (HB.out.trans (hfS.below HB.out.size (by have := HLOU9.out; simp; try omega)))
  replace HT:=zh (HT0.out.below HB.out)
  replace HL:=zh (HL0.out.below HB.out)
  replace HS:=zh (HS0.out.below HB.out)
  replace HD:=zh (HD0.out.below HB.out)
  replace HR:=zh (show Blk W11 N #[.int .i64 s.term, .int .i64 s.stamp, .int .i64 s.next, .slice ta tn tc, .slice la ln lc, .slice sa sn sc, .slice da dn dc] 27 from (hfS.block _ HR.out.lt (by have hx0 := HXT9HR.out; have hx1 := HXT9HO.out; have hx2 := HXT9HA.out; have hx3 := HXU9HR.out; have hx4 := HXU9HO.out; have hx5 := HXU9HA.out; have hx6 := HXU9HT9.out; simp; try omega)).trans HR.out)
  replace HO:=zh (show Blk W11 (N + 1) #[.int .i64 0, .int .i64 0, .int .i64 0, .slice none 0 0, .slice none 0 0, .slice none 0 0, .slice none 0 0] 27 from (hfS.block _ HO.out.lt (by have hx0 := HXT9HR.out; have hx1 := HXT9HO.out; have hx2 := HXT9HA.out; have hx3 := HXU9HR.out; have hx4 := HXU9HO.out; have hx5 := HXU9HA.out; have hx6 := HXU9HT9.out; simp; try omega)).trans HO.out)
  replace HA:=zh (show Blk W11 (N + 1 + 1) #[.int .i64 0, .int .i64 0, .int .i64 0, .int .i64 0, .int .i64 0] 41 from (hfS.block _ HA.out.lt (by have hx0 := HXT9HR.out; have hx1 := HXT9HO.out; have hx2 := HXT9HA.out; have hx3 := HXU9HR.out; have hx4 := HXU9HO.out; have hx5 := HXU9HA.out; have hx6 := HXU9HT9.out; simp; try omega)).trans HA.out)
  replace HT9:=zh (show Blk W11 T9 #[.int .i64 y.id, .int .i64 y.rate, .int .i64 y.burst, .int .i64 lf, .bool false] 54 from (hfS.block _ HT9.out.lt (by have hx0 := HXT9HR.out; have hx1 := HXT9HO.out; have hx2 := HXT9HA.out; have hx3 := HXU9HR.out; have hx4 := HXU9HO.out; have hx5 := HXU9HA.out; have hx6 := HXU9HT9.out; simp; try omega)).trans HT9.out)
  replace O1:=zh (O1.out.frU hfS HUU9O1.out)
  replace O2:=zh (O2.out.frU hfS HUU9O2.out)
  replace O3:=zh (O3.out.frU hfS HUU9O3.out)
  replace O4:=zh (O4.out.frU hfS HUU9O4.out)
  replace TQ:=zh (TQ.out.fr hfS (by have := FTQ.out; omega))
  replace HU:=zh (show Blk W11 U9 #[.int .i64 s.term, .int .i64 s.stamp, .int .i64 s.next, .slice b5 m5 k5, .slice b2 m2 k2, .slice b3 m3 k3, .slice b4 m4 k4] 27 from hkS)
  clear hWS hfS hkS
  have qU0 : W11.cell? ⟨U9, 0, none⟩ = some (.int .i64 s.term) := cell_at HU.out 0
  have qU1 : W11.cell? ⟨U9, 1, none⟩ = some (.int .i64 s.stamp) := cell_at HU.out 1
  have qU2 : W11.cell? ⟨U9, 2, none⟩ = some (.int .i64 s.next) := cell_at HU.out 2
  have qU3 : W11.cell? ⟨U9, 3, none⟩ = some (.slice b5 m5 k5) := cell_at HU.out 3
  have qU4 : W11.cell? ⟨U9, 4, none⟩ = some (.slice b2 m2 k2) := cell_at HU.out 4
  have qU5 : W11.cell? ⟨U9, 5, none⟩ = some (.slice b3 m3 k3) := cell_at HU.out 5
  have qU6 : W11.cell? ⟨U9, 6, none⟩ = some (.slice b4 m4 k4) := cell_at HU.out 6
  have qUz : ∀ j, W11.frozen? ⟨U9, j, none⟩ = false := fun j => free_at HU.out j
  have qUl : U9 < W11.heap.size := HU.out.lt
  have qR0 : W11.cell? ⟨N, 0, none⟩ = some (.int .i64 s.term) := cell_at HR.out 0
  have qR1 : W11.cell? ⟨N, 1, none⟩ = some (.int .i64 s.stamp) := cell_at HR.out 1
  have qR2 : W11.cell? ⟨N, 2, none⟩ = some (.int .i64 s.next) := cell_at HR.out 2
  have qR3 : W11.cell? ⟨N, 3, none⟩ = some (.slice ta tn tc) := cell_at HR.out 3
  have qR4 : W11.cell? ⟨N, 4, none⟩ = some (.slice la ln lc) := cell_at HR.out 4
  have qR5 : W11.cell? ⟨N, 5, none⟩ = some (.slice sa sn sc) := cell_at HR.out 5
  have qR6 : W11.cell? ⟨N, 6, none⟩ = some (.slice da dn dc) := cell_at HR.out 6
  have qRl : N < W11.heap.size := HR.out.lt
  obtain ⟨v7, W12, hrun, hlv, hG⟩ := le_push (ty := 23) (e := ⟨s.next, te, sh, ep, nu, size, 0⟩) O2.out ⟨(show -9223372036854775808 ≤ s.next ∧ s.next ≤ 9223372036854775807 by omega), hbd.2.2.2, hbd.1, hbd.2.1, hbd.2.2.1, (show -9223372036854775808 ≤ size ∧ size ≤ 9223372036854775807 by omega), (show -9223372036854775808 ≤ (0 : Int) ∧ (0 : Int) ≤ 9223372036854775807 by omega)⟩ (by rw [← Hln.out]; omega)
  obtain ⟨b7, m7, k7, rfl, Hb7, x7, y7⟩ := hlv.sh
  have HRUN := zh hrun
  have hbo := HU.out.grown O2.out hG (by decide)
  have p4 : W12.cell? ⟨U9, 4, none⟩ = some (.slice b2 m2 k2) := cell_at hbo 4
  have pz : ∀ j, W12.frozen? ⟨U9, j, none⟩ = false := fun j => free_at hbo j
  have pl : U9 < W12.heap.size := hbo.lt
  go_upto_region 15 with (at_builtin; refine Lib.wpList_append_run _ rfl (.tmp 107) (.tmp 116) 23 23 rfl _ _ rfl rfl _ _ HRUN.out ?_)
  clear qU0 qU1 qU2 qU3 qU4 qU5 qU6 qUz qUl qR0 qR1 qR2 qR3 qR4 qR5 qR6 qRl
  clear p4 pz pl hbo HRUN hrun
  replace HB:=zh (HB.out.trans ((Below.refl _ _).grown hG HB.out.size (fun g e => Nat.le_trans HB0L.out (O2.out.2.2 g e))))
  replace HT:=zh (HT0.out.below HB.out)
  replace HL:=zh (HL0.out.below HB.out)
  replace HS:=zh (HS0.out.below HB.out)
  replace HD:=zh (HD0.out.below HB.out)
  replace HR:=zh (HR.out.grown O2.out hG (by decide))
  replace HO:=zh (HO.out.grown O2.out hG (by decide))
  replace HA:=zh (HA.out.grown O2.out hG (by decide))
  replace HT9:=zh (HT9.out.grown O2.out hG (by decide))
  replace O1:=zh (O1.out.grown O2.out hG)
  replace O3:=zh (O3.out.grown O2.out hG)
  replace O4:=zh (O4.out.grown O2.out hG)
  replace HU:=zh (HU.out.grown O2.out hG (by decide))
  replace TQ:=zh (TQ.out.grown hG HOB.out)
  have HLQ := zh hlv
  clear hlv hG
  obtain ⟨W13, hWS⟩ : ∃ WS, WS = W12.setCell ⟨U9, 4, none⟩ (.slice b7 m7 k7) := ⟨_, rfl⟩
  rw [← hWS]
  have hfS : Fr [U9] W12 W13 := by rw [hWS]; exact (Fr.refl _ _).setCell _ (.inl (by simp)) _
  have hkS : Blk W13 U9 #[.int .i64 s.term, .int .i64 s.stamp, .int .i64 s.next, .slice b5 m5 k5, .slice b7 m7 k7, .slice b3 m3 k3, .slice b4 m4 k4] 27 := by rw [hWS]; exact HU.out.set 4 _
  replace HB:=zh (HB.out.trans (hfS.below HB.out.size (by have := HLOU9.out; simp; try omega)))
  replace HT:=zh (HT0.out.below HB.out)
  replace HL:=zh (HL0.out.below HB.out)
  replace HS:=zh (HS0.out.below HB.out)
  replace HD:=zh (HD0.out.below HB.out)
  replace HR:=zh (show Blk W13 N #[.int .i64 s.term, .int .i64 s.stamp, .int .i64 s.next, .slice ta tn tc, .slice la ln lc, .slice sa sn sc, .slice da dn dc] 27 from (hfS.block _ HR.out.lt (by have hx0 := HXT9HR.out; have hx1 := HXT9HO.out; have hx2 := HXT9HA.out; have hx3 := HXU9HR.out; have hx4 := HXU9HO.out; have hx5 := HXU9HA.out; have hx6 := HXU9HT9.out; simp; try omega)).trans HR.out)
  replace HO:=zh (show Blk W13 (N + 1) #[.int .i64 0, .int .i64 0, .int .i64 0, .slice none 0 0, .slice none 0 0, .slice none 0 0, .slice none 0 0] 27 from (hfS.block _ HO.out.lt (by have hx0 := HXT9HR.out; have hx1 := HXT9HO.out; have hx2 := HXT9HA.out; have hx3 := HXU9HR.out; have hx4 := HXU9HO.out; have hx5 := HXU9HA.out; have hx6 := HXU9HT9.out; simp; try omega)).trans HO.out)
  replace HA:=zh (show Blk W13 (N + 1 + 1) #[.int .i64 0, .int .i64 0, .int .i64 0, .int .i64 0, .int .i64 0] 41 from (hfS.block _ HA.out.lt (by have hx0 := HXT9HR.out; have hx1 := HXT9HO.out; have hx2 := HXT9HA.out; have hx3 := HXU9HR.out; have hx4 := HXU9HO.out; have hx5 := HXU9HA.out; have hx6 := HXU9HT9.out; simp; try omega)).trans HA.out)
  replace HT9:=zh (show Blk W13 T9 #[.int .i64 y.id, .int .i64 y.rate, .int .i64 y.burst, .int .i64 lf, .bool false] 54 from (hfS.block _ HT9.out.lt (by have hx0 := HXT9HR.out; have hx1 := HXT9HO.out; have hx2 := HXT9HA.out; have hx3 := HXU9HR.out; have hx4 := HXU9HO.out; have hx5 := HXU9HA.out; have hx6 := HXU9HT9.out; simp; try omega)).trans HT9.out)
  replace O3:=zh (O3.out.frU hfS HUU9O3.out)
  replace O4:=zh (O4.out.frU hfS HUU9O4.out)
  replace TQ:=zh (TQ.out.fr hfS (by have := FTQ.out; omega))
  replace HLQ:=zh (HLQ.out.fr HU.out hfS)
  replace HU:=zh (show Blk W13 U9 #[.int .i64 s.term, .int .i64 s.stamp, .int .i64 s.next, .slice b5 m5 k5, .slice b7 m7 k7, .slice b3 m3 k3, .slice b4 m4 k4] 27 from hkS)
  clear hWS hfS hkS
  have wn : IntKind.i64.wrap (s.next + 1) = s.next + 1 := IntWalk.i64_in _ (by omega)
  have qU0 : W13.cell? ⟨U9, 0, none⟩ = some (.int .i64 s.term) := cell_at HU.out 0
  have qU1 : W13.cell? ⟨U9, 1, none⟩ = some (.int .i64 s.stamp) := cell_at HU.out 1
  have qU2 : W13.cell? ⟨U9, 2, none⟩ = some (.int .i64 s.next) := cell_at HU.out 2
  have qU3 : W13.cell? ⟨U9, 3, none⟩ = some (.slice b5 m5 k5) := cell_at HU.out 3
  have qU4 : W13.cell? ⟨U9, 4, none⟩ = some (.slice b7 m7 k7) := cell_at HU.out 4
  have qU5 : W13.cell? ⟨U9, 5, none⟩ = some (.slice b3 m3 k3) := cell_at HU.out 5
  have qU6 : W13.cell? ⟨U9, 6, none⟩ = some (.slice b4 m4 k4) := cell_at HU.out 6
  have qUz : ∀ j, W13.frozen? ⟨U9, j, none⟩ = false := fun j => free_at HU.out j
  have qUl : U9 < W13.heap.size := HU.out.lt
  go_upto_region 16 with fail
  clear qU0 qU1 qU2 qU3 qU4 qU5 qU6 qUz qUl
  obtain ⟨W14, hWS⟩ : ∃ WS, WS = W13.setCell ⟨U9, 2, none⟩ (.int .i64 (s.next + 1)) := ⟨_, rfl⟩
  rw [← hWS]
  have hfS : Fr [U9] W13 W14 := by rw [hWS]; exact (Fr.refl _ _).setCell _ (.inl (by simp)) _
  have hkS : Blk W14 U9 #[.int .i64 s.term, .int .i64 s.stamp, .int .i64 (s.next + 1), .slice b5 m5 k5, .slice b7 m7 k7, .slice b3 m3 k3, .slice b4 m4 k4] 27 := by rw [hWS]; exact HU.out.set 2 _
  replace HB:=zh (HB.out.trans (hfS.below HB.out.size (by have := HLOU9.out; simp; try omega)))
  replace HT:=zh (HT0.out.below HB.out)
  replace HL:=zh (HL0.out.below HB.out)
  replace HS:=zh (HS0.out.below HB.out)
  replace HD:=zh (HD0.out.below HB.out)
  replace HR:=zh (show Blk W14 N #[.int .i64 s.term, .int .i64 s.stamp, .int .i64 s.next, .slice ta tn tc, .slice la ln lc, .slice sa sn sc, .slice da dn dc] 27 from (hfS.block _ HR.out.lt (by have hx0 := HXT9HR.out; have hx1 := HXT9HO.out; have hx2 := HXT9HA.out; have hx3 := HXU9HR.out; have hx4 := HXU9HO.out; have hx5 := HXU9HA.out; have hx6 := HXU9HT9.out; simp; try omega)).trans HR.out)
  replace HO:=zh (show Blk W14 (N + 1) #[.int .i64 0, .int .i64 0, .int .i64 0, .slice none 0 0, .slice none 0 0, .slice none 0 0, .slice none 0 0] 27 from (hfS.block _ HO.out.lt (by have hx0 := HXT9HR.out; have hx1 := HXT9HO.out; have hx2 := HXT9HA.out; have hx3 := HXU9HR.out; have hx4 := HXU9HO.out; have hx5 := HXU9HA.out; have hx6 := HXU9HT9.out; simp; try omega)).trans HO.out)
  replace HA:=zh (show Blk W14 (N + 1 + 1) #[.int .i64 0, .int .i64 0, .int .i64 0, .int .i64 0, .int .i64 0] 41 from (hfS.block _ HA.out.lt (by have hx0 := HXT9HR.out; have hx1 := HXT9HO.out; have hx2 := HXT9HA.out; have hx3 := HXU9HR.out; have hx4 := HXU9HO.out; have hx5 := HXU9HA.out; have hx6 := HXU9HT9.out; simp; try omega)).trans HA.out)
  replace HT9:=zh (show Blk W14 T9 #[.int .i64 y.id, .int .i64 y.rate, .int .i64 y.burst, .int .i64 lf, .bool false] 54 from (hfS.block _ HT9.out.lt (by have hx0 := HXT9HR.out; have hx1 := HXT9HO.out; have hx2 := HXT9HA.out; have hx3 := HXU9HR.out; have hx4 := HXU9HO.out; have hx5 := HXU9HA.out; have hx6 := HXU9HT9.out; simp; try omega)).trans HT9.out)
  replace O3:=zh (O3.out.frU hfS HUU9O3.out)
  replace O4:=zh (O4.out.frU hfS HUU9O4.out)
  replace TQ:=zh (TQ.out.fr hfS (by have := FTQ.out; omega))
  replace HLQ:=zh (HLQ.out.fr HU.out hfS)
  replace HU:=zh (show Blk W14 U9 #[.int .i64 s.term, .int .i64 s.stamp, .int .i64 (s.next + 1), .slice b5 m5 k5, .slice b7 m7 k7, .slice b3 m3 k3, .slice b4 m4 k4] 27 from hkS)
  clear hWS hfS hkS
  clear wn
  replace FTQ := FTQA
  have HGL : Hid (grL s sh ep nu te size = ⟨s.term, s.stamp, s.next + 1, setL s.ts ⟨y.id, y.rate, y.burst, lf, false⟩, s.ls ++ [⟨s.next, te, sh, ep, nu, size, 0⟩], s.ss, s.ds⟩):=zh (by
    simp only [grL]
    rw [← HY.out, ← HYK.out, ← HYG.out, ← HLF.out])
  have HF9 : Hid (fewS ⟨s.term, s.stamp, s.next + 1, setL s.ts ⟨y.id, y.rate, y.burst, lf, false⟩, s.ls ++ [⟨s.next, te, sh, ep, nu, size, 0⟩], s.ss, s.ds⟩) := zh ⟨(by have := setL_len s.ts ⟨y.id, y.rate, y.burst, lf, false⟩; have := chk_len HCHK.out; show (setL s.ts ⟨y.id, y.rate, y.burst, lf, false⟩).length ≤ 200; omega), (by show (s.ls ++ [_]).length ≤ 200; rw [List.length_append, ← Hln.out]; simp only [List.length_cons, List.length_nil]; omega), HFEW.out.2.2.1, HFEW.out.2.2.2⟩
  have HZ9 : Hid (sizeB (s.ls ++ [⟨s.next, te, sh, ep, nu, size, 0⟩])):=zh (fun x hx => by
    rcases List.mem_append.1 hx with h | h
    · exact HSZ9.out x h
    · obtain rfl := List.mem_singleton.1 h
      exact ⟨hsz1, hsz2, Int.le_refl _, by show (0 : Int) < size; omega⟩)
  have hBd : Below W14.heap.size W14 W14.drew := (Below.refl _ _).drew
  have HSP:=zh (rswept_any _ _ _ _ (⟨s.term, s.stamp, s.next + 1, setL s.ts ⟨y.id, y.rate, y.burst, lf, false⟩, s.ls ++ [⟨s.next, te, sh, ep, nu, size, 0⟩], s.ss, s.ds⟩) W14.drew (TQ.out.tv.below hBd) (HLQ.out.below hBd) (O3.out.step hBd).v (O4.out.step hBd).v HF9.out HZ9.out)
  clear hBd
  have qT90 : W14.cell? ⟨T9, 0, none⟩ = some (.int .i64 y.id) := cell_at HT9.out 0
  have qT91 : W14.cell? ⟨T9, 1, none⟩ = some (.int .i64 y.rate) := cell_at HT9.out 1
  have qT92 : W14.cell? ⟨T9, 2, none⟩ = some (.int .i64 y.burst) := cell_at HT9.out 2
  have qT93 : W14.cell? ⟨T9, 3, none⟩ = some (.int .i64 lf) := cell_at HT9.out 3
  have qT94 : W14.cell? ⟨T9, 4, none⟩ = some (.bool false) := cell_at HT9.out 4
  have qT9z : ∀ j, W14.frozen? ⟨T9, j, none⟩ = false := fun j => free_at HT9.out j
  have qT9l : T9 < W14.heap.size := HT9.out.lt
  have qR0 : W14.cell? ⟨N, 0, none⟩ = some (.int .i64 s.term) := cell_at HR.out 0
  have qR1 : W14.cell? ⟨N, 1, none⟩ = some (.int .i64 s.stamp) := cell_at HR.out 1
  have qR2 : W14.cell? ⟨N, 2, none⟩ = some (.int .i64 s.next) := cell_at HR.out 2
  have qR3 : W14.cell? ⟨N, 3, none⟩ = some (.slice ta tn tc) := cell_at HR.out 3
  have qR4 : W14.cell? ⟨N, 4, none⟩ = some (.slice la ln lc) := cell_at HR.out 4
  have qR5 : W14.cell? ⟨N, 5, none⟩ = some (.slice sa sn sc) := cell_at HR.out 5
  have qR6 : W14.cell? ⟨N, 6, none⟩ = some (.slice da dn dc) := cell_at HR.out 6
  have qRl : N < W14.heap.size := HR.out.lt
  have qU0 : W14.cell? ⟨U9, 0, none⟩ = some (.int .i64 s.term) := cell_at HU.out 0
  have qU1 : W14.cell? ⟨U9, 1, none⟩ = some (.int .i64 s.stamp) := cell_at HU.out 1
  have qU2 : W14.cell? ⟨U9, 2, none⟩ = some (.int .i64 (s.next + 1)) := cell_at HU.out 2
  have qU3 : W14.cell? ⟨U9, 3, none⟩ = some (.slice b5 m5 k5) := cell_at HU.out 3
  have qU4 : W14.cell? ⟨U9, 4, none⟩ = some (.slice b7 m7 k7) := cell_at HU.out 4
  have qU5 : W14.cell? ⟨U9, 5, none⟩ = some (.slice b3 m3 k3) := cell_at HU.out 5
  have qU6 : W14.cell? ⟨U9, 6, none⟩ = some (.slice b4 m4 k4) := cell_at HU.out 6
  have qUz : ∀ j, W14.frozen? ⟨U9, j, none⟩ = false := fun j => free_at HU.out j
  have qUl : U9 < W14.heap.size := HU.out.lt
  clear qT90 qT91 qT92 qT93 qT94 qT9z qT9l qR0 qR1 qR2 qR3 qR4 qR5 qR6 qRl qU0 qU1 qU2 qU3 qU4 qU5 qU6 qUz qUl
  refine wp_region_held_drew (S := fun X => (X.cell? ⟨N, 0, none⟩ = some (.int .i64 s.term) ∧ X.cell? ⟨N, 1, none⟩ = some (.int .i64 s.stamp) ∧ X.cell? ⟨N, 2, none⟩ = some (.int .i64 s.next) ∧ X.cell? ⟨N, 3, none⟩ = some (.slice ta tn tc) ∧ X.cell? ⟨N, 4, none⟩ = some (.slice la ln lc) ∧ X.cell? ⟨N, 5, none⟩ = some (.slice sa sn sc) ∧ X.cell? ⟨N, 6, none⟩ = some (.slice da dn dc) ∧ N < X.heap.size) ∧ (X.cell? ⟨T9, 0, none⟩ = some (.int .i64 y.id) ∧ X.cell? ⟨T9, 1, none⟩ = some (.int .i64 y.rate) ∧ X.cell? ⟨T9, 2, none⟩ = some (.int .i64 y.burst) ∧ X.cell? ⟨T9, 3, none⟩ = some (.int .i64 lf) ∧ X.cell? ⟨T9, 4, none⟩ = some (.bool false) ∧ T9 < X.heap.size) ∧ (X.cell? ⟨U9, 0, none⟩ = some (.int .i64 s.term) ∧ X.cell? ⟨U9, 1, none⟩ = some (.int .i64 s.stamp) ∧ X.cell? ⟨U9, 2, none⟩ = some (.int .i64 (s.next + 1)) ∧ X.cell? ⟨U9, 3, none⟩ = some (.slice b5 m5 k5) ∧ X.cell? ⟨U9, 4, none⟩ = some (.slice b7 m7 k7) ∧ X.cell? ⟨U9, 5, none⟩ = some (.slice b3 m3 k3) ∧ X.cell? ⟨U9, 6, none⟩ = some (.slice b4 m4 k4) ∧ U9 < X.heap.size)) (by kernel_rfl) ⟨⟨cell_at HR.out 0, cell_at HR.out 1, cell_at HR.out 2, cell_at HR.out 3, cell_at HR.out 4, cell_at HR.out 5, cell_at HR.out 6, HR.out.lt⟩, ⟨cell_at HT9.out 0, cell_at HT9.out 1, cell_at HT9.out 2, cell_at HT9.out 3, cell_at HT9.out 4, HT9.out.lt⟩, ⟨cell_at HU.out 0, cell_at HU.out 1, cell_at HU.out 2, cell_at HU.out 3, cell_at HU.out 4, cell_at HU.out 5, cell_at HU.out 6, HU.out.lt⟩⟩ (fun hHeld => ?_)
  ((refine wpAnyH_take (i := 0) (v := ?_) (by (simp only [List.getElem?_toArray, List.getElem?_cons_succ, List.getElem?_cons_zero]); rfl) (by kernel_rfl) (by kernel_rfl) (by kernel_rfl) (by exact fun _ _ _ h => h) (Or.inl ⟨by rfl, ?_⟩) (by assumption) ?_); rotate_left; focus (intro wS hSw; (try dsimp only at hSw); go_simp; first | done | with_reducible rfl); try simp only [Act.put, List.setIfInBounds_toArray, List.set_cons_zero, List.set_cons_succ])
  ((refine wpAnyH_take (i := 2) (v := ?_) (by (simp only [List.getElem?_toArray, List.getElem?_cons_succ, List.getElem?_cons_zero]); rfl) (by kernel_rfl) (by kernel_rfl) (by kernel_rfl) (by exact fun _ _ _ h => h) (Or.inl ⟨by rfl, ?_⟩) (by assumption) ?_); rotate_left; focus (intro wS hSw; (try dsimp only at hSw); go_simp; first | done | with_reducible rfl); try simp only [Act.put, List.setIfInBounds_toArray, List.set_cons_zero, List.set_cons_succ])
  ((refine wpAnyH_take (i := 3) (v := ?_) (by (simp only [List.getElem?_toArray, List.getElem?_cons_succ, List.getElem?_cons_zero]); rfl) (by kernel_rfl) (by kernel_rfl) (by kernel_rfl) (by exact fun _ _ _ h => h) (Or.inl ⟨by rfl, ?_⟩) (by assumption) ?_); rotate_left; focus (intro wS hSw; (try dsimp only at hSw); go_simp; first | done | with_reducible rfl); try simp only [Act.put, List.setIfInBounds_toArray, List.set_cons_zero, List.set_cons_succ])
  ((refine wpAnyH_take (i := 4) (v := ?_) (by (simp only [List.getElem?_toArray, List.getElem?_cons_succ, List.getElem?_cons_zero]); rfl) (by kernel_rfl) (by kernel_rfl) (by kernel_rfl) (by exact fun _ _ _ h => h) (Or.inl ⟨by rfl, ?_⟩) (by assumption) ?_); rotate_left; focus (intro wS hSw; (try dsimp only at hSw); go_simp; first | done | with_reducible rfl); try simp only [Act.put, List.setIfInBounds_toArray, List.set_cons_zero, List.set_cons_succ])
  ((refine wpAnyH_take (i := 5) (v := ?_) (by (simp only [List.getElem?_toArray, List.getElem?_cons_succ, List.getElem?_cons_zero]); rfl) (by kernel_rfl) (by kernel_rfl) (by kernel_rfl) (by exact fun _ _ _ h => h) (Or.inl ⟨by rfl, ?_⟩) (by assumption) ?_); rotate_left; focus (intro wS hSw; (try dsimp only at hSw); go_simp; first | done | with_reducible rfl); try simp only [Act.put, List.setIfInBounds_toArray, List.set_cons_zero, List.set_cons_succ])
  ((refine wpAnyH_take (i := 6) (v := ?_) (by (simp only [List.getElem?_toArray, List.getElem?_cons_succ, List.getElem?_cons_zero]); rfl) (by kernel_rfl) (by kernel_rfl) (by kernel_rfl) (by exact fun _ _ _ h => h) (Or.inl ⟨by rfl, ?_⟩) (by assumption) ?_); rotate_left; focus (intro wS hSw; (try dsimp only at hSw); go_simp; first | done | with_reducible rfl); try simp only [Act.put, List.setIfInBounds_toArray, List.set_cons_zero, List.set_cons_succ])
  ((refine wpAnyH_take (i := 7) (v := ?_) (by (simp only [List.getElem?_toArray, List.getElem?_cons_succ, List.getElem?_cons_zero]); rfl) (by kernel_rfl) (by kernel_rfl) (by kernel_rfl) (by exact fun _ _ _ h => h) (Or.inl ⟨by rfl, ?_⟩) (by assumption) ?_); rotate_left; focus (intro wS hSw; (try dsimp only at hSw); go_simp; first | done | with_reducible rfl); try simp only [Act.put, List.setIfInBounds_toArray, List.set_cons_zero, List.set_cons_succ])
  ((refine wpAnyH_take (i := 8) (v := ?_) (by (simp only [List.getElem?_toArray, List.getElem?_cons_succ, List.getElem?_cons_zero]); rfl) (by kernel_rfl) (by kernel_rfl) (by kernel_rfl) (by exact fun _ _ _ h => h) (Or.inl ⟨by rfl, ?_⟩) (by assumption) ?_); rotate_left; focus (intro wS hSw; (try dsimp only at hSw); go_simp; first | done | with_reducible rfl); try simp only [Act.put, List.setIfInBounds_toArray, List.set_cons_zero, List.set_cons_succ])
  ((refine wpAnyH_take (i := 9) (v := ?_) (by (simp only [List.getElem?_toArray, List.getElem?_cons_succ, List.getElem?_cons_zero]); rfl) (by kernel_rfl) (by kernel_rfl) (by kernel_rfl) (by exact fun _ _ _ h => h) (Or.inl ⟨by rfl, ?_⟩) (by assumption) ?_); rotate_left; focus (intro wS hSw; (try dsimp only at hSw); go_simp; first | done | with_reducible rfl); try simp only [Act.put, List.setIfInBounds_toArray, List.set_cons_zero, List.set_cons_succ])
  refine wpAnyH_ready (rs := [1]) (by kernel_rfl) (by simp) ?_
  refine AllReadyH.cons (by (simp only [List.getElem?_toArray, List.getElem?_cons_succ, List.getElem?_cons_zero]); rfl) (fun K hK => ?_) AllReadyH.nil
  go_simp
  go_fit HSP.out
  rintro e W15 ⟨vq, rfl, hvq, hB⟩
  replace hB := below_undrew hB
  replace HB:=zh (HB.out.trans (hB.mono HB.out.size))
  replace HT:=zh (HT0.out.below HB.out)
  replace HL:=zh (HL0.out.below HB.out)
  replace HS:=zh (HS0.out.below HB.out)
  replace HD:=zh (HD0.out.below HB.out)
  replace HR:=zh (HR.out.step hB)
  replace HO:=zh (HO.out.step hB)
  replace HA:=zh (HA.out.step hB)
  replace HT9:=zh (HT9.out.step hB)
  replace O3:=zh (O3.out.step hB)
  replace O4:=zh (O4.out.step hB)
  replace HU:=zh (HU.out.step hB)
  replace TQ:=zh (TQ.out.below hB)
  replace HLQ:=zh (HLQ.out.below hB)
  have HVQ := zh hvq
  clear hvq
  go_wp2_with fail
  refine hK.out _ _ ⟨⟨cell_at HR.out 0, cell_at HR.out 1, cell_at HR.out 2, cell_at HR.out 3, cell_at HR.out 4, cell_at HR.out 5, cell_at HR.out 6, HR.out.lt⟩, ⟨cell_at HT9.out 0, cell_at HT9.out 1, cell_at HT9.out 2, cell_at HT9.out 3, cell_at HT9.out 4, HT9.out.lt⟩, ⟨cell_at HU.out 0, cell_at HU.out 1, cell_at HU.out 2, cell_at HU.out 3, cell_at HU.out 4, cell_at HU.out 5, cell_at HU.out 6, HU.out.lt⟩⟩ (fun hHeld => ?_)
  clear hK K hB
  try simp only [Act.put, List.setIfInBounds_toArray, List.set_cons_zero, List.set_cons_succ]
  obtain ⟨b8, m8, k8, rfl, Hb8, x8, y8⟩ := HVQ.out.sh
  refine wpAnyH_ready (rs := [10]) (by kernel_rfl) (by simp) ?_
  refine AllReadyH.cons (by (simp only [List.getElem?_toArray, List.getElem?_cons_succ, List.getElem?_cons_zero]); rfl) (fun K hK => ?_) AllReadyH.nil
  have qO0 : W15.cell? ⟨(N + 1), 0, none⟩ = some (.int .i64 0) := cell_at HO.out 0
  have qO1 : W15.cell? ⟨(N + 1), 1, none⟩ = some (.int .i64 0) := cell_at HO.out 1
  have qO2 : W15.cell? ⟨(N + 1), 2, none⟩ = some (.int .i64 0) := cell_at HO.out 2
  have qO3 : W15.cell? ⟨(N + 1), 3, none⟩ = some (.slice none 0 0) := cell_at HO.out 3
  have qO4 : W15.cell? ⟨(N + 1), 4, none⟩ = some (.slice none 0 0) := cell_at HO.out 4
  have qO5 : W15.cell? ⟨(N + 1), 5, none⟩ = some (.slice none 0 0) := cell_at HO.out 5
  have qO6 : W15.cell? ⟨(N + 1), 6, none⟩ = some (.slice none 0 0) := cell_at HO.out 6
  have qOz : ∀ j, W15.frozen? ⟨(N + 1), j, none⟩ = false := fun j => free_at HO.out j
  have qOl : (N + 1) < W15.heap.size := HO.out.lt
  go_simp
  clear qO0 qO1 qO2 qO3 qO4 qO5 qO6 qOz qOl
  obtain ⟨LS, hLS⟩ : ∃ L : List Value, L = [.int .i64 s.term, .int .i64 s.stamp, .int .i64 (s.next + 1), .slice b8 m8 k8, .slice b7 m7 k7, .slice b3 m3 k3, .slice b4 m4 k4] := ⟨_, rfl⟩
  obtain ⟨W16, hWS⟩ : ∃ WS, WS = W15.setCells (N + 1) 0 LS := ⟨_, rfl⟩
  have hch := hWS
  rw [hLS] at hch
  simp only [World.setCells, Nat.zero_add, Nat.reduceAdd] at hch
  rw [← hch]
  clear hch
  have hkS := stC_blk HO.out LS (by rw [hLS]; rfl)
  have hfS := stC_fr (N + 1) LS 0 W15
  rw [← hWS] at hkS hfS
  rw [hLS] at hkS
  replace HB:=zh (HB.out.trans (hfS.below HB.out.size (by have := HLON.out; simp; try omega)))
  replace HT:=zh (HT0.out.below HB.out)
  replace HL:=zh (HL0.out.below HB.out)
  replace HS:=zh (HS0.out.below HB.out)
  replace HD:=zh (HD0.out.below HB.out)
  replace HR:=zh (show Blk W16 N #[.int .i64 s.term, .int .i64 s.stamp, .int .i64 s.next, .slice ta tn tc, .slice la ln lc, .slice sa sn sc, .slice da dn dc] 27 from (hfS.block _ HR.out.lt (by have hx0 := HXT9HR.out; have hx1 := HXT9HO.out; have hx2 := HXT9HA.out; have hx3 := HXU9HR.out; have hx4 := HXU9HO.out; have hx5 := HXU9HA.out; have hx6 := HXU9HT9.out; simp; try omega)).trans HR.out)
  replace HA:=zh (show Blk W16 (N + 1 + 1) #[.int .i64 0, .int .i64 0, .int .i64 0, .int .i64 0, .int .i64 0] 41 from (hfS.block _ HA.out.lt (by have hx0 := HXT9HR.out; have hx1 := HXT9HO.out; have hx2 := HXT9HA.out; have hx3 := HXU9HR.out; have hx4 := HXU9HO.out; have hx5 := HXU9HA.out; have hx6 := HXU9HT9.out; simp; try omega)).trans HA.out)
  replace HT9:=zh (show Blk W16 T9 #[.int .i64 y.id, .int .i64 y.rate, .int .i64 y.burst, .int .i64 lf, .bool false] 54 from (hfS.block _ HT9.out.lt (by have hx0 := HXT9HR.out; have hx1 := HXT9HO.out; have hx2 := HXT9HA.out; have hx3 := HXU9HR.out; have hx4 := HXU9HO.out; have hx5 := HXU9HA.out; have hx6 := HXU9HT9.out; simp; try omega)).trans HT9.out)
  replace O3:=zh (O3.out.fr hfS (by have := FO3.out; omega))
  replace O4:=zh (O4.out.fr hfS (by have := FO4.out; omega))
  replace HU:=zh (show Blk W16 U9 #[.int .i64 s.term, .int .i64 s.stamp, .int .i64 (s.next + 1), .slice b5 m5 k5, .slice b7 m7 k7, .slice b3 m3 k3, .slice b4 m4 k4] 27 from (hfS.block _ HU.out.lt (by have hx0 := HXT9HR.out; have hx1 := HXT9HO.out; have hx2 := HXT9HA.out; have hx3 := HXU9HR.out; have hx4 := HXU9HO.out; have hx5 := HXU9HA.out; have hx6 := HXU9HT9.out; simp; try omega)).trans HU.out)
  replace HLQ:=zh (HLQ.out.fr HO.out hfS)
  replace HVQ:=zh (HVQ.out.fr HO.out hfS)
  replace HO:=zh (show Blk W16 (N + 1) #[.int .i64 s.term, .int .i64 s.stamp, .int .i64 (s.next + 1), .slice b8 m8 k8, .slice b7 m7 k7, .slice b3 m3 k3, .slice b4 m4 k4] 27 from hkS)
  clear hWS hLS hkS hfS
  refine hK.out _ _ ⟨⟨cell_at HR.out 0, cell_at HR.out 1, cell_at HR.out 2, cell_at HR.out 3, cell_at HR.out 4, cell_at HR.out 5, cell_at HR.out 6, HR.out.lt⟩, ⟨cell_at HT9.out 0, cell_at HT9.out 1, cell_at HT9.out 2, cell_at HT9.out 3, cell_at HT9.out 4, HT9.out.lt⟩, ⟨cell_at HU.out 0, cell_at HU.out 1, cell_at HU.out 2, cell_at HU.out 3, cell_at HU.out 4, cell_at HU.out 5, cell_at HU.out 6, HU.out.lt⟩⟩ (fun hHeld => ?_)
  clear hK K
  try simp only [Act.put, List.setIfInBounds_toArray, List.set_cons_zero, List.set_cons_succ]
  refine wpAnyH_ready (rs := [11]) (by kernel_rfl) (by simp) ?_
  refine AllReadyH.cons (by (simp only [List.getElem?_toArray, List.getElem?_cons_succ, List.getElem?_cons_zero]); rfl) (fun K hK => ?_) AllReadyH.nil
  have qA0 : W16.cell? ⟨(N + 1 + 1), 0, none⟩ = some (.int .i64 0) := cell_at HA.out 0
  have qA1 : W16.cell? ⟨(N + 1 + 1), 1, none⟩ = some (.int .i64 0) := cell_at HA.out 1
  have qA2 : W16.cell? ⟨(N + 1 + 1), 2, none⟩ = some (.int .i64 0) := cell_at HA.out 2
  have qA3 : W16.cell? ⟨(N + 1 + 1), 3, none⟩ = some (.int .i64 0) := cell_at HA.out 3
  have qA4 : W16.cell? ⟨(N + 1 + 1), 4, none⟩ = some (.int .i64 0) := cell_at HA.out 4
  have qAz : ∀ j, W16.frozen? ⟨(N + 1 + 1), j, none⟩ = false := fun j => free_at HA.out j
  have qAl : (N + 1 + 1) < W16.heap.size := HA.out.lt
  go_simp
  clear qA0 qA1 qA2 qA3 qA4 qAz qAl
  obtain ⟨LS, hLS⟩ : ∃ L : List Value, L = [.int .i64 0, .int .i64 y.rate, .int .i64 y.burst, .int .i64 s.next, .int .i64 size] := ⟨_, rfl⟩
  obtain ⟨W17, hWS⟩ : ∃ WS, WS = W16.setCells (N + 1 + 1) 0 LS := ⟨_, rfl⟩
  have hch := hWS
  rw [hLS] at hch
  simp only [World.setCells, Nat.zero_add, Nat.reduceAdd] at hch
  rw [← hch]
  clear hch
  have hkS := stC_blk HA.out LS (by rw [hLS]; rfl)
  have hfS := stC_fr (N + 1 + 1) LS 0 W16
  rw [← hWS] at hkS hfS
  rw [hLS] at hkS
  replace HB:=zh (HB.out.trans (hfS.below HB.out.size (by have := HLON.out; simp; try omega)))
  replace HT:=zh (HT0.out.below HB.out)
  replace HL:=zh (HL0.out.below HB.out)
  replace HS:=zh (HS0.out.below HB.out)
  replace HD:=zh (HD0.out.below HB.out)
  replace HR:=zh (show Blk W17 N #[.int .i64 s.term, .int .i64 s.stamp, .int .i64 s.next, .slice ta tn tc, .slice la ln lc, .slice sa sn sc, .slice da dn dc] 27 from (hfS.block _ HR.out.lt (by have hx0 := HXT9HR.out; have hx1 := HXT9HO.out; have hx2 := HXT9HA.out; have hx3 := HXU9HR.out; have hx4 := HXU9HO.out; have hx5 := HXU9HA.out; have hx6 := HXU9HT9.out; simp; try omega)).trans HR.out)
  replace HO:=zh (show Blk W17 (N + 1) #[.int .i64 s.term, .int .i64 s.stamp, .int .i64 (s.next + 1), .slice b8 m8 k8, .slice b7 m7 k7, .slice b3 m3 k3, .slice b4 m4 k4] 27 from (hfS.block _ HO.out.lt (by have hx0 := HXT9HR.out; have hx1 := HXT9HO.out; have hx2 := HXT9HA.out; have hx3 := HXU9HR.out; have hx4 := HXU9HO.out; have hx5 := HXU9HA.out; have hx6 := HXU9HT9.out; simp; try omega)).trans HO.out)
  replace HT9:=zh (show Blk W17 T9 #[.int .i64 y.id, .int .i64 y.rate, .int .i64 y.burst, .int .i64 lf, .bool false] 54 from (hfS.block _ HT9.out.lt (by have hx0 := HXT9HR.out; have hx1 := HXT9HO.out; have hx2 := HXT9HA.out; have hx3 := HXU9HR.out; have hx4 := HXU9HO.out; have hx5 := HXU9HA.out; have hx6 := HXU9HT9.out; simp; try omega)).trans HT9.out)
  replace O3:=zh (O3.out.fr hfS (by have := FO3.out; omega))
  replace O4:=zh (O4.out.fr hfS (by have := FO4.out; omega))
  replace HU:=zh (show Blk W17 U9 #[.int .i64 s.term, .int .i64 s.stamp, .int .i64 (s.next + 1), .slice b5 m5 k5, .slice b7 m7 k7, .slice b3 m3 k3, .slice b4 m4 k4] 27 from (hfS.block _ HU.out.lt (by have hx0 := HXT9HR.out; have hx1 := HXT9HO.out; have hx2 := HXT9HA.out; have hx3 := HXU9HR.out; have hx4 := HXU9HO.out; have hx5 := HXU9HA.out; have hx6 := HXU9HT9.out; simp; try omega)).trans HU.out)
  replace HLQ:=zh (HLQ.out.fr HA.out hfS)
  replace HVQ:=zh (HVQ.out.fr HA.out hfS)
  replace HA:=zh (show Blk W17 (N + 1 + 1) #[.int .i64 0, .int .i64 y.rate, .int .i64 y.burst, .int .i64 s.next, .int .i64 size] 41 from hkS)
  clear hWS hLS hkS hfS
  refine hK.out _ _ ⟨⟨cell_at HR.out 0, cell_at HR.out 1, cell_at HR.out 2, cell_at HR.out 3, cell_at HR.out 4, cell_at HR.out 5, cell_at HR.out 6, HR.out.lt⟩, ⟨cell_at HT9.out 0, cell_at HT9.out 1, cell_at HT9.out 2, cell_at HT9.out 3, cell_at HT9.out 4, HT9.out.lt⟩, ⟨cell_at HU.out 0, cell_at HU.out 1, cell_at HU.out 2, cell_at HU.out 3, cell_at HU.out 4, cell_at HU.out 5, cell_at HU.out 6, HU.out.lt⟩⟩ (fun hHeld => ?_)
  clear hK K
  try simp only [Act.put, List.setIfInBounds_toArray, List.set_cons_zero, List.set_cons_succ]
  refine wpAnyH_done (by kernel_rfl) ?_ _
  try simp only [Act.put, List.setIfInBounds_toArray, List.set_cons_zero, List.set_cons_succ]
  go_wp2_with fail
  have qO0 : W17.cell? ⟨(N + 1), 0, none⟩ = some (.int .i64 s.term) := cell_at HO.out 0
  have qO1 : W17.cell? ⟨(N + 1), 1, none⟩ = some (.int .i64 s.stamp) := cell_at HO.out 1
  have qO2 : W17.cell? ⟨(N + 1), 2, none⟩ = some (.int .i64 (s.next + 1)) := cell_at HO.out 2
  have qO3 : W17.cell? ⟨(N + 1), 3, none⟩ = some (.slice b8 m8 k8) := cell_at HO.out 3
  have qO4 : W17.cell? ⟨(N + 1), 4, none⟩ = some (.slice b7 m7 k7) := cell_at HO.out 4
  have qO5 : W17.cell? ⟨(N + 1), 5, none⟩ = some (.slice b3 m3 k3) := cell_at HO.out 5
  have qO6 : W17.cell? ⟨(N + 1), 6, none⟩ = some (.slice b4 m4 k4) := cell_at HO.out 6
  have qOz : ∀ j, W17.frozen? ⟨(N + 1), j, none⟩ = false := fun j => free_at HO.out j
  have qOl : (N + 1) < W17.heap.size := HO.out.lt
  have qA0 : W17.cell? ⟨(N + 1 + 1), 0, none⟩ = some (.int .i64 0) := cell_at HA.out 0
  have qA1 : W17.cell? ⟨(N + 1 + 1), 1, none⟩ = some (.int .i64 y.rate) := cell_at HA.out 1
  have qA2 : W17.cell? ⟨(N + 1 + 1), 2, none⟩ = some (.int .i64 y.burst) := cell_at HA.out 2
  have qA3 : W17.cell? ⟨(N + 1 + 1), 3, none⟩ = some (.int .i64 s.next) := cell_at HA.out 3
  have qA4 : W17.cell? ⟨(N + 1 + 1), 4, none⟩ = some (.int .i64 size) := cell_at HA.out 4
  have qAz : ∀ j, W17.frozen? ⟨(N + 1 + 1), j, none⟩ = false := fun j => free_at HA.out j
  have qAl : (N + 1 + 1) < W17.heap.size := HA.out.lt
  exact bodyPost_ret (v := .tuple #[.agg #[.int .i64 s.term, .int .i64 s.stamp, .int .i64 (s.next + 1), .slice b8 m8 k8, .slice b7 m7 k7, .slice b3 m3 k3, .slice b4 m4 k4], .agg #[.int .i64 0, .int .i64 y.rate, .int .i64 y.burst, .int .i64 s.next, .int .i64 size]]) (by simp [results, Try.results21, go_sem, qO0, qO1, qO2, qO3, qO4, qO5, qO6, qA0, qA1, qA2, qA3, qA4]) rfl ⟨_, (by rw [HRA.out, if_pos HGZ.out]; rfl), (by rw [HR9.out, if_pos HGZ.out, HGL.out]; exact ⟨_, _, _, _, rfl, HVQ.out, HLQ.out, O3.out.v, O4.out.v⟩), HB.out⟩
end Go.Proofs.Ytfgnjpdlchimpaa
namespace Go.Proofs.Ytfgnjpdlchimpaa
open Go.RowKit
set_option linter.unusedSimpArgs false
set_option linter.unusedVariables false

theorem grA_sh (s : StE) (sh ep nu te size : Int) : ∃ e r b l z, grA s sh ep nu te size = ansG e r b l z := by
  unfold grA
  split
  · split <;> exact ⟨_, _, _, _, _, rfl⟩
  · exact ⟨_, _, _, _, _, rfl⟩
set_option maxRecDepth 100000 in
set_option maxHeartbeats 16000000 in
theorem ledgerGrants_walk (v : Value) (s : StE) (sh ep nu te size : Int) (w : World) (h : SV w v s) (hbd : (-9223372036854775808 ≤ sh ∧ sh ≤ 9223372036854775807) ∧ (-9223372036854775808 ≤ ep ∧ ep ≤ 9223372036854775807) ∧ (-9223372036854775808 ≤ nu ∧ nu ≤ 9223372036854775807) ∧ (-9223372036854775808 ≤ te ∧ te ≤ 9223372036854775807)) :
    Calls Try.prog 5 #[v, .int .i64 sh, .int .i64 ep, .int .i64 nu, .int .i64 te, .int .i64 size] w fun e w' => e = .returned (.bool true) ∧ Below w.heap.size w w' := by
  obtain ⟨vt, vl, vs, vd, rfl, ht, hl, hs, hd⟩ := h
  obtain ⟨ta, tn, tc, rfl, Htn, tn1, tn2⟩ := ht.sh
  obtain ⟨la, ln, lc, rfl, Hln, ln1, ln2⟩ := hl.sh
  obtain ⟨sa, sn, sc, rfl, Hsn, sn1, sn2⟩ := hs.sh
  obtain ⟨da, dn, dc, rfl, Hdn, dn1, dn2⟩ := hd.sh
  have HT0 := zh ht
  have HL0 := zh hl
  have HS0 := zh hs
  have HD0 := zh hd
  have HT := zh ht
  have HL := zh hl
  have HS := zh hs
  have HD := zh hd
  clear ht hl hs hd
  have HSV : Hid (∀ W, TV W (.slice ta tn tc) s.ts → LeV W (.slice la ln lc) s.ls → SeV W (.slice sa sn sc) s.ss → DkV W (.slice da dn dc) s.ds → SV W (.agg #[.int .i64 s.term, .int .i64 s.stamp, .int .i64 s.next, .slice ta tn tc, .slice la ln lc, .slice sa sn sc, .slice da dn dc]) s):=zh (fun W h1 h2 h3 h4 => ⟨_, _, _, _, rfl, h1, h2, h3, h4⟩)
  have HGT:=zh (fun W v (h : SV W v s) => greatS_any v s W h)
  obtain ⟨G, hG⟩ : ∃ G, G = (decide (60 < s.ts.length) || decide (100 < s.ls.length) || decide (60 < s.ss.length) || decide (60 < s.ds.length)) := ⟨_, rfl⟩
  rw [← hG] at HGT
  have HFEW : Hid (G = false → fewS s):=zh (fun h => by
    rw [h] at hG
    have hG := hG.symm
    simp only [Bool.or_eq_false_iff, decide_eq_false_iff_not] at hG
    unfold fewS
    omega)
  have HWK := zh wakes_any
  clear hG
  have HB : Hid (Below w.heap.size w w):=zh (Below.refl _ _)
  go_enter Try.func5, Try.ntmps5
  go_upto_region 1 with fail
  obtain ⟨N, hN⟩ : ∃ n0, n0 = w.heap.size := ⟨_, rfl⟩
  have HLON : Hid (w.heap.size ≤ N):=zh (by have := HB.out.size; omega)
  obtain ⟨W1, hA0⟩ : ∃ W0, W0 = w.alloc (.cells #[.int .i64 s.term, .int .i64 s.stamp, .int .i64 s.next, .slice ta tn tc, .slice la ln lc, .slice sa sn sc, .slice da dn dc] 27) := ⟨_, rfl⟩
  have hB : Below w.heap.size w W1 := by rw [hA0]; exact (Below.refl _ _).alloc (Nat.le_refl _) _
  have hS0 : W1.heap.size = N + 1 := by rw [hA0]; simp [← hN]
  have HR:=zh (show Blk W1 N #[.int .i64 s.term, .int .i64 s.stamp, .int .i64 s.next, .slice ta tn tc, .slice la ln lc, .slice sa sn sc, .slice da dn dc] 27 by rw [hA0, hN]; exact blk_new _ _ _)
  replace HB:=zh (HB.out.trans (hB.mono HB.out.size))
  replace HT:=zh (HT0.out.below HB.out)
  replace HL:=zh (HL0.out.below HB.out)
  replace HS:=zh (HS0.out.below HB.out)
  replace HD:=zh (HD0.out.below HB.out)
  clear hB
  have HSN := zh hS0
  rw [← hN, ← hA0]
  clear hA0 hN hS0
  have qR0 : W1.cell? ⟨N, 0, none⟩ = some (.int .i64 s.term) := cell_at HR.out 0
  have qR1 : W1.cell? ⟨N, 1, none⟩ = some (.int .i64 s.stamp) := cell_at HR.out 1
  have qR2 : W1.cell? ⟨N, 2, none⟩ = some (.int .i64 s.next) := cell_at HR.out 2
  have qR3 : W1.cell? ⟨N, 3, none⟩ = some (.slice ta tn tc) := cell_at HR.out 3
  have qR4 : W1.cell? ⟨N, 4, none⟩ = some (.slice la ln lc) := cell_at HR.out 4
  have qR5 : W1.cell? ⟨N, 5, none⟩ = some (.slice sa sn sc) := cell_at HR.out 5
  have qR6 : W1.cell? ⟨N, 6, none⟩ = some (.slice da dn dc) := cell_at HR.out 6
  have qRl : N < W1.heap.size := HR.out.lt
  go_wp2_with fail
  go_at_call 9
  go_fit (HGT.out _ _ (HSV.out _ HT.out HL.out HS.out HD.out))
  rintro e W2 ⟨rfl, hB⟩
  clear qR0 qR1 qR2 qR3 qR4 qR5 qR6 qRl
  replace HB:=zh (HB.out.trans (hB.mono HB.out.size))
  replace HT:=zh (HT0.out.below HB.out)
  replace HL:=zh (HL0.out.below HB.out)
  replace HS:=zh (HS0.out.below HB.out)
  replace HD:=zh (HD0.out.below HB.out)
  replace HR:=zh (HR.out.step hB)
  clear hB
  cases G
  rotate_left
  · skip
    go_wp2_with fail
    go_at_call 10
    go_fit (HWK.out _)
    rintro e W3 ⟨rfl, hB⟩
    replace HB:=zh (HB.out.trans (hB.mono HB.out.size))
    replace HT:=zh (HT0.out.below HB.out)
    replace HL:=zh (HL0.out.below HB.out)
    replace HS:=zh (HS0.out.below HB.out)
    replace HD:=zh (HD0.out.below HB.out)
    replace HR:=zh (HR.out.step hB)
    clear hB
    go_wp2_with fail
    go_ret
    exact ⟨rfl, HB.out⟩
  have hfew := HFEW.out rfl
  have HGP:=zh (fun W v (h : SV W v s) => grant_any v s sh ep nu te size W h hfew hbd)
  have HGD:=zh (fun W v (h : SV W v s) => rgrant_any v s sh ep nu te size W h hfew hbd)
  obtain ⟨s2, hs2⟩ : ∃ t, t = grS s sh ep nu te size := ⟨_, rfl⟩
  obtain ⟨ae, ar, ab, al, az, hA⟩ := grA_sh s sh ep nu te size
  rw [← hs2, hA] at HGP HGD
  unfold ansG at HGP HGD
  have HAN:=zh (fun W => ans_eql ae ar ab al az W)
  clear hfew hs2 hA
  have qR0 : W2.cell? ⟨N, 0, none⟩ = some (.int .i64 s.term) := cell_at HR.out 0
  have qR1 : W2.cell? ⟨N, 1, none⟩ = some (.int .i64 s.stamp) := cell_at HR.out 1
  have qR2 : W2.cell? ⟨N, 2, none⟩ = some (.int .i64 s.next) := cell_at HR.out 2
  have qR3 : W2.cell? ⟨N, 3, none⟩ = some (.slice ta tn tc) := cell_at HR.out 3
  have qR4 : W2.cell? ⟨N, 4, none⟩ = some (.slice la ln lc) := cell_at HR.out 4
  have qR5 : W2.cell? ⟨N, 5, none⟩ = some (.slice sa sn sc) := cell_at HR.out 5
  have qR6 : W2.cell? ⟨N, 6, none⟩ = some (.slice da dn dc) := cell_at HR.out 6
  have qRl : N < W2.heap.size := HR.out.lt
  go_wp2_with fail
  go_at_call 20
  go_fit (HGP.out _ _ (HSV.out _ HT.out HL.out HS.out HD.out))
  rintro e W3 ⟨v1, rfl, hv1, hB⟩
  clear qR0 qR1 qR2 qR3 qR4 qR5 qR6 qRl
  replace HB:=zh (HB.out.trans (hB.mono HB.out.size))
  replace HT:=zh (HT0.out.below HB.out)
  replace HL:=zh (HL0.out.below HB.out)
  replace HS:=zh (HS0.out.below HB.out)
  replace HD:=zh (HD0.out.below HB.out)
  replace HR:=zh (HR.out.step hB)
  clear hB
  obtain ⟨xt1, xl1, xs1, xd1, rfl, ht1, hl1, hs1, hd1⟩ := hv1
  obtain ⟨at1, nt1, ct1, rfl, _, _, _⟩ := ht1.sh
  obtain ⟨al1, nl1, cl1, rfl, _, _, _⟩ := hl1.sh
  obtain ⟨as1, ns1, cs1, rfl, _, _, _⟩ := hs1.sh
  obtain ⟨ad1, nd1, cd1, rfl, _, _, _⟩ := hd1.sh
  have V1:=zh (show SV _ (.agg #[.int .i64 s2.term, .int .i64 s2.stamp, .int .i64 s2.next, .slice at1 nt1 ct1, .slice al1 nl1 cl1, .slice as1 ns1 cs1, .slice ad1 nd1 cd1]) s2 from ⟨_, _, _, _, rfl, ht1, hl1, hs1, hd1⟩)
  clear ht1 hl1 hs1 hd1
  go_upto_region 4 with fail
  obtain ⟨A9, hA9⟩ : ∃ n0, n0 = W3.heap.size := ⟨_, rfl⟩
  have HXA9HR : Hid (N < A9):=zh (by rw [hA9]; exact HR.out.lt)
  have HLOA9 : Hid (w.heap.size ≤ A9):=zh (by have := HB.out.size; omega)
  obtain ⟨W4, hA0⟩ : ∃ W0, W0 = W3.alloc (.cells #[.int .i64 s2.term, .int .i64 s2.stamp, .int .i64 s2.next, .slice at1 nt1 ct1, .slice al1 nl1 cl1, .slice as1 ns1 cs1, .slice ad1 nd1 cd1] 27) := ⟨_, rfl⟩
  have hB : Below W3.heap.size W3 W4 := by rw [hA0]; exact (Below.refl _ _).alloc (Nat.le_refl _) _
  have hS0 : W4.heap.size = A9 + 1 := by rw [hA0]; simp [← hA9]
  have HA1:=zh (show Blk W4 A9 #[.int .i64 s2.term, .int .i64 s2.stamp, .int .i64 s2.next, .slice at1 nt1 ct1, .slice al1 nl1 cl1, .slice as1 ns1 cs1, .slice ad1 nd1 cd1] 27 by rw [hA0, hA9]; exact blk_new _ _ _)
  replace HB:=zh (HB.out.trans (hB.mono HB.out.size))
  replace HT:=zh (HT0.out.below HB.out)
  replace HL:=zh (HL0.out.below HB.out)
  replace HS:=zh (HS0.out.below HB.out)
  replace HD:=zh (HD0.out.below HB.out)
  replace HR:=zh (HR.out.step hB)
  replace V1:=zh (V1.out.below hB)
  clear hB
  obtain ⟨W5, hA1⟩ : ∃ W0, W0 = W4.alloc (.cells #[.int .i64 ae, .int .i64 ar, .int .i64 ab, .int .i64 al, .int .i64 az] 41) := ⟨_, rfl⟩
  have hB : Below W4.heap.size W4 W5 := by rw [hA1]; exact (Below.refl _ _).alloc (Nat.le_refl _) _
  have hS1 : W5.heap.size = A9 + 2 := by rw [hA1]; simp [hS0]
  have HA2:=zh (show Blk W5 (A9 + 1) #[.int .i64 ae, .int .i64 ar, .int .i64 ab, .int .i64 al, .int .i64 az] 41 by rw [hA1, ← hS0]; exact blk_new _ _ _)
  replace HB:=zh (HB.out.trans (hB.mono HB.out.size))
  replace HT:=zh (HT0.out.below HB.out)
  replace HL:=zh (HL0.out.below HB.out)
  replace HS:=zh (HS0.out.below HB.out)
  replace HD:=zh (HD0.out.below HB.out)
  replace HR:=zh (HR.out.step hB)
  replace V1:=zh (V1.out.below hB)
  replace HA1:=zh (HA1.out.step hB)
  clear hB
  have HSA9 := zh hS1
  rw [← hA9, ← hA0, ← hA1]
  clear hA1 hA0 hA9 hS0 hS1
  have qR0 : W5.cell? ⟨N, 0, none⟩ = some (.int .i64 s.term) := cell_at HR.out 0
  have qR1 : W5.cell? ⟨N, 1, none⟩ = some (.int .i64 s.stamp) := cell_at HR.out 1
  have qR2 : W5.cell? ⟨N, 2, none⟩ = some (.int .i64 s.next) := cell_at HR.out 2
  have qR3 : W5.cell? ⟨N, 3, none⟩ = some (.slice ta tn tc) := cell_at HR.out 3
  have qR4 : W5.cell? ⟨N, 4, none⟩ = some (.slice la ln lc) := cell_at HR.out 4
  have qR5 : W5.cell? ⟨N, 5, none⟩ = some (.slice sa sn sc) := cell_at HR.out 5
  have qR6 : W5.cell? ⟨N, 6, none⟩ = some (.slice da dn dc) := cell_at HR.out 6
  have qRl : N < W5.heap.size := HR.out.lt
  go_wp2_with fail
  go_at_call 21
  go_fit (HGD.out _ _ (HSV.out _ HT.out HL.out HS.out HD.out))
  rintro e W6 ⟨v2, rfl, hv2, hB⟩
  clear qR0 qR1 qR2 qR3 qR4 qR5 qR6 qRl
  replace HB:=zh (HB.out.trans (hB.mono HB.out.size))
  replace HT:=zh (HT0.out.below HB.out)
  replace HL:=zh (HL0.out.below HB.out)
  replace HS:=zh (HS0.out.below HB.out)
  replace HD:=zh (HD0.out.below HB.out)
  replace HR:=zh (HR.out.step hB)
  replace V1:=zh (V1.out.below hB)
  replace HA1:=zh (HA1.out.step hB)
  replace HA2:=zh (HA2.out.step hB)
  clear hB
  obtain ⟨xt2, xl2, xs2, xd2, rfl, ht2, hl2, hs2, hd2⟩ := hv2
  obtain ⟨at2, nt2, ct2, rfl, _, _, _⟩ := ht2.sh
  obtain ⟨al2, nl2, cl2, rfl, _, _, _⟩ := hl2.sh
  obtain ⟨as2, ns2, cs2, rfl, _, _, _⟩ := hs2.sh
  obtain ⟨ad2, nd2, cd2, rfl, _, _, _⟩ := hd2.sh
  have V2:=zh (show SV _ (.agg #[.int .i64 s2.term, .int .i64 s2.stamp, .int .i64 s2.next, .slice at2 nt2 ct2, .slice al2 nl2 cl2, .slice as2 ns2 cs2, .slice ad2 nd2 cd2]) s2 from ⟨_, _, _, _, rfl, ht2, hl2, hs2, hd2⟩)
  clear ht2 hl2 hs2 hd2
  go_upto_region 5 with fail
  obtain ⟨B9, hB9⟩ : ∃ n0, n0 = W6.heap.size := ⟨_, rfl⟩
  have HXB9HR : Hid (N < B9):=zh (by rw [hB9]; exact HR.out.lt)
  have HXB9HA1 : Hid (A9 < B9):=zh (by rw [hB9]; exact HA1.out.lt)
  have HXB9HA2 : Hid ((A9 + 1) < B9):=zh (by rw [hB9]; exact HA2.out.lt)
  have HLOB9 : Hid (w.heap.size ≤ B9):=zh (by have := HB.out.size; omega)
  obtain ⟨W7, hA0⟩ : ∃ W0, W0 = W6.alloc (.cells #[.int .i64 s2.term, .int .i64 s2.stamp, .int .i64 s2.next, .slice at2 nt2 ct2, .slice al2 nl2 cl2, .slice as2 ns2 cs2, .slice ad2 nd2 cd2] 27) := ⟨_, rfl⟩
  have hB : Below W6.heap.size W6 W7 := by rw [hA0]; exact (Below.refl _ _).alloc (Nat.le_refl _) _
  have hS0 : W7.heap.size = B9 + 1 := by rw [hA0]; simp [← hB9]
  have HB1:=zh (show Blk W7 B9 #[.int .i64 s2.term, .int .i64 s2.stamp, .int .i64 s2.next, .slice at2 nt2 ct2, .slice al2 nl2 cl2, .slice as2 ns2 cs2, .slice ad2 nd2 cd2] 27 by rw [hA0, hB9]; exact blk_new _ _ _)
  replace HB:=zh (HB.out.trans (hB.mono HB.out.size))
  replace HT:=zh (HT0.out.below HB.out)
  replace HL:=zh (HL0.out.below HB.out)
  replace HS:=zh (HS0.out.below HB.out)
  replace HD:=zh (HD0.out.below HB.out)
  replace HR:=zh (HR.out.step hB)
  replace V1:=zh (V1.out.below hB)
  replace HA1:=zh (HA1.out.step hB)
  replace HA2:=zh (HA2.out.step hB)
  replace V2:=zh (V2.out.below hB)
  clear hB
  obtain ⟨W8, hA1⟩ : ∃ W0, W0 = W7.alloc (.cells #[.int .i64 ae, .int .i64 ar, .int .i64 ab, .int .i64 al, .int .i64 az] 41) := ⟨_, rfl⟩
  have hB : Below W7.heap.size W7 W8 := by rw [hA1]; exact (Below.refl _ _).alloc (Nat.le_refl _) _
  have hS1 : W8.heap.size = B9 + 2 := by rw [hA1]; simp [hS0]
  have HB2:=zh (show Blk W8 (B9 + 1) #[.int .i64 ae, .int .i64 ar, .int .i64 ab, .int .i64 al, .int .i64 az] 41 by rw [hA1, ← hS0]; exact blk_new _ _ _)
  replace HB:=zh (HB.out.trans (hB.mono HB.out.size))
  replace HT:=zh (HT0.out.below HB.out)
  replace HL:=zh (HL0.out.below HB.out)
  replace HS:=zh (HS0.out.below HB.out)
  replace HD:=zh (HD0.out.below HB.out)
  replace HR:=zh (HR.out.step hB)
  replace V1:=zh (V1.out.below hB)
  replace HA1:=zh (HA1.out.step hB)
  replace HA2:=zh (HA2.out.step hB)
  replace V2:=zh (V2.out.below hB)
  replace HB1:=zh (HB1.out.step hB)
  clear hB
  have HSB9 := zh hS1
  rw [← hB9, ← hA0, ← hA1]
  clear hA1 hA0 hB9 hS0 hS1
  have qA10 : W8.cell? ⟨A9, 0, none⟩ = some (.int .i64 s2.term) := cell_at HA1.out 0
  have qA11 : W8.cell? ⟨A9, 1, none⟩ = some (.int .i64 s2.stamp) := cell_at HA1.out 1
  have qA12 : W8.cell? ⟨A9, 2, none⟩ = some (.int .i64 s2.next) := cell_at HA1.out 2
  have qA13 : W8.cell? ⟨A9, 3, none⟩ = some (.slice at1 nt1 ct1) := cell_at HA1.out 3
  have qA14 : W8.cell? ⟨A9, 4, none⟩ = some (.slice al1 nl1 cl1) := cell_at HA1.out 4
  have qA15 : W8.cell? ⟨A9, 5, none⟩ = some (.slice as1 ns1 cs1) := cell_at HA1.out 5
  have qA16 : W8.cell? ⟨A9, 6, none⟩ = some (.slice ad1 nd1 cd1) := cell_at HA1.out 6
  have qA1z : ∀ j, W8.frozen? ⟨A9, j, none⟩ = false := fun j => free_at HA1.out j
  have qA1l : A9 < W8.heap.size := HA1.out.lt
  have qB10 : W8.cell? ⟨B9, 0, none⟩ = some (.int .i64 s2.term) := cell_at HB1.out 0
  have qB11 : W8.cell? ⟨B9, 1, none⟩ = some (.int .i64 s2.stamp) := cell_at HB1.out 1
  have qB12 : W8.cell? ⟨B9, 2, none⟩ = some (.int .i64 s2.next) := cell_at HB1.out 2
  have qB13 : W8.cell? ⟨B9, 3, none⟩ = some (.slice at2 nt2 ct2) := cell_at HB1.out 3
  have qB14 : W8.cell? ⟨B9, 4, none⟩ = some (.slice al2 nl2 cl2) := cell_at HB1.out 4
  have qB15 : W8.cell? ⟨B9, 5, none⟩ = some (.slice as2 ns2 cs2) := cell_at HB1.out 5
  have qB16 : W8.cell? ⟨B9, 6, none⟩ = some (.slice ad2 nd2 cd2) := cell_at HB1.out 6
  have qB1z : ∀ j, W8.frozen? ⟨B9, j, none⟩ = false := fun j => free_at HB1.out j
  have qB1l : B9 < W8.heap.size := HB1.out.lt
  go_wp2_with fail
  go_at_call 17
  go_fit (sameS_any _ _ s2 _ V1.out V2.out)
  rintro e W9 ⟨rfl, hB⟩
  clear qA10 qA11 qA12 qA13 qA14 qA15 qA16 qA1z qA1l qB10 qB11 qB12 qB13 qB14 qB15 qB16 qB1z qB1l
  replace HB:=zh (HB.out.trans (hB.mono HB.out.size))
  replace HT:=zh (HT0.out.below HB.out)
  replace HL:=zh (HL0.out.below HB.out)
  replace HS:=zh (HS0.out.below HB.out)
  replace HD:=zh (HD0.out.below HB.out)
  replace HR:=zh (HR.out.step hB)
  replace V1:=zh (V1.out.below hB)
  replace HA1:=zh (HA1.out.step hB)
  replace HA2:=zh (HA2.out.step hB)
  replace V2:=zh (V2.out.below hB)
  replace HB1:=zh (HB1.out.step hB)
  replace HB2:=zh (HB2.out.step hB)
  clear hB
  have qA20 : W9.cell? ⟨(A9 + 1), 0, none⟩ = some (.int .i64 ae) := cell_at HA2.out 0
  have qA21 : W9.cell? ⟨(A9 + 1), 1, none⟩ = some (.int .i64 ar) := cell_at HA2.out 1
  have qA22 : W9.cell? ⟨(A9 + 1), 2, none⟩ = some (.int .i64 ab) := cell_at HA2.out 2
  have qA23 : W9.cell? ⟨(A9 + 1), 3, none⟩ = some (.int .i64 al) := cell_at HA2.out 3
  have qA24 : W9.cell? ⟨(A9 + 1), 4, none⟩ = some (.int .i64 az) := cell_at HA2.out 4
  have qA2z : ∀ j, W9.frozen? ⟨(A9 + 1), j, none⟩ = false := fun j => free_at HA2.out j
  have qA2l : (A9 + 1) < W9.heap.size := HA2.out.lt
  have qB20 : W9.cell? ⟨(B9 + 1), 0, none⟩ = some (.int .i64 ae) := cell_at HB2.out 0
  have qB21 : W9.cell? ⟨(B9 + 1), 1, none⟩ = some (.int .i64 ar) := cell_at HB2.out 1
  have qB22 : W9.cell? ⟨(B9 + 1), 2, none⟩ = some (.int .i64 ab) := cell_at HB2.out 2
  have qB23 : W9.cell? ⟨(B9 + 1), 3, none⟩ = some (.int .i64 al) := cell_at HB2.out 3
  have qB24 : W9.cell? ⟨(B9 + 1), 4, none⟩ = some (.int .i64 az) := cell_at HB2.out 4
  have qB2z : ∀ j, W9.frozen? ⟨(B9 + 1), j, none⟩ = false := fun j => free_at HB2.out j
  have qB2l : (B9 + 1) < W9.heap.size := HB2.out.lt
  have hAN := HAN.out W9
  go_wp2_with fail
  go_at_call 10
  go_fit (HWK.out _)
  rintro e W10 ⟨rfl, hB⟩
  clear qA20 qA21 qA22 qA23 qA24 qA2z qA2l qB20 qB21 qB22 qB23 qB24 qB2z qB2l
  replace HB:=zh (HB.out.trans (hB.mono HB.out.size))
  replace HT:=zh (HT0.out.below HB.out)
  replace HL:=zh (HL0.out.below HB.out)
  replace HS:=zh (HS0.out.below HB.out)
  replace HD:=zh (HD0.out.below HB.out)
  replace HR:=zh (HR.out.step hB)
  replace V1:=zh (V1.out.below hB)
  replace HA1:=zh (HA1.out.step hB)
  replace HA2:=zh (HA2.out.step hB)
  replace V2:=zh (V2.out.below hB)
  replace HB1:=zh (HB1.out.step hB)
  replace HB2:=zh (HB2.out.step hB)
  clear hB
  go_wp2_with fail
  go_ret
  exact ⟨rfl, HB.out⟩
theorem ledgerGrants_dt (x : Dt) (sh ep nu te size : Int) (w : World) (hx : Fits Try.prog w 27 x) (hbd : (-9223372036854775808 ≤ sh ∧ sh ≤ 9223372036854775807) ∧ (-9223372036854775808 ≤ ep ∧ ep ≤ 9223372036854775807) ∧ (-9223372036854775808 ≤ nu ∧ nu ≤ 9223372036854775807) ∧ (-9223372036854775808 ≤ te ∧ te ≤ 9223372036854775807)) : Calls Try.prog 5 #[.agg x.cells.toArray, .int .i64 sh, .int .i64 ep, .int .i64 nu, .int .i64 te, .int .i64 size] w fun e w' => e = .returned (.bool true) ∧ Below w.heap.size w w' := by
  obtain ⟨s, l, e, h⟩ := state_inv hx
  rw [e]
  exact ledgerGrants_walk _ s sh ep nu te size w h hbd
end Go.Proofs.Ytfgnjpdlchimpaa
