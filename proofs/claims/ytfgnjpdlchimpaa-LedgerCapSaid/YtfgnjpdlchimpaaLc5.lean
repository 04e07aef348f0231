/-
  Texts of this claim, put together: LgG, LgB2, LgE.
-/
import Derived.Test.YtfgnjpdlchimpaaLc3
import Derived.Test.YtfgnjpdlchimpaaLc4
import Derived.Deep.DeepFit
import Derived.Lib.AppendZeros
import Derived.Defers
namespace Go.Proofs.Ytfgnjpdlchimpaa
open Go.RowKit
set_option linter.unusedSimpArgs false
set_option linter.unusedVariables false

theorem grE_eq (s : StE) (sh ep nu te size : Int) : grE s sh ep nu te size = (if argG sh ep nu size = false then 2 else if (fnd te s.ts).isSome = false ∨ ((fnd te s.ts).getD z0).gone = true then 161 else if 64 ≤ s.ls.length ∨ 1099511627776 ≤ s.next then 100 else takeE ((fnd te s.ts).getD z0).bkt size) := by
  unfold grE
  cases argG sh ep nu size
  · rfl
  · cases h : fnd te s.ts with
    | none => simp
    | some t => cases hg : t.gone <;> simp [hg]
theorem chkF_len : ∀ (L : List TnE) (last : Int), chkF last L = true → 0 ≤ last → L.length + last ≤ 16 ∨ L = []
  | [], _, _, _ => .inr rfl
  | y :: r, last, h, h0 => by
    unfold chkF mayT idB at h
    simp only [Bool.and_eq_true, decide_eq_true_eq] at h
    rcases chkF_len r y.id h.2 (by omega) with h1 | h1
    · left; simp only [List.length_cons]; omega
    · subst h1; left; simp only [List.length_cons, List.length_nil]; omega
theorem chk_len {L : List TnE} (h : chk L = true) : L.length ≤ 16 := by
  rcases chkF_len L 0 h (Int.le_refl _) with h | h
  · omega
  · subst h; simp
theorem layR_len (x : TnE) : ∀ L, (layR x L).length ≤ L.length + 1
  | [] => by simp [layR]
  | y :: r => by
    have := layR_len x r
    unfold layR
    split
    · simp only [List.length_cons]; omega
    · split <;> simp
theorem setL_len (L : List TnE) (x : TnE) : (setL L x).length ≤ L.length + 1 := by
  unfold setL
  split
  · exact layR_len x L
  · omega
theorem chkS_parts {s : StE} (h : chkS s = true) : chk s.ts = true ∧ lesB s = true ∧ capB s.ls s.ts = true := by
  unfold chkS at h
  simp only [Bool.and_eq_true] at h
  exact ⟨h.1.1, h.1.2, h.2⟩
theorem lesB_next {s : StE} (h : lesB s = true) : s.ls.length ≤ 64 ∧ 1 ≤ s.next ∧ s.next ≤ 1099511627776 := by
  unfold lesB at h
  simp only [Bool.and_eq_true, decide_eq_true_eq] at h
  exact ⟨h.1.1.2, h.1.2, h.2⟩
theorem fnd_ok {L : List TnE} (key : Int) (h : okL L) : ((fnd key L).getD z0).ok := by
  cases hf : fnd key L with
  | none => exact ⟨by decide, by decide, by decide, by decide, trivial⟩
  | some t => exact h t (List.mem_of_find?_eq_some hf)
theorem fnd_bd {L : List TnE} (key : Int) (h : chk L = true) : 0 ≤ ((fnd key L).getD z0).bkt ∧ ((fnd key L).getD z0).bkt ≤ 1000000000 := by
  cases hf : fnd key L with
  | none => exact ⟨by decide, by decide⟩
  | some t => have := chkF_bd L 0 h t (List.mem_of_find?_eq_some hf); exact ⟨this.1, this.2.1⟩
set_option maxRecDepth 100000 in
set_option maxHeartbeats 16000000 in
theorem grant_any (v : Value) (s : StE) (sh ep nu te size : Int) (w : World) (h : SV w v s) (hf : fewS s) (hbd : (-9223372036854775808 ≤ sh ∧ sh ≤ 9223372036854775807) ∧ (-9223372036854775808 ≤ ep ∧ ep ≤ 9223372036854775807) ∧ (-9223372036854775808 ≤ nu ∧ nu ≤ 9223372036854775807) ∧ (-9223372036854775808 ≤ te ∧ te ≤ 9223372036854775807)) :
    Calls Try.prog 20 #[v, .int .i64 sh, .int .i64 ep, .int .i64 nu, .int .i64 te, .int .i64 size] w fun e w' => ∃ v', e = .returned (.tuple #[v', grA s sh ep nu te size]) ∧ SV w' v' (grS s sh ep nu te size) ∧ Below w.heap.size w w' := by
  have HFEW := Lib.hid hf
  obtain ⟨f1, f2, f3, f4⟩ := hf
  obtain ⟨vt, vl, vs, vd, rfl, ht, hl, hs, hd⟩ := h
  obtain ⟨ta, tn, tc, rfl, Htn, tn1, tn2⟩ := ht.sh
  obtain ⟨la, ln, lc, rfl, Hln, ln1, ln2⟩ := hl.sh
  obtain ⟨sa, sn, sc, rfl, Hsn, sn1, sn2⟩ := hs.sh
  obtain ⟨da, dn, dc, rfl, Hdn, dn1, dn2⟩ := hd.sh
  have HT0 := Lib.hid ht
  have HL0 := Lib.hid hl
  have HS0 := Lib.hid hs
  have HD0 := Lib.hid hd
  have HT := Lib.hid ht
  have HL := Lib.hid hl
  have HS := Lib.hid hs
  have HD := Lib.hid hd
  clear ht hl hs hd
  rw [← Hln.out] at f2
  rw [← Htn.out] at f1
  have HSV : Hid (∀ W, TV W (.slice ta tn tc) s.ts → LeV W (.slice la ln lc) s.ls → SeV W (.slice sa sn sc) s.ss → DkV W (.slice da dn dc) s.ds → SV W (.agg #[.int .i64 s.term, .int .i64 s.stamp, .int .i64 s.next, .slice ta tn tc, .slice la ln lc, .slice sa sn sc, .slice da dn dc]) s) := Lib.hid (fun W h1 h2 h3 h4 => ⟨_, _, _, _, rfl, h1, h2, h3, h4⟩)
  have HCK := Lib.hid (fun W v (h : SV W v s) => checkS_any v s W h HFEW.out)
  have HTW := Lib.hid (fun W v (h : SV W v s) => twinO_any v s W h HFEW.out)
  obtain ⟨C, hC⟩ : ∃ C, C = chkS s := ⟨_, rfl⟩
  have HSZ := Lib.hid (fun h : C = true => lesB_size (s := s) (by rw [hC] at h; unfold chkS at h; simp only [Bool.and_eq_true] at h; exact h.1.2))
  rw [← hC] at HCK
  have HCE := Lib.hid hC
  clear hC
  obtain ⟨R, hR⟩ : ∃ R, R = grS s sh ep nu te size := ⟨_, rfl⟩
  obtain ⟨RA, hRA⟩ : ∃ RA, RA = grA s sh ep nu te size := ⟨_, rfl⟩
  rw [← hR, ← hRA]
  unfold grS at hR
  unfold grA at hRA
  rw [← HCE.out] at hR hRA
  have HR9 := Lib.hid hR
  have HRA := Lib.hid hRA
  have HCP := Lib.hid (fun h : C = true => chkS_parts (HCE.out.symm.trans h))
  have HGE := Lib.hid (grE_eq s sh ep nu te size)
  clear hR hRA
  have HB : Hid (Below w.heap.size w w) := Lib.hid (Below.refl _ _)
  have hmf : ∀ (fn : Fn) (first cap : Array Value) (w : World), (Instr.makeFunc fn first cap).run Try.prog w = .ok (.func fn first cap) w := fun _ _ _ _ => rfl
  go_enter_defers Try.func20, Try.ntmps20
  go_upto_region 1 with fail
  obtain ⟨N, hN⟩ : ∃ n0, n0 = w.heap.size := ⟨_, rfl⟩
  have HLON : Hid (w.heap.size ≤ N) := Lib.hid (by have := HB.out.size; omega)
  obtain ⟨W1, hA0⟩ : ∃ W0, W0 = w.alloc (.cells #[.int .i64 s.term, .int .i64 s.stamp, .int .i64 s.next, .slice ta tn tc, .slice la ln lc, .slice sa sn sc, .slice da dn dc] 27) := ⟨_, rfl⟩
  have hB : Below w.heap.size w W1 := by rw [hA0]; exact (Below.refl _ _).alloc (Nat.le_refl _) _
  have hS0 : W1.heap.size = N + 1 := by rw [hA0]; simp [← hN]
  have HR := Lib.hid (show Blk W1 N #[.int .i64 s.term, .int .i64 s.stamp, .int .i64 s.next, .slice ta tn tc, .slice la ln lc, .slice sa sn sc, .slice da dn dc] 27 by rw [hA0, hN]; exact blk_new _ _ _)
  replace HB := Lib.hid (HB.out.trans (hB.mono HB.out.size))
  replace HT := Lib.hid (HT0.out.below HB.out)
  replace HL := Lib.hid (HL0.out.below HB.out)
  replace HS := Lib.hid (HS0.out.below HB.out)
  replace HD := Lib.hid (HD0.out.below HB.out)
  clear hB
  obtain ⟨W2, hA1⟩ : ∃ W0, W0 = W1.alloc (.cells #[.int .i64 0, .int .i64 0, .int .i64 0, .slice none 0 0, .slice none 0 0, .slice none 0 0, .slice none 0 0] 27) := ⟨_, rfl⟩
  have hB : Below W1.heap.size W1 W2 := by rw [hA1]; exact (Below.refl _ _).alloc (Nat.le_refl _) _
  have hS1 : W2.heap.size = N + 2 := by rw [hA1]; simp [hS0]
  have HO := Lib.hid (show Blk W2 (N + 1) #[.int .i64 0, .int .i64 0, .int .i64 0, .slice none 0 0, .slice none 0 0, .slice none 0 0, .slice none 0 0] 27 by rw [hA1, ← hS0]; exact blk_new _ _ _)
  replace HB := Lib.hid (HB.out.trans (hB.mono HB.out.size))
  replace HT := Lib.hid (HT0.out.below HB.out)
  replace HL := Lib.hid (HL0.out.below HB.out)
  replace HS := Lib.hid (HS0.out.below HB.out)
  replace HD := Lib.hid (HD0.out.below HB.out)
  replace HR := Lib.hid (HR.out.step hB)
  clear hB
  obtain ⟨W3, hA2⟩ : ∃ W0, W0 = W2.alloc (.cells #[.int .i64 0, .int .i64 0, .int .i64 0, .int .i64 0, .int .i64 0] 41) := ⟨_, rfl⟩
  have hB : Below W2.heap.size W2 W3 := by rw [hA2]; exact (Below.refl _ _).alloc (Nat.le_refl _) _
  have hS2 : W3.heap.size = N + 3 := by rw [hA2]; simp [hS1]
  have HA := Lib.hid (show Blk W3 (N + 1 + 1) #[.int .i64 0, .int .i64 0, .int .i64 0, .int .i64 0, .int .i64 0] 41 by rw [hA2, ← hS1]; exact blk_new _ _ _)
  replace HB := Lib.hid (HB.out.trans (hB.mono HB.out.size))
  replace HT := Lib.hid (HT0.out.below HB.out)
  replace HL := Lib.hid (HL0.out.below HB.out)
  replace HS := Lib.hid (HS0.out.below HB.out)
  replace HD := Lib.hid (HD0.out.below HB.out)
  replace HR := Lib.hid (HR.out.step hB)
  replace HO := Lib.hid (HO.out.step hB)
  clear hB
  have HSN := Lib.hid hS2
  rw [← hN, ← hA0, ← hA1, ← hA2]
  clear hA2 hA1 hA0 hN hS0 hS1 hS2
  have qR0 : W3.cell? ⟨N, 0, none⟩ = some (.int .i64 s.term) := cell_at HR.out 0
  have qR1 : W3.cell? ⟨N, 1, none⟩ = some (.int .i64 s.stamp) := cell_at HR.out 1
  have qR2 : W3.cell? ⟨N, 2, none⟩ = some (.int .i64 s.next) := cell_at HR.out 2
  have qR3 : W3.cell? ⟨N, 3, none⟩ = some (.slice ta tn tc) := cell_at HR.out 3
  have qR4 : W3.cell? ⟨N, 4, none⟩ = some (.slice la ln lc) := cell_at HR.out 4
  have qR5 : W3.cell? ⟨N, 5, none⟩ = some (.slice sa sn sc) := cell_at HR.out 5
  have qR6 : W3.cell? ⟨N, 6, none⟩ = some (.slice da dn dc) := cell_at HR.out 6
  have qRz : ∀ j, W3.frozen? ⟨N, j, none⟩ = false := fun j => free_at HR.out j
  have qRl : N < W3.heap.size := HR.out.lt
  have FOO := Lib.hid HA.out.lt
  have HB0L : Hid (w.heap.size ≤ W3.heap.size) := Lib.hid HB.out.size
  go_wp2_with fail
  go_at_call 36
  go_fit (HTW.out _ _ (HSV.out _ HT.out HL.out HS.out HD.out))
  rintro e W4 ⟨v2, rfl, hso, hB⟩
  clear qR0 qR1 qR2 qR3 qR4 qR5 qR6 qRz qRl
  replace HB := Lib.hid (HB.out.trans (hB.mono HB.out.size))
  replace HT := Lib.hid (HT0.out.below HB.out)
  replace HL := Lib.hid (HL0.out.below HB.out)
  replace HS := Lib.hid (HS0.out.below HB.out)
  replace HD := Lib.hid (HD0.out.below HB.out)
  replace HR := Lib.hid (HR.out.step hB)
  replace HO := Lib.hid (HO.out.step hB)
  replace HA := Lib.hid (HA.out.step hB)
  clear hB
  obtain ⟨vt2, vl2, vs2, vd2, ot, ol, os, od, rfl, o1, o2, o3, o4⟩ := hso
  obtain ⟨b1, m1, k1, rfl, Hb1, x1, y1⟩ := o1.v.sh
  obtain ⟨b2, m2, k2, rfl, Hb2, x2, y2⟩ := o2.v.sh
  obtain ⟨b3, m3, k3, rfl, Hb3, x3, y3⟩ := o3.v.sh
  obtain ⟨b4, m4, k4, rfl, Hb4, x4, y4⟩ := o4.v.sh
  have O1 := Lib.hid o1
  have FO1 := Lib.hid (show (N + 1 + 1) < W3.heap.size from FOO.out)
  have O2 := Lib.hid o2
  have FO2 := Lib.hid (show (N + 1 + 1) < W3.heap.size from FOO.out)
  have O3 := Lib.hid o3
  have FO3 := Lib.hid (show (N + 1 + 1) < W3.heap.size from FOO.out)
  have O4 := Lib.hid o4
  have FO4 := Lib.hid (show (N + 1 + 1) < W3.heap.size from FOO.out)
  clear o1 o2 o3 o4
  have qO0 : W4.cell? ⟨(N + 1), 0, none⟩ = some (.int .i64 0) := cell_at HO.out 0
  have qO1 : W4.cell? ⟨(N + 1), 1, none⟩ = some (.int .i64 0) := cell_at HO.out 1
  have qO2 : W4.cell? ⟨(N + 1), 2, none⟩ = some (.int .i64 0) := cell_at HO.out 2
  have qO3 : W4.cell? ⟨(N + 1), 3, none⟩ = some (.slice none 0 0) := cell_at HO.out 3
  have qO4 : W4.cell? ⟨(N + 1), 4, none⟩ = some (.slice none 0 0) := cell_at HO.out 4
  have qO5 : W4.cell? ⟨(N + 1), 5, none⟩ = some (.slice none 0 0) := cell_at HO.out 5
  have qO6 : W4.cell? ⟨(N + 1), 6, none⟩ = some (.slice none 0 0) := cell_at HO.out 6
  have qOz : ∀ j, W4.frozen? ⟨(N + 1), j, none⟩ = false := fun j => free_at HO.out j
  have qOl : (N + 1) < W4.heap.size := HO.out.lt
  go_upto_region 2 with fail
  clear qO0 qO1 qO2 qO3 qO4 qO5 qO6 qOz qOl
  obtain ⟨LS, hLS⟩ : ∃ L : List Value, L = [.int .i64 s.term, .int .i64 s.stamp, .int .i64 s.next, .slice b1 m1 k1, .slice b2 m2 k2, .slice b3 m3 k3, .slice b4 m4 k4] := ⟨_, rfl⟩
  obtain ⟨W5, hWS⟩ : ∃ WS, WS = W4.setCells (N + 1) 0 LS := ⟨_, rfl⟩
  have hch := hWS
  rw [hLS] at hch
  simp only [World.setCells, Nat.zero_add, Nat.reduceAdd] at hch
  rw [← hch]
  clear hch
  have hkS := stC_blk HO.out LS (by rw [hLS]; rfl)
  have hfS := stC_fr (N + 1) LS 0 W4
  rw [← hWS] at hkS hfS
  rw [hLS] at hkS
  replace HB := Lib.hid (HB.out.trans (hfS.below HB.out.size (by have := HLON.out; simp; try omega)))
  replace HT := Lib.hid (HT0.out.below HB.out)
  replace HL := Lib.hid (HL0.out.below HB.out)
  replace HS := Lib.hid (HS0.out.below HB.out)
  replace HD := Lib.hid (HD0.out.below HB.out)
  replace HR := Lib.hid (show Blk W5 N #[.int .i64 s.term, .int .i64 s.stamp, .int .i64 s.next, .slice ta tn tc, .slice la ln lc, .slice sa sn sc, .slice da dn dc] 27 from (hfS.block _ HR.out.lt (by simp; try omega)).trans HR.out)
  replace HA := Lib.hid (show Blk W5 (N + 1 + 1) #[.int .i64 0, .int .i64 0, .int .i64 0, .int .i64 0, .int .i64 0] 41 from (hfS.block _ HA.out.lt (by simp; try omega)).trans HA.out)
  replace O1 := Lib.hid (O1.out.fr hfS (by have := FO1.out; omega))
  replace O2 := Lib.hid (O2.out.fr hfS (by have := FO2.out; omega))
  replace O3 := Lib.hid (O3.out.fr hfS (by have := FO3.out; omega))
  replace O4 := Lib.hid (O4.out.fr hfS (by have := FO4.out; omega))
  replace HO := Lib.hid (show Blk W5 (N + 1) #[.int .i64 s.term, .int .i64 s.stamp, .int .i64 s.next, .slice b1 m1 k1, .slice b2 m2 k2, .slice b3 m3 k3, .slice b4 m4 k4] 27 from hkS)
  clear hWS hLS hkS hfS
  have qR0 : W5.cell? ⟨N, 0, none⟩ = some (.int .i64 s.term) := cell_at HR.out 0
  have qR1 : W5.cell? ⟨N, 1, none⟩ = some (.int .i64 s.stamp) := cell_at HR.out 1
  have qR2 : W5.cell? ⟨N, 2, none⟩ = some (.int .i64 s.next) := cell_at HR.out 2
  have qR3 : W5.cell? ⟨N, 3, none⟩ = some (.slice ta tn tc) := cell_at HR.out 3
  have qR4 : W5.cell? ⟨N, 4, none⟩ = some (.slice la ln lc) := cell_at HR.out 4
  have qR5 : W5.cell? ⟨N, 5, none⟩ = some (.slice sa sn sc) := cell_at HR.out 5
  have qR6 : W5.cell? ⟨N, 6, none⟩ = some (.slice da dn dc) := cell_at HR.out 6
  have qRz : ∀ j, W5.frozen? ⟨N, j, none⟩ = false := fun j => free_at HR.out j
  have qRl : N < W5.heap.size := HR.out.lt
  go_wp2_with fail
  go_at_call 16
  go_fit (HCK.out _ _ (HSV.out _ HT.out HL.out HS.out HD.out))
  rintro e W6 ⟨rfl, hB⟩
  clear qR0 qR1 qR2 qR3 qR4 qR5 qR6 qRz qRl
  replace HB := Lib.hid (HB.out.trans (hB.mono HB.out.size))
  replace HT := Lib.hid (HT0.out.below HB.out)
  replace HL := Lib.hid (HL0.out.below HB.out)
  replace HS := Lib.hid (HS0.out.below HB.out)
  replace HD := Lib.hid (HD0.out.below HB.out)
  replace HR := Lib.hid (HR.out.step hB)
  replace HO := Lib.hid (HO.out.step hB)
  replace HA := Lib.hid (HA.out.step hB)
  replace O1 := Lib.hid (O1.out.step hB)
  replace O2 := Lib.hid (O2.out.step hB)
  replace O3 := Lib.hid (O3.out.step hB)
  replace O4 := Lib.hid (O4.out.step hB)
  clear hB
  cases C
  · skip
    have qO0 : W6.cell? ⟨(N + 1), 0, none⟩ = some (.int .i64 s.term) := cell_at HO.out 0
    have qO1 : W6.cell? ⟨(N + 1), 1, none⟩ = some (.int .i64 s.stamp) := cell_at HO.out 1
    have qO2 : W6.cell? ⟨(N + 1), 2, none⟩ = some (.int .i64 s.next) := cell_at HO.out 2
    have qO3 : W6.cell? ⟨(N + 1), 3, none⟩ = some (.slice b1 m1 k1) := cell_at HO.out 3
    have qO4 : W6.cell? ⟨(N + 1), 4, none⟩ = some (.slice b2 m2 k2) := cell_at HO.out 4
    have qO5 : W6.cell? ⟨(N + 1), 5, none⟩ = some (.slice b3 m3 k3) := cell_at HO.out 5
    have qO6 : W6.cell? ⟨(N + 1), 6, none⟩ = some (.slice b4 m4 k4) := cell_at HO.out 6
    have qOz : ∀ j, W6.frozen? ⟨(N + 1), j, none⟩ = false := fun j => free_at HO.out j
    have qOl : (N + 1) < W6.heap.size := HO.out.lt
    have qA0 : W6.cell? ⟨(N + 1 + 1), 0, none⟩ = some (.int .i64 0) := cell_at HA.out 0
    have qA1 : W6.cell? ⟨(N + 1 + 1), 1, none⟩ = some (.int .i64 0) := cell_at HA.out 1
    have qA2 : W6.cell? ⟨(N + 1 + 1), 2, none⟩ = some (.int .i64 0) := cell_at HA.out 2
    have qA3 : W6.cell? ⟨(N + 1 + 1), 3, none⟩ = some (.int .i64 0) := cell_at HA.out 3
    have qA4 : W6.cell? ⟨(N + 1 + 1), 4, none⟩ = some (.int .i64 0) := cell_at HA.out 4
    have qAz : ∀ j, W6.frozen? ⟨(N + 1 + 1), j, none⟩ = false := fun j => free_at HA.out j
    have qAl : (N + 1 + 1) < W6.heap.size := HA.out.lt
    go_wp2_with fail
    clear qO0 qO1 qO2 qO3 qO4 qO5 qO6 qOz qOl qA0 qA1 qA2 qA3 qA4 qAz qAl
    obtain ⟨LS, hLS⟩ : ∃ L : List Value, L = [.int .i64 s.term, .int .i64 s.stamp, .int .i64 s.next, .slice b1 m1 k1, .slice b2 m2 k2, .slice b3 m3 k3, .slice b4 m4 k4] := ⟨_, rfl⟩
    obtain ⟨W7, hWS⟩ : ∃ WS, WS = W6.setCells (N + 1) 0 LS := ⟨_, rfl⟩
    have hch := hWS
    rw [hLS] at hch
    simp only [World.setCells, Nat.zero_add, Nat.reduceAdd] at hch
    rw [← hch]
    clear hch
    have hkS := stC_blk HO.out LS (by rw [hLS]; rfl)
    have hfS := stC_fr (N + 1) LS 0 W6
    rw [← hWS] at hkS hfS
    rw [hLS] at hkS
    replace HB := Lib.hid (HB.out.trans (hfS.below HB.out.size (by have := HLON.out; simp; try omega)))
    replace HT := Lib.hid (HT0.out.below HB.out)
    replace HL := Lib.hid (HL0.out.below HB.out)
    replace HS := Lib.hid (HS0.out.below HB.out)
    replace HD := Lib.hid (HD0.out.below HB.out)
    replace HR := Lib.hid (show Blk W7 N #[.int .i64 s.term, .int .i64 s.stamp, .int .i64 s.next, .slice ta tn tc, .slice la ln lc, .slice sa sn sc, .slice da dn dc] 27 from (hfS.block _ HR.out.lt (by simp; try omega)).trans HR.out)
    replace HA := Lib.hid (show Blk W7 (N + 1 + 1) #[.int .i64 0, .int .i64 0, .int .i64 0, .int .i64 0, .int .i64 0] 41 from (hfS.block _ HA.out.lt (by simp; try omega)).trans HA.out)
    replace O1 := Lib.hid (O1.out.fr hfS (by have := FO1.out; omega))
    replace O2 := Lib.hid (O2.out.fr hfS (by have := FO2.out; omega))
    replace O3 := Lib.hid (O3.out.fr hfS (by have := FO3.out; omega))
    replace O4 := Lib.hid (O4.out.fr hfS (by have := FO4.out; omega))
    replace HO := Lib.hid (show Blk W7 (N + 1) #[.int .i64 s.term, .int .i64 s.stamp, .int .i64 s.next, .slice b1 m1 k1, .slice b2 m2 k2, .slice b3 m3 k3, .slice b4 m4 k4] 27 from hkS)
    clear hWS hLS hkS hfS
    obtain ⟨LS, hLS⟩ : ∃ L : List Value, L = [.int .i64 2, .int .i64 0, .int .i64 0, .int .i64 0, .int .i64 0] := ⟨_, rfl⟩
    obtain ⟨W8, hWS⟩ : ∃ WS, WS = W7.setCells (N + 1 + 1) 0 LS := ⟨_, rfl⟩
    have hch := hWS
    rw [hLS] at hch
    simp only [World.setCells, Nat.zero_add, Nat.reduceAdd] at hch
    rw [← hch]
    clear hch
    have hkS := stC_blk HA.out LS (by rw [hLS]; rfl)
    have hfS := stC_fr (N + 1 + 1) LS 0 W7
    rw [← hWS] at hkS hfS
    rw [hLS] at hkS
    replace HB := Lib.hid (HB.out.trans (hfS.below HB.out.size (by have := HLON.out; simp; try omega)))
    replace HT := Lib.hid (HT0.out.below HB.out)
    replace HL := Lib.hid (HL0.out.below HB.out)
    replace HS := Lib.hid (HS0.out.below HB.out)
    replace HD := Lib.hid (HD0.out.below HB.out)
    replace HR := Lib.hid (show Blk W8 N #[.int .i64 s.term, .int .i64 s.stamp, .int .i64 s.next, .slice ta tn tc, .slice la ln lc, .slice sa sn sc, .slice da dn dc] 27 from (hfS.block _ HR.out.lt (by simp; try omega)).trans HR.out)
    replace HO := Lib.hid (show Blk W8 (N + 1) #[.int .i64 s.term, .int .i64 s.stamp, .int .i64 s.next, .slice b1 m1 k1, .slice b2 m2 k2, .slice b3 m3 k3, .slice b4 m4 k4] 27 from (hfS.block _ HO.out.lt (by simp; try omega)).trans HO.out)
    replace O1 := Lib.hid (O1.out.fr hfS (by have := FO1.out; omega))
    replace O2 := Lib.hid (O2.out.fr hfS (by have := FO2.out; omega))
    replace O3 := Lib.hid (O3.out.fr hfS (by have := FO3.out; omega))
    replace O4 := Lib.hid (O4.out.fr hfS (by have := FO4.out; omega))
    replace HA := Lib.hid (show Blk W8 (N + 1 + 1) #[.int .i64 2, .int .i64 0, .int .i64 0, .int .i64 0, .int .i64 0] 41 from hkS)
    clear hWS hLS hkS hfS
    have qO0 : W8.cell? ⟨(N + 1), 0, none⟩ = some (.int .i64 s.term) := cell_at HO.out 0
    have qO1 : W8.cell? ⟨(N + 1), 1, none⟩ = some (.int .i64 s.stamp) := cell_at HO.out 1
    have qO2 : W8.cell? ⟨(N + 1), 2, none⟩ = some (.int .i64 s.next) := cell_at HO.out 2
    have qO3 : W8.cell? ⟨(N + 1), 3, none⟩ = some (.slice b1 m1 k1) := cell_at HO.out 3
    have qO4 : W8.cell? ⟨(N + 1), 4, none⟩ = some (.slice b2 m2 k2) := cell_at HO.out 4
    have qO5 : W8.cell? ⟨(N + 1), 5, none⟩ = some (.slice b3 m3 k3) := cell_at HO.out 5
    have qO6 : W8.cell? ⟨(N + 1), 6, none⟩ = some (.slice b4 m4 k4) := cell_at HO.out 6
    have qOz : ∀ j, W8.frozen? ⟨(N + 1), j, none⟩ = false := fun j => free_at HO.out j
    have qOl : (N + 1) < W8.heap.size := HO.out.lt
    have qA0 : W8.cell? ⟨(N + 1 + 1), 0, none⟩ = some (.int .i64 2) := cell_at HA.out 0
    have qA1 : W8.cell? ⟨(N + 1 + 1), 1, none⟩ = some (.int .i64 0) := cell_at HA.out 1
    have qA2 : W8.cell? ⟨(N + 1 + 1), 2, none⟩ = some (.int .i64 0) := cell_at HA.out 2
    have qA3 : W8.cell? ⟨(N + 1 + 1), 3, none⟩ = some (.int .i64 0) := cell_at HA.out 3
    have qA4 : W8.cell? ⟨(N + 1 + 1), 4, none⟩ = some (.int .i64 0) := cell_at HA.out 4
    have qAz : ∀ j, W8.frozen? ⟨(N + 1 + 1), j, none⟩ = false := fun j => free_at HA.out j
    have qAl : (N + 1 + 1) < W8.heap.size := HA.out.lt
    exact ⟨.tuple #[.agg #[.int .i64 s.term, .int .i64 s.stamp, .int .i64 s.next, .slice b1 m1 k1, .slice b2 m2 k2, .slice b3 m3 k3, .slice b4 m4 k4], .agg #[.int .i64 2, .int .i64 0, .int .i64 0, .int .i64 0, .int .i64 0]], by simp [results, Try.results20, go_sem, qO0, qO1, qO2, qO3, qO4, qO5, qO6, qA0, qA1, qA2, qA3, qA4], _, (by rw [show RA = ansG 2 0 0 0 0 from HRA.out]; rfl), (by rw [show R = s from HR9.out]; exact ⟨_, _, _, _, rfl, tn_tv O1.out.v, O2.out.v, O3.out.v, O4.out.v⟩), HB.out⟩
  replace HR9 : Hid (R = if grE s sh ep nu te size = 0 then sweptS (grL s sh ep nu te size) else sweptS s) := HR9
  replace HRA : Hid (RA = if grE s sh ep nu te size = 0 then ansG 0 ((fnd te s.ts).getD z0).rate ((fnd te s.ts).getD z0).burst s.next size else ansG (grE s sh ep nu te size) 0 0 0 0) := HRA
  obtain ⟨hck, hlb, hcb⟩ := HCP.out rfl
  have hsz := HSZ.out rfl
  have HSZ9 := Lib.hid hsz
  obtain ⟨hl64, hn1, hn2⟩ := lesB_next hlb
  have ht16 := chk_len hck
  rw [← Hln.out] at hl64
  rw [← Htn.out] at ht16
  have HFD := Lib.hid (fun W (h : TV W (.slice ta tn tc) s.ts) => pFind_any _ s.ts te W h)
  have hfc : fndC te s.ts = fnd te s.ts := by unfold fndC; rw [hck]; rfl
  rw [hfc] at HFD
  have hbd9 := fnd_bd te hck
  have hok9 := fnd_ok te HT.out.ok
  obtain ⟨y, hy⟩ : ∃ y, y = (fnd te s.ts).getD z0 := ⟨_, rfl⟩
  obtain ⟨sm, hsm⟩ : ∃ sm, sm = (fnd te s.ts).isSome := ⟨_, rfl⟩
  unfold TnE.agg at HFD
  rw [← hy] at HFD HGE HRA hbd9 hok9
  rw [← hsm] at HFD HGE
  have HY := Lib.hid hy
  obtain ⟨yg, hyg⟩ : ∃ yg, yg = y.gone := ⟨_, rfl⟩
  rw [← hyg] at HFD HGE
  have HYG := Lib.hid hyg
  have HOKY := Lib.hid hok9
  obtain ⟨yk, hyk⟩ : ∃ yk, yk = y.bkt := ⟨_, rfl⟩
  rw [← hyk] at HFD HGE hbd9
  have HYK := Lib.hid hyk
  have HTK := Lib.hid (fun W => take_any yk size (by omega) (by omega) W)
  obtain ⟨lf, hlf⟩ : ∃ lf, lf = takeV yk size := ⟨_, rfl⟩
  obtain ⟨e0, he0⟩ : ∃ e0, e0 = takeE yk size := ⟨_, rfl⟩
  rw [← hlf, ← he0] at HTK
  rw [← he0] at HGE
  have HLF := Lib.hid hlf
  have HE0 := Lib.hid he0
  obtain ⟨ge, hge⟩ : ∃ ge, ge = grE s sh ep nu te size := ⟨_, rfl⟩
  rw [← hge] at HGE HR9 HRA
  have HGEE := Lib.hid hge
  have HSH := Lib.hid (fun W => isShaper_any sh W)
  have HSI := Lib.hid (fun W => isSize_any size W)
  have HAG : Hid (argG sh ep nu size = ((decide (1 ≤ sh) && decide (sh ≤ 8)) && decide (1 ≤ ep) && decide (1 ≤ nu) && (decide (1 ≤ size) && decide (size ≤ 1000000)))) := Lib.hid rfl
  have HSB : Hid (∀ b, (decide (1 ≤ size) && decide (size ≤ 1000000)) = b → b = true → 1 ≤ size ∧ size ≤ 1000000) := Lib.hid (fun b h1 h2 => by rw [h2] at h1; simpa using h1)
  obtain ⟨shb, hshb⟩ : ∃ b, b = (decide (1 ≤ sh) && decide (sh ≤ 8)) := ⟨_, rfl⟩
  obtain ⟨szb, hszb⟩ : ∃ b, b = (decide (1 ≤ size) && decide (size ≤ 1000000)) := ⟨_, rfl⟩
  rw [← hshb] at HSH HAG
  rw [← hszb] at HSI HAG
  have HSB2 : Hid (szb = true → 1 ≤ size ∧ size ≤ 1000000) := Lib.hid (HSB.out szb hszb.symm)
  have HCHK := Lib.hid hck
  clear hck hlb hcb hsz hfc hy hsm hyg hok9 hyk hlf he0 hge hshb hszb HSB HCP HSZ HCE
  have qR0 : W6.cell? ⟨N, 0, none⟩ = some (.int .i64 s.term) := cell_at HR.out 0
  have qR1 : W6.cell? ⟨N, 1, none⟩ = some (.int .i64 s.stamp) := cell_at HR.out 1
  have qR2 : W6.cell? ⟨N, 2, none⟩ = some (.int .i64 s.next) := cell_at HR.out 2
  have qR3 : W6.cell? ⟨N, 3, none⟩ = some (.slice ta tn tc) := cell_at HR.out 3
  have qR4 : W6.cell? ⟨N, 4, none⟩ = some (.slice la ln lc) := cell_at HR.out 4
  have qR5 : W6.cell? ⟨N, 5, none⟩ = some (.slice sa sn sc) := cell_at HR.out 5
  have qR6 : W6.cell? ⟨N, 6, none⟩ = some (.slice da dn dc) := cell_at HR.out 6
  have qRz : ∀ j, W6.frozen? ⟨N, j, none⟩ = false := fun j => free_at HR.out j
  have qRl : N < W6.heap.size := HR.out.lt
  go_wp2_with fail
  go_at_call 44
  go_fit (HFD.out _ HT.out)
  rintro e W7 ⟨rfl, hB⟩
  clear qR0 qR1 qR2 qR3 qR4 qR5 qR6 qRz qRl
  replace HB := Lib.hid (HB.out.trans (hB.mono HB.out.size))
  replace HT := Lib.hid (HT0.out.below HB.out)
  replace HL := Lib.hid (HL0.out.below HB.out)
  replace HS := Lib.hid (HS0.out.below HB.out)
  replace HD := Lib.hid (HD0.out.below HB.out)
  replace HR := Lib.hid (HR.out.step hB)
  replace HO := Lib.hid (HO.out.step hB)
  replace HA := Lib.hid (HA.out.step hB)
  replace O1 := Lib.hid (O1.out.step hB)
  replace O2 := Lib.hid (O2.out.step hB)
  replace O3 := Lib.hid (O3.out.step hB)
  replace O4 := Lib.hid (O4.out.step hB)
  clear hB
  go_upto_region 6 with fail
  obtain ⟨T9, hT9⟩ : ∃ n0, n0 = W7.heap.size := ⟨_, rfl⟩
  have HXT9HR : Hid (N < T9) := Lib.hid (by rw [hT9]; exact HR.out.lt)
  have HXT9HO : Hid ((N + 1) < T9) := Lib.hid (by rw [hT9]; exact HO.out.lt)
  have HXT9HA : Hid ((N + 1 + 1) < T9) := Lib.hid (by rw [hT9]; exact HA.out.lt)
  have HUT9O1 : Hid (∀ g, ot = some g → g < T9) := Lib.hid (fun g e => by rw [hT9]; subst e; exact O1.out.1.lt)
  have HUT9O2 : Hid (∀ g, ol = some g → g < T9) := Lib.hid (fun g e => by rw [hT9]; subst e; exact O2.out.1.lt)
  have HUT9O3 : Hid (∀ g, os = some g → g < T9) := Lib.hid (fun g e => by rw [hT9]; subst e; exact O3.out.1.lt)
  have HUT9O4 : Hid (∀ g, od = some g → g < T9) := Lib.hid (fun g e => by rw [hT9]; subst e; exact O4.out.1.lt)
  have HLOT9 : Hid (w.heap.size ≤ T9) := Lib.hid (by have := HB.out.size; omega)
  obtain ⟨W8, hA0⟩ : ∃ W0, W0 = W7.alloc (.cells #[.int .i64 y.id, .int .i64 y.rate, .int .i64 y.burst, .int .i64 yk, .bool yg] 54) := ⟨_, rfl⟩
  have hB : Below W7.heap.size W7 W8 := by rw [hA0]; exact (Below.refl _ _).alloc (Nat.le_refl _) _
  have hS0 : W8.heap.size = T9 + 1 := by rw [hA0]; simp [← hT9]
  have HT9 := Lib.hid (show Blk W8 T9 #[.int .i64 y.id, .int .i64 y.rate, .int .i64 y.burst, .int .i64 yk, .bool yg] 54 by rw [hA0, hT9]; exact blk_new _ _ _)
  replace HB := Lib.hid (HB.out.trans (hB.mono HB.out.size))
  replace HT := Lib.hid (HT0.out.below HB.out)
  replace HL := Lib.hid (HL0.out.below HB.out)
  replace HS := Lib.hid (HS0.out.below HB.out)
  replace HD := Lib.hid (HD0.out.below HB.out)
  replace HR := Lib.hid (HR.out.step hB)
  replace HO := Lib.hid (HO.out.step hB)
  replace HA := Lib.hid (HA.out.step hB)
  replace O1 := Lib.hid (O1.out.step hB)
  replace O2 := Lib.hid (O2.out.step hB)
  replace O3 := Lib.hid (O3.out.step hB)
  replace O4 := Lib.hid (O4.out.step hB)
  clear hB
  have HST9 := Lib.hid hS0
  rw [← hT9, ← hA0]
  clear hA0 hT9 hS0
  have qT90 : W8.cell? ⟨T9, 0, none⟩ = some (.int .i64 y.id) := cell_at HT9.out 0
  have qT91 : W8.cell? ⟨T9, 1, none⟩ = some (.int .i64 y.rate) := cell_at HT9.out 1
  have qT92 : W8.cell? ⟨T9, 2, none⟩ = some (.int .i64 y.burst) := cell_at HT9.out 2
  have qT93 : W8.cell? ⟨T9, 3, none⟩ = some (.int .i64 yk) := cell_at HT9.out 3
  have qT94 : W8.cell? ⟨T9, 4, none⟩ = some (.bool yg) := cell_at HT9.out 4
  have qT9z : ∀ j, W8.frozen? ⟨T9, j, none⟩ = false := fun j => free_at HT9.out j
  have qT9l : T9 < W8.heap.size := HT9.out.lt
  go_wp2_with fail
  go_at_call 45
  go_fit (HTK.out _)
  rintro e WK ⟨rfl, rfl⟩
  go_wp2_with fail
  go_at_call 46
  go_fit (HSH.out _)
  rintro e W9 ⟨rfl, hB⟩
  clear qT90 qT91 qT92 qT93 qT94 qT9z qT9l
  replace HB := Lib.hid (HB.out.trans (hB.mono HB.out.size))
  replace HT := Lib.hid (HT0.out.below HB.out)
  replace HL := Lib.hid (HL0.out.below HB.out)
  replace HS := Lib.hid (HS0.out.below HB.out)
  replace HD := Lib.hid (HD0.out.below HB.out)
  replace HR := Lib.hid (HR.out.step hB)
  replace HO := Lib.hid (HO.out.step hB)
  replace HA := Lib.hid (HA.out.step hB)
  replace O1 := Lib.hid (O1.out.step hB)
  replace O2 := Lib.hid (O2.out.step hB)
  replace O3 := Lib.hid (O3.out.step hB)
  replace O4 := Lib.hid (O4.out.step hB)
  replace HT9 := Lib.hid (HT9.out.step hB)
  clear hB
  cases shb
  · skip
    have hge : ge = 2 := by rw [HGE.out]; rw [if_pos (by rw [HAG.out]; simp [*])]
    have HGX := Lib.hid hge
    clear hge
    have qO0 : W9.cell? ⟨(N + 1), 0, none⟩ = some (.int .i64 s.term) := cell_at HO.out 0
    have qO1 : W9.cell? ⟨(N + 1), 1, none⟩ = some (.int .i64 s.stamp) := cell_at HO.out 1
    have qO2 : W9.cell? ⟨(N + 1), 2, none⟩ = some (.int .i64 s.next) := cell_at HO.out 2
    have qO3 : W9.cell? ⟨(N + 1), 3, none⟩ = some (.slice b1 m1 k1) := cell_at HO.out 3
    have qO4 : W9.cell? ⟨(N + 1), 4, none⟩ = some (.slice b2 m2 k2) := cell_at HO.out 4
    have qO5 : W9.cell? ⟨(N + 1), 5, none⟩ = some (.slice b3 m3 k3) := cell_at HO.out 5
    have qO6 : W9.cell? ⟨(N + 1), 6, none⟩ = some (.slice b4 m4 k4) := cell_at HO.out 6
    have qOz : ∀ j, W9.frozen? ⟨(N + 1), j, none⟩ = false := fun j => free_at HO.out j
    have qOl : (N + 1) < W9.heap.size := HO.out.lt
    have qA0 : W9.cell? ⟨(N + 1 + 1), 0, none⟩ = some (.int .i64 0) := cell_at HA.out 0
    have qA1 : W9.cell? ⟨(N + 1 + 1), 1, none⟩ = some (.int .i64 0) := cell_at HA.out 1
    have qA2 : W9.cell? ⟨(N + 1 + 1), 2, none⟩ = some (.int .i64 0) := cell_at HA.out 2
    have qA3 : W9.cell? ⟨(N + 1 + 1), 3, none⟩ = some (.int .i64 0) := cell_at HA.out 3
    have qA4 : W9.cell? ⟨(N + 1 + 1), 4, none⟩ = some (.int .i64 0) := cell_at HA.out 4
    have qAz : ∀ j, W9.frozen? ⟨(N + 1 + 1), j, none⟩ = false := fun j => free_at HA.out j
    have qAl : (N + 1 + 1) < W9.heap.size := HA.out.lt
    have qT90 : W9.cell? ⟨T9, 0, none⟩ = some (.int .i64 y.id) := cell_at HT9.out 0
    have qT91 : W9.cell? ⟨T9, 1, none⟩ = some (.int .i64 y.rate) := cell_at HT9.out 1
    have qT92 : W9.cell? ⟨T9, 2, none⟩ = some (.int .i64 y.burst) := cell_at HT9.out 2
    have qT93 : W9.cell? ⟨T9, 3, none⟩ = some (.int .i64 yk) := cell_at HT9.out 3
    have qT94 : W9.cell? ⟨T9, 4, none⟩ = some (.bool yg) := cell_at HT9.out 4
    have qT9z : ∀ j, W9.frozen? ⟨T9, j, none⟩ = false := fun j => free_at HT9.out j
    have qT9l : T9 < W9.heap.size := HT9.out.lt
    have qR0 : W9.cell? ⟨N, 0, none⟩ = some (.int .i64 s.term) := cell_at HR.out 0
    have qR1 : W9.cell? ⟨N, 1, none⟩ = some (.int .i64 s.stamp) := cell_at HR.out 1
    have qR2 : W9.cell? ⟨N, 2, none⟩ = some (.int .i64 s.next) := cell_at HR.out 2
    have qR3 : W9.cell? ⟨N, 3, none⟩ = some (.slice ta tn tc) := cell_at HR.out 3
    have qR4 : W9.cell? ⟨N, 4, none⟩ = some (.slice la ln lc) := cell_at HR.out 4
    have qR5 : W9.cell? ⟨N, 5, none⟩ = some (.slice sa sn sc) := cell_at HR.out 5
    have qR6 : W9.cell? ⟨N, 6, none⟩ = some (.slice da dn dc) := cell_at HR.out 6
    have qRz : ∀ j, W9.frozen? ⟨N, j, none⟩ = false := fun j => free_at HR.out j
    have qRl : N < W9.heap.size := HR.out.lt
    go_wp2_with fail
    clear qO0 qO1 qO2 qO3 qO4 qO5 qO6 qOz qOl qA0 qA1 qA2 qA3 qA4 qAz qAl qT90 qT91 qT92 qT93 qT94 qT9z qT9l qR0 qR1 qR2 qR3 qR4 qR5 qR6 qRz qRl
    obtain ⟨LS, hLS⟩ : ∃ L : List Value, L = [.int .i64 s.term, .int .i64 s.stamp, .int .i64 s.next, .slice b1 m1 k1, .slice b2 m2 k2, .slice b3 m3 k3, .slice b4 m4 k4] := ⟨_, rfl⟩
    obtain ⟨W10, hWS⟩ : ∃ WS, WS = W9.setCells (N + 1) 0 LS := ⟨_, rfl⟩
    have hch := hWS
    rw [hLS] at hch
    simp only [World.setCells, Nat.zero_add, Nat.reduceAdd] at hch
    rw [← hch]
    clear hch
    have hkS := stC_blk HO.out LS (by rw [hLS]; rfl)
    have hfS := stC_fr (N + 1) LS 0 W9
    rw [← hWS] at hkS hfS
    rw [hLS] at hkS
    replace HB := Lib.hid (HB.out.trans (hfS.below HB.out.size (by have := HLON.out; simp; try omega)))
    replace HT := Lib.hid (HT0.out.below HB.out)
    replace HL := Lib.hid (HL0.out.below HB.out)
    replace HS := Lib.hid (HS0.out.below HB.out)
    replace HD := Lib.hid (HD0.out.below HB.out)
    replace HR := Lib.hid (show Blk W10 N #[.int .i64 s.term, .int .i64 s.stamp, .int .i64 s.next, .slice ta tn tc, .slice la ln lc, .slice sa sn sc, .slice da dn dc] 27 from (hfS.block _ HR.out.lt (by have hx0 := HXT9HR.out; have hx1 := HXT9HO.out; have hx2 := HXT9HA.out; simp; try omega)).trans HR.out)
    replace HA := Lib.hid (show Blk W10 (N + 1 + 1) #[.int .i64 0, .int .i64 0, .int .i64 0, .int .i64 0, .int .i64 0] 41 from (hfS.block _ HA.out.lt (by have hx0 := HXT9HR.out; have hx1 := HXT9HO.out; have hx2 := HXT9HA.out; simp; try omega)).trans HA.out)
    replace O1 := Lib.hid (O1.out.fr hfS (by have := FO1.out; omega))
    replace O2 := Lib.hid (O2.out.fr hfS (by have := FO2.out; omega))
    replace O3 := Lib.hid (O3.out.fr hfS (by have := FO3.out; omega))
    replace O4 := Lib.hid (O4.out.fr hfS (by have := FO4.out; omega))
    replace HT9 := Lib.hid (show Blk W10 T9 #[.int .i64 y.id, .int .i64 y.rate, .int .i64 y.burst, .int .i64 yk, .bool yg] 54 from (hfS.block _ HT9.out.lt (by have hx0 := HXT9HR.out; have hx1 := HXT9HO.out; have hx2 := HXT9HA.out; simp; try omega)).trans HT9.out)
    replace HO := Lib.hid (show Blk W10 (N + 1) #[.int .i64 s.term, .int .i64 s.stamp, .int .i64 s.next, .slice b1 m1 k1, .slice b2 m2 k2, .slice b3 m3 k3, .slice b4 m4 k4] 27 from hkS)
    clear hWS hLS hkS hfS
    obtain ⟨LS, hLS⟩ : ∃ L : List Value, L = [.int .i64 2, .int .i64 0, .int .i64 0, .int .i64 0, .int .i64 0] := ⟨_, rfl⟩
    obtain ⟨W11, hWS⟩ : ∃ WS, WS = W10.setCells (N + 1 + 1) 0 LS := ⟨_, rfl⟩
    have hch := hWS
    rw [hLS] at hch
    simp only [World.setCells, Nat.zero_add, Nat.reduceAdd] at hch
    rw [← hch]
    clear hch
    have hkS := stC_blk HA.out LS (by rw [hLS]; rfl)
    have hfS := stC_fr (N + 1 + 1) LS 0 W10
    rw [← hWS] at hkS hfS
    rw [hLS] at hkS
    replace HB := Lib.hid (HB.out.trans (hfS.below HB.out.size (by have := HLON.out; simp; try omega)))
    replace HT := Lib.hid (HT0.out.below HB.out)
    replace HL := Lib.hid (HL0.out.below HB.out)
    replace HS := Lib.hid (HS0.out.below HB.out)
    replace HD := Lib.hid (HD0.out.below HB.out)
    replace HR := Lib.hid (show Blk W11 N #[.int .i64 s.term, .int .i64 s.stamp, .int .i64 s.next, .slice ta tn tc, .slice la ln lc, .slice sa sn sc, .slice da dn dc] 27 from (hfS.block _ HR.out.lt (by have hx0 := HXT9HR.out; have hx1 := HXT9HO.out; have hx2 := HXT9HA.out; simp; try omega)).trans HR.out)
    replace HO := Lib.hid (show Blk W11 (N + 1) #[.int .i64 s.term, .int .i64 s.stamp, .int .i64 s.next, .slice b1 m1 k1, .slice b2 m2 k2, .slice b3 m3 k3, .slice b4 m4 k4] 27 from (hfS.block _ HO.out.lt (by have hx0 := HXT9HR.out; have hx1 := HXT9HO.out; have hx2 := HXT9HA.out; simp; try omega)).trans HO.out)
    replace O1 := Lib.hid (O1.out.fr hfS (by have := FO1.out; omega))
    replace O2 := Lib.hid (O2.out.fr hfS (by have := FO2.out; omega))
    replace O3 := Lib.hid (O3.out.fr hfS (by have := FO3.out; omega))
    replace O4 := Lib.hid (O4.out.fr hfS (by have := FO4.out; omega))
    replace HT9 := Lib.hid (show Blk W11 T9 #[.int .i64 y.id, .int .i64 y.rate, .int .i64 y.burst, .int .i64 yk, .bool yg] 54 from (hfS.block _ HT9.out.lt (by have hx0 := HXT9HR.out; have hx1 := HXT9HO.out; have hx2 := HXT9HA.out; simp; try omega)).trans HT9.out)
    replace HA := Lib.hid (show Blk W11 (N + 1 + 1) #[.int .i64 2, .int .i64 0, .int .i64 0, .int .i64 0, .int .i64 0] 41 from hkS)
    clear hWS hLS hkS hfS
    refine leaves_cons (f := 43) (args := #[.pointer (some ⟨(N + 1), 0, none⟩)]) (by simp) (by simp [go_sem]) ?_
    refine (grant1_d .returning _ _ _ _ (s) (N + 1) _ HO.out (tn_tv O1.out.v) O2.out.v O3.out.v O4.out.v HFEW.out HSZ9.out).mono ?_
    rintro e u9 W12 ⟨rfl, vt9, rfl, hO9, hQ9, hF9⟩
    have z0 : W12.cell? ⟨(N + 1), 0, none⟩ = some (.int .i64 s.term) := cell_at hO9 0
    have z1 : W12.cell? ⟨(N + 1), 1, none⟩ = some (.int .i64 s.stamp) := cell_at hO9 1
    have z2 : W12.cell? ⟨(N + 1), 2, none⟩ = some (.int .i64 s.next) := cell_at hO9 2
    have z3 : W12.cell? ⟨(N + 1), 3, none⟩ = some (vt9) := cell_at hO9 3
    have z4 : W12.cell? ⟨(N + 1), 4, none⟩ = some (.slice b2 m2 k2) := cell_at hO9 4
    have z5 : W12.cell? ⟨(N + 1), 5, none⟩ = some (.slice b3 m3 k3) := cell_at hO9 5
    have z6 : W12.cell? ⟨(N + 1), 6, none⟩ = some (.slice b4 m4 k4) := cell_at hO9 6
    have HA9 := (hF9.block (N + 1 + 1) HA.out.lt (by simp)).trans HA.out
    have y0 : W12.cell? ⟨(N + 1 + 1), 0, none⟩ = some (.int .i64 2) := cell_at HA9 0
    have y1 : W12.cell? ⟨(N + 1 + 1), 1, none⟩ = some (.int .i64 0) := cell_at HA9 1
    have y2 : W12.cell? ⟨(N + 1 + 1), 2, none⟩ = some (.int .i64 0) := cell_at HA9 2
    have y3 : W12.cell? ⟨(N + 1 + 1), 3, none⟩ = some (.int .i64 0) := cell_at HA9 3
    have y4 : W12.cell? ⟨(N + 1 + 1), 4, none⟩ = some (.int .i64 0) := cell_at HA9 4
    exact ⟨.tuple #[.agg #[.int .i64 s.term, .int .i64 s.stamp, .int .i64 s.next, vt9, .slice b2 m2 k2, .slice b3 m3 k3, .slice b4 m4 k4], .agg #[.int .i64 2, .int .i64 0, .int .i64 0, .int .i64 0, .int .i64 0]], by simp [results, Try.results20, go_sem, z0, z1, z2, z3, z4, z5, z6, y0, y1, y2, y3, y4], _, (by rw [HRA.out, if_neg (by rw [HGX.out]; first | decide | assumption), HGX.out]; rfl), (by rw [HR9.out, if_neg (by rw [HGX.out]; first | decide | assumption)]; exact ⟨_, _, _, _, rfl, hQ9, (O2.out.fr hF9 (by have := FO2.out; omega)).v, (O3.out.fr hF9 (by have := FO3.out; omega)).v, (O4.out.fr hF9 (by have := FO4.out; omega)).v⟩), HB.out.trans (hF9.below HB.out.size (by have := HLON.out; simp; omega))⟩
  by_cases ha : ep < 1
  · skip
    have tta : decide (ep < 1) = true := decide_eq_true ha
    have uu : decide (1 ≤ ep) = false := decide_eq_false (by omega)
    have hge : ge = 2 := by rw [HGE.out]; rw [if_pos (by rw [HAG.out]; simp [*])]
    have HGX := Lib.hid hge
    clear hge
    have qO0 : W9.cell? ⟨(N + 1), 0, none⟩ = some (.int .i64 s.term) := cell_at HO.out 0
    have qO1 : W9.cell? ⟨(N + 1), 1, none⟩ = some (.int .i64 s.stamp) := cell_at HO.out 1
    have qO2 : W9.cell? ⟨(N + 1), 2, none⟩ = some (.int .i64 s.next) := cell_at HO.out 2
    have qO3 : W9.cell? ⟨(N + 1), 3, none⟩ = some (.slice b1 m1 k1) := cell_at HO.out 3
    have qO4 : W9.cell? ⟨(N + 1), 4, none⟩ = some (.slice b2 m2 k2) := cell_at HO.out 4
    have qO5 : W9.cell? ⟨(N + 1), 5, none⟩ = some (.slice b3 m3 k3) := cell_at HO.out 5
    have qO6 : W9.cell? ⟨(N + 1), 6, none⟩ = some (.slice b4 m4 k4) := cell_at HO.out 6
    have qOz : ∀ j, W9.frozen? ⟨(N + 1), j, none⟩ = false := fun j => free_at HO.out j
    have qOl : (N + 1) < W9.heap.size := HO.out.lt
    have qA0 : W9.cell? ⟨(N + 1 + 1), 0, none⟩ = some (.int .i64 0) := cell_at HA.out 0
    have qA1 : W9.cell? ⟨(N + 1 + 1), 1, none⟩ = some (.int .i64 0) := cell_at HA.out 1
    have qA2 : W9.cell? ⟨(N + 1 + 1), 2, none⟩ = some (.int .i64 0) := cell_at HA.out 2
    have qA3 : W9.cell? ⟨(N + 1 + 1), 3, none⟩ = some (.int .i64 0) := cell_at HA.out 3
    have qA4 : W9.cell? ⟨(N + 1 + 1), 4, none⟩ = some (.int .i64 0) := cell_at HA.out 4
    have qAz : ∀ j, W9.frozen? ⟨(N + 1 + 1), j, none⟩ = false := fun j => free_at HA.out j
    have qAl : (N + 1 + 1) < W9.heap.size := HA.out.lt
    have qT90 : W9.cell? ⟨T9, 0, none⟩ = some (.int .i64 y.id) := cell_at HT9.out 0
    have qT91 : W9.cell? ⟨T9, 1, none⟩ = some (.int .i64 y.rate) := cell_at HT9.out 1
    have qT92 : W9.cell? ⟨T9, 2, none⟩ = some (.int .i64 y.burst) := cell_at HT9.out 2
    have qT93 : W9.cell? ⟨T9, 3, none⟩ = some (.int .i64 yk) := cell_at HT9.out 3
    have qT94 : W9.cell? ⟨T9, 4, none⟩ = some (.bool yg) := cell_at HT9.out 4
    have qT9z : ∀ j, W9.frozen? ⟨T9, j, none⟩ = false := fun j => free_at HT9.out j
    have qT9l : T9 < W9.heap.size := HT9.out.lt
    have qR0 : W9.cell? ⟨N, 0, none⟩ = some (.int .i64 s.term) := cell_at HR.out 0
    have qR1 : W9.cell? ⟨N, 1, none⟩ = some (.int .i64 s.stamp) := cell_at HR.out 1
    have qR2 : W9.cell? ⟨N, 2, none⟩ = some (.int .i64 s.next) := cell_at HR.out 2
    have qR3 : W9.cell? ⟨N, 3, none⟩ = some (.slice ta tn tc) := cell_at HR.out 3
    have qR4 : W9.cell? ⟨N, 4, none⟩ = some (.slice la ln lc) := cell_at HR.out 4
    have qR5 : W9.cell? ⟨N, 5, none⟩ = some (.slice sa sn sc) := cell_at HR.out 5
    have qR6 : W9.cell? ⟨N, 6, none⟩ = some (.slice da dn dc) := cell_at HR.out 6
    have qRz : ∀ j, W9.frozen? ⟨N, j, none⟩ = false := fun j => free_at HR.out j
    have qRl : N < W9.heap.size := HR.out.lt
    go_wp2_with fail
    clear qO0 qO1 qO2 qO3 qO4 qO5 qO6 qOz qOl qA0 qA1 qA2 qA3 qA4 qAz qAl qT90 qT91 qT92 qT93 qT94 qT9z qT9l qR0 qR1 qR2 qR3 qR4 qR5 qR6 qRz qRl
    obtain ⟨LS, hLS⟩ : ∃ L : List Value, L = [.int .i64 s.term, .int .i64 s.stamp, .int .i64 s.next, .slice b1 m1 k1, .slice b2 m2 k2, .slice b3 m3 k3, .slice b4 m4 k4] := ⟨_, rfl⟩
    obtain ⟨W10, hWS⟩ : ∃ WS, WS = W9.setCells (N + 1) 0 LS := ⟨_, rfl⟩
    have hch := hWS
    rw [hLS] at hch
    simp only [World.setCells, Nat.zero_add, Nat.reduceAdd] at hch
    rw [← hch]
    clear hch
    have hkS := stC_blk HO.out LS (by rw [hLS]; rfl)
    have hfS := stC_fr (N + 1) LS 0 W9
    rw [← hWS] at hkS hfS
    rw [hLS] at hkS
    replace HB := Lib.hid (HB.out.trans (hfS.below HB.out.size (by have := HLON.out; simp; try omega)))
    replace HT := Lib.hid (HT0.out.below HB.out)
    replace HL := Lib.hid (HL0.out.below HB.out)
    replace HS := Lib.hid (HS0.out.below HB.out)
    replace HD := Lib.hid (HD0.out.below HB.out)
    replace HR := Lib.hid (show Blk W10 N #[.int .i64 s.term, .int .i64 s.stamp, .int .i64 s.next, .slice ta tn tc, .slice la ln lc, .slice sa sn sc, .slice da dn dc] 27 from (hfS.block _ HR.out.lt (by have hx0 := HXT9HR.out; have hx1 := HXT9HO.out; have hx2 := HXT9HA.out; simp; try omega)).trans HR.out)
    replace HA := Lib.hid (show Blk W10 (N + 1 + 1) #[.int .i64 0, .int .i64 0, .int .i64 0, .int .i64 0, .int .i64 0] 41 from (hfS.block _ HA.out.lt (by have hx0 := HXT9HR.out; have hx1 := HXT9HO.out; have hx2 := HXT9HA.out; simp; try omega)).trans HA.out)
    replace O1 := Lib.hid (O1.out.fr hfS (by have := FO1.out; omega))
    replace O2 := Lib.hid (O2.out.fr hfS (by have := FO2.out; omega))
    replace O3 := Lib.hid (O3.out.fr hfS (by have := FO3.out; omega))
    replace O4 := Lib.hid (O4.out.fr hfS (by have := FO4.out; omega))
    replace HT9 := Lib.hid (show Blk W10 T9 #[.int .i64 y.id, .int .i64 y.rate, .int .i64 y.burst, .int .i64 yk, .bool yg] 54 from (hfS.block _ HT9.out.lt (by have hx0 := HXT9HR.out; have hx1 := HXT9HO.out; have hx2 := HXT9HA.out; simp; try omega)).trans HT9.out)
    replace HO := Lib.hid (show Blk W10 (N + 1) #[.int .i64 s.term, .int .i64 s.stamp, .int .i64 s.next, .slice b1 m1 k1, .slice b2 m2 k2, .slice b3 m3 k3, .slice b4 m4 k4] 27 from hkS)
    clear hWS hLS hkS hfS
    obtain ⟨LS, hLS⟩ : ∃ L : List Value, L = [.int .i64 2, .int .i64 0, .int .i64 0, .int .i64 0, .int .i64 0] := ⟨_, rfl⟩
    obtain ⟨W11, hWS⟩ : ∃ WS, WS = W10.setCells (N + 1 + 1) 0 LS := ⟨_, rfl⟩
    have hch := hWS
    rw [hLS] at hch
    simp only [World.setCells, Nat.zero_add, Nat.reduceAdd] at hch
    rw [← hch]
    clear hch
    have hkS := stC_blk HA.out LS (by rw [hLS]; rfl)
    have hfS := stC_fr (N + 1 + 1) LS 0 W10
    rw [← hWS] at hkS hfS
    rw [hLS] at hkS
    replace HB := Lib.hid (HB.out.trans (hfS.below HB.out.size (by have := HLON.out; simp; try omega)))
    replace HT := Lib.hid (HT0.out.below HB.out)
    replace HL := Lib.hid (HL0.out.below HB.out)
    replace HS := Lib.hid (HS0.out.below HB.out)
    replace HD := Lib.hid (HD0.out.below HB.out)
    replace HR := Lib.hid (show Blk W11 N #[.int .i64 s.term, .int .i64 s.stamp, .int .i64 s.next, .slice ta tn tc, .slice la ln lc, .slice sa sn sc, .slice da dn dc] 27 from (hfS.block _ HR.out.lt (by have hx0 := HXT9HR.out; have hx1 := HXT9HO.out; have hx2 := HXT9HA.out; simp; try omega)).trans HR.out)
    replace HO := Lib.hid (show Blk W11 (N + 1) #[.int .i64 s.term, .int .i64 s.stamp, .int .i64 s.next, .slice b1 m1 k1, .slice b2 m2 k2, .slice b3 m3 k3, .slice b4 m4 k4] 27 from (hfS.block _ HO.out.lt (by have hx0 := HXT9HR.out; have hx1 := HXT9HO.out; have hx2 := HXT9HA.out; simp; try omega)).trans HO.out)
    replace O1 := Lib.hid (O1.out.fr hfS (by have := FO1.out; omega))
    replace O2 := Lib.hid (O2.out.fr hfS (by have := FO2.out; omega))
    replace O3 := Lib.hid (O3.out.fr hfS (by have := FO3.out; omega))
    replace O4 := Lib.hid (O4.out.fr hfS (by have := FO4.out; omega))
    replace HT9 := Lib.hid (show Blk W11 T9 #[.int .i64 y.id, .int .i64 y.rate, .int .i64 y.burst, .int .i64 yk, .bool yg] 54 from (hfS.block _ HT9.out.lt (by have hx0 := HXT9HR.out; have hx1 := HXT9HO.out; have hx2 := HXT9HA.out; simp; try omega)).trans HT9.out)
    replace HA := Lib.hid (show Blk W11 (N + 1 + 1) #[.int .i64 2, .int .i64 0, .int .i64 0, .int .i64 0, .int .i64 0] 41 from hkS)
    clear hWS hLS hkS hfS
    refine leaves_cons (f := 43) (args := #[.pointer (some ⟨(N + 1), 0, none⟩)]) (by simp) (by simp [go_sem]) ?_
    refine (grant1_d .returning _ _ _ _ (s) (N + 1) _ HO.out (tn_tv O1.out.v) O2.out.v O3.out.v O4.out.v HFEW.out HSZ9.out).mono ?_
    rintro e u9 W12 ⟨rfl, vt9, rfl, hO9, hQ9, hF9⟩
    have z0 : W12.cell? ⟨(N + 1), 0, none⟩ = some (.int .i64 s.term) := cell_at hO9 0
    have z1 : W12.cell? ⟨(N + 1), 1, none⟩ = some (.int .i64 s.stamp) := cell_at hO9 1
    have z2 : W12.cell? ⟨(N + 1), 2, none⟩ = some (.int .i64 s.next) := cell_at hO9 2
    have z3 : W12.cell? ⟨(N + 1), 3, none⟩ = some (vt9) := cell_at hO9 3
    have z4 : W12.cell? ⟨(N + 1), 4, none⟩ = some (.slice b2 m2 k2) := cell_at hO9 4
    have z5 : W12.cell? ⟨(N + 1), 5, none⟩ = some (.slice b3 m3 k3) := cell_at hO9 5
    have z6 : W12.cell? ⟨(N + 1), 6, none⟩ = some (.slice b4 m4 k4) := cell_at hO9 6
    have HA9 := (hF9.block (N + 1 + 1) HA.out.lt (by simp)).trans HA.out
    have y0 : W12.cell? ⟨(N + 1 + 1), 0, none⟩ = some (.int .i64 2) := cell_at HA9 0
    have y1 : W12.cell? ⟨(N + 1 + 1), 1, none⟩ = some (.int .i64 0) := cell_at HA9 1
    have y2 : W12.cell? ⟨(N + 1 + 1), 2, none⟩ = some (.int .i64 0) := cell_at HA9 2
    have y3 : W12.cell? ⟨(N + 1 + 1), 3, none⟩ = some (.int .i64 0) := cell_at HA9 3
    have y4 : W12.cell? ⟨(N + 1 + 1), 4, none⟩ = some (.int .i64 0) := cell_at HA9 4
    exact ⟨.tuple #[.agg #[.int .i64 s.term, .int .i64 s.stamp, .int .i64 s.next, vt9, .slice b2 m2 k2, .slice b3 m3 k3, .slice b4 m4 k4], .agg #[.int .i64 2, .int .i64 0, .int .i64 0, .int .i64 0, .int .i64 0]], by simp [results, Try.results20, go_sem, z0, z1, z2, z3, z4, z5, z6, y0, y1, y2, y3, y4], _, (by rw [HRA.out, if_neg (by rw [HGX.out]; first | decide | assumption), HGX.out]; rfl), (by rw [HR9.out, if_neg (by rw [HGX.out]; first | decide | assumption)]; exact ⟨_, _, _, _, rfl, hQ9, (O2.out.fr hF9 (by have := FO2.out; omega)).v, (O3.out.fr hF9 (by have := FO3.out; omega)).v, (O4.out.fr hF9 (by have := FO4.out; omega)).v⟩), HB.out.trans (hF9.below HB.out.size (by have := HLON.out; simp; omega))⟩
  have tta : decide (ep < 1) = false := decide_eq_false ha
  have ua : decide (1 ≤ ep) = true := decide_eq_true (by omega)
  by_cases hb : nu < 1
  · skip
    have ttb : decide (nu < 1) = true := decide_eq_true hb
    have uu : decide (1 ≤ nu) = false := decide_eq_false (by omega)
    have hge : ge = 2 := by rw [HGE.out]; rw [if_pos (by rw [HAG.out]; simp [*])]
    have HGX := Lib.hid hge
    clear hge
    have qO0 : W9.cell? ⟨(N + 1), 0, none⟩ = some (.int .i64 s.term) := cell_at HO.out 0
    have qO1 : W9.cell? ⟨(N + 1), 1, none⟩ = some (.int .i64 s.stamp) := cell_at HO.out 1
    have qO2 : W9.cell? ⟨(N + 1), 2, none⟩ = some (.int .i64 s.next) := cell_at HO.out 2
    have qO3 : W9.cell? ⟨(N + 1), 3, none⟩ = some (.slice b1 m1 k1) := cell_at HO.out 3
    have qO4 : W9.cell? ⟨(N + 1), 4, none⟩ = some (.slice b2 m2 k2) := cell_at HO.out 4
    have qO5 : W9.cell? ⟨(N + 1), 5, none⟩ = some (.slice b3 m3 k3) := cell_at HO.out 5
    have qO6 : W9.cell? ⟨(N + 1), 6, none⟩ = some (.slice b4 m4 k4) := cell_at HO.out 6
    have qOz : ∀ j, W9.frozen? ⟨(N + 1), j, none⟩ = false := fun j => free_at HO.out j
    have qOl : (N + 1) < W9.heap.size := HO.out.lt
    have qA0 : W9.cell? ⟨(N + 1 + 1), 0, none⟩ = some (.int .i64 0) := cell_at HA.out 0
    have qA1 : W9.cell? ⟨(N + 1 + 1), 1, none⟩ = some (.int .i64 0) := cell_at HA.out 1
    have qA2 : W9.cell? ⟨(N + 1 + 1), 2, none⟩ = some (.int .i64 0) := cell_at HA.out 2
    have qA3 : W9.cell? ⟨(N + 1 + 1), 3, none⟩ = some (.int .i64 0) := cell_at HA.out 3
    have qA4 : W9.cell? ⟨(N + 1 + 1), 4, none⟩ = some (.int .i64 0) := cell_at HA.out 4
    have qAz : ∀ j, W9.frozen? ⟨(N + 1 + 1), j, none⟩ = false := fun j => free_at HA.out j
    have qAl : (N + 1 + 1) < W9.heap.size := HA.out.lt
    have qT90 : W9.cell? ⟨T9, 0, none⟩ = some (.int .i64 y.id) := cell_at HT9.out 0
    have qT91 : W9.cell? ⟨T9, 1, none⟩ = some (.int .i64 y.rate) := cell_at HT9.out 1
    have qT92 : W9.cell? ⟨T9, 2, none⟩ = some (.int .i64 y.burst) := cell_at HT9.out 2
    have qT93 : W9.cell? ⟨T9, 3, none⟩ = some (.int .i64 yk) := cell_at HT9.out 3
    have qT94 : W9.cell? ⟨T9, 4, none⟩ = some (.bool yg) := cell_at HT9.out 4
    have qT9z : ∀ j, W9.frozen? ⟨T9, j, none⟩ = false := fun j => free_at HT9.out j
    have qT9l : T9 < W9.heap.size := HT9.out.lt
    have qR0 : W9.cell? ⟨N, 0, none⟩ = some (.int .i64 s.term) := cell_at HR.out 0
    have qR1 : W9.cell? ⟨N, 1, none⟩ = some (.int .i64 s.stamp) := cell_at HR.out 1
    have qR2 : W9.cell? ⟨N, 2, none⟩ = some (.int .i64 s.next) := cell_at HR.out 2
    have qR3 : W9.cell? ⟨N, 3, none⟩ = some (.slice ta tn tc) := cell_at HR.out 3
    have qR4 : W9.cell? ⟨N, 4, none⟩ = some (.slice la ln lc) := cell_at HR.out 4
    have qR5 : W9.cell? ⟨N, 5, none⟩ = some (.slice sa sn sc) := cell_at HR.out 5
    have qR6 : W9.cell? ⟨N, 6, none⟩ = some (.slice da dn dc) := cell_at HR.out 6
    have qRz : ∀ j, W9.frozen? ⟨N, j, none⟩ = false := fun j => free_at HR.out j
    have qRl : N < W9.heap.size := HR.out.lt
    go_wp2_with fail
    clear qO0 qO1 qO2 qO3 qO4 qO5 qO6 qOz qOl qA0 qA1 qA2 qA3 qA4 qAz qAl qT90 qT91 qT92 qT93 qT94 qT9z qT9l qR0 qR1 qR2 qR3 qR4 qR5 qR6 qRz qRl
    obtain ⟨LS, hLS⟩ : ∃ L : List Value, L = [.int .i64 s.term, .int .i64 s.stamp, .int .i64 s.next, .slice b1 m1 k1, .slice b2 m2 k2, .slice b3 m3 k3, .slice b4 m4 k4] := ⟨_, rfl⟩
    obtain ⟨W10, hWS⟩ : ∃ WS, WS = W9.setCells (N + 1) 0 LS := ⟨_, rfl⟩
    have hch := hWS
    rw [hLS] at hch
    simp only [World.setCells, Nat.zero_add, Nat.reduceAdd] at hch
    rw [← hch]
    clear hch
    have hkS := stC_blk HO.out LS (by rw [hLS]; rfl)
    have hfS := stC_fr (N + 1) LS 0 W9
    rw [← hWS] at hkS hfS
    rw [hLS] at hkS
    replace HB := Lib.hid (HB.out.trans (hfS.below HB.out.size (by have := HLON.out; simp; try omega)))
    replace HT := Lib.hid (HT0.out.below HB.out)
    replace HL := Lib.hid (HL0.out.below HB.out)
    replace HS := Lib.hid (HS0.out.below HB.out)
    replace HD := Lib.hid (HD0.out.below HB.out)
    replace HR := Lib.hid (show Blk W10 N #[.int .i64 s.term, .int .i64 s.stamp, .int .i64 s.next, .slice ta tn tc, .slice la ln lc, .slice sa sn sc, .slice da dn dc] 27 from (hfS.block _ HR.out.lt (by have hx0 := HXT9HR.out; have hx1 := HXT9HO.out; have hx2 := HXT9HA.out; simp; try omega)).trans HR.out)
    replace HA := Lib.hid (show Blk W10 (N + 1 + 1) #[.int .i64 0, .int .i64 0, .int .i64 0, .int .i64 0, .int .i64 0] 41 from (hfS.block _ HA.out.lt (by have hx0 := HXT9HR.out; have hx1 := HXT9HO.out; have hx2 := HXT9HA.out; simp; try omega)).trans HA.out)
    replace O1 := Lib.hid (O1.out.fr hfS (by have := FO1.out; omega))
    replace O2 := Lib.hid (O2.out.fr hfS (by have := FO2.out; omega))
    replace O3 := Lib.hid (O3.out.fr hfS (by have := FO3.out; omega))
    replace O4 := Lib.hid (O4.out.fr hfS (by have := FO4.out; omega))
    replace HT9 := Lib.hid (show Blk W10 T9 #[.int .i64 y.id, .int .i64 y.rate, .int .i64 y.burst, .int .i64 yk, .bool yg] 54 from (hfS.block _ HT9.out.lt (by have hx0 := HXT9HR.out; have hx1 := HXT9HO.out; have hx2 := HXT9HA.out; simp; try omega)).trans HT9.out)
    replace HO := Lib.hid (show Blk W10 (N + 1) #[.int .i64 s.term, .int .i64 s.stamp, .int .i64 s.next, .slice b1 m1 k1, .slice b2 m2 k2, .slice b3 m3 k3, .slice b4 m4 k4] 27 from hkS)
    clear hWS hLS hkS hfS
    obtain ⟨LS, hLS⟩ : ∃ L : List Value, L = [.int .i64 2, .int .i64 0, .int .i64 0, .int .i64 0, .int .i64 0] := ⟨_, rfl⟩
    obtain ⟨W11, hWS⟩ : ∃ WS, WS = W10.setCells (N + 1 + 1) 0 LS := ⟨_, rfl⟩
    have hch := hWS
    rw [hLS] at hch
    simp only [World.setCells, Nat.zero_add, Nat.reduceAdd] at hch
    rw [← hch]
    clear hch
    have hkS := stC_blk HA.out LS (by rw [hLS]; rfl)
    have hfS := stC_fr (N + 1 + 1) LS 0 W10
    rw [← hWS] at hkS hfS
    rw [hLS] at hkS
    replace HB := Lib.hid (HB.out.trans (hfS.below HB.out.size (by have := HLON.out; simp; try omega)))
    replace HT := Lib.hid (HT0.out.below HB.out)
    replace HL := Lib.hid (HL0.out.below HB.out)
    replace HS := Lib.hid (HS0.out.below HB.out)
    replace HD := Lib.hid (HD0.out.below HB.out)
    replace HR := Lib.hid (show Blk W11 N #[.int .i64 s.term, .int .i64 s.stamp, .int .i64 s.next, .slice ta tn tc, .slice la ln lc, .slice sa sn sc, .slice da dn dc] 27 from (hfS.block _ HR.out.lt (by have hx0 := HXT9HR.out; have hx1 := HXT9HO.out; have hx2 := HXT9HA.out; simp; try omega)).trans HR.out)
    replace HO := Lib.hid (show Blk W11 (N + 1) #[.int .i64 s.term, .int .i64 s.stamp, .int .i64 s.next, .slice b1 m1 k1, .slice b2 m2 k2, .slice b3 m3 k3, .slice b4 m4 k4] 27 from (hfS.block _ HO.out.lt (by have hx0 := HXT9HR.out; have hx1 := HXT9HO.out; have hx2 := HXT9HA.out; simp; try omega)).trans HO.out)
    replace O1 := Lib.hid (O1.out.fr hfS (by have := FO1.out; omega))
    replace O2 := Lib.hid (O2.out.fr hfS (by have := FO2.out; omega))
    replace O3 := Lib.hid (O3.out.fr hfS (by have := FO3.out; omega))
    replace O4 := Lib.hid (O4.out.fr hfS (by have := FO4.out; omega))
    replace HT9 := Lib.hid (show Blk W11 T9 #[.int .i64 y.id, .int .i64 y.rate, .int .i64 y.burst, .int .i64 yk, .bool yg] 54 from (hfS.block _ HT9.out.lt (by have hx0 := HXT9HR.out; have hx1 := HXT9HO.out; have hx2 := HXT9HA.out; simp; try omega)).trans HT9.out)
    replace HA := Lib.hid (show Blk W11 (N + 1 + 1) #[.int .i64 2, .int .i64 0, .int .i64 0, .int .i64 0, .int .i64 0] 41 from hkS)
    clear hWS hLS hkS hfS
    refine leaves_cons (f := 43) (args := #[.pointer (some ⟨(N + 1), 0, none⟩)]) (by simp) (by simp [go_sem]) ?_
    refine (grant1_d .returning _ _ _ _ (s) (N + 1) _ HO.out (tn_tv O1.out.v) O2.out.v O3.out.v O4.out.v HFEW.out HSZ9.out).mono ?_
    rintro e u9 W12 ⟨rfl, vt9, rfl, hO9, hQ9, hF9⟩
    have z0 : W12.cell? ⟨(N + 1), 0, none⟩ = some (.int .i64 s.term) := cell_at hO9 0
    have z1 : W12.cell? ⟨(N + 1), 1, none⟩ = some (.int .i64 s.stamp) := cell_at hO9 1
    have z2 : W12.cell? ⟨(N + 1), 2, none⟩ = some (.int .i64 s.next) := cell_at hO9 2
    have z3 : W12.cell? ⟨(N + 1), 3, none⟩ = some (vt9) := cell_at hO9 3
    have z4 : W12.cell? ⟨(N + 1), 4, none⟩ = some (.slice b2 m2 k2) := cell_at hO9 4
    have z5 : W12.cell? ⟨(N + 1), 5, none⟩ = some (.slice b3 m3 k3) := cell_at hO9 5
    have z6 : W12.cell? ⟨(N + 1), 6, none⟩ = some (.slice b4 m4 k4) := cell_at hO9 6
    have HA9 := (hF9.block (N + 1 + 1) HA.out.lt (by simp)).trans HA.out
    have y0 : W12.cell? ⟨(N + 1 + 1), 0, none⟩ = some (.int .i64 2) := cell_at HA9 0
    have y1 : W12.cell? ⟨(N + 1 + 1), 1, none⟩ = some (.int .i64 0) := cell_at HA9 1
    have y2 : W12.cell? ⟨(N + 1 + 1), 2, none⟩ = some (.int .i64 0) := cell_at HA9 2
    have y3 : W12.cell? ⟨(N + 1 + 1), 3, none⟩ = some (.int .i64 0) := cell_at HA9 3
    have y4 : W12.cell? ⟨(N + 1 + 1), 4, none⟩ = some (.int .i64 0) := cell_at HA9 4
    exact ⟨.tuple #[.agg #[.int .i64 s.term, .int .i64 s.stamp, .int .i64 s.next, vt9, .slice b2 m2 k2, .slice b3 m3 k3, .slice b4 m4 k4], .agg #[.int .i64 2, .int .i64 0, .int .i64 0, .int .i64 0, .int .i64 0]], by simp [results, Try.results20, go_sem, z0, z1, z2, z3, z4, z5, z6, y0, y1, y2, y3, y4], _, (by rw [HRA.out, if_neg (by rw [HGX.out]; first | decide | assumption), HGX.out]; rfl), (by rw [HR9.out, if_neg (by rw [HGX.out]; first | decide | assumption)]; exact ⟨_, _, _, _, rfl, hQ9, (O2.out.fr hF9 (by have := FO2.out; omega)).v, (O3.out.fr hF9 (by have := FO3.out; omega)).v, (O4.out.fr hF9 (by have := FO4.out; omega)).v⟩), HB.out.trans (hF9.below HB.out.size (by have := HLON.out; simp; omega))⟩
  have ttb : decide (nu < 1) = false := decide_eq_false hb
  have ub : decide (1 ≤ nu) = true := decide_eq_true (by omega)
  go_wp2_with fail
  go_at_call 47
  go_fit (HSI.out _)
  rintro e W10 ⟨rfl, hB⟩
  replace HB := Lib.hid (HB.out.trans (hB.mono HB.out.size))
  replace HT := Lib.hid (HT0.out.below HB.out)
  replace HL := Lib.hid (HL0.out.below HB.out)
  replace HS := Lib.hid (HS0.out.below HB.out)
  replace HD := Lib.hid (HD0.out.below HB.out)
  replace HR := Lib.hid (HR.out.step hB)
  replace HO := Lib.hid (HO.out.step hB)
  replace HA := Lib.hid (HA.out.step hB)
  replace O1 := Lib.hid (O1.out.step hB)
  replace O2 := Lib.hid (O2.out.step hB)
  replace O3 := Lib.hid (O3.out.step hB)
  replace O4 := Lib.hid (O4.out.step hB)
  replace HT9 := Lib.hid (HT9.out.step hB)
  clear hB
  cases szb
  · skip
    have hge : ge = 2 := by rw [HGE.out]; rw [if_pos (by rw [HAG.out]; simp [*])]
    have HGX := Lib.hid hge
    clear hge
    have qO0 : W10.cell? ⟨(N + 1), 0, none⟩ = some (.int .i64 s.term) := cell_at HO.out 0
    have qO1 : W10.cell? ⟨(N + 1), 1, none⟩ = some (.int .i64 s.stamp) := cell_at HO.out 1
    have qO2 : W10.cell? ⟨(N + 1), 2, none⟩ = some (.int .i64 s.next) := cell_at HO.out 2
    have qO3 : W10.cell? ⟨(N + 1), 3, none⟩ = some (.slice b1 m1 k1) := cell_at HO.out 3
    have qO4 : W10.cell? ⟨(N + 1), 4, none⟩ = some (.slice b2 m2 k2) := cell_at HO.out 4
    have qO5 : W10.cell? ⟨(N + 1), 5, none⟩ = some (.slice b3 m3 k3) := cell_at HO.out 5
    have qO6 : W10.cell? ⟨(N + 1), 6, none⟩ = some (.slice b4 m4 k4) := cell_at HO.out 6
    have qOz : ∀ j, W10.frozen? ⟨(N + 1), j, none⟩ = false := fun j => free_at HO.out j
    have qOl : (N + 1) < W10.heap.size := HO.out.lt
    have qA0 : W10.cell? ⟨(N + 1 + 1), 0, none⟩ = some (.int .i64 0) := cell_at HA.out 0
    have qA1 : W10.cell? ⟨(N + 1 + 1), 1, none⟩ = some (.int .i64 0) := cell_at HA.out 1
    have qA2 : W10.cell? ⟨(N + 1 + 1), 2, none⟩ = some (.int .i64 0) := cell_at HA.out 2
    have qA3 : W10.cell? ⟨(N + 1 + 1), 3, none⟩ = some (.int .i64 0) := cell_at HA.out 3
    have qA4 : W10.cell? ⟨(N + 1 + 1), 4, none⟩ = some (.int .i64 0) := cell_at HA.out 4
    have qAz : ∀ j, W10.frozen? ⟨(N + 1 + 1), j, none⟩ = false := fun j => free_at HA.out j
    have qAl : (N + 1 + 1) < W10.heap.size := HA.out.lt
    have qT90 : W10.cell? ⟨T9, 0, none⟩ = some (.int .i64 y.id) := cell_at HT9.out 0
    have qT91 : W10.cell? ⟨T9, 1, none⟩ = some (.int .i64 y.rate) := cell_at HT9.out 1
    have qT92 : W10.cell? ⟨T9, 2, none⟩ = some (.int .i64 y.burst) := cell_at HT9.out 2
    have qT93 : W10.cell? ⟨T9, 3, none⟩ = some (.int .i64 yk) := cell_at HT9.out 3
    have qT94 : W10.cell? ⟨T9, 4, none⟩ = some (.bool yg) := cell_at HT9.out 4
    have qT9z : ∀ j, W10.frozen? ⟨T9, j, none⟩ = false := fun j => free_at HT9.out j
    have qT9l : T9 < W10.heap.size := HT9.out.lt
    have qR0 : W10.cell? ⟨N, 0, none⟩ = some (.int .i64 s.term) := cell_at HR.out 0
    have qR1 : W10.cell? ⟨N, 1, none⟩ = some (.int .i64 s.stamp) := cell_at HR.out 1
    have qR2 : W10.cell? ⟨N, 2, none⟩ = some (.int .i64 s.next) := cell_at HR.out 2
    have qR3 : W10.cell? ⟨N, 3, none⟩ = some (.slice ta tn tc) := cell_at HR.out 3
    have qR4 : W10.cell? ⟨N, 4, none⟩ = some (.slice la ln lc) := cell_at HR.out 4
    have qR5 : W10.cell? ⟨N, 5, none⟩ = some (.slice sa sn sc) := cell_at HR.out 5
    have qR6 : W10.cell? ⟨N, 6, none⟩ = some (.slice da dn dc) := cell_at HR.out 6
    have qRz : ∀ j, W10.frozen? ⟨N, j, none⟩ = false := fun j => free_at HR.out j
    have qRl : N < W10.heap.size := HR.out.lt
    go_wp2_with fail
    clear qO0 qO1 qO2 qO3 qO4 qO5 qO6 qOz qOl qA0 qA1 qA2 qA3 qA4 qAz qAl qT90 qT91 qT92 qT93 qT94 qT9z qT9l qR0 qR1 qR2 qR3 qR4 qR5 qR6 qRz qRl
    obtain ⟨LS, hLS⟩ : ∃ L : List Value, L = [.int .i64 s.term, .int .i64 s.stamp, .int .i64 s.next, .slice b1 m1 k1, .slice b2 m2 k2, .slice b3 m3 k3, .slice b4 m4 k4] := ⟨_, rfl⟩
    obtain ⟨W11, hWS⟩ : ∃ WS, WS = W10.setCells (N + 1) 0 LS := ⟨_, rfl⟩
    have hch := hWS
    rw [hLS] at hch
    simp only [World.setCells, Nat.zero_add, Nat.reduceAdd] at hch
    rw [← hch]
    clear hch
    have hkS := stC_blk HO.out LS (by rw [hLS]; rfl)
    have hfS := stC_fr (N + 1) LS 0 W10
    rw [← hWS] at hkS hfS
    rw [hLS] at hkS
    replace HB := Lib.hid (HB.out.trans (hfS.below HB.out.size (by have := HLON.out; simp; try omega)))
    replace HT := Lib.hid (HT0.out.below HB.out)
    replace HL := Lib.hid (HL0.out.below HB.out)
    replace HS := Lib.hid (HS0.out.below HB.out)
    replace HD := Lib.hid (HD0.out.below HB.out)
    replace HR := Lib.hid (show Blk W11 N #[.int .i64 s.term, .int .i64 s.stamp, .int .i64 s.next, .slice ta tn tc, .slice la ln lc, .slice sa sn sc, .slice da dn dc] 27 from (hfS.block _ HR.out.lt (by have hx0 := HXT9HR.out; have hx1 := HXT9HO.out; have hx2 := HXT9HA.out; simp; try omega)).trans HR.out)
    replace HA := Lib.hid (show Blk W11 (N + 1 + 1) #[.int .i64 0, .int .i64 0, .int .i64 0, .int .i64 0, .int .i64 0] 41 from (hfS.block _ HA.out.lt (by have hx0 := HXT9HR.out; have hx1 := HXT9HO.out; have hx2 := HXT9HA.out; simp; try omega)).trans HA.out)
    replace O1 := Lib.hid (O1.out.fr hfS (by have := FO1.out; omega))
    replace O2 := Lib.hid (O2.out.fr hfS (by have := FO2.out; omega))
    replace O3 := Lib.hid (O3.out.fr hfS (by have := FO3.out; omega))
    replace O4 := Lib.hid (O4.out.fr hfS (by have := FO4.out; omega))
    replace HT9 := Lib.hid (show Blk W11 T9 #[.int .i64 y.id, .int .i64 y.rate, .int .i64 y.burst, .int .i64 yk, .bool yg] 54 from (hfS.block _ HT9.out.lt (by have hx0 := HXT9HR.out; have hx1 := HXT9HO.out; have hx2 := HXT9HA.out; simp; try omega)).trans HT9.out)
    replace HO := Lib.hid (show Blk W11 (N + 1) #[.int .i64 s.term, .int .i64 s.stamp, .int .i64 s.next, .slice b1 m1 k1, .slice b2 m2 k2, .slice b3 m3 k3, .slice b4 m4 k4] 27 from hkS)
    clear hWS hLS hkS hfS
    obtain ⟨LS, hLS⟩ : ∃ L : List Value, L = [.int .i64 2, .int .i64 0, .int .i64 0, .int .i64 0, .int .i64 0] := ⟨_, rfl⟩
    obtain ⟨W12, hWS⟩ : ∃ WS, WS = W11.setCells (N + 1 + 1) 0 LS := ⟨_, rfl⟩
    have hch := hWS
    rw [hLS] at hch
    simp only [World.setCells, Nat.zero_add, Nat.reduceAdd] at hch
    rw [← hch]
    clear hch
    have hkS := stC_blk HA.out LS (by rw [hLS]; rfl)
    have hfS := stC_fr (N + 1 + 1) LS 0 W11
    rw [← hWS] at hkS hfS
    rw [hLS] at hkS
    replace HB := Lib.hid (HB.out.trans (hfS.below HB.out.size (by have := HLON.out; simp; try omega)))
    replace HT := Lib.hid (HT0.out.below HB.out)
    replace HL := Lib.hid (HL0.out.below HB.out)
    replace HS := Lib.hid (HS0.out.below HB.out)
    replace HD := Lib.hid (HD0.out.below HB.out)
    replace HR := Lib.hid (show Blk W12 N #[.int .i64 s.term, .int .i64 s.stamp, .int .i64 s.next, .slice ta tn tc, .slice la ln lc, .slice sa sn sc, .slice da dn dc] 27 from (hfS.block _ HR.out.lt (by have hx0 := HXT9HR.out; have hx1 := HXT9HO.out; have hx2 := HXT9HA.out; simp; try omega)).trans HR.out)
    replace HO := Lib.hid (show Blk W12 (N + 1) #[.int .i64 s.term, .int .i64 s.stamp, .int .i64 s.next, .slice b1 m1 k1, .slice b2 m2 k2, .slice b3 m3 k3, .slice b4 m4 k4] 27 from (hfS.block _ HO.out.lt (by have hx0 := HXT9HR.out; have hx1 := HXT9HO.out; have hx2 := HXT9HA.out; simp; try omega)).trans HO.out)
    replace O1 := Lib.hid (O1.out.fr hfS (by have := FO1.out; omega))
    replace O2 := Lib.hid (O2.out.fr hfS (by have := FO2.out; omega))
    replace O3 := Lib.hid (O3.out.fr hfS (by have := FO3.out; omega))
    replace O4 := Lib.hid (O4.out.fr hfS (by have := FO4.out; omega))
    replace HT9 := Lib.hid (show Blk W12 T9 #[.int .i64 y.id, .int .i64 y.rate, .int .i64 y.burst, .int .i64 yk, .bool yg] 54 from (hfS.block _ HT9.out.lt (by have hx0 := HXT9HR.out; have hx1 := HXT9HO.out; have hx2 := HXT9HA.out; simp; try omega)).trans HT9.out)
    replace HA := Lib.hid (show Blk W12 (N + 1 + 1) #[.int .i64 2, .int .i64 0, .int .i64 0, .int .i64 0, .int .i64 0] 41 from hkS)
    clear hWS hLS hkS hfS
    refine leaves_cons (f := 43) (args := #[.pointer (some ⟨(N + 1), 0, none⟩)]) (by simp) (by simp [go_sem]) ?_
    refine (grant1_d .returning _ _ _ _ (s) (N + 1) _ HO.out (tn_tv O1.out.v) O2.out.v O3.out.v O4.out.v HFEW.out HSZ9.out).mono ?_
    rintro e u9 W13 ⟨rfl, vt9, rfl, hO9, hQ9, hF9⟩
    have z0 : W13.cell? ⟨(N + 1), 0, none⟩ = some (.int .i64 s.term) := cell_at hO9 0
    have z1 : W13.cell? ⟨(N + 1), 1, none⟩ = some (.int .i64 s.stamp) := cell_at hO9 1
    have z2 : W13.cell? ⟨(N + 1), 2, none⟩ = some (.int .i64 s.next) := cell_at hO9 2
    have z3 : W13.cell? ⟨(N + 1), 3, none⟩ = some (vt9) := cell_at hO9 3
    have z4 : W13.cell? ⟨(N + 1), 4, none⟩ = some (.slice b2 m2 k2) := cell_at hO9 4
    have z5 : W13.cell? ⟨(N + 1), 5, none⟩ = some (.slice b3 m3 k3) := cell_at hO9 5
    have z6 : W13.cell? ⟨(N + 1), 6, none⟩ = some (.slice b4 m4 k4) := cell_at hO9 6
    have HA9 := (hF9.block (N + 1 + 1) HA.out.lt (by simp)).trans HA.out
    have y0 : W13.cell? ⟨(N + 1 + 1), 0, none⟩ = some (.int .i64 2) := cell_at HA9 0
    have y1 : W13.cell? ⟨(N + 1 + 1), 1, none⟩ = some (.int .i64 0) := cell_at HA9 1
    have y2 : W13.cell? ⟨(N + 1 + 1), 2, none⟩ = some (.int .i64 0) := cell_at HA9 2
    have y3 : W13.cell? ⟨(N + 1 + 1), 3, none⟩ = some (.int .i64 0) := cell_at HA9 3
    have y4 : W13.cell? ⟨(N + 1 + 1), 4, none⟩ = some (.int .i64 0) := cell_at HA9 4
    exact ⟨.tuple #[.agg #[.int .i64 s.term, .int .i64 s.stamp, .int .i64 s.next, vt9, .slice b2 m2 k2, .slice b3 m3 k3, .slice b4 m4 k4], .agg #[.int .i64 2, .int .i64 0, .int .i64 0, .int .i64 0, .int .i64 0]], by simp [results, Try.results20, go_sem, z0, z1, z2, z3, z4, z5, z6, y0, y1, y2, y3, y4], _, (by rw [HRA.out, if_neg (by rw [HGX.out]; first | decide | assumption), HGX.out]; rfl), (by rw [HR9.out, if_neg (by rw [HGX.out]; first | decide | assumption)]; exact ⟨_, _, _, _, rfl, hQ9, (O2.out.fr hF9 (by have := FO2.out; omega)).v, (O3.out.fr hF9 (by have := FO3.out; omega)).v, (O4.out.fr hF9 (by have := FO4.out; omega)).v⟩), HB.out.trans (hF9.below HB.out.size (by have := HLON.out; simp; omega))⟩
  have hag : argG sh ep nu size = true := by rw [HAG.out, ua, ub]; rfl
  replace HGE : Hid (ge = if sm = false ∨ yg = true then 161 else if 64 ≤ s.ls.length ∨ 1099511627776 ≤ s.next then 100 else e0) := Lib.hid (by rw [HGE.out, if_neg (by rw [hag]; simp)])
  clear hag
  cases sm
  · skip
    have hge : ge = 161 := by rw [HGE.out]; rw [if_pos (.inl rfl)]
    have HGX := Lib.hid hge
    clear hge
    have qO0 : W10.cell? ⟨(N + 1), 0, none⟩ = some (.int .i64 s.term) := cell_at HO.out 0
    have qO1 : W10.cell? ⟨(N + 1), 1, none⟩ = some (.int .i64 s.stamp) := cell_at HO.out 1
    have qO2 : W10.cell? ⟨(N + 1), 2, none⟩ = some (.int .i64 s.next) := cell_at HO.out 2
    have qO3 : W10.cell? ⟨(N + 1), 3, none⟩ = some (.slice b1 m1 k1) := cell_at HO.out 3
    have qO4 : W10.cell? ⟨(N + 1), 4, none⟩ = some (.slice b2 m2 k2) := cell_at HO.out 4
    have qO5 : W10.cell? ⟨(N + 1), 5, none⟩ = some (.slice b3 m3 k3) := cell_at HO.out 5
    have qO6 : W10.cell? ⟨(N + 1), 6, none⟩ = some (.slice b4 m4 k4) := cell_at HO.out 6
    have qOz : ∀ j, W10.frozen? ⟨(N + 1), j, none⟩ = false := fun j => free_at HO.out j
    have qOl : (N + 1) < W10.heap.size := HO.out.lt
    have qA0 : W10.cell? ⟨(N + 1 + 1), 0, none⟩ = some (.int .i64 0) := cell_at HA.out 0
    have qA1 : W10.cell? ⟨(N + 1 + 1), 1, none⟩ = some (.int .i64 0) := cell_at HA.out 1
    have qA2 : W10.cell? ⟨(N + 1 + 1), 2, none⟩ = some (.int .i64 0) := cell_at HA.out 2
    have qA3 : W10.cell? ⟨(N + 1 + 1), 3, none⟩ = some (.int .i64 0) := cell_at HA.out 3
    have qA4 : W10.cell? ⟨(N + 1 + 1), 4, none⟩ = some (.int .i64 0) := cell_at HA.out 4
    have qAz : ∀ j, W10.frozen? ⟨(N + 1 + 1), j, none⟩ = false := fun j => free_at HA.out j
    have qAl : (N + 1 + 1) < W10.heap.size := HA.out.lt
    have qT90 : W10.cell? ⟨T9, 0, none⟩ = some (.int .i64 y.id) := cell_at HT9.out 0
    have qT91 : W10.cell? ⟨T9, 1, none⟩ = some (.int .i64 y.rate) := cell_at HT9.out 1
    have qT92 : W10.cell? ⟨T9, 2, none⟩ = some (.int .i64 y.burst) := cell_at HT9.out 2
    have qT93 : W10.cell? ⟨T9, 3, none⟩ = some (.int .i64 yk) := cell_at HT9.out 3
    have qT94 : W10.cell? ⟨T9, 4, none⟩ = some (.bool yg) := cell_at HT9.out 4
    have qT9z : ∀ j, W10.frozen? ⟨T9, j, none⟩ = false := fun j => free_at HT9.out j
    have qT9l : T9 < W10.heap.size := HT9.out.lt
    have qR0 : W10.cell? ⟨N, 0, none⟩ = some (.int .i64 s.term) := cell_at HR.out 0
    have qR1 : W10.cell? ⟨N, 1, none⟩ = some (.int .i64 s.stamp) := cell_at HR.out 1
    have qR2 : W10.cell? ⟨N, 2, none⟩ = some (.int .i64 s.next) := cell_at HR.out 2
    have qR3 : W10.cell? ⟨N, 3, none⟩ = some (.slice ta tn tc) := cell_at HR.out 3
    have qR4 : W10.cell? ⟨N, 4, none⟩ = some (.slice la ln lc) := cell_at HR.out 4
    have qR5 : W10.cell? ⟨N, 5, none⟩ = some (.slice sa sn sc) := cell_at HR.out 5
    have qR6 : W10.cell? ⟨N, 6, none⟩ = some (.slice da dn dc) := cell_at HR.out 6
    have qRz : ∀ j, W10.frozen? ⟨N, j, none⟩ = false := fun j => free_at HR.out j
    have qRl : N < W10.heap.size := HR.out.lt
    go_wp2_with fail
    clear qO0 qO1 qO2 qO3 qO4 qO5 qO6 qOz qOl qA0 qA1 qA2 qA3 qA4 qAz qAl qT90 qT91 qT92 qT93 qT94 qT9z qT9l qR0 qR1 qR2 qR3 qR4 qR5 qR6 qRz qRl
    obtain ⟨LS, hLS⟩ : ∃ L : List Value, L = [.int .i64 s.term, .int .i64 s.stamp, .int .i64 s.next, .slice b1 m1 k1, .slice b2 m2 k2, .slice b3 m3 k3, .slice b4 m4 k4] := ⟨_, rfl⟩
    obtain ⟨W11, hWS⟩ : ∃ WS, WS = W10.setCells (N + 1) 0 LS := ⟨_, rfl⟩
    have hch := hWS
    rw [hLS] at hch
    simp only [World.setCells, Nat.zero_add, Nat.reduceAdd] at hch
    rw [← hch]
    clear hch
    have hkS := stC_blk HO.out LS (by rw [hLS]; rfl)
    have hfS := stC_fr (N + 1) LS 0 W10
    rw [← hWS] at hkS hfS
    rw [hLS] at hkS
    replace HB := Lib.hid (HB.out.trans (hfS.below HB.out.size (by have := HLON.out; simp; try omega)))
    replace HT := Lib.hid (HT0.out.below HB.out)
    replace HL := Lib.hid (HL0.out.below HB.out)
    replace HS := Lib.hid (HS0.out.below HB.out)
    replace HD := Lib.hid (HD0.out.below HB.out)
    replace HR := Lib.hid (show Blk W11 N #[.int .i64 s.term, .int .i64 s.stamp, .int .i64 s.next, .slice ta tn tc, .slice la ln lc, .slice sa sn sc, .slice da dn dc] 27 from (hfS.block _ HR.out.lt (by have hx0 := HXT9HR.out; have hx1 := HXT9HO.out; have hx2 := HXT9HA.out; simp; try omega)).trans HR.out)
    replace HA := Lib.hid (show Blk W11 (N + 1 + 1) #[.int .i64 0, .int .i64 0, .int .i64 0, .int .i64 0, .int .i64 0] 41 from (hfS.block _ HA.out.lt (by have hx0 := HXT9HR.out; have hx1 := HXT9HO.out; have hx2 := HXT9HA.out; simp; try omega)).trans HA.out)
    replace O1 := Lib.hid (O1.out.fr hfS (by have := FO1.out; omega))
    replace O2 := Lib.hid (O2.out.fr hfS (by have := FO2.out; omega))
    replace O3 := Lib.hid (O3.out.fr hfS (by have := FO3.out; omega))
    replace O4 := Lib.hid (O4.out.fr hfS (by have := FO4.out; omega))
    replace HT9 := Lib.hid (show Blk W11 T9 #[.int .i64 y.id, .int .i64 y.rate, .int .i64 y.burst, .int .i64 yk, .bool yg] 54 from (hfS.block _ HT9.out.lt (by have hx0 := HXT9HR.out; have hx1 := HXT9HO.out; have hx2 := HXT9HA.out; simp; try omega)).trans HT9.out)
    replace HO := Lib.hid (show Blk W11 (N + 1) #[.int .i64 s.term, .int .i64 s.stamp, .int .i64 s.next, .slice b1 m1 k1, .slice b2 m2 k2, .slice b3 m3 k3, .slice b4 m4 k4] 27 from hkS)
    clear hWS hLS hkS hfS
    obtain ⟨LS, hLS⟩ : ∃ L : List Value, L = [.int .i64 161, .int .i64 0, .int .i64 0, .int .i64 0, .int .i64 0] := ⟨_, rfl⟩
    obtain ⟨W12, hWS⟩ : ∃ WS, WS = W11.setCells (N + 1 + 1) 0 LS := ⟨_, rfl⟩
    have hch := hWS
    rw [hLS] at hch
    simp only [World.setCells, Nat.zero_add, Nat.reduceAdd] at hch
    rw [← hch]
    clear hch
    have hkS := stC_blk HA.out LS (by rw [hLS]; rfl)
    have hfS := stC_fr (N + 1 + 1) LS 0 W11
    rw [← hWS] at hkS hfS
    rw [hLS] at hkS
    replace HB := Lib.hid (HB.out.trans (hfS.below HB.out.size (by have := HLON.out; simp; try omega)))
    replace HT := Lib.hid (HT0.out.below HB.out)
    replace HL := Lib.hid (HL0.out.below HB.out)
    replace HS := Lib.hid (HS0.out.below HB.out)
    replace HD := Lib.hid (HD0.out.below HB.out)
    replace HR := Lib.hid (show Blk W12 N #[.int .i64 s.term, .int .i64 s.stamp, .int .i64 s.next, .slice ta tn tc, .slice la ln lc, .slice sa sn sc, .slice da dn dc] 27 from (hfS.block _ HR.out.lt (by have hx0 := HXT9HR.out; have hx1 := HXT9HO.out; have hx2 := HXT9HA.out; simp; try omega)).trans HR.out)
    replace HO := Lib.hid (show Blk W12 (N + 1) #[.int .i64 s.term, .int .i64 s.stamp, .int .i64 s.next, .slice b1 m1 k1, .slice b2 m2 k2, .slice b3 m3 k3, .slice b4 m4 k4] 27 from (hfS.block _ HO.out.lt (by have hx0 := HXT9HR.out; have hx1 := HXT9HO.out; have hx2 := HXT9HA.out; simp; try omega)).trans HO.out)
    replace O1 := Lib.hid (O1.out.fr hfS (by have := FO1.out; omega))
    replace O2 := Lib.hid (O2.out.fr hfS (by have := FO2.out; omega))
    replace O3 := Lib.hid (O3.out.fr hfS (by have := FO3.out; omega))
    replace O4 := Lib.hid (O4.out.fr hfS (by have := FO4.out; omega))
    replace HT9 := Lib.hid (show Blk W12 T9 #[.int .i64 y.id, .int .i64 y.rate, .int .i64 y.burst, .int .i64 yk, .bool yg] 54 from (hfS.block _ HT9.out.lt (by have hx0 := HXT9HR.out; have hx1 := HXT9HO.out; have hx2 := HXT9HA.out; simp; try omega)).trans HT9.out)
    replace HA := Lib.hid (show Blk W12 (N + 1 + 1) #[.int .i64 161, .int .i64 0, .int .i64 0, .int .i64 0, .int .i64 0] 41 from hkS)
    clear hWS hLS hkS hfS
    refine leaves_cons (f := 43) (args := #[.pointer (some ⟨(N + 1), 0, none⟩)]) (by simp) (by simp [go_sem]) ?_
    refine (grant1_d .returning _ _ _ _ (s) (N + 1) _ HO.out (tn_tv O1.out.v) O2.out.v O3.out.v O4.out.v HFEW.out HSZ9.out).mono ?_
    rintro e u9 W13 ⟨rfl, vt9, rfl, hO9, hQ9, hF9⟩
    have z0 : W13.cell? ⟨(N + 1), 0, none⟩ = some (.int .i64 s.term) := cell_at hO9 0
    have z1 : W13.cell? ⟨(N + 1), 1, none⟩ = some (.int .i64 s.stamp) := cell_at hO9 1
    have z2 : W13.cell? ⟨(N + 1), 2, none⟩ = some (.int .i64 s.next) := cell_at hO9 2
    have z3 : W13.cell? ⟨(N + 1), 3, none⟩ = some (vt9) := cell_at hO9 3
    have z4 : W13.cell? ⟨(N + 1), 4, none⟩ = some (.slice b2 m2 k2) := cell_at hO9 4
    have z5 : W13.cell? ⟨(N + 1), 5, none⟩ = some (.slice b3 m3 k3) := cell_at hO9 5
    have z6 : W13.cell? ⟨(N + 1), 6, none⟩ = some (.slice b4 m4 k4) := cell_at hO9 6
    have HA9 := (hF9.block (N + 1 + 1) HA.out.lt (by simp)).trans HA.out
    have y0 : W13.cell? ⟨(N + 1 + 1), 0, none⟩ = some (.int .i64 161) := cell_at HA9 0
    have y1 : W13.cell? ⟨(N + 1 + 1), 1, none⟩ = some (.int .i64 0) := cell_at HA9 1
    have y2 : W13.cell? ⟨(N + 1 + 1), 2, none⟩ = some (.int .i64 0) := cell_at HA9 2
    have y3 : W13.cell? ⟨(N + 1 + 1), 3, none⟩ = some (.int .i64 0) := cell_at HA9 3
    have y4 : W13.cell? ⟨(N + 1 + 1), 4, none⟩ = some (.int .i64 0) := cell_at HA9 4
    exact ⟨.tuple #[.agg #[.int .i64 s.term, .int .i64 s.stamp, .int .i64 s.next, vt9, .slice b2 m2 k2, .slice b3 m3 k3, .slice b4 m4 k4], .agg #[.int .i64 161, .int .i64 0, .int .i64 0, .int .i64 0, .int .i64 0]], by simp [results, Try.results20, go_sem, z0, z1, z2, z3, z4, z5, z6, y0, y1, y2, y3, y4], _, (by rw [HRA.out, if_neg (by rw [HGX.out]; first | decide | assumption), HGX.out]; rfl), (by rw [HR9.out, if_neg (by rw [HGX.out]; first | decide | assumption)]; exact ⟨_, _, _, _, rfl, hQ9, (O2.out.fr hF9 (by have := FO2.out; omega)).v, (O3.out.fr hF9 (by have := FO3.out; omega)).v, (O4.out.fr hF9 (by have := FO4.out; omega)).v⟩), HB.out.trans (hF9.below HB.out.size (by have := HLON.out; simp; omega))⟩
  cases yg
  rotate_left
  · skip
    have hge : ge = 161 := by rw [HGE.out]; rw [if_pos (.inr rfl)]
    have HGX := Lib.hid hge
    clear hge
    have qO0 : W10.cell? ⟨(N + 1), 0, none⟩ = some (.int .i64 s.term) := cell_at HO.out 0
    have qO1 : W10.cell? ⟨(N + 1), 1, none⟩ = some (.int .i64 s.stamp) := cell_at HO.out 1
    have qO2 : W10.cell? ⟨(N + 1), 2, none⟩ = some (.int .i64 s.next) := cell_at HO.out 2
    have qO3 : W10.cell? ⟨(N + 1), 3, none⟩ = some (.slice b1 m1 k1) := cell_at HO.out 3
    have qO4 : W10.cell? ⟨(N + 1), 4, none⟩ = some (.slice b2 m2 k2) := cell_at HO.out 4
    have qO5 : W10.cell? ⟨(N + 1), 5, none⟩ = some (.slice b3 m3 k3) := cell_at HO.out 5
    have qO6 : W10.cell? ⟨(N + 1), 6, none⟩ = some (.slice b4 m4 k4) := cell_at HO.out 6
    have qOz : ∀ j, W10.frozen? ⟨(N + 1), j, none⟩ = false := fun j => free_at HO.out j
    have qOl : (N + 1) < W10.heap.size := HO.out.lt
    have qA0 : W10.cell? ⟨(N + 1 + 1), 0, none⟩ = some (.int .i64 0) := cell_at HA.out 0
    have qA1 : W10.cell? ⟨(N + 1 + 1), 1, none⟩ = some (.int .i64 0) := cell_at HA.out 1
    have qA2 : W10.cell? ⟨(N + 1 + 1), 2, none⟩ = some (.int .i64 0) := cell_at HA.out 2
    have qA3 : W10.cell? ⟨(N + 1 + 1), 3, none⟩ = some (.int .i64 0) := cell_at HA.out 3
    have qA4 : W10.cell? ⟨(N + 1 + 1), 4, none⟩ = some (.int .i64 0) := cell_at HA.out 4
    have qAz : ∀ j, W10.frozen? ⟨(N + 1 + 1), j, none⟩ = false := fun j => free_at HA.out j
    have qAl : (N + 1 + 1) < W10.heap.size := HA.out.lt
    have qT90 : W10.cell? ⟨T9, 0, none⟩ = some (.int .i64 y.id) := cell_at HT9.out 0
    have qT91 : W10.cell? ⟨T9, 1, none⟩ = some (.int .i64 y.rate) := cell_at HT9.out 1
    have qT92 : W10.cell? ⟨T9, 2, none⟩ = some (.int .i64 y.burst) := cell_at HT9.out 2
    have qT93 : W10.cell? ⟨T9, 3, none⟩ = some (.int .i64 yk) := cell_at HT9.out 3
    have qT94 : W10.cell? ⟨T9, 4, none⟩ = some (.bool true) := cell_at HT9.out 4
    have qT9z : ∀ j, W10.frozen? ⟨T9, j, none⟩ = false := fun j => free_at HT9.out j
    have qT9l : T9 < W10.heap.size := HT9.out.lt
    have qR0 : W10.cell? ⟨N, 0, none⟩ = some (.int .i64 s.term) := cell_at HR.out 0
    have qR1 : W10.cell? ⟨N, 1, none⟩ = some (.int .i64 s.stamp) := cell_at HR.out 1
    have qR2 : W10.cell? ⟨N, 2, none⟩ = some (.int .i64 s.next) := cell_at HR.out 2
    have qR3 : W10.cell? ⟨N, 3, none⟩ = some (.slice ta tn tc) := cell_at HR.out 3
    have qR4 : W10.cell? ⟨N, 4, none⟩ = some (.slice la ln lc) := cell_at HR.out 4
    have qR5 : W10.cell? ⟨N, 5, none⟩ = some (.slice sa sn sc) := cell_at HR.out 5
    have qR6 : W10.cell? ⟨N, 6, none⟩ = some (.slice da dn dc) := cell_at HR.out 6
    have qRz : ∀ j, W10.frozen? ⟨N, j, none⟩ = false := fun j => free_at HR.out j
    have qRl : N < W10.heap.size := HR.out.lt
    go_wp2_with fail
    clear qO0 qO1 qO2 qO3 qO4 qO5 qO6 qOz qOl qA0 qA1 qA2 qA3 qA4 qAz qAl qT90 qT91 qT92 qT93 qT94 qT9z qT9l qR0 qR1 qR2 qR3 qR4 qR5 qR6 qRz qRl
    obtain ⟨LS, hLS⟩ : ∃ L : List Value, L = [.int .i64 s.term, .int .i64 s.stamp, .int .i64 s.next, .slice b1 m1 k1, .slice b2 m2 k2, .slice b3 m3 k3, .slice b4 m4 k4] := ⟨_, rfl⟩
    obtain ⟨W11, hWS⟩ : ∃ WS, WS = W10.setCells (N + 1) 0 LS := ⟨_, rfl⟩
    have hch := hWS
    rw [hLS] at hch
    simp only [World.setCells, Nat.zero_add, Nat.reduceAdd] at hch
    rw [← hch]
    clear hch
    have hkS := stC_blk HO.out LS (by rw [hLS]; rfl)
    have hfS := stC_fr (N + 1) LS 0 W10
    rw [← hWS] at hkS hfS
    rw [hLS] at hkS
    replace HB := Lib.hid (HB.out.trans (hfS.below HB.out.size (by have := HLON.out; simp; try omega)))
    replace HT := Lib.hid (HT0.out.below HB.out)
    replace HL := Lib.hid (HL0.out.below HB.out)
    replace HS := Lib.hid (HS0.out.below HB.out)
    replace HD := Lib.hid (HD0.out.below HB.out)
    replace HR := Lib.hid (show Blk W11 N #[.int .i64 s.term, .int .i64 s.stamp, .int .i64 s.next, .slice ta tn tc, .slice la ln lc, .slice sa sn sc, .slice da dn dc] 27 from (hfS.block _ HR.out.lt (by have hx0 := HXT9HR.out; have hx1 := HXT9HO.out; have hx2 := HXT9HA.out; simp; try omega)).trans HR.out)
    replace HA := Lib.hid (show Blk W11 (N + 1 + 1) #[.int .i64 0, .int .i64 0, .int .i64 0, .int .i64 0, .int .i64 0] 41 from (hfS.block _ HA.out.lt (by have hx0 := HXT9HR.out; have hx1 := HXT9HO.out; have hx2 := HXT9HA.out; simp; try omega)).trans HA.out)
    replace O1 := Lib.hid (O1.out.fr hfS (by have := FO1.out; omega))
    replace O2 := Lib.hid (O2.out.fr hfS (by have := FO2.out; omega))
    replace O3 := Lib.hid (O3.out.fr hfS (by have := FO3.out; omega))
    replace O4 := Lib.hid (O4.out.fr hfS (by have := FO4.out; omega))
    replace HT9 := Lib.hid (show Blk W11 T9 #[.int .i64 y.id, .int .i64 y.rate, .int .i64 y.burst, .int .i64 yk, .bool true] 54 from (hfS.block _ HT9.out.lt (by have hx0 := HXT9HR.out; have hx1 := HXT9HO.out; have hx2 := HXT9HA.out; simp; try omega)).trans HT9.out)
    replace HO := Lib.hid (show Blk W11 (N + 1) #[.int .i64 s.term, .int .i64 s.stamp, .int .i64 s.next, .slice b1 m1 k1, .slice b2 m2 k2, .slice b3 m3 k3, .slice b4 m4 k4] 27 from hkS)
    clear hWS hLS hkS hfS
    obtain ⟨LS, hLS⟩ : ∃ L : List Value, L = [.int .i64 161, .int .i64 0, .int .i64 0, .int .i64 0, .int .i64 0] := ⟨_, rfl⟩
    obtain ⟨W12, hWS⟩ : ∃ WS, WS = W11.setCells (N + 1 + 1) 0 LS := ⟨_, rfl⟩
    have hch := hWS
    rw [hLS] at hch
    simp only [World.setCells, Nat.zero_add, Nat.reduceAdd] at hch
    rw [← hch]
    clear hch
    have hkS := stC_blk HA.out LS (by rw [hLS]; rfl)
    have hfS := stC_fr (N + 1 + 1) LS 0 W11
    rw [← hWS] at hkS hfS
    rw [hLS] at hkS
    replace HB := Lib.hid (HB.out.trans (hfS.below HB.out.size (by have := HLON.out; simp; try omega)))
    replace HT := Lib.hid (HT0.out.below HB.out)
    replace HL := Lib.hid (HL0.out.below HB.out)
    replace HS := Lib.hid (HS0.out.below HB.out)
    replace HD := Lib.hid (HD0.out.below HB.out)
    replace HR := Lib.hid (show Blk W12 N #[.int .i64 s.term, .int .i64 s.stamp, .int .i64 s.next, .slice ta tn tc, .slice la ln lc, .slice sa sn sc, .slice da dn dc] 27 from (hfS.block _ HR.out.lt (by have hx0 := HXT9HR.out; have hx1 := HXT9HO.out; have hx2 := HXT9HA.out; simp; try omega)).trans HR.out)
    replace HO := Lib.hid (show Blk W12 (N + 1) #[.int .i64 s.term, .int .i64 s.stamp, .int .i64 s.next, .slice b1 m1 k1, .slice b2 m2 k2, .slice b3 m3 k3, .slice b4 m4 k4] 27 from (hfS.block _ HO.out.lt (by have hx0 := HXT9HR.out; have hx1 := HXT9HO.out; have hx2 := HXT9HA.out; simp; try omega)).trans HO.out)
    replace O1 := Lib.hid (O1.out.fr hfS (by have := FO1.out; omega))
    replace O2 := Lib.hid (O2.out.fr hfS (by have := FO2.out; omega))
    replace O3 := Lib.hid (O3.out.fr hfS (by have := FO3.out; omega))
    replace O4 := Lib.hid (O4.out.fr hfS (by have := FO4.out; omega))
    replace HT9 := Lib.hid (show Blk W12 T9 #[.int .i64 y.id, .int .i64 y.rate, .int .i64 y.burst, .int .i64 yk, .bool true] 54 from (hfS.block _ HT9.out.lt (by have hx0 := HXT9HR.out; have hx1 := HXT9HO.out; have hx2 := HXT9HA.out; simp; try omega)).trans HT9.out)
    replace HA := Lib.hid (show Blk W12 (N + 1 + 1) #[.int .i64 161, .int .i64 0, .int .i64 0, .int .i64 0, .int .i64 0] 41 from hkS)
    clear hWS hLS hkS hfS
    refine leaves_cons (f := 43) (args := #[.pointer (some ⟨(N + 1), 0, none⟩)]) (by simp) (by simp [go_sem]) ?_
    refine (grant1_d .returning _ _ _ _ (s) (N + 1) _ HO.out (tn_tv O1.out.v) O2.out.v O3.out.v O4.out.v HFEW.out HSZ9.out).mono ?_
    rintro e u9 W13 ⟨rfl, vt9, rfl, hO9, hQ9, hF9⟩
    have z0 : W13.cell? ⟨(N + 1), 0, none⟩ = some (.int .i64 s.term) := cell_at hO9 0
    have z1 : W13.cell? ⟨(N + 1), 1, none⟩ = some (.int .i64 s.stamp) := cell_at hO9 1
    have z2 : W13.cell? ⟨(N + 1), 2, none⟩ = some (.int .i64 s.next) := cell_at hO9 2
    have z3 : W13.cell? ⟨(N + 1), 3, none⟩ = some (vt9) := cell_at hO9 3
    have z4 : W13.cell? ⟨(N + 1), 4, none⟩ = some (.slice b2 m2 k2) := cell_at hO9 4
    have z5 : W13.cell? ⟨(N + 1), 5, none⟩ = some (.slice b3 m3 k3) := cell_at hO9 5
    have z6 : W13.cell? ⟨(N + 1), 6, none⟩ = some (.slice b4 m4 k4) := cell_at hO9 6
    have HA9 := (hF9.block (N + 1 + 1) HA.out.lt (by simp)).trans HA.out
    have y0 : W13.cell? ⟨(N + 1 + 1), 0, none⟩ = some (.int .i64 161) := cell_at HA9 0
    have y1 : W13.cell? ⟨(N + 1 + 1), 1, none⟩ = some (.int .i64 0) := cell_at HA9 1
    have y2 : W13.cell? ⟨(N + 1 + 1), 2, none⟩ = some (.int .i64 0) := cell_at HA9 2
    have y3 : W13.cell? ⟨(N + 1 + 1), 3, none⟩ = some (.int .i64 0) := cell_at HA9 3
    have y4 : W13.cell? ⟨(N + 1 + 1), 4, none⟩ = some (.int .i64 0) := cell_at HA9 4
    exact ⟨.tuple #[.agg #[.int .i64 s.term, .int .i64 s.stamp, .int .i64 s.next, vt9, .slice b2 m2 k2, .slice b3 m3 k3, .slice b4 m4 k4], .agg #[.int .i64 161, .int .i64 0, .int .i64 0, .int .i64 0, .int .i64 0]], by simp [results, Try.results20, go_sem, z0, z1, z2, z3, z4, z5, z6, y0, y1, y2, y3, y4], _, (by rw [HRA.out, if_neg (by rw [HGX.out]; first | decide | assumption), HGX.out]; rfl), (by rw [HR9.out, if_neg (by rw [HGX.out]; first | decide | assumption)]; exact ⟨_, _, _, _, rfl, hQ9, (O2.out.fr hF9 (by have := FO2.out; omega)).v, (O3.out.fr hF9 (by have := FO3.out; omega)).v, (O4.out.fr hF9 (by have := FO4.out; omega)).v⟩), HB.out.trans (hF9.below HB.out.size (by have := HLON.out; simp; omega))⟩
  replace HGE : Hid (ge = if 64 ≤ s.ls.length ∨ 1099511627776 ≤ s.next then 100 else e0) := Lib.hid (by rw [HGE.out, if_neg (by simp)])
  by_cases hc : 64 ≤ ln
  · skip
    have ttc : decide ((64 : Int) ≤ (ln : Int)) = true := decide_eq_true (by omega)
    have hge : ge = 100 := by rw [HGE.out]; rw [if_pos (.inl (by rw [← Hln.out]; exact hc))]
    have HGX := Lib.hid hge
    clear hge
    have qO0 : W10.cell? ⟨(N + 1), 0, none⟩ = some (.int .i64 s.term) := cell_at HO.out 0
    have qO1 : W10.cell? ⟨(N + 1), 1, none⟩ = some (.int .i64 s.stamp) := cell_at HO.out 1
    have qO2 : W10.cell? ⟨(N + 1), 2, none⟩ = some (.int .i64 s.next) := cell_at HO.out 2
    have qO3 : W10.cell? ⟨(N + 1), 3, none⟩ = some (.slice b1 m1 k1) := cell_at HO.out 3
    have qO4 : W10.cell? ⟨(N + 1), 4, none⟩ = some (.slice b2 m2 k2) := cell_at HO.out 4
    have qO5 : W10.cell? ⟨(N + 1), 5, none⟩ = some (.slice b3 m3 k3) := cell_at HO.out 5
    have qO6 : W10.cell? ⟨(N + 1), 6, none⟩ = some (.slice b4 m4 k4) := cell_at HO.out 6
    have qOz : ∀ j, W10.frozen? ⟨(N + 1), j, none⟩ = false := fun j => free_at HO.out j
    have qOl : (N + 1) < W10.heap.size := HO.out.lt
    have qA0 : W10.cell? ⟨(N + 1 + 1), 0, none⟩ = some (.int .i64 0) := cell_at HA.out 0
    have qA1 : W10.cell? ⟨(N + 1 + 1), 1, none⟩ = some (.int .i64 0) := cell_at HA.out 1
    have qA2 : W10.cell? ⟨(N + 1 + 1), 2, none⟩ = some (.int .i64 0) := cell_at HA.out 2
    have qA3 : W10.cell? ⟨(N + 1 + 1), 3, none⟩ = some (.int .i64 0) := cell_at HA.out 3
    have qA4 : W10.cell? ⟨(N + 1 + 1), 4, none⟩ = some (.int .i64 0) := cell_at HA.out 4
    have qAz : ∀ j, W10.frozen? ⟨(N + 1 + 1), j, none⟩ = false := fun j => free_at HA.out j
    have qAl : (N + 1 + 1) < W10.heap.size := HA.out.lt
    have qT90 : W10.cell? ⟨T9, 0, none⟩ = some (.int .i64 y.id) := cell_at HT9.out 0
    have qT91 : W10.cell? ⟨T9, 1, none⟩ = some (.int .i64 y.rate) := cell_at HT9.out 1
    have qT92 : W10.cell? ⟨T9, 2, none⟩ = some (.int .i64 y.burst) := cell_at HT9.out 2
    have qT93 : W10.cell? ⟨T9, 3, none⟩ = some (.int .i64 yk) := cell_at HT9.out 3
    have qT94 : W10.cell? ⟨T9, 4, none⟩ = some (.bool false) := cell_at HT9.out 4
    have qT9z : ∀ j, W10.frozen? ⟨T9, j, none⟩ = false := fun j => free_at HT9.out j
    have qT9l : T9 < W10.heap.size := HT9.out.lt
    have qR0 : W10.cell? ⟨N, 0, none⟩ = some (.int .i64 s.term) := cell_at HR.out 0
    have qR1 : W10.cell? ⟨N, 1, none⟩ = some (.int .i64 s.stamp) := cell_at HR.out 1
    have qR2 : W10.cell? ⟨N, 2, none⟩ = some (.int .i64 s.next) := cell_at HR.out 2
    have qR3 : W10.cell? ⟨N, 3, none⟩ = some (.slice ta tn tc) := cell_at HR.out 3
    have qR4 : W10.cell? ⟨N, 4, none⟩ = some (.slice la ln lc) := cell_at HR.out 4
    have qR5 : W10.cell? ⟨N, 5, none⟩ = some (.slice sa sn sc) := cell_at HR.out 5
    have qR6 : W10.cell? ⟨N, 6, none⟩ = some (.slice da dn dc) := cell_at HR.out 6
    have qRz : ∀ j, W10.frozen? ⟨N, j, none⟩ = false := fun j => free_at HR.out j
    have qRl : N < W10.heap.size := HR.out.lt
    go_wp2_with fail
    clear qO0 qO1 qO2 qO3 qO4 qO5 qO6 qOz qOl qA0 qA1 qA2 qA3 qA4 qAz qAl qT90 qT91 qT92 qT93 qT94 qT9z qT9l qR0 qR1 qR2 qR3 qR4 qR5 qR6 qRz qRl
    obtain ⟨LS, hLS⟩ : ∃ L : List Value, L = [.int .i64 s.term, .int .i64 s.stamp, .int .i64 s.next, .slice b1 m1 k1, .slice b2 m2 k2, .slice b3 m3 k3, .slice b4 m4 k4] := ⟨_, rfl⟩
    obtain ⟨W11, hWS⟩ : ∃ WS, WS = W10.setCells (N + 1) 0 LS := ⟨_, rfl⟩
    have hch := hWS
    rw [hLS] at hch
    simp only [World.setCells, Nat.zero_add, Nat.reduceAdd] at hch
    rw [← hch]
    clear hch
    have hkS := stC_blk HO.out LS (by rw [hLS]; rfl)
    have hfS := stC_fr (N + 1) LS 0 W10
    rw [← hWS] at hkS hfS
    rw [hLS] at hkS
    replace HB := Lib.hid (HB.out.trans (hfS.below HB.out.size (by have := HLON.out; simp; try omega)))
    replace HT := Lib.hid (HT0.out.below HB.out)
    replace HL := Lib.hid (HL0.out.below HB.out)
    replace HS := Lib.hid (HS0.out.below HB.out)
    replace HD := Lib.hid (HD0.out.below HB.out)
    replace HR := Lib.hid (show Blk W11 N #[.int .i64 s.term, .int .i64 s.stamp, .int .i64 s.next, .slice ta tn tc, .slice la ln lc, .slice sa sn sc, .slice da dn dc] 27 from (hfS.block _ HR.out.lt (by have hx0 := HXT9HR.out; have hx1 := HXT9HO.out; have hx2 := HXT9HA.out; simp; try omega)).trans HR.out)
    replace HA := Lib.hid (show Blk W11 (N + 1 + 1) #[.int .i64 0, .int .i64 0, .int .i64 0, .int .i64 0, .int .i64 0] 41 from (hfS.block _ HA.out.lt (by have hx0 := HXT9HR.out; have hx1 := HXT9HO.out; have hx2 := HXT9HA.out; simp; try omega)).trans HA.out)
    replace O1 := Lib.hid (O1.out.fr hfS (by have := FO1.out; omega))
    replace O2 := Lib.hid (O2.out.fr hfS (by have := FO2.out; omega))
    replace O3 := Lib.hid (O3.out.fr hfS (by have := FO3.out; omega))
    replace O4 := Lib.hid (O4.out.fr hfS (by have := FO4.out; omega))
    replace HT9 := Lib.hid (show Blk W11 T9 #[.int .i64 y.id, .int .i64 y.rate, .int .i64 y.burst, .int .i64 yk, .bool false] 54 from (hfS.block _ HT9.out.lt (by have hx0 := HXT9HR.out; have hx1 := HXT9HO.out; have hx2 := HXT9HA.out; simp; try omega)).trans HT9.out)
    replace HO := Lib.hid (show Blk W11 (N + 1) #[.int .i64 s.term, .int .i64 s.stamp, .int .i64 s.next, .slice b1 m1 k1, .slice b2 m2 k2, .slice b3 m3 k3, .slice b4 m4 k4] 27 from hkS)
    clear hWS hLS hkS hfS
    obtain ⟨LS, hLS⟩ : ∃ L : List Value, L = [.int .i64 100, .int .i64 0, .int .i64 0, .int .i64 0, .int .i64 0] := ⟨_, rfl⟩
    obtain ⟨W12, hWS⟩ : ∃ WS, WS = W11.setCells (N + 1 + 1) 0 LS := ⟨_, rfl⟩
    have hch := hWS
    rw [hLS] at hch
    simp only [World.setCells, Nat.zero_add, Nat.reduceAdd] at hch
    rw [← hch]
    clear hch
    have hkS := stC_blk HA.out LS (by rw [hLS]; rfl)
    have hfS := stC_fr (N + 1 + 1) LS 0 W11
    rw [← hWS] at hkS hfS
    rw [hLS] at hkS
    replace HB := Lib.hid (HB.out.trans (hfS.below HB.out.size (by have := HLON.out; simp; try omega)))
    replace HT := Lib.hid (HT0.out.below HB.out)
    replace HL := Lib.hid (HL0.out.below HB.out)
    replace HS := Lib.hid (HS0.out.below HB.out)
    replace HD := Lib.hid (HD0.out.below HB.out)
    replace HR := Lib.hid (show Blk W12 N #[.int .i64 s.term, .int .i64 s.stamp, .int .i64 s.next, .slice ta tn tc, .slice la ln lc, .slice sa sn sc, .slice da dn dc] 27 from (hfS.block _ HR.out.lt (by have hx0 := HXT9HR.out; have hx1 := HXT9HO.out; have hx2 := HXT9HA.out; simp; try omega)).trans HR.out)
    replace HO := Lib.hid (show Blk W12 (N + 1) #[.int .i64 s.term, .int .i64 s.stamp, .int .i64 s.next, .slice b1 m1 k1, .slice b2 m2 k2, .slice b3 m3 k3, .slice b4 m4 k4] 27 from (hfS.block _ HO.out.lt (by have hx0 := HXT9HR.out; have hx1 := HXT9HO.out; have hx2 := HXT9HA.out; simp; try omega)).trans HO.out)
    replace O1 := Lib.hid (O1.out.fr hfS (by have := FO1.out; omega))
    replace O2 := Lib.hid (O2.out.fr hfS (by have := FO2.out; omega))
    replace O3 := Lib.hid (O3.out.fr hfS (by have := FO3.out; omega))
    replace O4 := Lib.hid (O4.out.fr hfS (by have := FO4.out; omega))
    replace HT9 := Lib.hid (show Blk W12 T9 #[.int .i64 y.id, .int .i64 y.rate, .int .i64 y.burst, .int .i64 yk, .bool false] 54 from (hfS.block _ HT9.out.lt (by have hx0 := HXT9HR.out; have hx1 := HXT9HO.out; have hx2 := HXT9HA.out; simp; try omega)).trans HT9.out)
    replace HA := Lib.hid (show Blk W12 (N + 1 + 1) #[.int .i64 100, .int .i64 0, .int .i64 0, .int .i64 0, .int .i64 0] 41 from hkS)
    clear hWS hLS hkS hfS
    refine leaves_cons (f := 43) (args := #[.pointer (some ⟨(N + 1), 0, none⟩)]) (by simp) (by simp [go_sem]) ?_
    refine (grant1_d .returning _ _ _ _ (s) (N + 1) _ HO.out (tn_tv O1.out.v) O2.out.v O3.out.v O4.out.v HFEW.out HSZ9.out).mono ?_
    rintro e u9 W13 ⟨rfl, vt9, rfl, hO9, hQ9, hF9⟩
    have z0 : W13.cell? ⟨(N + 1), 0, none⟩ = some (.int .i64 s.term) := cell_at hO9 0
    have z1 : W13.cell? ⟨(N + 1), 1, none⟩ = some (.int .i64 s.stamp) := cell_at hO9 1
    have z2 : W13.cell? ⟨(N + 1), 2, none⟩ = some (.int .i64 s.next) := cell_at hO9 2
    have z3 : W13.cell? ⟨(N + 1), 3, none⟩ = some (vt9) := cell_at hO9 3
    have z4 : W13.cell? ⟨(N + 1), 4, none⟩ = some (.slice b2 m2 k2) := cell_at hO9 4
    have z5 : W13.cell? ⟨(N + 1), 5, none⟩ = some (.slice b3 m3 k3) := cell_at hO9 5
    have z6 : W13.cell? ⟨(N + 1), 6, none⟩ = some (.slice b4 m4 k4) := cell_at hO9 6
    have HA9 := (hF9.block (N + 1 + 1) HA.out.lt (by simp)).trans HA.out
    have y0 : W13.cell? ⟨(N + 1 + 1), 0, none⟩ = some (.int .i64 100) := cell_at HA9 0
    have y1 : W13.cell? ⟨(N + 1 + 1), 1, none⟩ = some (.int .i64 0) := cell_at HA9 1
    have y2 : W13.cell? ⟨(N + 1 + 1), 2, none⟩ = some (.int .i64 0) := cell_at HA9 2
    have y3 : W13.cell? ⟨(N + 1 + 1), 3, none⟩ = some (.int .i64 0) := cell_at HA9 3
    have y4 : W13.cell? ⟨(N + 1 + 1), 4, none⟩ = some (.int .i64 0) := cell_at HA9 4
    exact ⟨.tuple #[.agg #[.int .i64 s.term, .int .i64 s.stamp, .int .i64 s.next, vt9, .slice b2 m2 k2, .slice b3 m3 k3, .slice b4 m4 k4], .agg #[.int .i64 100, .int .i64 0, .int .i64 0, .int .i64 0, .int .i64 0]], by simp [results, Try.results20, go_sem, z0, z1, z2, z3, z4, z5, z6, y0, y1, y2, y3, y4], _, (by rw [HRA.out, if_neg (by rw [HGX.out]; first | decide | assumption), HGX.out]; rfl), (by rw [HR9.out, if_neg (by rw [HGX.out]; first | decide | assumption)]; exact ⟨_, _, _, _, rfl, hQ9, (O2.out.fr hF9 (by have := FO2.out; omega)).v, (O3.out.fr hF9 (by have := FO3.out; omega)).v, (O4.out.fr hF9 (by have := FO4.out; omega)).v⟩), HB.out.trans (hF9.below HB.out.size (by have := HLON.out; simp; omega))⟩
  have ttc : decide ((64 : Int) ≤ (ln : Int)) = false := decide_eq_false (by omega)
  by_cases hd : 1099511627776 ≤ s.next
  · skip
    have ttd : decide (1099511627776 ≤ s.next) = true := decide_eq_true hd
    have hge : ge = 100 := by rw [HGE.out]; rw [if_pos (.inr hd)]
    have HGX := Lib.hid hge
    clear hge
    have qO0 : W10.cell? ⟨(N + 1), 0, none⟩ = some (.int .i64 s.term) := cell_at HO.out 0
    have qO1 : W10.cell? ⟨(N + 1), 1, none⟩ = some (.int .i64 s.stamp) := cell_at HO.out 1
    have qO2 : W10.cell? ⟨(N + 1), 2, none⟩ = some (.int .i64 s.next) := cell_at HO.out 2
    have qO3 : W10.cell? ⟨(N + 1), 3, none⟩ = some (.slice b1 m1 k1) := cell_at HO.out 3
    have qO4 : W10.cell? ⟨(N + 1), 4, none⟩ = some (.slice b2 m2 k2) := cell_at HO.out 4
    have qO5 : W10.cell? ⟨(N + 1), 5, none⟩ = some (.slice b3 m3 k3) := cell_at HO.out 5
    have qO6 : W10.cell? ⟨(N + 1), 6, none⟩ = some (.slice b4 m4 k4) := cell_at HO.out 6
    have qOz : ∀ j, W10.frozen? ⟨(N + 1), j, none⟩ = false := fun j => free_at HO.out j
    have qOl : (N + 1) < W10.heap.size := HO.out.lt
    have qA0 : W10.cell? ⟨(N + 1 + 1), 0, none⟩ = some (.int .i64 0) := cell_at HA.out 0
    have qA1 : W10.cell? ⟨(N + 1 + 1), 1, none⟩ = some (.int .i64 0) := cell_at HA.out 1
    have qA2 : W10.cell? ⟨(N + 1 + 1), 2, none⟩ = some (.int .i64 0) := cell_at HA.out 2
    have qA3 : W10.cell? ⟨(N + 1 + 1), 3, none⟩ = some (.int .i64 0) := cell_at HA.out 3
    have qA4 : W10.cell? ⟨(N + 1 + 1), 4, none⟩ = some (.int .i64 0) := cell_at HA.out 4
    have qAz : ∀ j, W10.frozen? ⟨(N + 1 + 1), j, none⟩ = false := fun j => free_at HA.out j
    have qAl : (N + 1 + 1) < W10.heap.size := HA.out.lt
    have qT90 : W10.cell? ⟨T9, 0, none⟩ = some (.int .i64 y.id) := cell_at HT9.out 0
    have qT91 : W10.cell? ⟨T9, 1, none⟩ = some (.int .i64 y.rate) := cell_at HT9.out 1
    have qT92 : W10.cell? ⟨T9, 2, none⟩ = some (.int .i64 y.burst) := cell_at HT9.out 2
    have qT93 : W10.cell? ⟨T9, 3, none⟩ = some (.int .i64 yk) := cell_at HT9.out 3
    have qT94 : W10.cell? ⟨T9, 4, none⟩ = some (.bool false) := cell_at HT9.out 4
    have qT9z : ∀ j, W10.frozen? ⟨T9, j, none⟩ = false := fun j => free_at HT9.out j
    have qT9l : T9 < W10.heap.size := HT9.out.lt
    have qR0 : W10.cell? ⟨N, 0, none⟩ = some (.int .i64 s.term) := cell_at HR.out 0
    have qR1 : W10.cell? ⟨N, 1, none⟩ = some (.int .i64 s.stamp) := cell_at HR.out 1
    have qR2 : W10.cell? ⟨N, 2, none⟩ = some (.int .i64 s.next) := cell_at HR.out 2
    have qR3 : W10.cell? ⟨N, 3, none⟩ = some (.slice ta tn tc) := cell_at HR.out 3
    have qR4 : W10.cell? ⟨N, 4, none⟩ = some (.slice la ln lc) := cell_at HR.out 4
    have qR5 : W10.cell? ⟨N, 5, none⟩ = some (.slice sa sn sc) := cell_at HR.out 5
    have qR6 : W10.cell? ⟨N, 6, none⟩ = some (.slice da dn dc) := cell_at HR.out 6
    have qRz : ∀ j, W10.frozen? ⟨N, j, none⟩ = false := fun j => free_at HR.out j
    have qRl : N < W10.heap.size := HR.out.lt
    go_wp2_with fail
    clear qO0 qO1 qO2 qO3 qO4 qO5 qO6 qOz qOl qA0 qA1 qA2 qA3 qA4 qAz qAl qT90 qT91 qT92 qT93 qT94 qT9z qT9l qR0 qR1 qR2 qR3 qR4 qR5 qR6 qRz qRl
    obtain ⟨LS, hLS⟩ : ∃ L : List Value, L = [.int .i64 s.term, .int .i64 s.stamp, .int .i64 s.next, .slice b1 m1 k1, .slice b2 m2 k2, .slice b3 m3 k3, .slice b4 m4 k4] := ⟨_, rfl⟩
    obtain ⟨W11, hWS⟩ : ∃ WS, WS = W10.setCells (N + 1) 0 LS := ⟨_, rfl⟩
    have hch := hWS
    rw [hLS] at hch
    simp only [World.setCells, Nat.zero_add, Nat.reduceAdd] at hch
    rw [← hch]
    clear hch
    have hkS := stC_blk HO.out LS (by rw [hLS]; rfl)
    have hfS := stC_fr (N + 1) LS 0 W10
    rw [← hWS] at hkS hfS
    rw [hLS] at hkS
    replace HB := Lib.hid (HB.out.trans (hfS.below HB.out.size (by have := HLON.out; simp; try omega)))
    replace HT := Lib.hid (HT0.out.below HB.out)
    replace HL := Lib.hid (HL0.out.below HB.out)
    replace HS := Lib.hid (HS0.out.below HB.out)
    replace HD := Lib.hid (HD0.out.below HB.out)
    replace HR := Lib.hid (show Blk W11 N #[.int .i64 s.term, .int .i64 s.stamp, .int .i64 s.next, .slice ta tn tc, .slice la ln lc, .slice sa sn sc, .slice da dn dc] 27 from (hfS.block _ HR.out.lt (by have hx0 := HXT9HR.out; have hx1 := HXT9HO.out; have hx2 := HXT9HA.out; simp; try omega)).trans HR.out)
    replace HA := Lib.hid (show Blk W11 (N + 1 + 1) #[.int .i64 0, .int .i64 0, .int .i64 0, .int .i64 0, .int .i64 0] 41 from (hfS.block _ HA.out.lt (by have hx0 := HXT9HR.out; have hx1 := HXT9HO.out; have hx2 := HXT9HA.out; simp; try omega)).trans HA.out)
    replace O1 := Lib.hid (O1.out.fr hfS (by have := FO1.out; omega))
    replace O2 := Lib.hid (O2.out.fr hfS (by have := FO2.out; omega))
    replace O3 := Lib.hid (O3.out.fr hfS (by have := FO3.out; omega))
    replace O4 := Lib.hid (O4.out.fr hfS (by have := FO4.out; omega))
    replace HT9 := Lib.hid (show Blk W11 T9 #[.int .i64 y.id, .int .i64 y.rate, .int .i64 y.burst, .int .i64 yk, .bool false] 54 from (hfS.block _ HT9.out.lt (by have hx0 := HXT9HR.out; have hx1 := HXT9HO.out; have hx2 := HXT9HA.out; simp; try omega)).trans HT9.out)
    replace HO := Lib.hid (show Blk W11 (N + 1) #[.int .i64 s.term, .int .i64 s.stamp, .int .i64 s.next, .slice b1 m1 k1, .slice b2 m2 k2, .slice b3 m3 k3, .slice b4 m4 k4] 27 from hkS)
    clear hWS hLS hkS hfS
    obtain ⟨LS, hLS⟩ : ∃ L : List Value, L = [.int .i64 100, .int .i64 0, .int .i64 0, .int .i64 0, .int .i64 0] := ⟨_, rfl⟩
    obtain ⟨W12, hWS⟩ : ∃ WS, WS = W11.setCells (N + 1 + 1) 0 LS := ⟨_, rfl⟩
    have hch := hWS
    rw [hLS] at hch
    simp only [World.setCells, Nat.zero_add, Nat.reduceAdd] at hch
    rw [← hch]
    clear hch
    have hkS := stC_blk HA.out LS (by rw [hLS]; rfl)
    have hfS := stC_fr (N + 1 + 1) LS 0 W11
    rw [← hWS] at hkS hfS
    rw [hLS] at hkS
    replace HB := Lib.hid (HB.out.trans (hfS.below HB.out.size (by have := HLON.out; simp; try omega)))
    replace HT := Lib.hid (HT0.out.below HB.out)
    replace HL := Lib.hid (HL0.out.below HB.out)
    replace HS := Lib.hid (HS0.out.below HB.out)
    replace HD := Lib.hid (HD0.out.below HB.out)
    replace HR := Lib.hid (show Blk W12 N #[.int .i64 s.term, .int .i64 s.stamp, .int .i64 s.next, .slice ta tn tc, .slice la ln lc, .slice sa sn sc, .slice da dn dc] 27 from (hfS.block _ HR.out.lt (by have hx0 := HXT9HR.out; have hx1 := HXT9HO.out; have hx2 := HXT9HA.out; simp; try omega)).trans HR.out)
    replace HO := Lib.hid (show Blk W12 (N + 1) #[.int .i64 s.term, .int .i64 s.stamp, .int .i64 s.next, .slice b1 m1 k1, .slice b2 m2 k2, .slice b3 m3 k3, .slice b4 m4 k4] 27 from (hfS.block _ HO.out.lt (by have hx0 := HXT9HR.out; have hx1 := HXT9HO.out; have hx2 := HXT9HA.out; simp; try omega)).trans HO.out)
    replace O1 := Lib.hid (O1.out.fr hfS (by have := FO1.out; omega))
    replace O2 := Lib.hid (O2.out.fr hfS (by have := FO2.out; omega))
    replace O3 := Lib.hid (O3.out.fr hfS (by have := FO3.out; omega))
    replace O4 := Lib.hid (O4.out.fr hfS (by have := FO4.out; omega))
    replace HT9 := Lib.hid (show Blk W12 T9 #[.int .i64 y.id, .int .i64 y.rate, .int .i64 y.burst, .int .i64 yk, .bool false] 54 from (hfS.block _ HT9.out.lt (by have hx0 := HXT9HR.out; have hx1 := HXT9HO.out; have hx2 := HXT9HA.out; simp; try omega)).trans HT9.out)
    replace HA := Lib.hid (show Blk W12 (N + 1 + 1) #[.int .i64 100, .int .i64 0, .int .i64 0, .int .i64 0, .int .i64 0] 41 from hkS)
    clear hWS hLS hkS hfS
    refine leaves_cons (f := 43) (args := #[.pointer (some ⟨(N + 1), 0, none⟩)]) (by simp) (by simp [go_sem]) ?_
    refine (grant1_d .returning _ _ _ _ (s) (N + 1) _ HO.out (tn_tv O1.out.v) O2.out.v O3.out.v O4.out.v HFEW.out HSZ9.out).mono ?_
    rintro e u9 W13 ⟨rfl, vt9, rfl, hO9, hQ9, hF9⟩
    have z0 : W13.cell? ⟨(N + 1), 0, none⟩ = some (.int .i64 s.term) := cell_at hO9 0
    have z1 : W13.cell? ⟨(N + 1), 1, none⟩ = some (.int .i64 s.stamp) := cell_at hO9 1
    have z2 : W13.cell? ⟨(N + 1), 2, none⟩ = some (.int .i64 s.next) := cell_at hO9 2
    have z3 : W13.cell? ⟨(N + 1), 3, none⟩ = some (vt9) := cell_at hO9 3
    have z4 : W13.cell? ⟨(N + 1), 4, none⟩ = some (.slice b2 m2 k2) := cell_at hO9 4
    have z5 : W13.cell? ⟨(N + 1), 5, none⟩ = some (.slice b3 m3 k3) := cell_at hO9 5
    have z6 : W13.cell? ⟨(N + 1), 6, none⟩ = some (.slice b4 m4 k4) := cell_at hO9 6
    have HA9 := (hF9.block (N + 1 + 1) HA.out.lt (by simp)).trans HA.out
    have y0 : W13.cell? ⟨(N + 1 + 1), 0, none⟩ = some (.int .i64 100) := cell_at HA9 0
    have y1 : W13.cell? ⟨(N + 1 + 1), 1, none⟩ = some (.int .i64 0) := cell_at HA9 1
    have y2 : W13.cell? ⟨(N + 1 + 1), 2, none⟩ = some (.int .i64 0) := cell_at HA9 2
    have y3 : W13.cell? ⟨(N + 1 + 1), 3, none⟩ = some (.int .i64 0) := cell_at HA9 3
    have y4 : W13.cell? ⟨(N + 1 + 1), 4, none⟩ = some (.int .i64 0) := cell_at HA9 4
    exact ⟨.tuple #[.agg #[.int .i64 s.term, .int .i64 s.stamp, .int .i64 s.next, vt9, .slice b2 m2 k2, .slice b3 m3 k3, .slice b4 m4 k4], .agg #[.int .i64 100, .int .i64 0, .int .i64 0, .int .i64 0, .int .i64 0]], by simp [results, Try.results20, go_sem, z0, z1, z2, z3, z4, z5, z6, y0, y1, y2, y3, y4], _, (by rw [HRA.out, if_neg (by rw [HGX.out]; first | decide | assumption), HGX.out]; rfl), (by rw [HR9.out, if_neg (by rw [HGX.out]; first | decide | assumption)]; exact ⟨_, _, _, _, rfl, hQ9, (O2.out.fr hF9 (by have := FO2.out; omega)).v, (O3.out.fr hF9 (by have := FO3.out; omega)).v, (O4.out.fr hF9 (by have := FO4.out; omega)).v⟩), HB.out.trans (hF9.below HB.out.size (by have := HLON.out; simp; omega))⟩
  have ttd : decide (1099511627776 ≤ s.next) = false := decide_eq_false hd
  replace HGE : Hid (ge = e0) := Lib.hid (by rw [HGE.out, if_neg (by rw [← Hln.out]; omega)])
  by_cases hz0 : e0 = 0
  rotate_left
  · skip
    have d3 : (e0 != 0) = true := by simp [hz0]
    have d4 : decide (e0 = 0) = false := decide_eq_false hz0
    have hge : ge = e0 := by rw [HGE.out]
    have HGX := Lib.hid hge
    clear hge
    have qO0 : W10.cell? ⟨(N + 1), 0, none⟩ = some (.int .i64 s.term) := cell_at HO.out 0
    have qO1 : W10.cell? ⟨(N + 1), 1, none⟩ = some (.int .i64 s.stamp) := cell_at HO.out 1
    have qO2 : W10.cell? ⟨(N + 1), 2, none⟩ = some (.int .i64 s.next) := cell_at HO.out 2
    have qO3 : W10.cell? ⟨(N + 1), 3, none⟩ = some (.slice b1 m1 k1) := cell_at HO.out 3
    have qO4 : W10.cell? ⟨(N + 1), 4, none⟩ = some (.slice b2 m2 k2) := cell_at HO.out 4
    have qO5 : W10.cell? ⟨(N + 1), 5, none⟩ = some (.slice b3 m3 k3) := cell_at HO.out 5
    have qO6 : W10.cell? ⟨(N + 1), 6, none⟩ = some (.slice b4 m4 k4) := cell_at HO.out 6
    have qOz : ∀ j, W10.frozen? ⟨(N + 1), j, none⟩ = false := fun j => free_at HO.out j
    have qOl : (N + 1) < W10.heap.size := HO.out.lt
    have qA0 : W10.cell? ⟨(N + 1 + 1), 0, none⟩ = some (.int .i64 0) := cell_at HA.out 0
    have qA1 : W10.cell? ⟨(N + 1 + 1), 1, none⟩ = some (.int .i64 0) := cell_at HA.out 1
    have qA2 : W10.cell? ⟨(N + 1 + 1), 2, none⟩ = some (.int .i64 0) := cell_at HA.out 2
    have qA3 : W10.cell? ⟨(N + 1 + 1), 3, none⟩ = some (.int .i64 0) := cell_at HA.out 3
    have qA4 : W10.cell? ⟨(N + 1 + 1), 4, none⟩ = some (.int .i64 0) := cell_at HA.out 4
    have qAz : ∀ j, W10.frozen? ⟨(N + 1 + 1), j, none⟩ = false := fun j => free_at HA.out j
    have qAl : (N + 1 + 1) < W10.heap.size := HA.out.lt
    have qT90 : W10.cell? ⟨T9, 0, none⟩ = some (.int .i64 y.id) := cell_at HT9.out 0
    have qT91 : W10.cell? ⟨T9, 1, none⟩ = some (.int .i64 y.rate) := cell_at HT9.out 1
    have qT92 : W10.cell? ⟨T9, 2, none⟩ = some (.int .i64 y.burst) := cell_at HT9.out 2
    have qT93 : W10.cell? ⟨T9, 3, none⟩ = some (.int .i64 yk) := cell_at HT9.out 3
    have qT94 : W10.cell? ⟨T9, 4, none⟩ = some (.bool false) := cell_at HT9.out 4
    have qT9z : ∀ j, W10.frozen? ⟨T9, j, none⟩ = false := fun j => free_at HT9.out j
    have qT9l : T9 < W10.heap.size := HT9.out.lt
    have qR0 : W10.cell? ⟨N, 0, none⟩ = some (.int .i64 s.term) := cell_at HR.out 0
    have qR1 : W10.cell? ⟨N, 1, none⟩ = some (.int .i64 s.stamp) := cell_at HR.out 1
    have qR2 : W10.cell? ⟨N, 2, none⟩ = some (.int .i64 s.next) := cell_at HR.out 2
    have qR3 : W10.cell? ⟨N, 3, none⟩ = some (.slice ta tn tc) := cell_at HR.out 3
    have qR4 : W10.cell? ⟨N, 4, none⟩ = some (.slice la ln lc) := cell_at HR.out 4
    have qR5 : W10.cell? ⟨N, 5, none⟩ = some (.slice sa sn sc) := cell_at HR.out 5
    have qR6 : W10.cell? ⟨N, 6, none⟩ = some (.slice da dn dc) := cell_at HR.out 6
    have qRz : ∀ j, W10.frozen? ⟨N, j, none⟩ = false := fun j => free_at HR.out j
    have qRl : N < W10.heap.size := HR.out.lt
    go_wp2_with fail
    clear qO0 qO1 qO2 qO3 qO4 qO5 qO6 qOz qOl qA0 qA1 qA2 qA3 qA4 qAz qAl qT90 qT91 qT92 qT93 qT94 qT9z qT9l qR0 qR1 qR2 qR3 qR4 qR5 qR6 qRz qRl
    obtain ⟨LS, hLS⟩ : ∃ L : List Value, L = [.int .i64 s.term, .int .i64 s.stamp, .int .i64 s.next, .slice b1 m1 k1, .slice b2 m2 k2, .slice b3 m3 k3, .slice b4 m4 k4] := ⟨_, rfl⟩
    obtain ⟨W11, hWS⟩ : ∃ WS, WS = W10.setCells (N + 1) 0 LS := ⟨_, rfl⟩
    have hch := hWS
    rw [hLS] at hch
    simp only [World.setCells, Nat.zero_add, Nat.reduceAdd] at hch
    rw [← hch]
    clear hch
    have hkS := stC_blk HO.out LS (by rw [hLS]; rfl)
    have hfS := stC_fr (N + 1) LS 0 W10
    rw [← hWS] at hkS hfS
    rw [hLS] at hkS
    replace HB := Lib.hid (HB.out.trans (hfS.below HB.out.size (by have := HLON.out; simp; try omega)))
    replace HT := Lib.hid (HT0.out.below HB.out)
    replace HL := Lib.hid (HL0.out.below HB.out)
    replace HS := Lib.hid (HS0.out.below HB.out)
    replace HD := Lib.hid (HD0.out.below HB.out)
    replace HR := Lib.hid (show Blk W11 N #[.int .i64 s.term, .int .i64 s.stamp, .int .i64 s.next, .slice ta tn tc, .slice la ln lc, .slice sa sn sc, .slice da dn dc] 27 from (hfS.block _ HR.out.lt (by have hx0 := HXT9HR.out; have hx1 := HXT9HO.out; have hx2 := HXT9HA.out; simp; try omega)).trans HR.out)
    replace HA := Lib.hid (show Blk W11 (N + 1 + 1) #[.int .i64 0, .int .i64 0, .int .i64 0, .int .i64 0, .int .i64 0] 41 from (hfS.block _ HA.out.lt (by have hx0 := HXT9HR.out; have hx1 := HXT9HO.out; have hx2 := HXT9HA.out; simp; try omega)).trans HA.out)
    replace O1 := Lib.hid (O1.out.fr hfS (by have := FO1.out; omega))
    replace O2 := Lib.hid (O2.out.fr hfS (by have := FO2.out; omega))
    replace O3 := Lib.hid (O3.out.fr hfS (by have := FO3.out; omega))
    replace O4 := Lib.hid (O4.out.fr hfS (by have := FO4.out; omega))
    replace HT9 := Lib.hid (show Blk W11 T9 #[.int .i64 y.id, .int .i64 y.rate, .int .i64 y.burst, .int .i64 yk, .bool false] 54 from (hfS.block _ HT9.out.lt (by have hx0 := HXT9HR.out; have hx1 := HXT9HO.out; have hx2 := HXT9HA.out; simp; try omega)).trans HT9.out)
    replace HO := Lib.hid (show Blk W11 (N + 1) #[.int .i64 s.term, .int .i64 s.stamp, .int .i64 s.next, .slice b1 m1 k1, .slice b2 m2 k2, .slice b3 m3 k3, .slice b4 m4 k4] 27 from hkS)
    clear hWS hLS hkS hfS
    obtain ⟨LS, hLS⟩ : ∃ L : List Value, L = [.int .i64 e0, .int .i64 0, .int .i64 0, .int .i64 0, .int .i64 0] := ⟨_, rfl⟩
    obtain ⟨W12, hWS⟩ : ∃ WS, WS = W11.setCells (N + 1 + 1) 0 LS := ⟨_, rfl⟩
    have hch := hWS
    rw [hLS] at hch
    simp only [World.setCells, Nat.zero_add, Nat.reduceAdd] at hch
    rw [← hch]
    clear hch
    have hkS := stC_blk HA.out LS (by rw [hLS]; rfl)
    have hfS := stC_fr (N + 1 + 1) LS 0 W11
    rw [← hWS] at hkS hfS
    rw [hLS] at hkS
    replace HB := Lib.hid (HB.out.trans (hfS.below HB.out.size (by have := HLON.out; simp; try omega)))
    replace HT := Lib.hid (HT0.out.below HB.out)
    replace HL := Lib.hid (HL0.out.below HB.out)
    replace HS := Lib.hid (HS0.out.below HB.out)
    replace HD := Lib.hid (HD0.out.below HB.out)
    replace HR := Lib.hid (show Blk W12 N #[.int .i64 s.term, .int .i64 s.stamp, .int .i64 s.next, .slice ta tn tc, .slice la ln lc, .slice sa sn sc, .slice da dn dc] 27 from (hfS.block _ HR.out.lt (by have hx0 := HXT9HR.out; have hx1 := HXT9HO.out; have hx2 := HXT9HA.out; simp; try omega)).trans HR.out)
    replace HO := Lib.hid (show Blk W12 (N + 1) #[.int .i64 s.term, .int .i64 s.stamp, .int .i64 s.next, .slice b1 m1 k1, .slice b2 m2 k2, .slice b3 m3 k3, .slice b4 m4 k4] 27 from (hfS.block _ HO.out.lt (by have hx0 := HXT9HR.out; have hx1 := HXT9HO.out; have hx2 := HXT9HA.out; simp; try omega)).trans HO.out)
    replace O1 := Lib.hid (O1.out.fr hfS (by have := FO1.out; omega))
    replace O2 := Lib.hid (O2.out.fr hfS (by have := FO2.out; omega))
    replace O3 := Lib.hid (O3.out.fr hfS (by have := FO3.out; omega))
    replace O4 := Lib.hid (O4.out.fr hfS (by have := FO4.out; omega))
    replace HT9 := Lib.hid (show Blk W12 T9 #[.int .i64 y.id, .int .i64 y.rate, .int .i64 y.burst, .int .i64 yk, .bool false] 54 from (hfS.block _ HT9.out.lt (by have hx0 := HXT9HR.out; have hx1 := HXT9HO.out; have hx2 := HXT9HA.out; simp; try omega)).trans HT9.out)
    replace HA := Lib.hid (show Blk W12 (N + 1 + 1) #[.int .i64 e0, .int .i64 0, .int .i64 0, .int .i64 0, .int .i64 0] 41 from hkS)
    clear hWS hLS hkS hfS
    refine leaves_cons (f := 43) (args := #[.pointer (some ⟨(N + 1), 0, none⟩)]) (by simp) (by simp [go_sem]) ?_
    refine (grant1_d .returning _ _ _ _ (s) (N + 1) _ HO.out (tn_tv O1.out.v) O2.out.v O3.out.v O4.out.v HFEW.out HSZ9.out).mono ?_
    rintro e u9 W13 ⟨rfl, vt9, rfl, hO9, hQ9, hF9⟩
    have z0 : W13.cell? ⟨(N + 1), 0, none⟩ = some (.int .i64 s.term) := cell_at hO9 0
    have z1 : W13.cell? ⟨(N + 1), 1, none⟩ = some (.int .i64 s.stamp) := cell_at hO9 1
    have z2 : W13.cell? ⟨(N + 1), 2, none⟩ = some (.int .i64 s.next) := cell_at hO9 2
    have z3 : W13.cell? ⟨(N + 1), 3, none⟩ = some (vt9) := cell_at hO9 3
    have z4 : W13.cell? ⟨(N + 1), 4, none⟩ = some (.slice b2 m2 k2) := cell_at hO9 4
    have z5 : W13.cell? ⟨(N + 1), 5, none⟩ = some (.slice b3 m3 k3) := cell_at hO9 5
    have z6 : W13.cell? ⟨(N + 1), 6, none⟩ = some (.slice b4 m4 k4) := cell_at hO9 6
    have HA9 := (hF9.block (N + 1 + 1) HA.out.lt (by simp)).trans HA.out
    have y0 : W13.cell? ⟨(N + 1 + 1), 0, none⟩ = some (.int .i64 e0) := cell_at HA9 0
    have y1 : W13.cell? ⟨(N + 1 + 1), 1, none⟩ = some (.int .i64 0) := cell_at HA9 1
    have y2 : W13.cell? ⟨(N + 1 + 1), 2, none⟩ = some (.int .i64 0) := cell_at HA9 2
    have y3 : W13.cell? ⟨(N + 1 + 1), 3, none⟩ = some (.int .i64 0) := cell_at HA9 3
    have y4 : W13.cell? ⟨(N + 1 + 1), 4, none⟩ = some (.int .i64 0) := cell_at HA9 4
    exact ⟨.tuple #[.agg #[.int .i64 s.term, .int .i64 s.stamp, .int .i64 s.next, vt9, .slice b2 m2 k2, .slice b3 m3 k3, .slice b4 m4 k4], .agg #[.int .i64 e0, .int .i64 0, .int .i64 0, .int .i64 0, .int .i64 0]], by simp [results, Try.results20, go_sem, z0, z1, z2, z3, z4, z5, z6, y0, y1, y2, y3, y4], _, (by rw [HRA.out, if_neg (by rw [HGX.out]; first | decide | assumption), HGX.out]; rfl), (by rw [HR9.out, if_neg (by rw [HGX.out]; first | decide | assumption)]; exact ⟨_, _, _, _, rfl, hQ9, (O2.out.fr hF9 (by have := FO2.out; omega)).v, (O3.out.fr hF9 (by have := FO3.out; omega)).v, (O4.out.fr hF9 (by have := FO4.out; omega)).v⟩), HB.out.trans (hF9.below HB.out.size (by have := HLON.out; simp; omega))⟩
  obtain ⟨hsz1, hsz2⟩ := HSB2.out rfl
  have hgz : ge = 0 := HGE.out.trans hz0
  have HGZ := Lib.hid hgz
  have hlf2 : lf = yk - 1000 * size := by
    rw [HLF.out]
    have h := HE0.out
    rw [hz0] at h
    unfold takeE at h
    unfold takeV
    split at h
    · cases h
    · rename_i h9; rw [if_neg h9]
  have hlf3 : -9223372036854775808 ≤ lf ∧ lf ≤ 9223372036854775807 := by omega
  have HOKX : Hid (TnE.ok ⟨y.id, y.rate, y.burst, lf, false⟩) := Lib.hid ⟨HOKY.out.1, HOKY.out.2.1, HOKY.out.2.2.1, hlf3, trivial⟩
  subst hz0
  clear hgz hlf2 hlf3 HGE
  have qT90 : W10.cell? ⟨T9, 0, none⟩ = some (.int .i64 y.id) := cell_at HT9.out 0
  have qT91 : W10.cell? ⟨T9, 1, none⟩ = some (.int .i64 y.rate) := cell_at HT9.out 1
  have qT92 : W10.cell? ⟨T9, 2, none⟩ = some (.int .i64 y.burst) := cell_at HT9.out 2
  have qT93 : W10.cell? ⟨T9, 3, none⟩ = some (.int .i64 yk) := cell_at HT9.out 3
  have qT94 : W10.cell? ⟨T9, 4, none⟩ = some (.bool false) := cell_at HT9.out 4
  have qT9z : ∀ j, W10.frozen? ⟨T9, j, none⟩ = false := fun j => free_at HT9.out j
  have qT9l : T9 < W10.heap.size := HT9.out.lt
  have qR0 : W10.cell? ⟨N, 0, none⟩ = some (.int .i64 s.term) := cell_at HR.out 0
  have qR1 : W10.cell? ⟨N, 1, none⟩ = some (.int .i64 s.stamp) := cell_at HR.out 1
  have qR2 : W10.cell? ⟨N, 2, none⟩ = some (.int .i64 s.next) := cell_at HR.out 2
  have qR3 : W10.cell? ⟨N, 3, none⟩ = some (.slice ta tn tc) := cell_at HR.out 3
  have qR4 : W10.cell? ⟨N, 4, none⟩ = some (.slice la ln lc) := cell_at HR.out 4
  have qR5 : W10.cell? ⟨N, 5, none⟩ = some (.slice sa sn sc) := cell_at HR.out 5
  have qR6 : W10.cell? ⟨N, 6, none⟩ = some (.slice da dn dc) := cell_at HR.out 6
  have qRz : ∀ j, W10.frozen? ⟨N, j, none⟩ = false := fun j => free_at HR.out j
  have qRl : N < W10.heap.size := HR.out.lt
  go_upto_region 16 with fail
  clear qT90 qT91 qT92 qT93 qT94 qT9z qT9l qR0 qR1 qR2 qR3 qR4 qR5 qR6 qRz qRl
  obtain ⟨W11, hWS⟩ : ∃ WS, WS = W10.setCell ⟨T9, 3, none⟩ (.int .i64 lf) := ⟨_, rfl⟩
  rw [← hWS]
  have hfS : Fr [T9] W10 W11 := by rw [hWS]; exact (Fr.refl _ _).setCell _ (.inl (by simp)) _
  have hkS : Blk W11 T9 #[.int .i64 y.id, .int .i64 y.rate, .int .i64 y.burst, .int .i64 lf, .bool false] 54 := by rw [hWS]; exact HT9.out.set 3 _
  replace HB := Lib.hid (HB.out.trans (hfS.below HB.out.size (by have := HLOT9.out; simp; try omega)))
  replace HT := Lib.hid (HT0.out.below HB.out)
  replace HL := Lib.hid (HL0.out.below HB.out)
  replace HS := Lib.hid (HS0.out.below HB.out)
  replace HD := Lib.hid (HD0.out.below HB.out)
  replace HR := Lib.hid (show Blk W11 N #[.int .i64 s.term, .int .i64 s.stamp, .int .i64 s.next, .slice ta tn tc, .slice la ln lc, .slice sa sn sc, .slice da dn dc] 27 from (hfS.block _ HR.out.lt (by have hx0 := HXT9HR.out; have hx1 := HXT9HO.out; have hx2 := HXT9HA.out; simp; try omega)).trans HR.out)
  replace HO := Lib.hid (show Blk W11 (N + 1) #[.int .i64 s.term, .int .i64 s.stamp, .int .i64 s.next, .slice b1 m1 k1, .slice b2 m2 k2, .slice b3 m3 k3, .slice b4 m4 k4] 27 from (hfS.block _ HO.out.lt (by have hx0 := HXT9HR.out; have hx1 := HXT9HO.out; have hx2 := HXT9HA.out; simp; try omega)).trans HO.out)
  replace HA := Lib.hid (show Blk W11 (N + 1 + 1) #[.int .i64 0, .int .i64 0, .int .i64 0, .int .i64 0, .int .i64 0] 41 from (hfS.block _ HA.out.lt (by have hx0 := HXT9HR.out; have hx1 := HXT9HO.out; have hx2 := HXT9HA.out; simp; try omega)).trans HA.out)
  replace O1 := Lib.hid (O1.out.frU hfS HUT9O1.out)
  replace O2 := Lib.hid (O2.out.frU hfS HUT9O2.out)
  replace O3 := Lib.hid (O3.out.frU hfS HUT9O3.out)
  replace O4 := Lib.hid (O4.out.frU hfS HUT9O4.out)
  replace HT9 := Lib.hid (show Blk W11 T9 #[.int .i64 y.id, .int .i64 y.rate, .int .i64 y.burst, .int .i64 lf, .bool false] 54 from hkS)
  clear hWS hfS hkS
  have HSE := Lib.hid (pset_own _ s.ts ⟨y.id, y.rate, y.burst, lf, false⟩ W11 (tn_tv O1.out.v) (by rw [← Htn.out]; omega) HOKX.out)
  have qT90 : W11.cell? ⟨T9, 0, none⟩ = some (.int .i64 y.id) := cell_at HT9.out 0
  have qT91 : W11.cell? ⟨T9, 1, none⟩ = some (.int .i64 y.rate) := cell_at HT9.out 1
  have qT92 : W11.cell? ⟨T9, 2, none⟩ = some (.int .i64 y.burst) := cell_at HT9.out 2
  have qT93 : W11.cell? ⟨T9, 3, none⟩ = some (.int .i64 lf) := cell_at HT9.out 3
  have qT94 : W11.cell? ⟨T9, 4, none⟩ = some (.bool false) := cell_at HT9.out 4
  have qT9z : ∀ j, W11.frozen? ⟨T9, j, none⟩ = false := fun j => free_at HT9.out j
  have qT9l : T9 < W11.heap.size := HT9.out.lt
  have qO0 : W11.cell? ⟨(N + 1), 0, none⟩ = some (.int .i64 s.term) := cell_at HO.out 0
  have qO1 : W11.cell? ⟨(N + 1), 1, none⟩ = some (.int .i64 s.stamp) := cell_at HO.out 1
  have qO2 : W11.cell? ⟨(N + 1), 2, none⟩ = some (.int .i64 s.next) := cell_at HO.out 2
  have qO3 : W11.cell? ⟨(N + 1), 3, none⟩ = some (.slice b1 m1 k1) := cell_at HO.out 3
  have qO4 : W11.cell? ⟨(N + 1), 4, none⟩ = some (.slice b2 m2 k2) := cell_at HO.out 4
  have qO5 : W11.cell? ⟨(N + 1), 5, none⟩ = some (.slice b3 m3 k3) := cell_at HO.out 5
  have qO6 : W11.cell? ⟨(N + 1), 6, none⟩ = some (.slice b4 m4 k4) := cell_at HO.out 6
  have qOz : ∀ j, W11.frozen? ⟨(N + 1), j, none⟩ = false := fun j => free_at HO.out j
  have qOl : (N + 1) < W11.heap.size := HO.out.lt
  have FTQ := Lib.hid HA.out.lt
  have HOB := Lib.hid (show ∀ g, ol = some g → g < W11.heap.size from fun g e => by subst e; exact O2.out.1.lt)
  go_wp2_with fail
  go_at_call 48
  go_fit HSE.out
  rintro e W12 ⟨v5, rfl, hv5, hB⟩
  clear qT90 qT91 qT92 qT93 qT94 qT9z qT9l qO0 qO1 qO2 qO3 qO4 qO5 qO6 qOz qOl
  replace HB := Lib.hid (HB.out.trans (hB.mono HB.out.size))
  replace HT := Lib.hid (HT0.out.below HB.out)
  replace HL := Lib.hid (HL0.out.below HB.out)
  replace HS := Lib.hid (HS0.out.below HB.out)
  replace HD := Lib.hid (HD0.out.below HB.out)
  replace HR := Lib.hid (HR.out.step hB)
  replace HO := Lib.hid (HO.out.step hB)
  replace HA := Lib.hid (HA.out.step hB)
  replace O1 := Lib.hid (O1.out.step hB)
  replace O2 := Lib.hid (O2.out.step hB)
  replace O3 := Lib.hid (O3.out.step hB)
  replace O4 := Lib.hid (O4.out.step hB)
  replace HT9 := Lib.hid (HT9.out.step hB)
  clear hB
  obtain ⟨b5, m5, k5, rfl, Hb5, x5, y5⟩ := hv5.tv.sh
  have TQ := Lib.hid hv5
  clear hv5 HSE
  have qO0 : W12.cell? ⟨(N + 1), 0, none⟩ = some (.int .i64 s.term) := cell_at HO.out 0
  have qO1 : W12.cell? ⟨(N + 1), 1, none⟩ = some (.int .i64 s.stamp) := cell_at HO.out 1
  have qO2 : W12.cell? ⟨(N + 1), 2, none⟩ = some (.int .i64 s.next) := cell_at HO.out 2
  have qO3 : W12.cell? ⟨(N + 1), 3, none⟩ = some (.slice b1 m1 k1) := cell_at HO.out 3
  have qO4 : W12.cell? ⟨(N + 1), 4, none⟩ = some (.slice b2 m2 k2) := cell_at HO.out 4
  have qO5 : W12.cell? ⟨(N + 1), 5, none⟩ = some (.slice b3 m3 k3) := cell_at HO.out 5
  have qO6 : W12.cell? ⟨(N + 1), 6, none⟩ = some (.slice b4 m4 k4) := cell_at HO.out 6
  have qOz : ∀ j, W12.frozen? ⟨(N + 1), j, none⟩ = false := fun j => free_at HO.out j
  have qOl : (N + 1) < W12.heap.size := HO.out.lt
  go_upto_region 17 with fail
  clear qO0 qO1 qO2 qO3 qO4 qO5 qO6 qOz qOl
  obtain ⟨W13, hWS⟩ : ∃ WS, WS = W12.setCell ⟨(N + 1), 3, none⟩ (.slice b5 m5 k5) := ⟨_, rfl⟩
  rw [← hWS]
  have hfS : Fr [(N + 1)] W12 W13 := by rw [hWS]; exact (Fr.refl _ _).setCell _ (.inl (by simp)) _
  have hkS : Blk W13 (N + 1) #[.int .i64 s.term, .int .i64 s.stamp, .int .i64 s.next, .slice b5 m5 k5, .slice b2 m2 k2, .slice b3 m3 k3, .slice b4 m4 k4] 27 := by rw [hWS]; exact HO.out.set 3 _
  replace HB := Lib.hid (HB.out.trans (hfS.below HB.out.size (by have := HLON.out; simp; try omega)))
  replace HT := Lib.hid (HT0.out.below HB.out)
  replace HL := Lib.hid (HL0.out.below HB.out)
  replace HS := Lib.hid (HS0.out.below HB.out)
  replace HD := Lib.hid (HD0.out.below HB.out)
  replace HR := Lib.hid (show Blk W13 N #[.int .i64 s.term, .int .i64 s.stamp, .int .i64 s.next, .slice ta tn tc, .slice la ln lc, .slice sa sn sc, .slice da dn dc] 27 from (hfS.block _ HR.out.lt (by have hx0 := HXT9HR.out; have hx1 := HXT9HO.out; have hx2 := HXT9HA.out; simp; try omega)).trans HR.out)
  replace HA := Lib.hid (show Blk W13 (N + 1 + 1) #[.int .i64 0, .int .i64 0, .int .i64 0, .int .i64 0, .int .i64 0] 41 from (hfS.block _ HA.out.lt (by have hx0 := HXT9HR.out; have hx1 := HXT9HO.out; have hx2 := HXT9HA.out; simp; try omega)).trans HA.out)
  replace O1 := Lib.hid (O1.out.fr hfS (by have := FO1.out; omega))
  replace O2 := Lib.hid (O2.out.fr hfS (by have := FO2.out; omega))
  replace O3 := Lib.hid (O3.out.fr hfS (by have := FO3.out; omega))
  replace O4 := Lib.hid (O4.out.fr hfS (by have := FO4.out; omega))
  replace HT9 := Lib.hid (show Blk W13 T9 #[.int .i64 y.id, .int .i64 y.rate, .int .i64 y.burst, .int .i64 lf, .bool false] 54 from (hfS.block _ HT9.out.lt (by have hx0 := HXT9HR.out; have hx1 := HXT9HO.out; have hx2 := HXT9HA.out; simp; try omega)).trans HT9.out)
  replace TQ := Lib.hid (TQ.out.fr hfS (by have := FTQ.out; omega))
  replace HO := Lib.hid (show Blk W13 (N + 1) #[.int .i64 s.term, .int .i64 s.stamp, .int .i64 s.next, .slice b5 m5 k5, .slice b2 m2 k2, .slice b3 m3 k3, .slice b4 m4 k4] 27 from hkS)
  clear hWS hfS hkS
  have qO0 : W13.cell? ⟨(N + 1), 0, none⟩ = some (.int .i64 s.term) := cell_at HO.out 0
  have qO1 : W13.cell? ⟨(N + 1), 1, none⟩ = some (.int .i64 s.stamp) := cell_at HO.out 1
  have qO2 : W13.cell? ⟨(N + 1), 2, none⟩ = some (.int .i64 s.next) := cell_at HO.out 2
  have qO3 : W13.cell? ⟨(N + 1), 3, none⟩ = some (.slice b5 m5 k5) := cell_at HO.out 3
  have qO4 : W13.cell? ⟨(N + 1), 4, none⟩ = some (.slice b2 m2 k2) := cell_at HO.out 4
  have qO5 : W13.cell? ⟨(N + 1), 5, none⟩ = some (.slice b3 m3 k3) := cell_at HO.out 5
  have qO6 : W13.cell? ⟨(N + 1), 6, none⟩ = some (.slice b4 m4 k4) := cell_at HO.out 6
  have qOz : ∀ j, W13.frozen? ⟨(N + 1), j, none⟩ = false := fun j => free_at HO.out j
  have qOl : (N + 1) < W13.heap.size := HO.out.lt
  have qR0 : W13.cell? ⟨N, 0, none⟩ = some (.int .i64 s.term) := cell_at HR.out 0
  have qR1 : W13.cell? ⟨N, 1, none⟩ = some (.int .i64 s.stamp) := cell_at HR.out 1
  have qR2 : W13.cell? ⟨N, 2, none⟩ = some (.int .i64 s.next) := cell_at HR.out 2
  have qR3 : W13.cell? ⟨N, 3, none⟩ = some (.slice ta tn tc) := cell_at HR.out 3
  have qR4 : W13.cell? ⟨N, 4, none⟩ = some (.slice la ln lc) := cell_at HR.out 4
  have qR5 : W13.cell? ⟨N, 5, none⟩ = some (.slice sa sn sc) := cell_at HR.out 5
  have qR6 : W13.cell? ⟨N, 6, none⟩ = some (.slice da dn dc) := cell_at HR.out 6
  have qRz : ∀ j, W13.frozen? ⟨N, j, none⟩ = false := fun j => free_at HR.out j
  have qRl : N < W13.heap.size := HR.out.lt
  obtain ⟨v7, W14, hrun, hlv, hG⟩ := le_push (ty := 23) (e := ⟨s.next, te, sh, ep, nu, size, 0⟩) O2.out ⟨(show -9223372036854775808 ≤ s.next ∧ s.next ≤ 9223372036854775807 by omega), hbd.2.2.2, hbd.1, hbd.2.1, hbd.2.2.1, (show -9223372036854775808 ≤ size ∧ size ≤ 9223372036854775807 by omega), (show -9223372036854775808 ≤ (0 : Int) ∧ (0 : Int) ≤ 9223372036854775807 by omega)⟩ (by rw [← Hln.out]; omega)
  obtain ⟨b7, m7, k7, rfl, Hb7, x7, y7⟩ := hlv.sh
  have HRUN := Lib.hid hrun
  have hbo := HO.out.grown O2.out hG (by decide)
  have p4 : W14.cell? ⟨(N + 1), 4, none⟩ = some (.slice b2 m2 k2) := cell_at hbo 4
  have pz : ∀ j, W14.frozen? ⟨(N + 1), j, none⟩ = false := fun j => free_at hbo j
  have pl : (N + 1) < W14.heap.size := hbo.lt
  go_upto_region 18 with (at_builtin; refine Lib.wpList_append_run _ rfl (.tmp 90) (.tmp 99) 23 23 rfl _ _ rfl rfl _ _ HRUN.out ?_)
  clear qO0 qO1 qO2 qO3 qO4 qO5 qO6 qOz qOl qR0 qR1 qR2 qR3 qR4 qR5 qR6 qRz qRl
  clear p4 pz pl hbo HRUN hrun
  replace HB := Lib.hid (HB.out.trans ((Below.refl _ _).grown hG HB.out.size (fun g e => Nat.le_trans HB0L.out (O2.out.2.2 g e))))
  replace HT := Lib.hid (HT0.out.below HB.out)
  replace HL := Lib.hid (HL0.out.below HB.out)
  replace HS := Lib.hid (HS0.out.below HB.out)
  replace HD := Lib.hid (HD0.out.below HB.out)
  replace HR := Lib.hid (HR.out.grown O2.out hG (by decide))
  replace HO := Lib.hid (HO.out.grown O2.out hG (by decide))
  replace HA := Lib.hid (HA.out.grown O2.out hG (by decide))
  replace O1 := Lib.hid (O1.out.grown O2.out hG)
  replace O3 := Lib.hid (O3.out.grown O2.out hG)
  replace O4 := Lib.hid (O4.out.grown O2.out hG)
  replace HT9 := Lib.hid (HT9.out.grown O2.out hG (by decide))
  replace TQ := Lib.hid (TQ.out.grown hG HOB.out)
  have HLQ := Lib.hid hlv
  clear hlv hG
  obtain ⟨W15, hWS⟩ : ∃ WS, WS = W14.setCell ⟨(N + 1), 4, none⟩ (.slice b7 m7 k7) := ⟨_, rfl⟩
  rw [← hWS]
  have hfS : Fr [(N + 1)] W14 W15 := by rw [hWS]; exact (Fr.refl _ _).setCell _ (.inl (by simp)) _
  have hkS : Blk W15 (N + 1) #[.int .i64 s.term, .int .i64 s.stamp, .int .i64 s.next, .slice b5 m5 k5, .slice b7 m7 k7, .slice b3 m3 k3, .slice b4 m4 k4] 27 := by rw [hWS]; exact HO.out.set 4 _
  replace HB := Lib.hid (HB.out.trans (hfS.below HB.out.size (by have := HLON.out; simp; try omega)))
  replace HT := Lib.hid (HT0.out.below HB.out)
  replace HL := Lib.hid (HL0.out.below HB.out)
  replace HS := Lib.hid (HS0.out.below HB.out)
  replace HD := Lib.hid (HD0.out.below HB.out)
  replace HR := Lib.hid (show Blk W15 N #[.int .i64 s.term, .int .i64 s.stamp, .int .i64 s.next, .slice ta tn tc, .slice la ln lc, .slice sa sn sc, .slice da dn dc] 27 from (hfS.block _ HR.out.lt (by have hx0 := HXT9HR.out; have hx1 := HXT9HO.out; have hx2 := HXT9HA.out; simp; try omega)).trans HR.out)
  replace HA := Lib.hid (show Blk W15 (N + 1 + 1) #[.int .i64 0, .int .i64 0, .int .i64 0, .int .i64 0, .int .i64 0] 41 from (hfS.block _ HA.out.lt (by have hx0 := HXT9HR.out; have hx1 := HXT9HO.out; have hx2 := HXT9HA.out; simp; try omega)).trans HA.out)
  replace O3 := Lib.hid (O3.out.fr hfS (by have := FO3.out; omega))
  replace O4 := Lib.hid (O4.out.fr hfS (by have := FO4.out; omega))
  replace HT9 := Lib.hid (show Blk W15 T9 #[.int .i64 y.id, .int .i64 y.rate, .int .i64 y.burst, .int .i64 lf, .bool false] 54 from (hfS.block _ HT9.out.lt (by have hx0 := HXT9HR.out; have hx1 := HXT9HO.out; have hx2 := HXT9HA.out; simp; try omega)).trans HT9.out)
  replace TQ := Lib.hid (TQ.out.fr hfS (by have := FTQ.out; omega))
  replace HLQ := Lib.hid (HLQ.out.fr HO.out hfS)
  replace HO := Lib.hid (show Blk W15 (N + 1) #[.int .i64 s.term, .int .i64 s.stamp, .int .i64 s.next, .slice b5 m5 k5, .slice b7 m7 k7, .slice b3 m3 k3, .slice b4 m4 k4] 27 from hkS)
  clear hWS hfS hkS
  have wn : IntKind.i64.wrap (s.next + 1) = s.next + 1 := IntWalk.i64_in _ (by omega)
  have qO0 : W15.cell? ⟨(N + 1), 0, none⟩ = some (.int .i64 s.term) := cell_at HO.out 0
  have qO1 : W15.cell? ⟨(N + 1), 1, none⟩ = some (.int .i64 s.stamp) := cell_at HO.out 1
  have qO2 : W15.cell? ⟨(N + 1), 2, none⟩ = some (.int .i64 s.next) := cell_at HO.out 2
  have qO3 : W15.cell? ⟨(N + 1), 3, none⟩ = some (.slice b5 m5 k5) := cell_at HO.out 3
  have qO4 : W15.cell? ⟨(N + 1), 4, none⟩ = some (.slice b7 m7 k7) := cell_at HO.out 4
  have qO5 : W15.cell? ⟨(N + 1), 5, none⟩ = some (.slice b3 m3 k3) := cell_at HO.out 5
  have qO6 : W15.cell? ⟨(N + 1), 6, none⟩ = some (.slice b4 m4 k4) := cell_at HO.out 6
  have qOz : ∀ j, W15.frozen? ⟨(N + 1), j, none⟩ = false := fun j => free_at HO.out j
  have qOl : (N + 1) < W15.heap.size := HO.out.lt
  go_upto_region 19 with fail
  clear qO0 qO1 qO2 qO3 qO4 qO5 qO6 qOz qOl
  obtain ⟨W16, hWS⟩ : ∃ WS, WS = W15.setCell ⟨(N + 1), 2, none⟩ (.int .i64 (s.next + 1)) := ⟨_, rfl⟩
  rw [← hWS]
  have hfS : Fr [(N + 1)] W15 W16 := by rw [hWS]; exact (Fr.refl _ _).setCell _ (.inl (by simp)) _
  have hkS : Blk W16 (N + 1) #[.int .i64 s.term, .int .i64 s.stamp, .int .i64 (s.next + 1), .slice b5 m5 k5, .slice b7 m7 k7, .slice b3 m3 k3, .slice b4 m4 k4] 27 := by rw [hWS]; exact HO.out.set 2 _
  replace HB := Lib.hid (HB.out.trans (hfS.below HB.out.size (by have := HLON.out; simp; try omega)))
  replace HT := Lib.hid (HT0.out.below HB.out)
  replace HL := Lib.hid (HL0.out.below HB.out)
  replace HS := Lib.hid (HS0.out.below HB.out)
  replace HD := Lib.hid (HD0.out.below HB.out)
  replace HR := Lib.hid (show Blk W16 N #[.int .i64 s.term, .int .i64 s.stamp, .int .i64 s.next, .slice ta tn tc, .slice la ln lc, .slice sa sn sc, .slice da dn dc] 27 from (hfS.block _ HR.out.lt (by have hx0 := HXT9HR.out; have hx1 := HXT9HO.out; have hx2 := HXT9HA.out; simp; try omega)).trans HR.out)
  replace HA := Lib.hid (show Blk W16 (N + 1 + 1) #[.int .i64 0, .int .i64 0, .int .i64 0, .int .i64 0, .int .i64 0] 41 from (hfS.block _ HA.out.lt (by have hx0 := HXT9HR.out; have hx1 := HXT9HO.out; have hx2 := HXT9HA.out; simp; try omega)).trans HA.out)
  replace O3 := Lib.hid (O3.out.fr hfS (by have := FO3.out; omega))
  replace O4 := Lib.hid (O4.out.fr hfS (by have := FO4.out; omega))
  replace HT9 := Lib.hid (show Blk W16 T9 #[.int .i64 y.id, .int .i64 y.rate, .int .i64 y.burst, .int .i64 lf, .bool false] 54 from (hfS.block _ HT9.out.lt (by have hx0 := HXT9HR.out; have hx1 := HXT9HO.out; have hx2 := HXT9HA.out; simp; try omega)).trans HT9.out)
  replace TQ := Lib.hid (TQ.out.fr hfS (by have := FTQ.out; omega))
  replace HLQ := Lib.hid (HLQ.out.fr HO.out hfS)
  replace HO := Lib.hid (show Blk W16 (N + 1) #[.int .i64 s.term, .int .i64 s.stamp, .int .i64 (s.next + 1), .slice b5 m5 k5, .slice b7 m7 k7, .slice b3 m3 k3, .slice b4 m4 k4] 27 from hkS)
  clear hWS hfS hkS
  have qT90 : W16.cell? ⟨T9, 0, none⟩ = some (.int .i64 y.id) := cell_at HT9.out 0
  have qT91 : W16.cell? ⟨T9, 1, none⟩ = some (.int .i64 y.rate) := cell_at HT9.out 1
  have qT92 : W16.cell? ⟨T9, 2, none⟩ = some (.int .i64 y.burst) := cell_at HT9.out 2
  have qT93 : W16.cell? ⟨T9, 3, none⟩ = some (.int .i64 lf) := cell_at HT9.out 3
  have qT94 : W16.cell? ⟨T9, 4, none⟩ = some (.bool false) := cell_at HT9.out 4
  have qT9z : ∀ j, W16.frozen? ⟨T9, j, none⟩ = false := fun j => free_at HT9.out j
  have qT9l : T9 < W16.heap.size := HT9.out.lt
  have qR0 : W16.cell? ⟨N, 0, none⟩ = some (.int .i64 s.term) := cell_at HR.out 0
  have qR1 : W16.cell? ⟨N, 1, none⟩ = some (.int .i64 s.stamp) := cell_at HR.out 1
  have qR2 : W16.cell? ⟨N, 2, none⟩ = some (.int .i64 s.next) := cell_at HR.out 2
  have qR3 : W16.cell? ⟨N, 3, none⟩ = some (.slice ta tn tc) := cell_at HR.out 3
  have qR4 : W16.cell? ⟨N, 4, none⟩ = some (.slice la ln lc) := cell_at HR.out 4
  have qR5 : W16.cell? ⟨N, 5, none⟩ = some (.slice sa sn sc) := cell_at HR.out 5
  have qR6 : W16.cell? ⟨N, 6, none⟩ = some (.slice da dn dc) := cell_at HR.out 6
  have qRz : ∀ j, W16.frozen? ⟨N, j, none⟩ = false := fun j => free_at HR.out j
  have qRl : N < W16.heap.size := HR.out.lt
  clear wn
  refine wp_np ?_
  clear qT90 qT91 qT92 qT93 qT94 qT9z qT9l qR0 qR1 qR2 qR3 qR4 qR5 qR6 qRz qRl
  refine wp_region_held_drew (S := fun X => (X.cell? ⟨N, 0, none⟩ = some (.int .i64 s.term) ∧ X.cell? ⟨N, 1, none⟩ = some (.int .i64 s.stamp) ∧ X.cell? ⟨N, 2, none⟩ = some (.int .i64 s.next) ∧ X.cell? ⟨N, 3, none⟩ = some (.slice ta tn tc) ∧ X.cell? ⟨N, 4, none⟩ = some (.slice la ln lc) ∧ X.cell? ⟨N, 5, none⟩ = some (.slice sa sn sc) ∧ X.cell? ⟨N, 6, none⟩ = some (.slice da dn dc) ∧ N < X.heap.size) ∧ (X.cell? ⟨T9, 0, none⟩ = some (.int .i64 y.id) ∧ X.cell? ⟨T9, 1, none⟩ = some (.int .i64 y.rate) ∧ X.cell? ⟨T9, 2, none⟩ = some (.int .i64 y.burst) ∧ X.cell? ⟨T9, 3, none⟩ = some (.int .i64 lf) ∧ X.cell? ⟨T9, 4, none⟩ = some (.bool false) ∧ T9 < X.heap.size) ∧ (X.cell? ⟨(N + 1), 0, none⟩ = some (.int .i64 s.term) ∧ X.cell? ⟨(N + 1), 1, none⟩ = some (.int .i64 s.stamp) ∧ X.cell? ⟨(N + 1), 2, none⟩ = some (.int .i64 (s.next + 1)) ∧ X.cell? ⟨(N + 1), 3, none⟩ = some (.slice b5 m5 k5) ∧ X.cell? ⟨(N + 1), 4, none⟩ = some (.slice b7 m7 k7) ∧ X.cell? ⟨(N + 1), 5, none⟩ = some (.slice b3 m3 k3) ∧ X.cell? ⟨(N + 1), 6, none⟩ = some (.slice b4 m4 k4) ∧ (N + 1) < X.heap.size)) (by kernel_rfl) ⟨⟨cell_at HR.out 0, cell_at HR.out 1, cell_at HR.out 2, cell_at HR.out 3, cell_at HR.out 4, cell_at HR.out 5, cell_at HR.out 6, HR.out.lt⟩, ⟨cell_at HT9.out 0, cell_at HT9.out 1, cell_at HT9.out 2, cell_at HT9.out 3, cell_at HT9.out 4, HT9.out.lt⟩, ⟨cell_at HO.out 0, cell_at HO.out 1, cell_at HO.out 2, cell_at HO.out 3, cell_at HO.out 4, cell_at HO.out 5, cell_at HO.out 6, HO.out.lt⟩⟩ (fun hHeld => ?_)
  ((refine wpAnyH_take (i := 0) (v := ?_) (by (simp only [List.getElem?_toArray, List.getElem?_cons_succ, List.getElem?_cons_zero]); rfl) (by kernel_rfl) (by kernel_rfl) (by kernel_rfl) (by exact fun _ _ _ h => h) (Or.inl ⟨by rfl, ?_⟩) (by assumption) ?_); rotate_left; focus (intro wS hSw; (try dsimp only at hSw); go_simp; first | done | with_reducible rfl); try simp only [Act.put, List.setIfInBounds_toArray, List.set_cons_zero, List.set_cons_succ])
  ((refine wpAnyH_take (i := 1) (v := ?_) (by (simp only [List.getElem?_toArray, List.getElem?_cons_succ, List.getElem?_cons_zero]); rfl) (by kernel_rfl) (by kernel_rfl) (by kernel_rfl) (by exact fun _ _ _ h => h) (Or.inl ⟨by rfl, ?_⟩) (by assumption) ?_); rotate_left; focus (intro wS hSw; (try dsimp only at hSw); go_simp; first | done | with_reducible rfl); try simp only [Act.put, List.setIfInBounds_toArray, List.set_cons_zero, List.set_cons_succ])
  ((refine wpAnyH_take (i := 2) (v := ?_) (by (simp only [List.getElem?_toArray, List.getElem?_cons_succ, List.getElem?_cons_zero]); rfl) (by kernel_rfl) (by kernel_rfl) (by kernel_rfl) (by exact fun _ _ _ h => h) (Or.inl ⟨by rfl, ?_⟩) (by assumption) ?_); rotate_left; focus (intro wS hSw; (try dsimp only at hSw); go_simp; first | done | with_reducible rfl); try simp only [Act.put, List.setIfInBounds_toArray, List.set_cons_zero, List.set_cons_succ])
  ((refine wpAnyH_take (i := 3) (v := ?_) (by (simp only [List.getElem?_toArray, List.getElem?_cons_succ, List.getElem?_cons_zero]); rfl) (by kernel_rfl) (by kernel_rfl) (by kernel_rfl) (by exact fun _ _ _ h => h) (Or.inl ⟨by rfl, ?_⟩) (by assumption) ?_); rotate_left; focus (intro wS hSw; (try dsimp only at hSw); go_simp; first | done | with_reducible rfl); try simp only [Act.put, List.setIfInBounds_toArray, List.set_cons_zero, List.set_cons_succ])
  ((refine wpAnyH_take (i := 4) (v := ?_) (by (simp only [List.getElem?_toArray, List.getElem?_cons_succ, List.getElem?_cons_zero]); rfl) (by kernel_rfl) (by kernel_rfl) (by kernel_rfl) (by exact fun _ _ _ h => h) (Or.inl ⟨by rfl, ?_⟩) (by assumption) ?_); rotate_left; focus (intro wS hSw; (try dsimp only at hSw); go_simp; first | done | with_reducible rfl); try simp only [Act.put, List.setIfInBounds_toArray, List.set_cons_zero, List.set_cons_succ])
  ((refine wpAnyH_take (i := 5) (v := ?_) (by (simp only [List.getElem?_toArray, List.getElem?_cons_succ, List.getElem?_cons_zero]); rfl) (by kernel_rfl) (by kernel_rfl) (by kernel_rfl) (by exact fun _ _ _ h => h) (Or.inl ⟨by rfl, ?_⟩) (by assumption) ?_); rotate_left; focus (intro wS hSw; (try dsimp only at hSw); go_simp; first | done | with_reducible rfl); try simp only [Act.put, List.setIfInBounds_toArray, List.set_cons_zero, List.set_cons_succ])
  ((refine wpAnyH_take (i := 6) (v := ?_) (by (simp only [List.getElem?_toArray, List.getElem?_cons_succ, List.getElem?_cons_zero]); rfl) (by kernel_rfl) (by kernel_rfl) (by kernel_rfl) (by exact fun _ _ _ h => h) (Or.inl ⟨by rfl, ?_⟩) (by assumption) ?_); rotate_left; focus (intro wS hSw; (try dsimp only at hSw); go_simp; first | done | with_reducible rfl); try simp only [Act.put, List.setIfInBounds_toArray, List.set_cons_zero, List.set_cons_succ])
  ((refine wpAnyH_take (i := 7) (v := ?_) (by (simp only [List.getElem?_toArray, List.getElem?_cons_succ, List.getElem?_cons_zero]); rfl) (by kernel_rfl) (by kernel_rfl) (by kernel_rfl) (by exact fun _ _ _ h => h) (Or.inl ⟨by rfl, ?_⟩) (by assumption) ?_); rotate_left; focus (intro wS hSw; (try dsimp only at hSw); go_simp; first | done | with_reducible rfl); try simp only [Act.put, List.setIfInBounds_toArray, List.set_cons_zero, List.set_cons_succ])
  ((refine wpAnyH_take (i := 8) (v := ?_) (by (simp only [List.getElem?_toArray, List.getElem?_cons_succ, List.getElem?_cons_zero]); rfl) (by kernel_rfl) (by kernel_rfl) (by kernel_rfl) (by exact fun _ _ _ h => h) (Or.inl ⟨by rfl, ?_⟩) (by assumption) ?_); rotate_left; focus (intro wS hSw; (try dsimp only at hSw); go_simp; first | done | with_reducible rfl); try simp only [Act.put, List.setIfInBounds_toArray, List.set_cons_zero, List.set_cons_succ])
  refine wpAnyH_ready (rs := [9]) (by kernel_rfl) (by simp) ?_
  refine AllReadyH.cons (by (simp only [List.getElem?_toArray, List.getElem?_cons_succ, List.getElem?_cons_zero]); rfl) (fun K hK => ?_) AllReadyH.nil
  have qO0 : W16.cell? ⟨(N + 1), 0, none⟩ = some (.int .i64 s.term) := cell_at HO.out 0
  have qO1 : W16.cell? ⟨(N + 1), 1, none⟩ = some (.int .i64 s.stamp) := cell_at HO.out 1
  have qO2 : W16.cell? ⟨(N + 1), 2, none⟩ = some (.int .i64 (s.next + 1)) := cell_at HO.out 2
  have qO3 : W16.cell? ⟨(N + 1), 3, none⟩ = some (.slice b5 m5 k5) := cell_at HO.out 3
  have qO4 : W16.cell? ⟨(N + 1), 4, none⟩ = some (.slice b7 m7 k7) := cell_at HO.out 4
  have qO5 : W16.cell? ⟨(N + 1), 5, none⟩ = some (.slice b3 m3 k3) := cell_at HO.out 5
  have qO6 : W16.cell? ⟨(N + 1), 6, none⟩ = some (.slice b4 m4 k4) := cell_at HO.out 6
  have qOz : ∀ j, W16.frozen? ⟨(N + 1), j, none⟩ = false := fun j => free_at HO.out j
  have qOl : (N + 1) < W16.heap.size := HO.out.lt
  go_simp
  clear qO0 qO1 qO2 qO3 qO4 qO5 qO6 qOz qOl
  obtain ⟨LS, hLS⟩ : ∃ L : List Value, L = [.int .i64 s.term, .int .i64 s.stamp, .int .i64 (s.next + 1), .slice b5 m5 k5, .slice b7 m7 k7, .slice b3 m3 k3, .slice b4 m4 k4] := ⟨_, rfl⟩
  obtain ⟨W17, hWS⟩ : ∃ WS, WS = W16.setCells (N + 1) 0 LS := ⟨_, rfl⟩
  have hch := hWS
  rw [hLS] at hch
  simp only [World.setCells, Nat.zero_add, Nat.reduceAdd] at hch
  rw [← hch]
  clear hch
  have hkS := stC_blk HO.out LS (by rw [hLS]; rfl)
  have hfS := stC_fr (N + 1) LS 0 W16
  rw [← hWS] at hkS hfS
  rw [hLS] at hkS
  replace HB := Lib.hid (HB.out.trans (hfS.below HB.out.size (by have := HLON.out; simp; try omega)))
  replace HT := Lib.hid (HT0.out.below HB.out)
  replace HL := Lib.hid (HL0.out.below HB.out)
  replace HS := Lib.hid (HS0.out.below HB.out)
  replace HD := Lib.hid (HD0.out.below HB.out)
  replace HR := Lib.hid (show Blk W17 N #[.int .i64 s.term, .int .i64 s.stamp, .int .i64 s.next, .slice ta tn tc, .slice la ln lc, .slice sa sn sc, .slice da dn dc] 27 from (hfS.block _ HR.out.lt (by have hx0 := HXT9HR.out; have hx1 := HXT9HO.out; have hx2 := HXT9HA.out; simp; try omega)).trans HR.out)
  replace HA := Lib.hid (show Blk W17 (N + 1 + 1) #[.int .i64 0, .int .i64 0, .int .i64 0, .int .i64 0, .int .i64 0] 41 from (hfS.block _ HA.out.lt (by have hx0 := HXT9HR.out; have hx1 := HXT9HO.out; have hx2 := HXT9HA.out; simp; try omega)).trans HA.out)
  replace O3 := Lib.hid (O3.out.fr hfS (by have := FO3.out; omega))
  replace O4 := Lib.hid (O4.out.fr hfS (by have := FO4.out; omega))
  replace HT9 := Lib.hid (show Blk W17 T9 #[.int .i64 y.id, .int .i64 y.rate, .int .i64 y.burst, .int .i64 lf, .bool false] 54 from (hfS.block _ HT9.out.lt (by have hx0 := HXT9HR.out; have hx1 := HXT9HO.out; have hx2 := HXT9HA.out; simp; try omega)).trans HT9.out)
  replace TQ := Lib.hid (TQ.out.fr hfS (by have := FTQ.out; omega))
  replace HLQ := Lib.hid (HLQ.out.fr HO.out hfS)
  replace HO := Lib.hid (show Blk W17 (N + 1) #[.int .i64 s.term, .int .i64 s.stamp, .int .i64 (s.next + 1), .slice b5 m5 k5, .slice b7 m7 k7, .slice b3 m3 k3, .slice b4 m4 k4] 27 from hkS)
  clear hWS hLS hkS hfS
  refine hK.out _ _ ⟨⟨cell_at HR.out 0, cell_at HR.out 1, cell_at HR.out 2, cell_at HR.out 3, cell_at HR.out 4, cell_at HR.out 5, cell_at HR.out 6, HR.out.lt⟩, ⟨cell_at HT9.out 0, cell_at HT9.out 1, cell_at HT9.out 2, cell_at HT9.out 3, cell_at HT9.out 4, HT9.out.lt⟩, ⟨cell_at HO.out 0, cell_at HO.out 1, cell_at HO.out 2, cell_at HO.out 3, cell_at HO.out 4, cell_at HO.out 5, cell_at HO.out 6, HO.out.lt⟩⟩ (fun hHeld => ?_)
  clear hK K
  try simp only [Act.put, List.setIfInBounds_toArray, List.set_cons_zero, List.set_cons_succ]
  refine wpAnyH_ready (rs := [10]) (by kernel_rfl) (by simp) ?_
  refine AllReadyH.cons (by (simp only [List.getElem?_toArray, List.getElem?_cons_succ, List.getElem?_cons_zero]); rfl) (fun K hK => ?_) AllReadyH.nil
  have qA0 : W17.cell? ⟨(N + 1 + 1), 0, none⟩ = some (.int .i64 0) := cell_at HA.out 0
  have qA1 : W17.cell? ⟨(N + 1 + 1), 1, none⟩ = some (.int .i64 0) := cell_at HA.out 1
  have qA2 : W17.cell? ⟨(N + 1 + 1), 2, none⟩ = some (.int .i64 0) := cell_at HA.out 2
  have qA3 : W17.cell? ⟨(N + 1 + 1), 3, none⟩ = some (.int .i64 0) := cell_at HA.out 3
  have qA4 : W17.cell? ⟨(N + 1 + 1), 4, none⟩ = some (.int .i64 0) := cell_at HA.out 4
  have qAz : ∀ j, W17.frozen? ⟨(N + 1 + 1), j, none⟩ = false := fun j => free_at HA.out j
  have qAl : (N + 1 + 1) < W17.heap.size := HA.out.lt
  go_simp
  clear qA0 qA1 qA2 qA3 qA4 qAz qAl
  obtain ⟨LS, hLS⟩ : ∃ L : List Value, L = [.int .i64 0, .int .i64 y.rate, .int .i64 y.burst, .int .i64 s.next, .int .i64 size] := ⟨_, rfl⟩
  obtain ⟨W18, hWS⟩ : ∃ WS, WS = W17.setCells (N + 1 + 1) 0 LS := ⟨_, rfl⟩
  have hch := hWS
  rw [hLS] at hch
  simp only [World.setCells, Nat.zero_add, Nat.reduceAdd] at hch
  rw [← hch]
  clear hch
  have hkS := stC_blk HA.out LS (by rw [hLS]; rfl)
  have hfS := stC_fr (N + 1 + 1) LS 0 W17
  rw [← hWS] at hkS hfS
  rw [hLS] at hkS
  replace HB := Lib.hid (HB.out.trans (hfS.below HB.out.size (by have := HLON.out; simp; try omega)))
  replace HT := Lib.hid (HT0.out.below HB.out)
  replace HL := Lib.hid (HL0.out.below HB.out)
  replace HS := Lib.hid (HS0.out.below HB.out)
  replace HD := Lib.hid (HD0.out.below HB.out)
  replace HR := Lib.hid (show Blk W18 N #[.int .i64 s.term, .int .i64 s.stamp, .int .i64 s.next, .slice ta tn tc, .slice la ln lc, .slice sa sn sc, .slice da dn dc] 27 from (hfS.block _ HR.out.lt (by have hx0 := HXT9HR.out; have hx1 := HXT9HO.out; have hx2 := HXT9HA.out; simp; try omega)).trans HR.out)
  replace HO := Lib.hid (show Blk W18 (N + 1) #[.int .i64 s.term, .int .i64 s.stamp, .int .i64 (s.next + 1), .slice b5 m5 k5, .slice b7 m7 k7, .slice b3 m3 k3, .slice b4 m4 k4] 27 from (hfS.block _ HO.out.lt (by have hx0 := HXT9HR.out; have hx1 := HXT9HO.out; have hx2 := HXT9HA.out; simp; try omega)).trans HO.out)
  replace O3 := Lib.hid (O3.out.fr hfS (by have := FO3.out; omega))
  replace O4 := Lib.hid (O4.out.fr hfS (by have := FO4.out; omega))
  replace HT9 := Lib.hid (show Blk W18 T9 #[.int .i64 y.id, .int .i64 y.rate, .int .i64 y.burst, .int .i64 lf, .bool false] 54 from (hfS.block _ HT9.out.lt (by have hx0 := HXT9HR.out; have hx1 := HXT9HO.out; have hx2 := HXT9HA.out; simp; try omega)).trans HT9.out)
  replace TQ := Lib.hid (TQ.out.fr hfS (by have := FTQ.out; omega))
  replace HLQ := Lib.hid (HLQ.out.fr HA.out hfS)
  replace HA := Lib.hid (show Blk W18 (N + 1 + 1) #[.int .i64 0, .int .i64 y.rate, .int .i64 y.burst, .int .i64 s.next, .int .i64 size] 41 from hkS)
  clear hWS hLS hkS hfS
  refine hK.out _ _ ⟨⟨cell_at HR.out 0, cell_at HR.out 1, cell_at HR.out 2, cell_at HR.out 3, cell_at HR.out 4, cell_at HR.out 5, cell_at HR.out 6, HR.out.lt⟩, ⟨cell_at HT9.out 0, cell_at HT9.out 1, cell_at HT9.out 2, cell_at HT9.out 3, cell_at HT9.out 4, HT9.out.lt⟩, ⟨cell_at HO.out 0, cell_at HO.out 1, cell_at HO.out 2, cell_at HO.out 3, cell_at HO.out 4, cell_at HO.out 5, cell_at HO.out 6, HO.out.lt⟩⟩ (fun hHeld => ?_)
  clear hK K
  try simp only [Act.put, List.setIfInBounds_toArray, List.set_cons_zero, List.set_cons_succ]
  refine wpAnyH_done (by kernel_rfl) ?_ _
  simp only [NoPan]
  try simp only [Act.put, List.setIfInBounds_toArray, List.set_cons_zero, List.set_cons_succ]
  go_wp2_with fail
  have hB : Below W18.heap.size W18 W18.drew := (Below.refl _ _).drew
  replace HB := Lib.hid (HB.out.trans (hB.mono HB.out.size))
  replace HT := Lib.hid (HT0.out.below HB.out)
  replace HL := Lib.hid (HL0.out.below HB.out)
  replace HS := Lib.hid (HS0.out.below HB.out)
  replace HD := Lib.hid (HD0.out.below HB.out)
  replace HR := Lib.hid (HR.out.step hB)
  replace HO := Lib.hid (HO.out.step hB)
  replace HA := Lib.hid (HA.out.step hB)
  replace O3 := Lib.hid (O3.out.step hB)
  replace O4 := Lib.hid (O4.out.step hB)
  replace HT9 := Lib.hid (HT9.out.step hB)
  replace TQ := Lib.hid (TQ.out.below hB)
  replace HLQ := Lib.hid (HLQ.out.below hB)
  clear hB
  have HGL : Hid (grL s sh ep nu te size = ⟨s.term, s.stamp, s.next + 1, setL s.ts ⟨y.id, y.rate, y.burst, lf, false⟩, s.ls ++ [⟨s.next, te, sh, ep, nu, size, 0⟩], s.ss, s.ds⟩) := Lib.hid (by
    simp only [grL]
    rw [← HY.out, ← HYK.out, ← HYG.out, ← HLF.out])
  have HF9 : Hid (fewS ⟨s.term, s.stamp, s.next + 1, setL s.ts ⟨y.id, y.rate, y.burst, lf, false⟩, s.ls ++ [⟨s.next, te, sh, ep, nu, size, 0⟩], s.ss, s.ds⟩) := Lib.hid ⟨(by have := setL_len s.ts ⟨y.id, y.rate, y.burst, lf, false⟩; have := chk_len HCHK.out; show (setL s.ts ⟨y.id, y.rate, y.burst, lf, false⟩).length ≤ 200; omega), (by show (s.ls ++ [_]).length ≤ 200; rw [List.length_append, ← Hln.out]; simp only [List.length_cons, List.length_nil]; omega), HFEW.out.2.2.1, HFEW.out.2.2.2⟩
  have HZ9 : Hid (sizeB (s.ls ++ [⟨s.next, te, sh, ep, nu, size, 0⟩])) := Lib.hid (fun x hx => by
    rcases List.mem_append.1 hx with h | h
    · exact HSZ9.out x h
    · obtain rfl := List.mem_singleton.1 h
      exact ⟨hsz1, hsz2, Int.le_refl _, by show (0 : Int) < size; omega⟩)
  refine leaves_cons (f := 43) (args := #[.pointer (some ⟨(N + 1), 0, none⟩)]) (by simp) (by simp [go_sem]) ?_
  refine (grant1_d .returning _ _ _ _ (⟨s.term, s.stamp, s.next + 1, setL s.ts ⟨y.id, y.rate, y.burst, lf, false⟩, s.ls ++ [⟨s.next, te, sh, ep, nu, size, 0⟩], s.ss, s.ds⟩) (N + 1) _ HO.out TQ.out.tv HLQ.out O3.out.v O4.out.v HF9.out HZ9.out).mono ?_
  rintro e u9 W19 ⟨rfl, vt9, rfl, hO9, hQ9, hF9⟩
  have z0 : W19.cell? ⟨(N + 1), 0, none⟩ = some (.int .i64 s.term) := cell_at hO9 0
  have z1 : W19.cell? ⟨(N + 1), 1, none⟩ = some (.int .i64 s.stamp) := cell_at hO9 1
  have z2 : W19.cell? ⟨(N + 1), 2, none⟩ = some (.int .i64 (s.next + 1)) := cell_at hO9 2
  have z3 : W19.cell? ⟨(N + 1), 3, none⟩ = some (vt9) := cell_at hO9 3
  have z4 : W19.cell? ⟨(N + 1), 4, none⟩ = some (.slice b7 m7 k7) := cell_at hO9 4
  have z5 : W19.cell? ⟨(N + 1), 5, none⟩ = some (.slice b3 m3 k3) := cell_at hO9 5
  have z6 : W19.cell? ⟨(N + 1), 6, none⟩ = some (.slice b4 m4 k4) := cell_at hO9 6
  have HA9 := (hF9.block (N + 1 + 1) HA.out.lt (by simp)).trans HA.out
  have y0 : W19.cell? ⟨(N + 1 + 1), 0, none⟩ = some (.int .i64 0) := cell_at HA9 0
  have y1 : W19.cell? ⟨(N + 1 + 1), 1, none⟩ = some (.int .i64 y.rate) := cell_at HA9 1
  have y2 : W19.cell? ⟨(N + 1 + 1), 2, none⟩ = some (.int .i64 y.burst) := cell_at HA9 2
  have y3 : W19.cell? ⟨(N + 1 + 1), 3, none⟩ = some (.int .i64 s.next) := cell_at HA9 3
  have y4 : W19.cell? ⟨(N + 1 + 1), 4, none⟩ = some (.int .i64 size) := cell_at HA9 4
  exact ⟨.tuple #[.agg #[.int .i64 s.term, .int .i64 s.stamp, .int .i64 (s.next + 1), vt9, .slice b7 m7 k7, .slice b3 m3 k3, .slice b4 m4 k4], .agg #[.int .i64 0, .int .i64 y.rate, .int .i64 y.burst, .int .i64 s.next, .int .i64 size]], by simp [results, Try.results20, go_sem, z0, z1, z2, z3, z4, z5, z6, y0, y1, y2, y3, y4], _, (by rw [HRA.out, if_pos HGZ.out]; rfl), (by rw [HR9.out, if_pos HGZ.out, HGL.out]; exact ⟨_, _, _, _, rfl, hQ9, HLQ.out.fr HO.out hF9, (O3.out.fr hF9 (by have := FO3.out; omega)).v, (O4.out.fr hF9 (by have := FO4.out; omega)).v⟩), HB.out.trans (hF9.below HB.out.size (by have := HLON.out; simp; omega))⟩
end Go.Proofs.Ytfgnjpdlchimpaa
namespace Go.Proofs.Ytfgnjpdlchimpaa
open Go.RowKit
set_option linter.unusedSimpArgs false
set_option linter.unusedVariables false

theorem backS_bd (b burst out size : Int) : 0 ≤ backS b burst out size ∧ backS b burst out size ≤ 1000000000 := by
  unfold backS cut
  have := room_bd burst out
  unfold within
  omega
theorem fndC_ok {L : List TnE} (key : Int) (h : okL L) : ((fndC key L).getD z0).ok := by
  unfold fndC
  split
  · exact fnd_ok key h
  · exact ⟨by decide, by decide, by decide, by decide, trivial⟩
set_option maxRecDepth 100000 in
set_option maxHeartbeats 8000000 in
theorem back_led (v : Value) (s : StE) (te left : Int) (w : World) (h : SV w v s) (hf : fewS s) (hz : sizeB s.ls) (hlf : -9223372036854775808 ≤ left ∧ left ≤ 9223372036854775807) :
    Calls Try.prog 55 #[v, .int .i64 te, .int .i64 left] w fun e w' => ∃ v', e = .returned v' ∧ TV w' v' (bkL s.ts te (outL s.ls te) left) ∧ Below w.heap.size w w' := by
  have HFEW := Lib.hid hf
  obtain ⟨f1, f2, f3, f4⟩ := hf
  obtain ⟨vt, vl, vs, vd, rfl, ht, hl, hs, hd⟩ := h
  obtain ⟨ta, tn, tc, rfl, Htn, tn1, tn2⟩ := ht.sh
  obtain ⟨la, ln, lc, rfl, Hln, ln1, ln2⟩ := hl.sh
  obtain ⟨sa, sn, sc, rfl, Hsn, sn1, sn2⟩ := hs.sh
  obtain ⟨da, dn, dc, rfl, Hdn, dn1, dn2⟩ := hd.sh
  have HT0 := Lib.hid ht
  have HL0 := Lib.hid hl
  have HS0 := Lib.hid hs
  have HD0 := Lib.hid hd
  have HT := Lib.hid ht
  have HL := Lib.hid hl
  have HS := Lib.hid hs
  have HD := Lib.hid hd
  clear ht hl hs hd
  rw [← Hln.out] at f2
  rw [← Htn.out] at f1
  have HSV : Hid (∀ W, TV W (.slice ta tn tc) s.ts → LeV W (.slice la ln lc) s.ls → SeV W (.slice sa sn sc) s.ss → DkV W (.slice da dn dc) s.ds → SV W (.agg #[.int .i64 s.term, .int .i64 s.stamp, .int .i64 s.next, .slice ta tn tc, .slice la ln lc, .slice sa sn sc, .slice da dn dc]) s) := Lib.hid (fun W h1 h2 h3 h4 => ⟨_, _, _, _, rfl, h1, h2, h3, h4⟩)
  have zl : ∀ u, (zeroValue 3).run Try.prog u = .ok (.int .i64 0) u := fun u => by kernel_rfl
  have HKW := Lib.hid (fun (X : World) (b : Nat) (G : Int → Int) (x : Int) (h : MapT X b (fun c : Int => Value.agg #[.int .i64 c]) G) => h.look key_whose Try.underlying63 (zl X) x)
  clear zl
  have HOU := Lib.hid (fun W v (h : SV W v s) => outs_any v s W h HFEW.out hz)
  have hob := outL_bd s.ls te hz
  rw [← Hln.out] at hob
  have HFD := Lib.hid (fun W (h : TV W (.slice ta tn tc) s.ts) => pFind_any _ s.ts te W h)
  have hok9 := fndC_ok te HT.out.ok
  obtain ⟨R, hR⟩ : ∃ R, R = bkL s.ts te (outL s.ls te) left := ⟨_, rfl⟩
  rw [← hR]
  unfold bkL at hR
  obtain ⟨y, hy⟩ : ∃ y, y = (fndC te s.ts).getD z0 := ⟨_, rfl⟩
  obtain ⟨sm, hsm⟩ : ∃ sm, sm = (fndC te s.ts).isSome := ⟨_, rfl⟩
  unfold TnE.agg at HFD
  rw [← hy, ← hsm] at HFD
  rw [← hy] at hR hok9
  obtain ⟨yg, hyg⟩ : ∃ yg, yg = y.gone := ⟨_, rfl⟩
  rw [← hyg] at HFD
  simp only [← hyg] at hR
  obtain ⟨ou, hou⟩ : ∃ ou, ou = outL s.ls te := ⟨_, rfl⟩
  rw [← hou] at hR hob
  have HOUT := Lib.hid hou
  have HR9 := Lib.hid hR
  have HOKY := Lib.hid hok9
  have HBA := Lib.hid (fun W => back_any y.bkt y.burst ou left hok9.2.2.2.1.2 (by omega) W)
  obtain ⟨nb, hnb⟩ : ∃ nb, nb = backS y.bkt y.burst ou left := ⟨_, rfl⟩
  have hnbd := backS_bd y.bkt y.burst ou left
  rw [← hnb] at HBA HR9 hnbd
  clear hz hR hy hsm hyg hou hok9 hnb
  have HB : Hid (Below w.heap.size w w) := Lib.hid (Below.refl _ _)
  go_enter Try.func55, Try.ntmps55
  go_upto_region 1 with fail
  obtain ⟨N, hN⟩ : ∃ n0, n0 = w.heap.size := ⟨_, rfl⟩
  have HLON : Hid (w.heap.size ≤ N) := Lib.hid (by have := HB.out.size; omega)
  obtain ⟨W1, hA0⟩ : ∃ W0, W0 = w.alloc (.cells #[.int .i64 s.term, .int .i64 s.stamp, .int .i64 s.next, .slice ta tn tc, .slice la ln lc, .slice sa sn sc, .slice da dn dc] 27) := ⟨_, rfl⟩
  have hB : Below w.heap.size w W1 := by rw [hA0]; exact (Below.refl _ _).alloc (Nat.le_refl _) _
  have hS0 : W1.heap.size = N + 1 := by rw [hA0]; simp [← hN]
  have HR := Lib.hid (show Blk W1 N #[.int .i64 s.term, .int .i64 s.stamp, .int .i64 s.next, .slice ta tn tc, .slice la ln lc, .slice sa sn sc, .slice da dn dc] 27 by rw [hA0, hN]; exact blk_new _ _ _)
  replace HB := Lib.hid (HB.out.trans (hB.mono HB.out.size))
  replace HT := Lib.hid (HT0.out.below HB.out)
  replace HL := Lib.hid (HL0.out.below HB.out)
  replace HS := Lib.hid (HS0.out.below HB.out)
  replace HD := Lib.hid (HD0.out.below HB.out)
  clear hB
  have HSN := Lib.hid hS0
  rw [← hN, ← hA0]
  clear hA0 hN hS0
  have qR0 : W1.cell? ⟨N, 0, none⟩ = some (.int .i64 s.term) := cell_at HR.out 0
  have qR1 : W1.cell? ⟨N, 1, none⟩ = some (.int .i64 s.stamp) := cell_at HR.out 1
  have qR2 : W1.cell? ⟨N, 2, none⟩ = some (.int .i64 s.next) := cell_at HR.out 2
  have qR3 : W1.cell? ⟨N, 3, none⟩ = some (.slice ta tn tc) := cell_at HR.out 3
  have qR4 : W1.cell? ⟨N, 4, none⟩ = some (.slice la ln lc) := cell_at HR.out 4
  have qR5 : W1.cell? ⟨N, 5, none⟩ = some (.slice sa sn sc) := cell_at HR.out 5
  have qR6 : W1.cell? ⟨N, 6, none⟩ = some (.slice da dn dc) := cell_at HR.out 6
  have qRz : ∀ j, W1.frozen? ⟨N, j, none⟩ = false := fun j => free_at HR.out j
  have qRl : N < W1.heap.size := HR.out.lt
  go_wp2_with fail
  go_at_call 44
  go_fit (HFD.out _ HT.out)
  rintro e W2 ⟨rfl, hB⟩
  clear qR0 qR1 qR2 qR3 qR4 qR5 qR6 qRz qRl
  replace HB := Lib.hid (HB.out.trans (hB.mono HB.out.size))
  replace HT := Lib.hid (HT0.out.below HB.out)
  replace HL := Lib.hid (HL0.out.below HB.out)
  replace HS := Lib.hid (HS0.out.below HB.out)
  replace HD := Lib.hid (HD0.out.below HB.out)
  replace HR := Lib.hid (HR.out.step hB)
  clear hB
  go_upto_region 2 with fail
  obtain ⟨T9, hT9⟩ : ∃ n0, n0 = W2.heap.size := ⟨_, rfl⟩
  have HXT9HR : Hid (N < T9) := Lib.hid (by rw [hT9]; exact HR.out.lt)
  have HLOT9 : Hid (w.heap.size ≤ T9) := Lib.hid (by have := HB.out.size; omega)
  obtain ⟨W3, hA0⟩ : ∃ W0, W0 = W2.alloc (.cells #[.int .i64 y.id, .int .i64 y.rate, .int .i64 y.burst, .int .i64 y.bkt, .bool yg] 54) := ⟨_, rfl⟩
  have hB : Below W2.heap.size W2 W3 := by rw [hA0]; exact (Below.refl _ _).alloc (Nat.le_refl _) _
  have hS0 : W3.heap.size = T9 + 1 := by rw [hA0]; simp [← hT9]
  have HT9 := Lib.hid (show Blk W3 T9 #[.int .i64 y.id, .int .i64 y.rate, .int .i64 y.burst, .int .i64 y.bkt, .bool yg] 54 by rw [hA0, hT9]; exact blk_new _ _ _)
  replace HB := Lib.hid (HB.out.trans (hB.mono HB.out.size))
  replace HT := Lib.hid (HT0.out.below HB.out)
  replace HL := Lib.hid (HL0.out.below HB.out)
  replace HS := Lib.hid (HS0.out.below HB.out)
  replace HD := Lib.hid (HD0.out.below HB.out)
  replace HR := Lib.hid (HR.out.step hB)
  clear hB
  have HST9 := Lib.hid hS0
  rw [← hT9, ← hA0]
  clear hA0 hT9 hS0
  cases yg
  rotate_left
  · skip
    obtain rfl : R = s.ts := HR9.out
    have qT90 : W3.cell? ⟨T9, 0, none⟩ = some (.int .i64 y.id) := cell_at HT9.out 0
    have qT91 : W3.cell? ⟨T9, 1, none⟩ = some (.int .i64 y.rate) := cell_at HT9.out 1
    have qT92 : W3.cell? ⟨T9, 2, none⟩ = some (.int .i64 y.burst) := cell_at HT9.out 2
    have qT93 : W3.cell? ⟨T9, 3, none⟩ = some (.int .i64 y.bkt) := cell_at HT9.out 3
    have qT94 : W3.cell? ⟨T9, 4, none⟩ = some (.bool true) := cell_at HT9.out 4
    have qT9z : ∀ j, W3.frozen? ⟨T9, j, none⟩ = false := fun j => free_at HT9.out j
    have qT9l : T9 < W3.heap.size := HT9.out.lt
    have qR0 : W3.cell? ⟨N, 0, none⟩ = some (.int .i64 s.term) := cell_at HR.out 0
    have qR1 : W3.cell? ⟨N, 1, none⟩ = some (.int .i64 s.stamp) := cell_at HR.out 1
    have qR2 : W3.cell? ⟨N, 2, none⟩ = some (.int .i64 s.next) := cell_at HR.out 2
    have qR3 : W3.cell? ⟨N, 3, none⟩ = some (.slice ta tn tc) := cell_at HR.out 3
    have qR4 : W3.cell? ⟨N, 4, none⟩ = some (.slice la ln lc) := cell_at HR.out 4
    have qR5 : W3.cell? ⟨N, 5, none⟩ = some (.slice sa sn sc) := cell_at HR.out 5
    have qR6 : W3.cell? ⟨N, 6, none⟩ = some (.slice da dn dc) := cell_at HR.out 6
    have qRz : ∀ j, W3.frozen? ⟨N, j, none⟩ = false := fun j => free_at HR.out j
    have qRl : N < W3.heap.size := HR.out.lt
    go_wp2_with fail
    go_ret
    exact ⟨_, rfl, HT.out, HB.out⟩
  replace HR9 : Hid (R = setL s.ts ⟨y.id, y.rate, y.burst, nb, false⟩) := Lib.hid (HR9.out.trans rfl)
  have HOKX : Hid (TnE.ok ⟨y.id, y.rate, y.burst, nb, false⟩) := Lib.hid ⟨HOKY.out.1, HOKY.out.2.1, HOKY.out.2.2.1, (show -9223372036854775808 ≤ nb ∧ nb ≤ 9223372036854775807 by omega), trivial⟩
  have qT90 : W3.cell? ⟨T9, 0, none⟩ = some (.int .i64 y.id) := cell_at HT9.out 0
  have qT91 : W3.cell? ⟨T9, 1, none⟩ = some (.int .i64 y.rate) := cell_at HT9.out 1
  have qT92 : W3.cell? ⟨T9, 2, none⟩ = some (.int .i64 y.burst) := cell_at HT9.out 2
  have qT93 : W3.cell? ⟨T9, 3, none⟩ = some (.int .i64 y.bkt) := cell_at HT9.out 3
  have qT94 : W3.cell? ⟨T9, 4, none⟩ = some (.bool false) := cell_at HT9.out 4
  have qT9z : ∀ j, W3.frozen? ⟨T9, j, none⟩ = false := fun j => free_at HT9.out j
  have qT9l : T9 < W3.heap.size := HT9.out.lt
  have qR0 : W3.cell? ⟨N, 0, none⟩ = some (.int .i64 s.term) := cell_at HR.out 0
  have qR1 : W3.cell? ⟨N, 1, none⟩ = some (.int .i64 s.stamp) := cell_at HR.out 1
  have qR2 : W3.cell? ⟨N, 2, none⟩ = some (.int .i64 s.next) := cell_at HR.out 2
  have qR3 : W3.cell? ⟨N, 3, none⟩ = some (.slice ta tn tc) := cell_at HR.out 3
  have qR4 : W3.cell? ⟨N, 4, none⟩ = some (.slice la ln lc) := cell_at HR.out 4
  have qR5 : W3.cell? ⟨N, 5, none⟩ = some (.slice sa sn sc) := cell_at HR.out 5
  have qR6 : W3.cell? ⟨N, 6, none⟩ = some (.slice da dn dc) := cell_at HR.out 6
  have qRz : ∀ j, W3.frozen? ⟨N, j, none⟩ = false := fun j => free_at HR.out j
  have qRl : N < W3.heap.size := HR.out.lt
  go_wp2_with fail
  clear qT90 qT91 qT92 qT93 qT94 qT9z qT9l qR0 qR1 qR2 qR3 qR4 qR5 qR6 qRz qRl
  refine wp_region_held_drew (S := fun X => (X.cell? ⟨N, 0, none⟩ = some (.int .i64 s.term) ∧ X.cell? ⟨N, 1, none⟩ = some (.int .i64 s.stamp) ∧ X.cell? ⟨N, 2, none⟩ = some (.int .i64 s.next) ∧ X.cell? ⟨N, 3, none⟩ = some (.slice ta tn tc) ∧ X.cell? ⟨N, 4, none⟩ = some (.slice la ln lc) ∧ X.cell? ⟨N, 5, none⟩ = some (.slice sa sn sc) ∧ X.cell? ⟨N, 6, none⟩ = some (.slice da dn dc) ∧ N < X.heap.size) ∧ (X.cell? ⟨T9, 0, none⟩ = some (.int .i64 y.id) ∧ X.cell? ⟨T9, 1, none⟩ = some (.int .i64 y.rate) ∧ X.cell? ⟨T9, 2, none⟩ = some (.int .i64 y.burst) ∧ X.cell? ⟨T9, 4, none⟩ = some (.bool false) ∧ T9 < X.heap.size)) (by kernel_rfl) ⟨⟨cell_at HR.out 0, cell_at HR.out 1, cell_at HR.out 2, cell_at HR.out 3, cell_at HR.out 4, cell_at HR.out 5, cell_at HR.out 6, HR.out.lt⟩, ⟨cell_at HT9.out 0, cell_at HT9.out 1, cell_at HT9.out 2, cell_at HT9.out 4, HT9.out.lt⟩⟩ (fun hHeld => ?_)
  ((refine wpAnyH_take (i := 0) (v := ?_) (by (simp only [List.getElem?_toArray, List.getElem?_cons_succ, List.getElem?_cons_zero]); rfl) (by kernel_rfl) (by kernel_rfl) (by kernel_rfl) (by exact fun _ _ _ h => h) (Or.inl ⟨by rfl, ?_⟩) (by assumption) ?_); rotate_left; focus (intro wS hSw; (try dsimp only at hSw); go_simp; first | done | with_reducible rfl); try simp only [Act.put, List.setIfInBounds_toArray, List.set_cons_zero, List.set_cons_succ])
  ((refine wpAnyH_take (i := 2) (v := ?_) (by (simp only [List.getElem?_toArray, List.getElem?_cons_succ, List.getElem?_cons_zero]); rfl) (by kernel_rfl) (by kernel_rfl) (by kernel_rfl) (by exact fun _ _ _ h => h) (Or.inl ⟨by rfl, ?_⟩) (by assumption) ?_); rotate_left; focus (intro wS hSw; (try dsimp only at hSw); go_simp; first | done | with_reducible rfl); try simp only [Act.put, List.setIfInBounds_toArray, List.set_cons_zero, List.set_cons_succ])
  ((refine wpAnyH_take (i := 3) (v := ?_) (by (simp only [List.getElem?_toArray, List.getElem?_cons_succ, List.getElem?_cons_zero]); rfl) (by kernel_rfl) (by kernel_rfl) (by kernel_rfl) (by exact fun _ _ _ h => h) (Or.inl ⟨by rfl, ?_⟩) (by assumption) ?_); rotate_left; focus (intro wS hSw; (try dsimp only at hSw); go_simp; first | done | with_reducible rfl); try simp only [Act.put, List.setIfInBounds_toArray, List.set_cons_zero, List.set_cons_succ])
  ((refine wpAnyH_take (i := 4) (v := ?_) (by (simp only [List.getElem?_toArray, List.getElem?_cons_succ, List.getElem?_cons_zero]); rfl) (by kernel_rfl) (by kernel_rfl) (by kernel_rfl) (by exact fun _ _ _ h => h) (Or.inl ⟨by rfl, ?_⟩) (by assumption) ?_); rotate_left; focus (intro wS hSw; (try dsimp only at hSw); go_simp; first | done | with_reducible rfl); try simp only [Act.put, List.setIfInBounds_toArray, List.set_cons_zero, List.set_cons_succ])
  ((refine wpAnyH_take (i := 6) (v := ?_) (by (simp only [List.getElem?_toArray, List.getElem?_cons_succ, List.getElem?_cons_zero]); rfl) (by kernel_rfl) (by kernel_rfl) (by kernel_rfl) (by exact fun _ _ _ h => h) (Or.inl ⟨by rfl, ?_⟩) (by assumption) ?_); rotate_left; focus (intro wS hSw; (try dsimp only at hSw); go_simp; first | done | with_reducible rfl); try simp only [Act.put, List.setIfInBounds_toArray, List.set_cons_zero, List.set_cons_succ])
  ((refine wpAnyH_take (i := 7) (v := ?_) (by (simp only [List.getElem?_toArray, List.getElem?_cons_succ, List.getElem?_cons_zero]); rfl) (by kernel_rfl) (by kernel_rfl) (by kernel_rfl) (by exact fun _ _ _ h => h) (Or.inl ⟨by rfl, ?_⟩) (by assumption) ?_); rotate_left; focus (intro wS hSw; (try dsimp only at hSw); go_simp; first | done | with_reducible rfl); try simp only [Act.put, List.setIfInBounds_toArray, List.set_cons_zero, List.set_cons_succ])
  ((refine wpAnyH_take (i := 9) (v := ?_) (by (simp only [List.getElem?_toArray, List.getElem?_cons_succ, List.getElem?_cons_zero]); rfl) (by kernel_rfl) (by kernel_rfl) (by kernel_rfl) (by exact fun _ _ _ h => h) (Or.inl ⟨by rfl, ?_⟩) (by assumption) ?_); rotate_left; focus (intro wS hSw; (try dsimp only at hSw); go_simp; first | done | with_reducible rfl); try simp only [Act.put, List.setIfInBounds_toArray, List.set_cons_zero, List.set_cons_succ])
  refine wpAnyH_ready (rs := [1, 5]) (by kernel_rfl) (by simp) ?_
  refine AllReadyH.cons (by (simp only [List.getElem?_toArray, List.getElem?_cons_succ, List.getElem?_cons_zero]); rfl) (fun K hK => ?_) (AllReadyH.cons (by (simp only [List.getElem?_toArray, List.getElem?_cons_succ, List.getElem?_cons_zero]); rfl) (fun K hK => ?_) (AllReadyH.nil))
  · skip
    have qT90 : W3.cell? ⟨T9, 0, none⟩ = some (.int .i64 y.id) := cell_at HT9.out 0
    have qT91 : W3.cell? ⟨T9, 1, none⟩ = some (.int .i64 y.rate) := cell_at HT9.out 1
    have qT92 : W3.cell? ⟨T9, 2, none⟩ = some (.int .i64 y.burst) := cell_at HT9.out 2
    have qT93 : W3.cell? ⟨T9, 3, none⟩ = some (.int .i64 y.bkt) := cell_at HT9.out 3
    have qT94 : W3.cell? ⟨T9, 4, none⟩ = some (.bool false) := cell_at HT9.out 4
    have qT9z : ∀ j, W3.frozen? ⟨T9, j, none⟩ = false := fun j => free_at HT9.out j
    have qT9l : T9 < W3.heap.size := HT9.out.lt
    rw [if_pos (by rfl)]
    go_simp
    refine hK.out _ _ ⟨⟨cell_at HR.out 0, cell_at HR.out 1, cell_at HR.out 2, cell_at HR.out 3, cell_at HR.out 4, cell_at HR.out 5, cell_at HR.out 6, HR.out.lt⟩, ⟨cell_at HT9.out 0, cell_at HT9.out 1, cell_at HT9.out 2, cell_at HT9.out 4, HT9.out.lt⟩⟩ (fun hHeld => ?_)
    clear hK K
    clear qT90 qT91 qT92 qT93 qT94 qT9z qT9l
    try simp only [Act.put, List.setIfInBounds_toArray, List.set_cons_zero, List.set_cons_succ]
    refine wpAnyH_ready (rs := [5]) (by kernel_rfl) (by simp) ?_
    refine AllReadyH.cons (by (simp only [List.getElem?_toArray, List.getElem?_cons_succ, List.getElem?_cons_zero]); rfl) (fun K hK => ?_) (AllReadyH.nil)
    go_simp
    go_fit (HOU.out _ _ (HSV.out _ (HT0.out.below HB.out.drew) (HL0.out.below HB.out.drew) (HS0.out.below HB.out.drew) (HD0.out.below HB.out.drew)))
    rintro e W4 ⟨b, rfl, hmt, hB⟩
    try replace hB := below_undrew hB
    replace HB := Lib.hid (HB.out.trans (hB.mono HB.out.size))
    replace HT := Lib.hid (HT0.out.below HB.out)
    replace HL := Lib.hid (HL0.out.below HB.out)
    replace HS := Lib.hid (HS0.out.below HB.out)
    replace HD := Lib.hid (HD0.out.below HB.out)
    replace HR := Lib.hid (HR.out.step hB)
    replace HT9 := Lib.hid (HT9.out.step hB)
    have HM := Lib.hid hmt
    clear hmt
    go_wp2_with fail
    refine hK.out _ _ ⟨⟨cell_at HR.out 0, cell_at HR.out 1, cell_at HR.out 2, cell_at HR.out 3, cell_at HR.out 4, cell_at HR.out 5, cell_at HR.out 6, HR.out.lt⟩, ⟨cell_at HT9.out 0, cell_at HT9.out 1, cell_at HT9.out 2, cell_at HT9.out 4, HT9.out.lt⟩⟩ (fun hHeld => ?_)
    clear hK K hB
    try simp only [Act.put, List.setIfInBounds_toArray, List.set_cons_zero, List.set_cons_succ]
    refine wpAnyH_ready (rs := [8]) (by kernel_rfl) (by simp) ?_
    refine AllReadyH.cons (by (simp only [List.getElem?_toArray, List.getElem?_cons_succ, List.getElem?_cons_zero]); rfl) (fun K hK => ?_) (AllReadyH.nil)
    have hlk := HKW.out W4 b _ te HM.out
    rw [← HOUT.out] at hlk
    rw [if_pos (by rfl)]
    go_simp
    refine hK.out _ _ ⟨⟨cell_at HR.out 0, cell_at HR.out 1, cell_at HR.out 2, cell_at HR.out 3, cell_at HR.out 4, cell_at HR.out 5, cell_at HR.out 6, HR.out.lt⟩, ⟨cell_at HT9.out 0, cell_at HT9.out 1, cell_at HT9.out 2, cell_at HT9.out 4, HT9.out.lt⟩⟩ (fun hHeld => ?_)
    clear hK K hlk
    try simp only [Act.put, List.setIfInBounds_toArray, List.set_cons_zero, List.set_cons_succ]
    refine wpAnyH_ready (rs := [10]) (by kernel_rfl) (by simp) ?_
    refine AllReadyH.cons (by (simp only [List.getElem?_toArray, List.getElem?_cons_succ, List.getElem?_cons_zero]); rfl) (fun K hK => ?_) (AllReadyH.nil)
    go_simp
    go_fit (HBA.out _)
    rintro e W5 ⟨rfl, hB⟩
    try replace hB := below_undrew hB
    replace HB := Lib.hid (HB.out.trans (hB.mono HB.out.size))
    replace HT := Lib.hid (HT0.out.below HB.out)
    replace HL := Lib.hid (HL0.out.below HB.out)
    replace HS := Lib.hid (HS0.out.below HB.out)
    replace HD := Lib.hid (HD0.out.below HB.out)
    replace HR := Lib.hid (HR.out.step hB)
    replace HT9 := Lib.hid (HT9.out.step hB)
    replace HM := Lib.hid (HM.out.step hB)
    go_wp2_with fail
    refine hK.out _ _ ⟨⟨cell_at HR.out 0, cell_at HR.out 1, cell_at HR.out 2, cell_at HR.out 3, cell_at HR.out 4, cell_at HR.out 5, cell_at HR.out 6, HR.out.lt⟩, ⟨cell_at HT9.out 0, cell_at HT9.out 1, cell_at HT9.out 2, cell_at HT9.out 4, HT9.out.lt⟩⟩ (fun hHeld => ?_)
    clear hK K hB
    try simp only [Act.put, List.setIfInBounds_toArray, List.set_cons_zero, List.set_cons_succ]
    ((refine wpAnyH_take (i := 11) (v := ?_) (by (simp only [List.getElem?_toArray, List.getElem?_cons_succ, List.getElem?_cons_zero]); rfl) (by kernel_rfl) (by kernel_rfl) (by kernel_rfl) (by exact fun _ _ _ h => h) (Or.inl ⟨by rfl, ?_⟩) (by assumption) ?_); rotate_left; focus (intro wS hSw; (try dsimp only at hSw); go_simp; first | done | with_reducible rfl); try simp only [Act.put, List.setIfInBounds_toArray, List.set_cons_zero, List.set_cons_succ])
    refine wpAnyH_ready (rs := [12]) (by kernel_rfl) (by simp) ?_
    refine AllReadyH.cons (by (simp only [List.getElem?_toArray, List.getElem?_cons_succ, List.getElem?_cons_zero]); rfl) (fun K hK => ?_) (AllReadyH.nil)
    have qT90 : W5.cell? ⟨T9, 0, none⟩ = some (.int .i64 y.id) := cell_at HT9.out 0
    have qT91 : W5.cell? ⟨T9, 1, none⟩ = some (.int .i64 y.rate) := cell_at HT9.out 1
    have qT92 : W5.cell? ⟨T9, 2, none⟩ = some (.int .i64 y.burst) := cell_at HT9.out 2
    have qT93 : W5.cell? ⟨T9, 3, none⟩ = some (.int .i64 y.bkt) := cell_at HT9.out 3
    have qT94 : W5.cell? ⟨T9, 4, none⟩ = some (.bool false) := cell_at HT9.out 4
    have qT9z : ∀ j, W5.frozen? ⟨T9, j, none⟩ = false := fun j => free_at HT9.out j
    have qT9l : T9 < W5.heap.size := HT9.out.lt
    rw [if_pos (by rfl)]
    go_simp
    clear qT90 qT91 qT92 qT93 qT94 qT9z qT9l
    obtain ⟨W6, hWS⟩ : ∃ WS, WS = W5.setCell ⟨T9, 3, none⟩ (.int .i64 nb) := ⟨_, rfl⟩
    rw [← hWS]
    have hfS : Fr [T9] W5 W6 := by rw [hWS]; exact (Fr.refl _ _).setCell _ (.inl (by simp)) _
    have hkS : Blk W6 T9 #[.int .i64 y.id, .int .i64 y.rate, .int .i64 y.burst, .int .i64 nb, .bool false] 54 := by rw [hWS]; exact HT9.out.set 3 _
    replace HB := Lib.hid (HB.out.trans (hfS.below HB.out.size (by have := HLOT9.out; simp; try omega)))
    replace HT := Lib.hid (HT0.out.below HB.out)
    replace HL := Lib.hid (HL0.out.below HB.out)
    replace HS := Lib.hid (HS0.out.below HB.out)
    replace HD := Lib.hid (HD0.out.below HB.out)
    replace HR := Lib.hid (show Blk W6 N #[.int .i64 s.term, .int .i64 s.stamp, .int .i64 s.next, .slice ta tn tc, .slice la ln lc, .slice sa sn sc, .slice da dn dc] 27 from (hfS.block _ HR.out.lt (by have hx0 := HXT9HR.out; simp; try omega)).trans HR.out)
    replace HT9 := Lib.hid (show Blk W6 T9 #[.int .i64 y.id, .int .i64 y.rate, .int .i64 y.burst, .int .i64 nb, .bool false] 54 from hkS)
    clear hWS hfS hkS
    refine hK.out _ _ ⟨⟨cell_at HR.out 0, cell_at HR.out 1, cell_at HR.out 2, cell_at HR.out 3, cell_at HR.out 4, cell_at HR.out 5, cell_at HR.out 6, HR.out.lt⟩, ⟨cell_at HT9.out 0, cell_at HT9.out 1, cell_at HT9.out 2, cell_at HT9.out 4, HT9.out.lt⟩⟩ (fun hHeld => ?_)
    clear hK K
    try simp only [Act.put, List.setIfInBounds_toArray, List.set_cons_zero, List.set_cons_succ]
    refine wpAnyH_done (by kernel_rfl) ?_ _
    try simp only [Act.put, List.setIfInBounds_toArray, List.set_cons_zero, List.set_cons_succ]
    have qR0 : W6.cell? ⟨N, 0, none⟩ = some (.int .i64 s.term) := cell_at HR.out 0
    have qR1 : W6.cell? ⟨N, 1, none⟩ = some (.int .i64 s.stamp) := cell_at HR.out 1
    have qR2 : W6.cell? ⟨N, 2, none⟩ = some (.int .i64 s.next) := cell_at HR.out 2
    have qR3 : W6.cell? ⟨N, 3, none⟩ = some (.slice ta tn tc) := cell_at HR.out 3
    have qR4 : W6.cell? ⟨N, 4, none⟩ = some (.slice la ln lc) := cell_at HR.out 4
    have qR5 : W6.cell? ⟨N, 5, none⟩ = some (.slice sa sn sc) := cell_at HR.out 5
    have qR6 : W6.cell? ⟨N, 6, none⟩ = some (.slice da dn dc) := cell_at HR.out 6
    have qRz : ∀ j, W6.frozen? ⟨N, j, none⟩ = false := fun j => free_at HR.out j
    have qRl : N < W6.heap.size := HR.out.lt
    have qT90 : W6.cell? ⟨T9, 0, none⟩ = some (.int .i64 y.id) := cell_at HT9.out 0
    have qT91 : W6.cell? ⟨T9, 1, none⟩ = some (.int .i64 y.rate) := cell_at HT9.out 1
    have qT92 : W6.cell? ⟨T9, 2, none⟩ = some (.int .i64 y.burst) := cell_at HT9.out 2
    have qT93 : W6.cell? ⟨T9, 3, none⟩ = some (.int .i64 nb) := cell_at HT9.out 3
    have qT94 : W6.cell? ⟨T9, 4, none⟩ = some (.bool false) := cell_at HT9.out 4
    have qT9z : ∀ j, W6.frozen? ⟨T9, j, none⟩ = false := fun j => free_at HT9.out j
    have qT9l : T9 < W6.heap.size := HT9.out.lt
    have HSE := Lib.hid (pset_any _ s.ts ⟨y.id, y.rate, y.burst, nb, false⟩ _ HT.out (by rw [← Htn.out]; exact f1) HOKX.out)
    go_wp2_with fail
    go_at_call 48
    go_fit HSE.out
    rintro e W7 ⟨v5, rfl, hv5, hB⟩
    clear qR0 qR1 qR2 qR3 qR4 qR5 qR6 qRz qRl qT90 qT91 qT92 qT93 qT94 qT9z qT9l
    replace HB := Lib.hid (HB.out.trans (hB.mono HB.out.size))
    replace HT := Lib.hid (HT0.out.below HB.out)
    replace HL := Lib.hid (HL0.out.below HB.out)
    replace HS := Lib.hid (HS0.out.below HB.out)
    replace HD := Lib.hid (HD0.out.below HB.out)
    replace HR := Lib.hid (HR.out.step hB)
    replace HT9 := Lib.hid (HT9.out.step hB)
    clear hB
    go_wp2_with fail
    go_ret
    exact ⟨_, rfl, by rw [HR9.out]; exact hv5, HB.out⟩
  · skip
    go_simp
    go_fit (HOU.out _ _ (HSV.out _ (HT0.out.below HB.out.drew) (HL0.out.below HB.out.drew) (HS0.out.below HB.out.drew) (HD0.out.below HB.out.drew)))
    rintro e W4 ⟨b, rfl, hmt, hB⟩
    try replace hB := below_undrew hB
    replace HB := Lib.hid (HB.out.trans (hB.mono HB.out.size))
    replace HT := Lib.hid (HT0.out.below HB.out)
    replace HL := Lib.hid (HL0.out.below HB.out)
    replace HS := Lib.hid (HS0.out.below HB.out)
    replace HD := Lib.hid (HD0.out.below HB.out)
    replace HR := Lib.hid (HR.out.step hB)
    replace HT9 := Lib.hid (HT9.out.step hB)
    have HM := Lib.hid hmt
    clear hmt
    go_wp2_with fail
    refine hK.out _ _ ⟨⟨cell_at HR.out 0, cell_at HR.out 1, cell_at HR.out 2, cell_at HR.out 3, cell_at HR.out 4, cell_at HR.out 5, cell_at HR.out 6, HR.out.lt⟩, ⟨cell_at HT9.out 0, cell_at HT9.out 1, cell_at HT9.out 2, cell_at HT9.out 4, HT9.out.lt⟩⟩ (fun hHeld => ?_)
    clear hK K hB
    try simp only [Act.put, List.setIfInBounds_toArray, List.set_cons_zero, List.set_cons_succ]
    refine wpAnyH_ready (rs := [1, 8]) (by kernel_rfl) (by simp) ?_
    refine AllReadyH.cons (by (simp only [List.getElem?_toArray, List.getElem?_cons_succ, List.getElem?_cons_zero]); rfl) (fun K hK => ?_) (AllReadyH.cons (by (simp only [List.getElem?_toArray, List.getElem?_cons_succ, List.getElem?_cons_zero]); rfl) (fun K hK => ?_) (AllReadyH.nil))
    · skip
      have qT90 : W4.cell? ⟨T9, 0, none⟩ = some (.int .i64 y.id) := cell_at HT9.out 0
      have qT91 : W4.cell? ⟨T9, 1, none⟩ = some (.int .i64 y.rate) := cell_at HT9.out 1
      have qT92 : W4.cell? ⟨T9, 2, none⟩ = some (.int .i64 y.burst) := cell_at HT9.out 2
      have qT93 : W4.cell? ⟨T9, 3, none⟩ = some (.int .i64 y.bkt) := cell_at HT9.out 3
      have qT94 : W4.cell? ⟨T9, 4, none⟩ = some (.bool false) := cell_at HT9.out 4
      have qT9z : ∀ j, W4.frozen? ⟨T9, j, none⟩ = false := fun j => free_at HT9.out j
      have qT9l : T9 < W4.heap.size := HT9.out.lt
      rw [if_pos (by rfl)]
      go_simp
      refine hK.out _ _ ⟨⟨cell_at HR.out 0, cell_at HR.out 1, cell_at HR.out 2, cell_at HR.out 3, cell_at HR.out 4, cell_at HR.out 5, cell_at HR.out 6, HR.out.lt⟩, ⟨cell_at HT9.out 0, cell_at HT9.out 1, cell_at HT9.out 2, cell_at HT9.out 4, HT9.out.lt⟩⟩ (fun hHeld => ?_)
      clear hK K
      clear qT90 qT91 qT92 qT93 qT94 qT9z qT9l
      try simp only [Act.put, List.setIfInBounds_toArray, List.set_cons_zero, List.set_cons_succ]
      refine wpAnyH_ready (rs := [8]) (by kernel_rfl) (by simp) ?_
      refine AllReadyH.cons (by (simp only [List.getElem?_toArray, List.getElem?_cons_succ, List.getElem?_cons_zero]); rfl) (fun K hK => ?_) (AllReadyH.nil)
      have hlk := HKW.out W4 b _ te HM.out
      rw [← HOUT.out] at hlk
      rw [if_pos (by rfl)]
      go_simp
      refine hK.out _ _ ⟨⟨cell_at HR.out 0, cell_at HR.out 1, cell_at HR.out 2, cell_at HR.out 3, cell_at HR.out 4, cell_at HR.out 5, cell_at HR.out 6, HR.out.lt⟩, ⟨cell_at HT9.out 0, cell_at HT9.out 1, cell_at HT9.out 2, cell_at HT9.out 4, HT9.out.lt⟩⟩ (fun hHeld => ?_)
      clear hK K hlk
      try simp only [Act.put, List.setIfInBounds_toArray, List.set_cons_zero, List.set_cons_succ]
      refine wpAnyH_ready (rs := [10]) (by kernel_rfl) (by simp) ?_
      refine AllReadyH.cons (by (simp only [List.getElem?_toArray, List.getElem?_cons_succ, List.getElem?_cons_zero]); rfl) (fun K hK => ?_) (AllReadyH.nil)
      go_simp
      go_fit (HBA.out _)
      rintro e W5 ⟨rfl, hB⟩
      try replace hB := below_undrew hB
      replace HB := Lib.hid (HB.out.trans (hB.mono HB.out.size))
      replace HT := Lib.hid (HT0.out.below HB.out)
      replace HL := Lib.hid (HL0.out.below HB.out)
      replace HS := Lib.hid (HS0.out.below HB.out)
      replace HD := Lib.hid (HD0.out.below HB.out)
      replace HR := Lib.hid (HR.out.step hB)
      replace HT9 := Lib.hid (HT9.out.step hB)
      replace HM := Lib.hid (HM.out.step hB)
      go_wp2_with fail
      refine hK.out _ _ ⟨⟨cell_at HR.out 0, cell_at HR.out 1, cell_at HR.out 2, cell_at HR.out 3, cell_at HR.out 4, cell_at HR.out 5, cell_at HR.out 6, HR.out.lt⟩, ⟨cell_at HT9.out 0, cell_at HT9.out 1, cell_at HT9.out 2, cell_at HT9.out 4, HT9.out.lt⟩⟩ (fun hHeld => ?_)
      clear hK K hB
      try simp only [Act.put, List.setIfInBounds_toArray, List.set_cons_zero, List.set_cons_succ]
      ((refine wpAnyH_take (i := 11) (v := ?_) (by (simp only [List.getElem?_toArray, List.getElem?_cons_succ, List.getElem?_cons_zero]); rfl) (by kernel_rfl) (by kernel_rfl) (by kernel_rfl) (by exact fun _ _ _ h => h) (Or.inl ⟨by rfl, ?_⟩) (by assumption) ?_); rotate_left; focus (intro wS hSw; (try dsimp only at hSw); go_simp; first | done | with_reducible rfl); try simp only [Act.put, List.setIfInBounds_toArray, List.set_cons_zero, List.set_cons_succ])
      refine wpAnyH_ready (rs := [12]) (by kernel_rfl) (by simp) ?_
      refine AllReadyH.cons (by (simp only [List.getElem?_toArray, List.getElem?_cons_succ, List.getElem?_cons_zero]); rfl) (fun K hK => ?_) (AllReadyH.nil)
      have qT90 : W5.cell? ⟨T9, 0, none⟩ = some (.int .i64 y.id) := cell_at HT9.out 0
      have qT91 : W5.cell? ⟨T9, 1, none⟩ = some (.int .i64 y.rate) := cell_at HT9.out 1
      have qT92 : W5.cell? ⟨T9, 2, none⟩ = some (.int .i64 y.burst) := cell_at HT9.out 2
      have qT93 : W5.cell? ⟨T9, 3, none⟩ = some (.int .i64 y.bkt) := cell_at HT9.out 3
      have qT94 : W5.cell? ⟨T9, 4, none⟩ = some (.bool false) := cell_at HT9.out 4
      have qT9z : ∀ j, W5.frozen? ⟨T9, j, none⟩ = false := fun j => free_at HT9.out j
      have qT9l : T9 < W5.heap.size := HT9.out.lt
      rw [if_pos (by rfl)]
      go_simp
      clear qT90 qT91 qT92 qT93 qT94 qT9z qT9l
      obtain ⟨W6, hWS⟩ : ∃ WS, WS = W5.setCell ⟨T9, 3, none⟩ (.int .i64 nb) := ⟨_, rfl⟩
      rw [← hWS]
      have hfS : Fr [T9] W5 W6 := by rw [hWS]; exact (Fr.refl _ _).setCell _ (.inl (by simp)) _
      have hkS : Blk W6 T9 #[.int .i64 y.id, .int .i64 y.rate, .int .i64 y.burst, .int .i64 nb, .bool false] 54 := by rw [hWS]; exact HT9.out.set 3 _
      replace HB := Lib.hid (HB.out.trans (hfS.below HB.out.size (by have := HLOT9.out; simp; try omega)))
      replace HT := Lib.hid (HT0.out.below HB.out)
      replace HL := Lib.hid (HL0.out.below HB.out)
      replace HS := Lib.hid (HS0.out.below HB.out)
      replace HD := Lib.hid (HD0.out.below HB.out)
      replace HR := Lib.hid (show Blk W6 N #[.int .i64 s.term, .int .i64 s.stamp, .int .i64 s.next, .slice ta tn tc, .slice la ln lc, .slice sa sn sc, .slice da dn dc] 27 from (hfS.block _ HR.out.lt (by have hx0 := HXT9HR.out; simp; try omega)).trans HR.out)
      replace HT9 := Lib.hid (show Blk W6 T9 #[.int .i64 y.id, .int .i64 y.rate, .int .i64 y.burst, .int .i64 nb, .bool false] 54 from hkS)
      clear hWS hfS hkS
      refine hK.out _ _ ⟨⟨cell_at HR.out 0, cell_at HR.out 1, cell_at HR.out 2, cell_at HR.out 3, cell_at HR.out 4, cell_at HR.out 5, cell_at HR.out 6, HR.out.lt⟩, ⟨cell_at HT9.out 0, cell_at HT9.out 1, cell_at HT9.out 2, cell_at HT9.out 4, HT9.out.lt⟩⟩ (fun hHeld => ?_)
      clear hK K
      try simp only [Act.put, List.setIfInBounds_toArray, List.set_cons_zero, List.set_cons_succ]
      refine wpAnyH_done (by kernel_rfl) ?_ _
      try simp only [Act.put, List.setIfInBounds_toArray, List.set_cons_zero, List.set_cons_succ]
      have qR0 : W6.cell? ⟨N, 0, none⟩ = some (.int .i64 s.term) := cell_at HR.out 0
      have qR1 : W6.cell? ⟨N, 1, none⟩ = some (.int .i64 s.stamp) := cell_at HR.out 1
      have qR2 : W6.cell? ⟨N, 2, none⟩ = some (.int .i64 s.next) := cell_at HR.out 2
      have qR3 : W6.cell? ⟨N, 3, none⟩ = some (.slice ta tn tc) := cell_at HR.out 3
      have qR4 : W6.cell? ⟨N, 4, none⟩ = some (.slice la ln lc) := cell_at HR.out 4
      have qR5 : W6.cell? ⟨N, 5, none⟩ = some (.slice sa sn sc) := cell_at HR.out 5
      have qR6 : W6.cell? ⟨N, 6, none⟩ = some (.slice da dn dc) := cell_at HR.out 6
      have qRz : ∀ j, W6.frozen? ⟨N, j, none⟩ = false := fun j => free_at HR.out j
      have qRl : N < W6.heap.size := HR.out.lt
      have qT90 : W6.cell? ⟨T9, 0, none⟩ = some (.int .i64 y.id) := cell_at HT9.out 0
      have qT91 : W6.cell? ⟨T9, 1, none⟩ = some (.int .i64 y.rate) := cell_at HT9.out 1
      have qT92 : W6.cell? ⟨T9, 2, none⟩ = some (.int .i64 y.burst) := cell_at HT9.out 2
      have qT93 : W6.cell? ⟨T9, 3, none⟩ = some (.int .i64 nb) := cell_at HT9.out 3
      have qT94 : W6.cell? ⟨T9, 4, none⟩ = some (.bool false) := cell_at HT9.out 4
      have qT9z : ∀ j, W6.frozen? ⟨T9, j, none⟩ = false := fun j => free_at HT9.out j
      have qT9l : T9 < W6.heap.size := HT9.out.lt
      have HSE := Lib.hid (pset_any _ s.ts ⟨y.id, y.rate, y.burst, nb, false⟩ _ HT.out (by rw [← Htn.out]; exact f1) HOKX.out)
      go_wp2_with fail
      go_at_call 48
      go_fit HSE.out
      rintro e W7 ⟨v5, rfl, hv5, hB⟩
      clear qR0 qR1 qR2 qR3 qR4 qR5 qR6 qRz qRl qT90 qT91 qT92 qT93 qT94 qT9z qT9l
      replace HB := Lib.hid (HB.out.trans (hB.mono HB.out.size))
      replace HT := Lib.hid (HT0.out.below HB.out)
      replace HL := Lib.hid (HL0.out.below HB.out)
      replace HS := Lib.hid (HS0.out.below HB.out)
      replace HD := Lib.hid (HD0.out.below HB.out)
      replace HR := Lib.hid (HR.out.step hB)
      replace HT9 := Lib.hid (HT9.out.step hB)
      clear hB
      go_wp2_with fail
      go_ret
      exact ⟨_, rfl, by rw [HR9.out]; exact hv5, HB.out⟩
    · skip
      have hlk := HKW.out W4 b _ te HM.out
      rw [← HOUT.out] at hlk
      rw [if_pos (by rfl)]
      go_simp
      refine hK.out _ _ ⟨⟨cell_at HR.out 0, cell_at HR.out 1, cell_at HR.out 2, cell_at HR.out 3, cell_at HR.out 4, cell_at HR.out 5, cell_at HR.out 6, HR.out.lt⟩, ⟨cell_at HT9.out 0, cell_at HT9.out 1, cell_at HT9.out 2, cell_at HT9.out 4, HT9.out.lt⟩⟩ (fun hHeld => ?_)
      clear hK K hlk
      try simp only [Act.put, List.setIfInBounds_toArray, List.set_cons_zero, List.set_cons_succ]
      refine wpAnyH_ready (rs := [1]) (by kernel_rfl) (by simp) ?_
      refine AllReadyH.cons (by (simp only [List.getElem?_toArray, List.getElem?_cons_succ, List.getElem?_cons_zero]); rfl) (fun K hK => ?_) (AllReadyH.nil)
      have qT90 : W4.cell? ⟨T9, 0, none⟩ = some (.int .i64 y.id) := cell_at HT9.out 0
      have qT91 : W4.cell? ⟨T9, 1, none⟩ = some (.int .i64 y.rate) := cell_at HT9.out 1
      have qT92 : W4.cell? ⟨T9, 2, none⟩ = some (.int .i64 y.burst) := cell_at HT9.out 2
      have qT93 : W4.cell? ⟨T9, 3, none⟩ = some (.int .i64 y.bkt) := cell_at HT9.out 3
      have qT94 : W4.cell? ⟨T9, 4, none⟩ = some (.bool false) := cell_at HT9.out 4
      have qT9z : ∀ j, W4.frozen? ⟨T9, j, none⟩ = false := fun j => free_at HT9.out j
      have qT9l : T9 < W4.heap.size := HT9.out.lt
      rw [if_pos (by rfl)]
      go_simp
      refine hK.out _ _ ⟨⟨cell_at HR.out 0, cell_at HR.out 1, cell_at HR.out 2, cell_at HR.out 3, cell_at HR.out 4, cell_at HR.out 5, cell_at HR.out 6, HR.out.lt⟩, ⟨cell_at HT9.out 0, cell_at HT9.out 1, cell_at HT9.out 2, cell_at HT9.out 4, HT9.out.lt⟩⟩ (fun hHeld => ?_)
      clear hK K
      clear qT90 qT91 qT92 qT93 qT94 qT9z qT9l
      try simp only [Act.put, List.setIfInBounds_toArray, List.set_cons_zero, List.set_cons_succ]
      refine wpAnyH_ready (rs := [10]) (by kernel_rfl) (by simp) ?_
      refine AllReadyH.cons (by (simp only [List.getElem?_toArray, List.getElem?_cons_succ, List.getElem?_cons_zero]); rfl) (fun K hK => ?_) (AllReadyH.nil)
      go_simp
      go_fit (HBA.out _)
      rintro e W5 ⟨rfl, hB⟩
      try replace hB := below_undrew hB
      replace HB := Lib.hid (HB.out.trans (hB.mono HB.out.size))
      replace HT := Lib.hid (HT0.out.below HB.out)
      replace HL := Lib.hid (HL0.out.below HB.out)
      replace HS := Lib.hid (HS0.out.below HB.out)
      replace HD := Lib.hid (HD0.out.below HB.out)
      replace HR := Lib.hid (HR.out.step hB)
      replace HT9 := Lib.hid (HT9.out.step hB)
      replace HM := Lib.hid (HM.out.step hB)
      go_wp2_with fail
      refine hK.out _ _ ⟨⟨cell_at HR.out 0, cell_at HR.out 1, cell_at HR.out 2, cell_at HR.out 3, cell_at HR.out 4, cell_at HR.out 5, cell_at HR.out 6, HR.out.lt⟩, ⟨cell_at HT9.out 0, cell_at HT9.out 1, cell_at HT9.out 2, cell_at HT9.out 4, HT9.out.lt⟩⟩ (fun hHeld => ?_)
      clear hK K hB
      try simp only [Act.put, List.setIfInBounds_toArray, List.set_cons_zero, List.set_cons_succ]
      ((refine wpAnyH_take (i := 11) (v := ?_) (by (simp only [List.getElem?_toArray, List.getElem?_cons_succ, List.getElem?_cons_zero]); rfl) (by kernel_rfl) (by kernel_rfl) (by kernel_rfl) (by exact fun _ _ _ h => h) (Or.inl ⟨by rfl, ?_⟩) (by assumption) ?_); rotate_left; focus (intro wS hSw; (try dsimp only at hSw); go_simp; first | done | with_reducible rfl); try simp only [Act.put, List.setIfInBounds_toArray, List.set_cons_zero, List.set_cons_succ])
      refine wpAnyH_ready (rs := [12]) (by kernel_rfl) (by simp) ?_
      refine AllReadyH.cons (by (simp only [List.getElem?_toArray, List.getElem?_cons_succ, List.getElem?_cons_zero]); rfl) (fun K hK => ?_) (AllReadyH.nil)
      have qT90 : W5.cell? ⟨T9, 0, none⟩ = some (.int .i64 y.id) := cell_at HT9.out 0
      have qT91 : W5.cell? ⟨T9, 1, none⟩ = some (.int .i64 y.rate) := cell_at HT9.out 1
      have qT92 : W5.cell? ⟨T9, 2, none⟩ = some (.int .i64 y.burst) := cell_at HT9.out 2
      have qT93 : W5.cell? ⟨T9, 3, none⟩ = some (.int .i64 y.bkt) := cell_at HT9.out 3
      have qT94 : W5.cell? ⟨T9, 4, none⟩ = some (.bool false) := cell_at HT9.out 4
      have qT9z : ∀ j, W5.frozen? ⟨T9, j, none⟩ = false := fun j => free_at HT9.out j
      have qT9l : T9 < W5.heap.size := HT9.out.lt
      rw [if_pos (by rfl)]
      go_simp
      clear qT90 qT91 qT92 qT93 qT94 qT9z qT9l
      obtain ⟨W6, hWS⟩ : ∃ WS, WS = W5.setCell ⟨T9, 3, none⟩ (.int .i64 nb) := ⟨_, rfl⟩
      rw [← hWS]
      have hfS : Fr [T9] W5 W6 := by rw [hWS]; exact (Fr.refl _ _).setCell _ (.inl (by simp)) _
      have hkS : Blk W6 T9 #[.int .i64 y.id, .int .i64 y.rate, .int .i64 y.burst, .int .i64 nb, .bool false] 54 := by rw [hWS]; exact HT9.out.set 3 _
      replace HB := Lib.hid (HB.out.trans (hfS.below HB.out.size (by have := HLOT9.out; simp; try omega)))
      replace HT := Lib.hid (HT0.out.below HB.out)
      replace HL := Lib.hid (HL0.out.below HB.out)
      replace HS := Lib.hid (HS0.out.below HB.out)
      replace HD := Lib.hid (HD0.out.below HB.out)
      replace HR := Lib.hid (show Blk W6 N #[.int .i64 s.term, .int .i64 s.stamp, .int .i64 s.next, .slice ta tn tc, .slice la ln lc, .slice sa sn sc, .slice da dn dc] 27 from (hfS.block _ HR.out.lt (by have hx0 := HXT9HR.out; simp; try omega)).trans HR.out)
      replace HT9 := Lib.hid (show Blk W6 T9 #[.int .i64 y.id, .int .i64 y.rate, .int .i64 y.burst, .int .i64 nb, .bool false] 54 from hkS)
      clear hWS hfS hkS
      refine hK.out _ _ ⟨⟨cell_at HR.out 0, cell_at HR.out 1, cell_at HR.out 2, cell_at HR.out 3, cell_at HR.out 4, cell_at HR.out 5, cell_at HR.out 6, HR.out.lt⟩, ⟨cell_at HT9.out 0, cell_at HT9.out 1, cell_at HT9.out 2, cell_at HT9.out 4, HT9.out.lt⟩⟩ (fun hHeld => ?_)
      clear hK K
      try simp only [Act.put, List.setIfInBounds_toArray, List.set_cons_zero, List.set_cons_succ]
      refine wpAnyH_done (by kernel_rfl) ?_ _
      try simp only [Act.put, List.setIfInBounds_toArray, List.set_cons_zero, List.set_cons_succ]
      have qR0 : W6.cell? ⟨N, 0, none⟩ = some (.int .i64 s.term) := cell_at HR.out 0
      have qR1 : W6.cell? ⟨N, 1, none⟩ = some (.int .i64 s.stamp) := cell_at HR.out 1
      have qR2 : W6.cell? ⟨N, 2, none⟩ = some (.int .i64 s.next) := cell_at HR.out 2
      have qR3 : W6.cell? ⟨N, 3, none⟩ = some (.slice ta tn tc) := cell_at HR.out 3
      have qR4 : W6.cell? ⟨N, 4, none⟩ = some (.slice la ln lc) := cell_at HR.out 4
      have qR5 : W6.cell? ⟨N, 5, none⟩ = some (.slice sa sn sc) := cell_at HR.out 5
      have qR6 : W6.cell? ⟨N, 6, none⟩ = some (.slice da dn dc) := cell_at HR.out 6
      have qRz : ∀ j, W6.frozen? ⟨N, j, none⟩ = false := fun j => free_at HR.out j
      have qRl : N < W6.heap.size := HR.out.lt
      have qT90 : W6.cell? ⟨T9, 0, none⟩ = some (.int .i64 y.id) := cell_at HT9.out 0
      have qT91 : W6.cell? ⟨T9, 1, none⟩ = some (.int .i64 y.rate) := cell_at HT9.out 1
      have qT92 : W6.cell? ⟨T9, 2, none⟩ = some (.int .i64 y.burst) := cell_at HT9.out 2
      have qT93 : W6.cell? ⟨T9, 3, none⟩ = some (.int .i64 nb) := cell_at HT9.out 3
      have qT94 : W6.cell? ⟨T9, 4, none⟩ = some (.bool false) := cell_at HT9.out 4
      have qT9z : ∀ j, W6.frozen? ⟨T9, j, none⟩ = false := fun j => free_at HT9.out j
      have qT9l : T9 < W6.heap.size := HT9.out.lt
      have HSE := Lib.hid (pset_any _ s.ts ⟨y.id, y.rate, y.burst, nb, false⟩ _ HT.out (by rw [← Htn.out]; exact f1) HOKX.out)
      go_wp2_with fail
      go_at_call 48
      go_fit HSE.out
      rintro e W7 ⟨v5, rfl, hv5, hB⟩
      clear qR0 qR1 qR2 qR3 qR4 qR5 qR6 qRz qRl qT90 qT91 qT92 qT93 qT94 qT9z qT9l
      replace HB := Lib.hid (HB.out.trans (hB.mono HB.out.size))
      replace HT := Lib.hid (HT0.out.below HB.out)
      replace HL := Lib.hid (HL0.out.below HB.out)
      replace HS := Lib.hid (HS0.out.below HB.out)
      replace HD := Lib.hid (HD0.out.below HB.out)
      replace HR := Lib.hid (HR.out.step hB)
      replace HT9 := Lib.hid (HT9.out.step hB)
      clear hB
      go_wp2_with fail
      go_ret
      exact ⟨_, rfl, by rw [HR9.out]; exact hv5, HB.out⟩
end Go.Proofs.Ytfgnjpdlchimpaa
namespace Go.Proofs.Ytfgnjpdlchimpaa
open Go.RowKit
set_option linter.unusedSimpArgs false
set_option linter.unusedVariables false

theorem sizeB_filter {L : List LeE} (p : LeE → Bool) (h : sizeB L) : sizeB (L.filter p) := fun x hx => h x (List.mem_filter.1 hx).1
set_option maxRecDepth 100000 in
set_option maxHeartbeats 8000000 in
theorem expire_any (v vi : Value) (s : StE) (l : List Int) (w : World) (h : SV w v s) (hi : InV w vi l) (hf : fewS s) :
    Calls Try.prog 24 #[v, vi] w fun e w' => ∃ v', e = .returned v' ∧ SV w' v' (exS s l) ∧ Below w.heap.size w w' := by
  have HFEW := Lib.hid hf
  obtain ⟨f1, f2, f3, f4⟩ := hf
  obtain ⟨vt, vl, vs, vd, rfl, ht, hl, hs, hd⟩ := h
  obtain ⟨ta, tn, tc, rfl, Htn, tn1, tn2⟩ := ht.sh
  obtain ⟨la, ln, lc, rfl, Hln, ln1, ln2⟩ := hl.sh
  obtain ⟨sa, sn, sc, rfl, Hsn, sn1, sn2⟩ := hs.sh
  obtain ⟨da, dn, dc, rfl, Hdn, dn1, dn2⟩ := hd.sh
  have HT0 := Lib.hid ht
  have HL0 := Lib.hid hl
  have HS0 := Lib.hid hs
  have HD0 := Lib.hid hd
  have HT := Lib.hid ht
  have HL := Lib.hid hl
  have HS := Lib.hid hs
  have HD := Lib.hid hd
  clear ht hl hs hd
  rw [← Hln.out] at f2
  rw [← Htn.out] at f1
  have HSV : Hid (∀ W, TV W (.slice ta tn tc) s.ts → LeV W (.slice la ln lc) s.ls → SeV W (.slice sa sn sc) s.ss → DkV W (.slice da dn dc) s.ds → SV W (.agg #[.int .i64 s.term, .int .i64 s.stamp, .int .i64 s.next, .slice ta tn tc, .slice la ln lc, .slice sa sn sc, .slice da dn dc]) s) := Lib.hid (fun W h1 h2 h3 h4 => ⟨_, _, _, _, rfl, h1, h2, h3, h4⟩)
  have HCK := Lib.hid (fun W v (h : SV W v s) => checkS_any v s W h HFEW.out)
  have HTW := Lib.hid (fun W v (h : SV W v s) => twinO_any v s W h HFEW.out)
  obtain ⟨C, hC⟩ : ∃ C, C = chkS s := ⟨_, rfl⟩
  have HSZ := Lib.hid (fun h : C = true => lesB_size (s := s) (by rw [hC] at h; unfold chkS at h; simp only [Bool.and_eq_true] at h; exact h.1.2))
  rw [← hC] at HCK
  have HCE := Lib.hid hC
  clear hC
  obtain ⟨ia, iN, ic, rfl, Hin, in1, in2⟩ := hi.sh
  have HI0 := Lib.hid hi
  have HI := Lib.hid hi
  clear hi
  obtain ⟨R, hR⟩ : ∃ R, R = exS s l := ⟨_, rfl⟩
  rw [← hR]
  unfold exS at hR
  rw [← HCE.out] at hR
  have HR9 := Lib.hid hR
  clear hR
  have HB : Hid (Below w.heap.size w w) := Lib.hid (Below.refl _ _)
  have hmf : ∀ (fn : Fn) (first cap : Array Value) (w : World), (Instr.makeFunc fn first cap).run Try.prog w = .ok (.func fn first cap) w := fun _ _ _ _ => rfl
  go_enter_defers Try.func24, Try.ntmps24
  go_upto_region 1 with fail
  obtain ⟨N, hN⟩ : ∃ n0, n0 = w.heap.size := ⟨_, rfl⟩
  have HLON : Hid (w.heap.size ≤ N) := Lib.hid (by have := HB.out.size; omega)
  obtain ⟨W1, hA0⟩ : ∃ W0, W0 = w.alloc (.cells #[.int .i64 s.term, .int .i64 s.stamp, .int .i64 s.next, .slice ta tn tc, .slice la ln lc, .slice sa sn sc, .slice da dn dc] 27) := ⟨_, rfl⟩
  have hB : Below w.heap.size w W1 := by rw [hA0]; exact (Below.refl _ _).alloc (Nat.le_refl _) _
  have hS0 : W1.heap.size = N + 1 := by rw [hA0]; simp [← hN]
  have HR := Lib.hid (show Blk W1 N #[.int .i64 s.term, .int .i64 s.stamp, .int .i64 s.next, .slice ta tn tc, .slice la ln lc, .slice sa sn sc, .slice da dn dc] 27 by rw [hA0, hN]; exact blk_new _ _ _)
  replace HB := Lib.hid (HB.out.trans (hB.mono HB.out.size))
  replace HT := Lib.hid (HT0.out.below HB.out)
  replace HL := Lib.hid (HL0.out.below HB.out)
  replace HS := Lib.hid (HS0.out.below HB.out)
  replace HD := Lib.hid (HD0.out.below HB.out)
  replace HI := Lib.hid (HI0.out.below HB.out)
  clear hB
  obtain ⟨W2, hA1⟩ : ∃ W0, W0 = W1.alloc (.cells #[.slice ia iN ic] 45) := ⟨_, rfl⟩
  have hB : Below W1.heap.size W1 W2 := by rw [hA1]; exact (Below.refl _ _).alloc (Nat.le_refl _) _
  have hS1 : W2.heap.size = N + 2 := by rw [hA1]; simp [hS0]
  have HIB := Lib.hid (show Blk W2 (N + 1) #[.slice ia iN ic] 45 by rw [hA1, ← hS0]; exact blk_new _ _ _)
  replace HB := Lib.hid (HB.out.trans (hB.mono HB.out.size))
  replace HT := Lib.hid (HT0.out.below HB.out)
  replace HL := Lib.hid (HL0.out.below HB.out)
  replace HS := Lib.hid (HS0.out.below HB.out)
  replace HD := Lib.hid (HD0.out.below HB.out)
  replace HI := Lib.hid (HI0.out.below HB.out)
  replace HR := Lib.hid (HR.out.step hB)
  clear hB
  obtain ⟨W3, hA2⟩ : ∃ W0, W0 = W2.alloc (.cells #[.int .i64 0, .int .i64 0, .int .i64 0, .slice none 0 0, .slice none 0 0, .slice none 0 0, .slice none 0 0] 27) := ⟨_, rfl⟩
  have hB : Below W2.heap.size W2 W3 := by rw [hA2]; exact (Below.refl _ _).alloc (Nat.le_refl _) _
  have hS2 : W3.heap.size = N + 3 := by rw [hA2]; simp [hS1]
  have HO := Lib.hid (show Blk W3 (N + 1 + 1) #[.int .i64 0, .int .i64 0, .int .i64 0, .slice none 0 0, .slice none 0 0, .slice none 0 0, .slice none 0 0] 27 by rw [hA2, ← hS1]; exact blk_new _ _ _)
  replace HB := Lib.hid (HB.out.trans (hB.mono HB.out.size))
  replace HT := Lib.hid (HT0.out.below HB.out)
  replace HL := Lib.hid (HL0.out.below HB.out)
  replace HS := Lib.hid (HS0.out.below HB.out)
  replace HD := Lib.hid (HD0.out.below HB.out)
  replace HI := Lib.hid (HI0.out.below HB.out)
  replace HR := Lib.hid (HR.out.step hB)
  replace HIB := Lib.hid (HIB.out.step hB)
  clear hB
  have HSN := Lib.hid hS2
  rw [← hN, ← hA0, ← hA1, ← hA2]
  clear hA2 hA1 hA0 hN hS0 hS1 hS2
  have qR0 : W3.cell? ⟨N, 0, none⟩ = some (.int .i64 s.term) := cell_at HR.out 0
  have qR1 : W3.cell? ⟨N, 1, none⟩ = some (.int .i64 s.stamp) := cell_at HR.out 1
  have qR2 : W3.cell? ⟨N, 2, none⟩ = some (.int .i64 s.next) := cell_at HR.out 2
  have qR3 : W3.cell? ⟨N, 3, none⟩ = some (.slice ta tn tc) := cell_at HR.out 3
  have qR4 : W3.cell? ⟨N, 4, none⟩ = some (.slice la ln lc) := cell_at HR.out 4
  have qR5 : W3.cell? ⟨N, 5, none⟩ = some (.slice sa sn sc) := cell_at HR.out 5
  have qR6 : W3.cell? ⟨N, 6, none⟩ = some (.slice da dn dc) := cell_at HR.out 6
  have qRz : ∀ j, W3.frozen? ⟨N, j, none⟩ = false := fun j => free_at HR.out j
  have qRl : N < W3.heap.size := HR.out.lt
  have FOO := Lib.hid HO.out.lt
  go_wp2_with fail
  go_at_call 36
  go_fit (HTW.out _ _ (HSV.out _ HT.out HL.out HS.out HD.out))
  rintro e W4 ⟨v2, rfl, hso, hB⟩
  clear qR0 qR1 qR2 qR3 qR4 qR5 qR6 qRz qRl
  replace HB := Lib.hid (HB.out.trans (hB.mono HB.out.size))
  replace HT := Lib.hid (HT0.out.below HB.out)
  replace HL := Lib.hid (HL0.out.below HB.out)
  replace HS := Lib.hid (HS0.out.below HB.out)
  replace HD := Lib.hid (HD0.out.below HB.out)
  replace HI := Lib.hid (HI0.out.below HB.out)
  replace HR := Lib.hid (HR.out.step hB)
  replace HIB := Lib.hid (HIB.out.step hB)
  replace HO := Lib.hid (HO.out.step hB)
  clear hB
  obtain ⟨vt2, vl2, vs2, vd2, ot, ol, os, od, rfl, o1, o2, o3, o4⟩ := hso
  obtain ⟨b1, m1, k1, rfl, Hb1, x1, y1⟩ := o1.v.sh
  obtain ⟨b2, m2, k2, rfl, Hb2, x2, y2⟩ := o2.v.sh
  obtain ⟨b3, m3, k3, rfl, Hb3, x3, y3⟩ := o3.v.sh
  obtain ⟨b4, m4, k4, rfl, Hb4, x4, y4⟩ := o4.v.sh
  have O1 := Lib.hid o1
  have FO1 := Lib.hid (show (N + 1 + 1) < W3.heap.size from FOO.out)
  have O2 := Lib.hid o2
  have FO2 := Lib.hid (show (N + 1 + 1) < W3.heap.size from FOO.out)
  have O3 := Lib.hid o3
  have FO3 := Lib.hid (show (N + 1 + 1) < W3.heap.size from FOO.out)
  have O4 := Lib.hid o4
  have FO4 := Lib.hid (show (N + 1 + 1) < W3.heap.size from FOO.out)
  clear o1 o2 o3 o4
  have qO0 : W4.cell? ⟨(N + 1 + 1), 0, none⟩ = some (.int .i64 0) := cell_at HO.out 0
  have qO1 : W4.cell? ⟨(N + 1 + 1), 1, none⟩ = some (.int .i64 0) := cell_at HO.out 1
  have qO2 : W4.cell? ⟨(N + 1 + 1), 2, none⟩ = some (.int .i64 0) := cell_at HO.out 2
  have qO3 : W4.cell? ⟨(N + 1 + 1), 3, none⟩ = some (.slice none 0 0) := cell_at HO.out 3
  have qO4 : W4.cell? ⟨(N + 1 + 1), 4, none⟩ = some (.slice none 0 0) := cell_at HO.out 4
  have qO5 : W4.cell? ⟨(N + 1 + 1), 5, none⟩ = some (.slice none 0 0) := cell_at HO.out 5
  have qO6 : W4.cell? ⟨(N + 1 + 1), 6, none⟩ = some (.slice none 0 0) := cell_at HO.out 6
  have qOz : ∀ j, W4.frozen? ⟨(N + 1 + 1), j, none⟩ = false := fun j => free_at HO.out j
  have qOl : (N + 1 + 1) < W4.heap.size := HO.out.lt
  go_upto_region 2 with fail
  clear qO0 qO1 qO2 qO3 qO4 qO5 qO6 qOz qOl
  obtain ⟨LS, hLS⟩ : ∃ L : List Value, L = [.int .i64 s.term, .int .i64 s.stamp, .int .i64 s.next, .slice b1 m1 k1, .slice b2 m2 k2, .slice b3 m3 k3, .slice b4 m4 k4] := ⟨_, rfl⟩
  obtain ⟨W5, hWS⟩ : ∃ WS, WS = W4.setCells (N + 1 + 1) 0 LS := ⟨_, rfl⟩
  have hch := hWS
  rw [hLS] at hch
  simp only [World.setCells, Nat.zero_add, Nat.reduceAdd] at hch
  rw [← hch]
  clear hch
  have hkS := stC_blk HO.out LS (by rw [hLS]; rfl)
  have hfS := stC_fr (N + 1 + 1) LS 0 W4
  rw [← hWS] at hkS hfS
  rw [hLS] at hkS
  replace HB := Lib.hid (HB.out.trans (hfS.below HB.out.size (by have := HLON.out; simp; try omega)))
  replace HT := Lib.hid (HT0.out.below HB.out)
  replace HL := Lib.hid (HL0.out.below HB.out)
  replace HS := Lib.hid (HS0.out.below HB.out)
  replace HD := Lib.hid (HD0.out.below HB.out)
  replace HI := Lib.hid (HI0.out.below HB.out)
  replace HR := Lib.hid (show Blk W5 N #[.int .i64 s.term, .int .i64 s.stamp, .int .i64 s.next, .slice ta tn tc, .slice la ln lc, .slice sa sn sc, .slice da dn dc] 27 from (hfS.block _ HR.out.lt (by simp; try omega)).trans HR.out)
  replace HIB := Lib.hid (show Blk W5 (N + 1) #[.slice ia iN ic] 45 from (hfS.block _ HIB.out.lt (by simp; try omega)).trans HIB.out)
  replace O1 := Lib.hid (O1.out.fr hfS (by have := FO1.out; omega))
  replace O2 := Lib.hid (O2.out.fr hfS (by have := FO2.out; omega))
  replace O3 := Lib.hid (O3.out.fr hfS (by have := FO3.out; omega))
  replace O4 := Lib.hid (O4.out.fr hfS (by have := FO4.out; omega))
  replace HO := Lib.hid (show Blk W5 (N + 1 + 1) #[.int .i64 s.term, .int .i64 s.stamp, .int .i64 s.next, .slice b1 m1 k1, .slice b2 m2 k2, .slice b3 m3 k3, .slice b4 m4 k4] 27 from hkS)
  clear hWS hLS hkS hfS
  have qR0 : W5.cell? ⟨N, 0, none⟩ = some (.int .i64 s.term) := cell_at HR.out 0
  have qR1 : W5.cell? ⟨N, 1, none⟩ = some (.int .i64 s.stamp) := cell_at HR.out 1
  have qR2 : W5.cell? ⟨N, 2, none⟩ = some (.int .i64 s.next) := cell_at HR.out 2
  have qR3 : W5.cell? ⟨N, 3, none⟩ = some (.slice ta tn tc) := cell_at HR.out 3
  have qR4 : W5.cell? ⟨N, 4, none⟩ = some (.slice la ln lc) := cell_at HR.out 4
  have qR5 : W5.cell? ⟨N, 5, none⟩ = some (.slice sa sn sc) := cell_at HR.out 5
  have qR6 : W5.cell? ⟨N, 6, none⟩ = some (.slice da dn dc) := cell_at HR.out 6
  have qRz : ∀ j, W5.frozen? ⟨N, j, none⟩ = false := fun j => free_at HR.out j
  have qRl : N < W5.heap.size := HR.out.lt
  go_wp2_with fail
  go_at_call 16
  go_fit (HCK.out _ _ (HSV.out _ HT.out HL.out HS.out HD.out))
  rintro e W6 ⟨rfl, hB⟩
  clear qR0 qR1 qR2 qR3 qR4 qR5 qR6 qRz qRl
  replace HB := Lib.hid (HB.out.trans (hB.mono HB.out.size))
  replace HT := Lib.hid (HT0.out.below HB.out)
  replace HL := Lib.hid (HL0.out.below HB.out)
  replace HS := Lib.hid (HS0.out.below HB.out)
  replace HD := Lib.hid (HD0.out.below HB.out)
  replace HI := Lib.hid (HI0.out.below HB.out)
  replace HR := Lib.hid (HR.out.step hB)
  replace HIB := Lib.hid (HIB.out.step hB)
  replace HO := Lib.hid (HO.out.step hB)
  replace O1 := Lib.hid (O1.out.step hB)
  replace O2 := Lib.hid (O2.out.step hB)
  replace O3 := Lib.hid (O3.out.step hB)
  replace O4 := Lib.hid (O4.out.step hB)
  clear hB
  cases C
  · skip
    have qO0 : W6.cell? ⟨(N + 1 + 1), 0, none⟩ = some (.int .i64 s.term) := cell_at HO.out 0
    have qO1 : W6.cell? ⟨(N + 1 + 1), 1, none⟩ = some (.int .i64 s.stamp) := cell_at HO.out 1
    have qO2 : W6.cell? ⟨(N + 1 + 1), 2, none⟩ = some (.int .i64 s.next) := cell_at HO.out 2
    have qO3 : W6.cell? ⟨(N + 1 + 1), 3, none⟩ = some (.slice b1 m1 k1) := cell_at HO.out 3
    have qO4 : W6.cell? ⟨(N + 1 + 1), 4, none⟩ = some (.slice b2 m2 k2) := cell_at HO.out 4
    have qO5 : W6.cell? ⟨(N + 1 + 1), 5, none⟩ = some (.slice b3 m3 k3) := cell_at HO.out 5
    have qO6 : W6.cell? ⟨(N + 1 + 1), 6, none⟩ = some (.slice b4 m4 k4) := cell_at HO.out 6
    have qOz : ∀ j, W6.frozen? ⟨(N + 1 + 1), j, none⟩ = false := fun j => free_at HO.out j
    have qOl : (N + 1 + 1) < W6.heap.size := HO.out.lt
    go_wp2_with fail
    clear qO0 qO1 qO2 qO3 qO4 qO5 qO6 qOz qOl
    obtain ⟨LS, hLS⟩ : ∃ L : List Value, L = [.int .i64 s.term, .int .i64 s.stamp, .int .i64 s.next, .slice b1 m1 k1, .slice b2 m2 k2, .slice b3 m3 k3, .slice b4 m4 k4] := ⟨_, rfl⟩
    obtain ⟨W7, hWS⟩ : ∃ WS, WS = W6.setCells (N + 1 + 1) 0 LS := ⟨_, rfl⟩
    have hch := hWS
    rw [hLS] at hch
    simp only [World.setCells, Nat.zero_add, Nat.reduceAdd] at hch
    rw [← hch]
    clear hch
    have hkS := stC_blk HO.out LS (by rw [hLS]; rfl)
    have hfS := stC_fr (N + 1 + 1) LS 0 W6
    rw [← hWS] at hkS hfS
    rw [hLS] at hkS
    replace HB := Lib.hid (HB.out.trans (hfS.below HB.out.size (by have := HLON.out; simp; try omega)))
    replace HT := Lib.hid (HT0.out.below HB.out)
    replace HL := Lib.hid (HL0.out.below HB.out)
    replace HS := Lib.hid (HS0.out.below HB.out)
    replace HD := Lib.hid (HD0.out.below HB.out)
    replace HI := Lib.hid (HI0.out.below HB.out)
    replace HR := Lib.hid (show Blk W7 N #[.int .i64 s.term, .int .i64 s.stamp, .int .i64 s.next, .slice ta tn tc, .slice la ln lc, .slice sa sn sc, .slice da dn dc] 27 from (hfS.block _ HR.out.lt (by simp; try omega)).trans HR.out)
    replace HIB := Lib.hid (show Blk W7 (N + 1) #[.slice ia iN ic] 45 from (hfS.block _ HIB.out.lt (by simp; try omega)).trans HIB.out)
    replace O1 := Lib.hid (O1.out.fr hfS (by have := FO1.out; omega))
    replace O2 := Lib.hid (O2.out.fr hfS (by have := FO2.out; omega))
    replace O3 := Lib.hid (O3.out.fr hfS (by have := FO3.out; omega))
    replace O4 := Lib.hid (O4.out.fr hfS (by have := FO4.out; omega))
    replace HO := Lib.hid (show Blk W7 (N + 1 + 1) #[.int .i64 s.term, .int .i64 s.stamp, .int .i64 s.next, .slice b1 m1 k1, .slice b2 m2 k2, .slice b3 m3 k3, .slice b4 m4 k4] 27 from hkS)
    clear hWS hLS hkS hfS
    have qO0 : W7.cell? ⟨(N + 1 + 1), 0, none⟩ = some (.int .i64 s.term) := cell_at HO.out 0
    have qO1 : W7.cell? ⟨(N + 1 + 1), 1, none⟩ = some (.int .i64 s.stamp) := cell_at HO.out 1
    have qO2 : W7.cell? ⟨(N + 1 + 1), 2, none⟩ = some (.int .i64 s.next) := cell_at HO.out 2
    have qO3 : W7.cell? ⟨(N + 1 + 1), 3, none⟩ = some (.slice b1 m1 k1) := cell_at HO.out 3
    have qO4 : W7.cell? ⟨(N + 1 + 1), 4, none⟩ = some (.slice b2 m2 k2) := cell_at HO.out 4
    have qO5 : W7.cell? ⟨(N + 1 + 1), 5, none⟩ = some (.slice b3 m3 k3) := cell_at HO.out 5
    have qO6 : W7.cell? ⟨(N + 1 + 1), 6, none⟩ = some (.slice b4 m4 k4) := cell_at HO.out 6
    have qOz : ∀ j, W7.frozen? ⟨(N + 1 + 1), j, none⟩ = false := fun j => free_at HO.out j
    have qOl : (N + 1 + 1) < W7.heap.size := HO.out.lt
    exact ⟨.agg #[.int .i64 s.term, .int .i64 s.stamp, .int .i64 s.next, .slice b1 m1 k1, .slice b2 m2 k2, .slice b3 m3 k3, .slice b4 m4 k4], by simp [results, Try.results24, go_sem, qO0, qO1, qO2, qO3, qO4, qO5, qO6], _, rfl, (by rw [show R = s from HR9.out]; exact ⟨_, _, _, _, rfl, tn_tv O1.out.v, O2.out.v, O3.out.v, O4.out.v⟩), HB.out⟩
  · skip
    obtain rfl : R = sweptS ⟨s.term, s.stamp, s.next, s.ts, s.ls.filter fun y => !l.contains y.id, s.ss, s.ds⟩ := HR9.out
    have HZ9 := Lib.hid (sizeB_filter (fun y => !l.contains y.id) (HSZ.out rfl))
    have HF9 : Hid (fewS ⟨s.term, s.stamp, s.next, s.ts, s.ls.filter fun y => !l.contains y.id, s.ss, s.ds⟩) := Lib.hid ⟨HFEW.out.1, Nat.le_trans (List.length_filter_le _ _) HFEW.out.2.1, HFEW.out.2.2.1, HFEW.out.2.2.2⟩
    have qO0 : W6.cell? ⟨(N + 1 + 1), 0, none⟩ = some (.int .i64 s.term) := cell_at HO.out 0
    have qO1 : W6.cell? ⟨(N + 1 + 1), 1, none⟩ = some (.int .i64 s.stamp) := cell_at HO.out 1
    have qO2 : W6.cell? ⟨(N + 1 + 1), 2, none⟩ = some (.int .i64 s.next) := cell_at HO.out 2
    have qO3 : W6.cell? ⟨(N + 1 + 1), 3, none⟩ = some (.slice b1 m1 k1) := cell_at HO.out 3
    have qO4 : W6.cell? ⟨(N + 1 + 1), 4, none⟩ = some (.slice b2 m2 k2) := cell_at HO.out 4
    have qO5 : W6.cell? ⟨(N + 1 + 1), 5, none⟩ = some (.slice b3 m3 k3) := cell_at HO.out 5
    have qO6 : W6.cell? ⟨(N + 1 + 1), 6, none⟩ = some (.slice b4 m4 k4) := cell_at HO.out 6
    have qOz : ∀ j, W6.frozen? ⟨(N + 1 + 1), j, none⟩ = false := fun j => free_at HO.out j
    have qOl : (N + 1 + 1) < W6.heap.size := HO.out.lt
    have qIB0 : W6.cell? ⟨(N + 1), 0, none⟩ = some (.slice ia iN ic) := cell_at HIB.out 0
    have qIBz : ∀ j, W6.frozen? ⟨(N + 1), j, none⟩ = false := fun j => free_at HIB.out j
    have qIBl : (N + 1) < W6.heap.size := HIB.out.lt
    have HKN := Lib.hid (show ∀ X, Below W6.heap.size W6 X → X.cell? ⟨N + 1, 0, none⟩ = some (.slice ia iN ic) ∧ N + 1 < X.heap.size ∧ InV X (.slice ia iN ic) l from fun X hX => ⟨(hX.cell (p := ⟨N + 1, 0, none⟩) HIB.out.lt).trans (cell_at HIB.out 0), Nat.lt_of_lt_of_le HIB.out.lt hX.size, HI.out.below hX⟩)
    have HWO := Lib.hid (lwithout_any _ #[.pointer (some ⟨N + 1, 0, none⟩)] (fun x => l.contains x.id) _ s.ls W6 W6 O2.out.v ent_ex2 (fun x X hx hX => ex2_any x _ l (N + 1) X (HKN.out X hX).1 (HKN.out X hX).2.1 (HKN.out X hX).2.2) (Below.refl _ _) (by rw [← Hln.out]; exact f2))
    go_wp2_with fail
    go_at_call 53
    go_fit HWO.out
    rintro e W7 ⟨v5, rfl, hv5, hB⟩
    clear qO0 qO1 qO2 qO3 qO4 qO5 qO6 qOz qOl qIB0 qIBz qIBl
    replace HB := Lib.hid (HB.out.trans (hB.mono HB.out.size))
    replace HT := Lib.hid (HT0.out.below HB.out)
    replace HL := Lib.hid (HL0.out.below HB.out)
    replace HS := Lib.hid (HS0.out.below HB.out)
    replace HD := Lib.hid (HD0.out.below HB.out)
    replace HI := Lib.hid (HI0.out.below HB.out)
    replace HR := Lib.hid (HR.out.step hB)
    replace HIB := Lib.hid (HIB.out.step hB)
    replace HO := Lib.hid (HO.out.step hB)
    replace O1 := Lib.hid (O1.out.step hB)
    replace O2 := Lib.hid (O2.out.step hB)
    replace O3 := Lib.hid (O3.out.step hB)
    replace O4 := Lib.hid (O4.out.step hB)
    clear hB
    obtain ⟨b5, m5, k5, rfl, Hb5, x5, y5⟩ := hv5.sh
    have HQ := Lib.hid hv5
    clear hv5 HWO HKN
    have qO0 : W7.cell? ⟨(N + 1 + 1), 0, none⟩ = some (.int .i64 s.term) := cell_at HO.out 0
    have qO1 : W7.cell? ⟨(N + 1 + 1), 1, none⟩ = some (.int .i64 s.stamp) := cell_at HO.out 1
    have qO2 : W7.cell? ⟨(N + 1 + 1), 2, none⟩ = some (.int .i64 s.next) := cell_at HO.out 2
    have qO3 : W7.cell? ⟨(N + 1 + 1), 3, none⟩ = some (.slice b1 m1 k1) := cell_at HO.out 3
    have qO4 : W7.cell? ⟨(N + 1 + 1), 4, none⟩ = some (.slice b2 m2 k2) := cell_at HO.out 4
    have qO5 : W7.cell? ⟨(N + 1 + 1), 5, none⟩ = some (.slice b3 m3 k3) := cell_at HO.out 5
    have qO6 : W7.cell? ⟨(N + 1 + 1), 6, none⟩ = some (.slice b4 m4 k4) := cell_at HO.out 6
    have qOz : ∀ j, W7.frozen? ⟨(N + 1 + 1), j, none⟩ = false := fun j => free_at HO.out j
    have qOl : (N + 1 + 1) < W7.heap.size := HO.out.lt
    go_upto_region 6 with fail
    clear qO0 qO1 qO2 qO3 qO4 qO5 qO6 qOz qOl
    obtain ⟨W8, hWS⟩ : ∃ WS, WS = W7.setCell ⟨(N + 1 + 1), 4, none⟩ (.slice b5 m5 k5) := ⟨_, rfl⟩
    rw [← hWS]
    have hfS : Fr [(N + 1 + 1)] W7 W8 := by rw [hWS]; exact (Fr.refl _ _).setCell _ (.inl (by simp)) _
    have hkS : Blk W8 (N + 1 + 1) #[.int .i64 s.term, .int .i64 s.stamp, .int .i64 s.next, .slice b1 m1 k1, .slice b5 m5 k5, .slice b3 m3 k3, .slice b4 m4 k4] 27 := by rw [hWS]; exact HO.out.set 4 _
    replace HB := Lib.hid (HB.out.trans (hfS.below HB.out.size (by have := HLON.out; simp; try omega)))
    replace HT := Lib.hid (HT0.out.below HB.out)
    replace HL := Lib.hid (HL0.out.below HB.out)
    replace HS := Lib.hid (HS0.out.below HB.out)
    replace HD := Lib.hid (HD0.out.below HB.out)
    replace HI := Lib.hid (HI0.out.below HB.out)
    replace HR := Lib.hid (show Blk W8 N #[.int .i64 s.term, .int .i64 s.stamp, .int .i64 s.next, .slice ta tn tc, .slice la ln lc, .slice sa sn sc, .slice da dn dc] 27 from (hfS.block _ HR.out.lt (by simp; try omega)).trans HR.out)
    replace HIB := Lib.hid (show Blk W8 (N + 1) #[.slice ia iN ic] 45 from (hfS.block _ HIB.out.lt (by simp; try omega)).trans HIB.out)
    replace O1 := Lib.hid (O1.out.fr hfS (by have := FO1.out; omega))
    replace O2 := Lib.hid (O2.out.fr hfS (by have := FO2.out; omega))
    replace O3 := Lib.hid (O3.out.fr hfS (by have := FO3.out; omega))
    replace O4 := Lib.hid (O4.out.fr hfS (by have := FO4.out; omega))
    replace HQ := Lib.hid (HQ.out.fr HO.out hfS)
    replace HO := Lib.hid (show Blk W8 (N + 1 + 1) #[.int .i64 s.term, .int .i64 s.stamp, .int .i64 s.next, .slice b1 m1 k1, .slice b5 m5 k5, .slice b3 m3 k3, .slice b4 m4 k4] 27 from hkS)
    clear hWS hfS hkS
    have qO0 : W8.cell? ⟨(N + 1 + 1), 0, none⟩ = some (.int .i64 s.term) := cell_at HO.out 0
    have qO1 : W8.cell? ⟨(N + 1 + 1), 1, none⟩ = some (.int .i64 s.stamp) := cell_at HO.out 1
    have qO2 : W8.cell? ⟨(N + 1 + 1), 2, none⟩ = some (.int .i64 s.next) := cell_at HO.out 2
    have qO3 : W8.cell? ⟨(N + 1 + 1), 3, none⟩ = some (.slice b1 m1 k1) := cell_at HO.out 3
    have qO4 : W8.cell? ⟨(N + 1 + 1), 4, none⟩ = some (.slice b5 m5 k5) := cell_at HO.out 4
    have qO5 : W8.cell? ⟨(N + 1 + 1), 5, none⟩ = some (.slice b3 m3 k3) := cell_at HO.out 5
    have qO6 : W8.cell? ⟨(N + 1 + 1), 6, none⟩ = some (.slice b4 m4 k4) := cell_at HO.out 6
    have qOz : ∀ j, W8.frozen? ⟨(N + 1 + 1), j, none⟩ = false := fun j => free_at HO.out j
    have qOl : (N + 1 + 1) < W8.heap.size := HO.out.lt
    go_wp2_with fail
    clear qO0 qO1 qO2 qO3 qO4 qO5 qO6 qOz qOl
    obtain ⟨LS, hLS⟩ : ∃ L : List Value, L = [.int .i64 s.term, .int .i64 s.stamp, .int .i64 s.next, .slice b1 m1 k1, .slice b5 m5 k5, .slice b3 m3 k3, .slice b4 m4 k4] := ⟨_, rfl⟩
    obtain ⟨W9, hWS⟩ : ∃ WS, WS = W8.setCells (N + 1 + 1) 0 LS := ⟨_, rfl⟩
    have hch := hWS
    rw [hLS] at hch
    simp only [World.setCells, Nat.zero_add, Nat.reduceAdd] at hch
    rw [← hch]
    clear hch
    have hkS := stC_blk HO.out LS (by rw [hLS]; rfl)
    have hfS := stC_fr (N + 1 + 1) LS 0 W8
    rw [← hWS] at hkS hfS
    rw [hLS] at hkS
    replace HB := Lib.hid (HB.out.trans (hfS.below HB.out.size (by have := HLON.out; simp; try omega)))
    replace HT := Lib.hid (HT0.out.below HB.out)
    replace HL := Lib.hid (HL0.out.below HB.out)
    replace HS := Lib.hid (HS0.out.below HB.out)
    replace HD := Lib.hid (HD0.out.below HB.out)
    replace HI := Lib.hid (HI0.out.below HB.out)
    replace HR := Lib.hid (show Blk W9 N #[.int .i64 s.term, .int .i64 s.stamp, .int .i64 s.next, .slice ta tn tc, .slice la ln lc, .slice sa sn sc, .slice da dn dc] 27 from (hfS.block _ HR.out.lt (by simp; try omega)).trans HR.out)
    replace HIB := Lib.hid (show Blk W9 (N + 1) #[.slice ia iN ic] 45 from (hfS.block _ HIB.out.lt (by simp; try omega)).trans HIB.out)
    replace O1 := Lib.hid (O1.out.fr hfS (by have := FO1.out; omega))
    replace O2 := Lib.hid (O2.out.fr hfS (by have := FO2.out; omega))
    replace O3 := Lib.hid (O3.out.fr hfS (by have := FO3.out; omega))
    replace O4 := Lib.hid (O4.out.fr hfS (by have := FO4.out; omega))
    replace HQ := Lib.hid (HQ.out.fr HO.out hfS)
    replace HO := Lib.hid (show Blk W9 (N + 1 + 1) #[.int .i64 s.term, .int .i64 s.stamp, .int .i64 s.next, .slice b1 m1 k1, .slice b5 m5 k5, .slice b3 m3 k3, .slice b4 m4 k4] 27 from hkS)
    clear hWS hLS hkS hfS
    refine leaves_cons (f := 58) (args := #[.pointer (some ⟨(N + 1 + 1), 0, none⟩)]) (by simp) (by simp [go_sem]) ?_
    refine (expire1_d .returning _ _ _ _ (⟨s.term, s.stamp, s.next, s.ts, s.ls.filter fun y => !l.contains y.id, s.ss, s.ds⟩) (N + 1 + 1) _ HO.out (tn_tv O1.out.v) HQ.out O3.out.v O4.out.v HF9.out HZ9.out).mono ?_
    rintro e u9 W10 ⟨rfl, vt9, rfl, hO9, hQ9, hF9⟩
    have z0 : W10.cell? ⟨(N + 1 + 1), 0, none⟩ = some (.int .i64 s.term) := cell_at hO9 0
    have z1 : W10.cell? ⟨(N + 1 + 1), 1, none⟩ = some (.int .i64 s.stamp) := cell_at hO9 1
    have z2 : W10.cell? ⟨(N + 1 + 1), 2, none⟩ = some (.int .i64 s.next) := cell_at hO9 2
    have z3 : W10.cell? ⟨(N + 1 + 1), 3, none⟩ = some (vt9) := cell_at hO9 3
    have z4 : W10.cell? ⟨(N + 1 + 1), 4, none⟩ = some (.slice b5 m5 k5) := cell_at hO9 4
    have z5 : W10.cell? ⟨(N + 1 + 1), 5, none⟩ = some (.slice b3 m3 k3) := cell_at hO9 5
    have z6 : W10.cell? ⟨(N + 1 + 1), 6, none⟩ = some (.slice b4 m4 k4) := cell_at hO9 6
    exact ⟨.agg #[.int .i64 s.term, .int .i64 s.stamp, .int .i64 s.next, vt9, .slice b5 m5 k5, .slice b3 m3 k3, .slice b4 m4 k4], by simp [results, Try.results24, go_sem, z0, z1, z2, z3, z4, z5, z6], _, rfl, ⟨_, _, _, _, rfl, hQ9, HQ.out.fr HO.out hF9, (O3.out.fr hF9 (by have := FO3.out; omega)).v, (O4.out.fr hF9 (by have := FO4.out; omega)).v⟩, HB.out.trans (hF9.below HB.out.size (by have := HLON.out; simp; omega))⟩
end Go.Proofs.Ytfgnjpdlchimpaa
