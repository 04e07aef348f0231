/-
  Texts of this claim, put together: LgR2, LgSm, LgWk, LgIv.
-/
import Derived.Test.YtfgnjpdlchimpaaLc1
import Derived.Test.YtfgnjpdlchimpaaLc3
import Derived.Test.YtfgnjpdlchimpaaLc4
import Derived.Test.YtfgnjpdlchimpaaLc5
import Derived.Deep.DeepFit
import Derived.Lib.AppendZeros
import Derived.Defers
namespace Go.Proofs.Ytfgnjpdlchimpaa
open Go.RowKit
set_option linter.unusedSimpArgs false
set_option linter.unusedVariables false

theorem lesR_gt : ∀ (L : List LeE) (ts : List TnE) (next last : Int), lesR ts next last L = true → ∀ z ∈ L, last < z.id
  | [], _, _, _, _ => fun z h => absurd h (by simp)
  | y :: r, ts, next, last, h => by
    unfold lesR at h
    simp only [Bool.and_eq_true, decide_eq_true_eq] at h
    intro z hz
    rcases List.mem_cons.1 hz with rfl | hz
    · exact h.1.1.1
    · have := lesR_gt r ts next y.id h.2 z hz
      omega
theorem spL_none (key sp : Int) : ∀ (L : List LeE), (∀ z ∈ L, key < z.id) → spL key sp L = L
  | [], _ => rfl
  | y :: r, h => by
    have h0 := h y (by simp)
    have ih := spL_none key sp r (fun z hz => h z (by simp [hz]))
    unfold spL at ih ⊢
    rw [List.map_cons, ih, if_neg (by omega)]
theorem spL_set : ∀ (L : List LeE) (ts : List TnE) (next last sp : Int) (i : Nat) (x : LeE), lesR ts next last L = true → L[i]? = some x → spL x.id sp L = L.set i ⟨x.id, x.tenant, x.shaper, x.epoch, x.number, x.size, sp⟩
  | [], _, _, _, _, i, x, _, h => by simp at h
  | y :: r, ts, next, last, sp, 0, x, hl, h => by
    simp at h
    subst h
    unfold lesR at hl
    simp only [Bool.and_eq_true, decide_eq_true_eq] at hl
    have ih := spL_none y.id sp r (lesR_gt r ts next y.id hl.2)
    unfold spL at ih ⊢
    rw [List.map_cons, ih, if_pos rfl]
    rfl
  | y :: r, ts, next, last, sp, i + 1, x, hl, h => by
    unfold lesR at hl
    simp only [Bool.and_eq_true, decide_eq_true_eq] at hl
    have h' : r[i]? = some x := by simpa using h
    have hgt := lesR_gt r ts next y.id hl.2 x (List.mem_of_getElem? h')
    have ih := spL_set r ts next y.id sp i x hl.2 h'
    unfold spL at ih ⊢
    rw [List.map_cons, ih, if_neg (by omega)]
    rfl
theorem bkL_len (ts : List TnE) (te out left : Int) : (bkL ts te out left).length ≤ ts.length + 1 := by
  unfold bkL
  dsimp only
  split
  · omega
  · exact setL_len _ _
theorem lesB_R {s : StE} (h : lesB s = true) : lesR s.ts s.next 0 s.ls = true := by
  unfold lesB at h
  simp only [Bool.and_eq_true] at h
  exact h.1.1.1
theorem sizeB_set {L : List LeE} {i : Nat} {x : LeE} (sp : Int) (h : sizeB L) (hx : L[i]? = some x) (h1 : x.spent ≤ sp) (h2 : sp < x.size) : sizeB (L.set i ⟨x.id, x.tenant, x.shaper, x.epoch, x.number, x.size, sp⟩) := fun y hy => by
  rcases List.mem_or_eq_of_mem_set hy with hy | rfl
  · exact h y hy
  · have := h x (List.mem_of_getElem? hx)
    show 1 ≤ x.size ∧ x.size ≤ 1000000 ∧ 0 ≤ sp ∧ sp < x.size
    omega
theorem rpE_at {s : StE} (sh ep le sp : Int) {x : LeE} (hc : chkS s = true) (hx : fndL le s.ls = some x) : rpE s sh ep le sp = if x.shaper = sh ∧ x.epoch = ep then (if sp < x.spent ∨ x.size < sp then 2 else 0) else 180 := by unfold rpE; rw [hc, hx]; rfl
theorem rpE_no {s : StE} (sh ep le sp : Int) (hc : chkS s = true) (hx : fndL le s.ls = none) : rpE s sh ep le sp = 180 := by unfold rpE; rw [hc, hx]; rfl
set_option maxRecDepth 100000 in
set_option maxHeartbeats 16000000 in
theorem report_any (v : Value) (s : StE) (sh ep le sp : Int) (cl : Bool) (w : World) (h : SV w v s) (hf : fewS s) (hsp : -9223372036854775808 ≤ sp ∧ sp ≤ 9223372036854775807) :
    Calls Try.prog 22 #[v, .int .i64 sh, .int .i64 ep, .int .i64 le, .int .i64 sp, .bool cl] w fun e w' => ∃ v', e = .returned (.tuple #[v', .int .i64 (rpE s sh ep le sp)]) ∧ SV w' v' (rpS s sh ep le sp cl) ∧ Below w.heap.size w w' := by
  have HFEW := Lib.hid hf
  obtain ⟨f1, f2, f3, f4⟩ := hf
  obtain ⟨vt, vl, vs, vd, rfl, ht, hl, hs, hd⟩ := h
  obtain ⟨ta, tn, tc, rfl, Htn, tn1, tn2⟩ := ht.sh
  obtain ⟨la, ln, lc, rfl, Hln, ln1, ln2⟩ := hl.sh
  obtain ⟨sa, sn, sc, rfl, Hsn, sn1, sn2⟩ := hs.sh
  obtain ⟨da, dn, dc, rfl, Hdn, dn1, dn2⟩ := hd.sh
  have HT0 := Lib.hid ht
  have HL0 := Lib.hid hl
  have HS0 := Lib.hid hs
  have HD0 := Lib.hid hd
  have HT := Lib.hid ht
  have HL := Lib.hid hl
  have HS := Lib.hid hs
  have HD := Lib.hid hd
  clear ht hl hs hd
  rw [← Hln.out] at f2
  rw [← Htn.out] at f1
  have HSV : Hid (∀ W, TV W (.slice ta tn tc) s.ts → LeV W (.slice la ln lc) s.ls → SeV W (.slice sa sn sc) s.ss → DkV W (.slice da dn dc) s.ds → SV W (.agg #[.int .i64 s.term, .int .i64 s.stamp, .int .i64 s.next, .slice ta tn tc, .slice la ln lc, .slice sa sn sc, .slice da dn dc]) s) := Lib.hid (fun W h1 h2 h3 h4 => ⟨_, _, _, _, rfl, h1, h2, h3, h4⟩)
  have HCK := Lib.hid (fun W v (h : SV W v s) => checkS_any v s W h HFEW.out)
  have HTW := Lib.hid (fun W v (h : SV W v s) => twinO_any v s W h HFEW.out)
  obtain ⟨C, hC⟩ : ∃ C, C = chkS s := ⟨_, rfl⟩
  have HSZ := Lib.hid (fun h : C = true => lesB_size (s := s) (by rw [hC] at h; unfold chkS at h; simp only [Bool.and_eq_true] at h; exact h.1.2))
  rw [← hC] at HCK
  have HCE := Lib.hid hC
  clear hC
  obtain ⟨R, hR⟩ : ∃ R, R = rpS s sh ep le sp cl := ⟨_, rfl⟩
  rw [← hR]
  unfold rpS at hR
  obtain ⟨E, hE⟩ : ∃ E, E = rpE s sh ep le sp := ⟨_, rfl⟩
  rw [← hE]
  rw [← HCE.out, ← hE] at hR
  have HR9 := Lib.hid hR
  have HE9 := Lib.hid hE
  have HEF := Lib.hid (fun h : C = false => show rpE s sh ep le sp = 2 by unfold rpE; rw [← HCE.out, h]; rfl)
  have HCP := Lib.hid (fun h : C = true => chkS_parts (HCE.out.symm.trans h))
  have HPL := Lib.hid (fun W (h : LeV W (.slice la ln lc) s.ls) => place_le _ s.ls le W h)
  rw [← Hln.out] at HPL
  clear hR hE
  have HB : Hid (Below w.heap.size w w) := Lib.hid (Below.refl _ _)
  have hmf : ∀ (fn : Fn) (first cap : Array Value) (w : World), (Instr.makeFunc fn first cap).run Try.prog w = .ok (.func fn first cap) w := fun _ _ _ _ => rfl
  go_enter_defers Try.func22, Try.ntmps22
  go_upto_region 1 with fail
  obtain ⟨N, hN⟩ : ∃ n0, n0 = w.heap.size := ⟨_, rfl⟩
  have HLON : Hid (w.heap.size ≤ N) := Lib.hid (by have := HB.out.size; omega)
  obtain ⟨W1, hA0⟩ : ∃ W0, W0 = w.alloc (.cells #[.int .i64 s.term, .int .i64 s.stamp, .int .i64 s.next, .slice ta tn tc, .slice la ln lc, .slice sa sn sc, .slice da dn dc] 27) := ⟨_, rfl⟩
  have hB : Below w.heap.size w W1 := by rw [hA0]; exact (Below.refl _ _).alloc (Nat.le_refl _) _
  have hS0 : W1.heap.size = N + 1 := by rw [hA0]; simp [← hN]
  have HR := Lib.hid (show Blk W1 N #[.int .i64 s.term, .int .i64 s.stamp, .int .i64 s.next, .slice ta tn tc, .slice la ln lc, .slice sa sn sc, .slice da dn dc] 27 by rw [hA0, hN]; exact blk_new _ _ _)
  replace HB := Lib.hid (HB.out.trans (hB.mono HB.out.size))
  replace HT := Lib.hid (HT0.out.below HB.out)
  replace HL := Lib.hid (HL0.out.below HB.out)
  replace HS := Lib.hid (HS0.out.below HB.out)
  replace HD := Lib.hid (HD0.out.below HB.out)
  clear hB
  obtain ⟨W2, hA1⟩ : ∃ W0, W0 = W1.alloc (.cells #[.int .i64 le] 3) := ⟨_, rfl⟩
  have hB : Below W1.heap.size W1 W2 := by rw [hA1]; exact (Below.refl _ _).alloc (Nat.le_refl _) _
  have hS1 : W2.heap.size = N + 2 := by rw [hA1]; simp [hS0]
  have HKB := Lib.hid (show Blk W2 (N + 1) #[.int .i64 le] 3 by rw [hA1, ← hS0]; exact blk_new _ _ _)
  replace HB := Lib.hid (HB.out.trans (hB.mono HB.out.size))
  replace HT := Lib.hid (HT0.out.below HB.out)
  replace HL := Lib.hid (HL0.out.below HB.out)
  replace HS := Lib.hid (HS0.out.below HB.out)
  replace HD := Lib.hid (HD0.out.below HB.out)
  replace HR := Lib.hid (HR.out.step hB)
  clear hB
  obtain ⟨W3, hA2⟩ : ∃ W0, W0 = W2.alloc (.cells #[.int .i64 0, .int .i64 0, .int .i64 0, .slice none 0 0, .slice none 0 0, .slice none 0 0, .slice none 0 0] 27) := ⟨_, rfl⟩
  have hB : Below W2.heap.size W2 W3 := by rw [hA2]; exact (Below.refl _ _).alloc (Nat.le_refl _) _
  have hS2 : W3.heap.size = N + 3 := by rw [hA2]; simp [hS1]
  have HO := Lib.hid (show Blk W3 (N + 1 + 1) #[.int .i64 0, .int .i64 0, .int .i64 0, .slice none 0 0, .slice none 0 0, .slice none 0 0, .slice none 0 0] 27 by rw [hA2, ← hS1]; exact blk_new _ _ _)
  replace HB := Lib.hid (HB.out.trans (hB.mono HB.out.size))
  replace HT := Lib.hid (HT0.out.below HB.out)
  replace HL := Lib.hid (HL0.out.below HB.out)
  replace HS := Lib.hid (HS0.out.below HB.out)
  replace HD := Lib.hid (HD0.out.below HB.out)
  replace HR := Lib.hid (HR.out.step hB)
  replace HKB := Lib.hid (HKB.out.step hB)
  clear hB
  have HSN := Lib.hid hS2
  rw [← hN, ← hA0, ← hA1, ← hA2]
  clear hA2 hA1 hA0 hN hS0 hS1 hS2
  have qR0 : W3.cell? ⟨N, 0, none⟩ = some (.int .i64 s.term) := cell_at HR.out 0
  have qR1 : W3.cell? ⟨N, 1, none⟩ = some (.int .i64 s.stamp) := cell_at HR.out 1
  have qR2 : W3.cell? ⟨N, 2, none⟩ = some (.int .i64 s.next) := cell_at HR.out 2
  have qR3 : W3.cell? ⟨N, 3, none⟩ = some (.slice ta tn tc) := cell_at HR.out 3
  have qR4 : W3.cell? ⟨N, 4, none⟩ = some (.slice la ln lc) := cell_at HR.out 4
  have qR5 : W3.cell? ⟨N, 5, none⟩ = some (.slice sa sn sc) := cell_at HR.out 5
  have qR6 : W3.cell? ⟨N, 6, none⟩ = some (.slice da dn dc) := cell_at HR.out 6
  have qRz : ∀ j, W3.frozen? ⟨N, j, none⟩ = false := fun j => free_at HR.out j
  have qRl : N < W3.heap.size := HR.out.lt
  have FOO := Lib.hid HO.out.lt
  have HB0L : Hid (w.heap.size ≤ W3.heap.size) := Lib.hid HB.out.size
  go_wp2_with fail
  go_at_call 36
  go_fit (HTW.out _ _ (HSV.out _ HT.out HL.out HS.out HD.out))
  rintro e W4 ⟨v2, rfl, hso, hB⟩
  clear qR0 qR1 qR2 qR3 qR4 qR5 qR6 qRz qRl
  replace HB := Lib.hid (HB.out.trans (hB.mono HB.out.size))
  replace HT := Lib.hid (HT0.out.below HB.out)
  replace HL := Lib.hid (HL0.out.below HB.out)
  replace HS := Lib.hid (HS0.out.below HB.out)
  replace HD := Lib.hid (HD0.out.below HB.out)
  replace HR := Lib.hid (HR.out.step hB)
  replace HKB := Lib.hid (HKB.out.step hB)
  replace HO := Lib.hid (HO.out.step hB)
  clear hB
  obtain ⟨vt2, vl2, vs2, vd2, ot, ol, os, od, rfl, o1, o2, o3, o4⟩ := hso
  obtain ⟨b1, m1, k1, rfl, Hb1, x1, y1⟩ := o1.v.sh
  obtain ⟨b2, m2, k2, rfl, Hb2, x2, y2⟩ := o2.v.sh
  obtain ⟨b3, m3, k3, rfl, Hb3, x3, y3⟩ := o3.v.sh
  obtain ⟨b4, m4, k4, rfl, Hb4, x4, y4⟩ := o4.v.sh
  have O1 := Lib.hid o1
  have FO1 := Lib.hid (show (N + 1 + 1) < W3.heap.size from FOO.out)
  have O2 := Lib.hid o2
  have FO2 := Lib.hid (show (N + 1 + 1) < W3.heap.size from FOO.out)
  have O3 := Lib.hid o3
  have FO3 := Lib.hid (show (N + 1 + 1) < W3.heap.size from FOO.out)
  have O4 := Lib.hid o4
  have FO4 := Lib.hid (show (N + 1 + 1) < W3.heap.size from FOO.out)
  clear o1 o2 o3 o4
  have qO0 : W4.cell? ⟨(N + 1 + 1), 0, none⟩ = some (.int .i64 0) := cell_at HO.out 0
  have qO1 : W4.cell? ⟨(N + 1 + 1), 1, none⟩ = some (.int .i64 0) := cell_at HO.out 1
  have qO2 : W4.cell? ⟨(N + 1 + 1), 2, none⟩ = some (.int .i64 0) := cell_at HO.out 2
  have qO3 : W4.cell? ⟨(N + 1 + 1), 3, none⟩ = some (.slice none 0 0) := cell_at HO.out 3
  have qO4 : W4.cell? ⟨(N + 1 + 1), 4, none⟩ = some (.slice none 0 0) := cell_at HO.out 4
  have qO5 : W4.cell? ⟨(N + 1 + 1), 5, none⟩ = some (.slice none 0 0) := cell_at HO.out 5
  have qO6 : W4.cell? ⟨(N + 1 + 1), 6, none⟩ = some (.slice none 0 0) := cell_at HO.out 6
  have qOz : ∀ j, W4.frozen? ⟨(N + 1 + 1), j, none⟩ = false := fun j => free_at HO.out j
  have qOl : (N + 1 + 1) < W4.heap.size := HO.out.lt
  go_upto_region 2 with fail
  clear qO0 qO1 qO2 qO3 qO4 qO5 qO6 qOz qOl
  obtain ⟨LS, hLS⟩ : ∃ L : List Value, L = [.int .i64 s.term, .int .i64 s.stamp, .int .i64 s.next, .slice b1 m1 k1, .slice b2 m2 k2, .slice b3 m3 k3, .slice b4 m4 k4] := ⟨_, rfl⟩
  obtain ⟨W5, hWS⟩ : ∃ WS, WS = W4.setCells (N + 1 + 1) 0 LS := ⟨_, rfl⟩
  have hch := hWS
  rw [hLS] at hch
  simp only [World.setCells, Nat.zero_add, Nat.reduceAdd] at hch
  rw [← hch]
  clear hch
  have hkS := stC_blk HO.out LS (by rw [hLS]; rfl)
  have hfS := stC_fr (N + 1 + 1) LS 0 W4
  rw [← hWS] at hkS hfS
  rw [hLS] at hkS
  replace HB := Lib.hid (HB.out.trans (hfS.below HB.out.size (by have := HLON.out; simp; try omega)))
  replace HT := Lib.hid (HT0.out.below HB.out)
  replace HL := Lib.hid (HL0.out.below HB.out)
  replace HS := Lib.hid (HS0.out.below HB.out)
  replace HD := Lib.hid (HD0.out.below HB.out)
  replace HR := Lib.hid (show Blk W5 N #[.int .i64 s.term, .int .i64 s.stamp, .int .i64 s.next, .slice ta tn tc, .slice la ln lc, .slice sa sn sc, .slice da dn dc] 27 from (hfS.block _ HR.out.lt (by simp; try omega)).trans HR.out)
  replace HKB := Lib.hid (show Blk W5 (N + 1) #[.int .i64 le] 3 from (hfS.block _ HKB.out.lt (by simp; try omega)).trans HKB.out)
  replace O1 := Lib.hid (O1.out.fr hfS (by have := FO1.out; omega))
  replace O2 := Lib.hid (O2.out.fr hfS (by have := FO2.out; omega))
  replace O3 := Lib.hid (O3.out.fr hfS (by have := FO3.out; omega))
  replace O4 := Lib.hid (O4.out.fr hfS (by have := FO4.out; omega))
  replace HO := Lib.hid (show Blk W5 (N + 1 + 1) #[.int .i64 s.term, .int .i64 s.stamp, .int .i64 s.next, .slice b1 m1 k1, .slice b2 m2 k2, .slice b3 m3 k3, .slice b4 m4 k4] 27 from hkS)
  clear hWS hLS hkS hfS
  have qR0 : W5.cell? ⟨N, 0, none⟩ = some (.int .i64 s.term) := cell_at HR.out 0
  have qR1 : W5.cell? ⟨N, 1, none⟩ = some (.int .i64 s.stamp) := cell_at HR.out 1
  have qR2 : W5.cell? ⟨N, 2, none⟩ = some (.int .i64 s.next) := cell_at HR.out 2
  have qR3 : W5.cell? ⟨N, 3, none⟩ = some (.slice ta tn tc) := cell_at HR.out 3
  have qR4 : W5.cell? ⟨N, 4, none⟩ = some (.slice la ln lc) := cell_at HR.out 4
  have qR5 : W5.cell? ⟨N, 5, none⟩ = some (.slice sa sn sc) := cell_at HR.out 5
  have qR6 : W5.cell? ⟨N, 6, none⟩ = some (.slice da dn dc) := cell_at HR.out 6
  have qRz : ∀ j, W5.frozen? ⟨N, j, none⟩ = false := fun j => free_at HR.out j
  have qRl : N < W5.heap.size := HR.out.lt
  go_wp2_with fail
  go_at_call 16
  go_fit (HCK.out _ _ (HSV.out _ HT.out HL.out HS.out HD.out))
  rintro e W6 ⟨rfl, hB⟩
  clear qR0 qR1 qR2 qR3 qR4 qR5 qR6 qRz qRl
  replace HB := Lib.hid (HB.out.trans (hB.mono HB.out.size))
  replace HT := Lib.hid (HT0.out.below HB.out)
  replace HL := Lib.hid (HL0.out.below HB.out)
  replace HS := Lib.hid (HS0.out.below HB.out)
  replace HD := Lib.hid (HD0.out.below HB.out)
  replace HR := Lib.hid (HR.out.step hB)
  replace HKB := Lib.hid (HKB.out.step hB)
  replace HO := Lib.hid (HO.out.step hB)
  replace O1 := Lib.hid (O1.out.step hB)
  replace O2 := Lib.hid (O2.out.step hB)
  replace O3 := Lib.hid (O3.out.step hB)
  replace O4 := Lib.hid (O4.out.step hB)
  clear hB
  cases C
  · skip
    obtain rfl : E = 2 := HE9.out.trans (HEF.out rfl)
    have qO0 : W6.cell? ⟨(N + 1 + 1), 0, none⟩ = some (.int .i64 s.term) := cell_at HO.out 0
    have qO1 : W6.cell? ⟨(N + 1 + 1), 1, none⟩ = some (.int .i64 s.stamp) := cell_at HO.out 1
    have qO2 : W6.cell? ⟨(N + 1 + 1), 2, none⟩ = some (.int .i64 s.next) := cell_at HO.out 2
    have qO3 : W6.cell? ⟨(N + 1 + 1), 3, none⟩ = some (.slice b1 m1 k1) := cell_at HO.out 3
    have qO4 : W6.cell? ⟨(N + 1 + 1), 4, none⟩ = some (.slice b2 m2 k2) := cell_at HO.out 4
    have qO5 : W6.cell? ⟨(N + 1 + 1), 5, none⟩ = some (.slice b3 m3 k3) := cell_at HO.out 5
    have qO6 : W6.cell? ⟨(N + 1 + 1), 6, none⟩ = some (.slice b4 m4 k4) := cell_at HO.out 6
    have qOz : ∀ j, W6.frozen? ⟨(N + 1 + 1), j, none⟩ = false := fun j => free_at HO.out j
    have qOl : (N + 1 + 1) < W6.heap.size := HO.out.lt
    go_wp2_with fail
    clear qO0 qO1 qO2 qO3 qO4 qO5 qO6 qOz qOl
    obtain ⟨LS, hLS⟩ : ∃ L : List Value, L = [.int .i64 s.term, .int .i64 s.stamp, .int .i64 s.next, .slice b1 m1 k1, .slice b2 m2 k2, .slice b3 m3 k3, .slice b4 m4 k4] := ⟨_, rfl⟩
    obtain ⟨W7, hWS⟩ : ∃ WS, WS = W6.setCells (N + 1 + 1) 0 LS := ⟨_, rfl⟩
    have hch := hWS
    rw [hLS] at hch
    simp only [World.setCells, Nat.zero_add, Nat.reduceAdd] at hch
    rw [← hch]
    clear hch
    have hkS := stC_blk HO.out LS (by rw [hLS]; rfl)
    have hfS := stC_fr (N + 1 + 1) LS 0 W6
    rw [← hWS] at hkS hfS
    rw [hLS] at hkS
    replace HB := Lib.hid (HB.out.trans (hfS.below HB.out.size (by have := HLON.out; simp; try omega)))
    replace HT := Lib.hid (HT0.out.below HB.out)
    replace HL := Lib.hid (HL0.out.below HB.out)
    replace HS := Lib.hid (HS0.out.below HB.out)
    replace HD := Lib.hid (HD0.out.below HB.out)
    replace HR := Lib.hid (show Blk W7 N #[.int .i64 s.term, .int .i64 s.stamp, .int .i64 s.next, .slice ta tn tc, .slice la ln lc, .slice sa sn sc, .slice da dn dc] 27 from (hfS.block _ HR.out.lt (by simp; try omega)).trans HR.out)
    replace HKB := Lib.hid (show Blk W7 (N + 1) #[.int .i64 le] 3 from (hfS.block _ HKB.out.lt (by simp; try omega)).trans HKB.out)
    replace O1 := Lib.hid (O1.out.fr hfS (by have := FO1.out; omega))
    replace O2 := Lib.hid (O2.out.fr hfS (by have := FO2.out; omega))
    replace O3 := Lib.hid (O3.out.fr hfS (by have := FO3.out; omega))
    replace O4 := Lib.hid (O4.out.fr hfS (by have := FO4.out; omega))
    replace HO := Lib.hid (show Blk W7 (N + 1 + 1) #[.int .i64 s.term, .int .i64 s.stamp, .int .i64 s.next, .slice b1 m1 k1, .slice b2 m2 k2, .slice b3 m3 k3, .slice b4 m4 k4] 27 from hkS)
    clear hWS hLS hkS hfS
    have qO0 : W7.cell? ⟨(N + 1 + 1), 0, none⟩ = some (.int .i64 s.term) := cell_at HO.out 0
    have qO1 : W7.cell? ⟨(N + 1 + 1), 1, none⟩ = some (.int .i64 s.stamp) := cell_at HO.out 1
    have qO2 : W7.cell? ⟨(N + 1 + 1), 2, none⟩ = some (.int .i64 s.next) := cell_at HO.out 2
    have qO3 : W7.cell? ⟨(N + 1 + 1), 3, none⟩ = some (.slice b1 m1 k1) := cell_at HO.out 3
    have qO4 : W7.cell? ⟨(N + 1 + 1), 4, none⟩ = some (.slice b2 m2 k2) := cell_at HO.out 4
    have qO5 : W7.cell? ⟨(N + 1 + 1), 5, none⟩ = some (.slice b3 m3 k3) := cell_at HO.out 5
    have qO6 : W7.cell? ⟨(N + 1 + 1), 6, none⟩ = some (.slice b4 m4 k4) := cell_at HO.out 6
    have qOz : ∀ j, W7.frozen? ⟨(N + 1 + 1), j, none⟩ = false := fun j => free_at HO.out j
    have qOl : (N + 1 + 1) < W7.heap.size := HO.out.lt
    exact ⟨.tuple #[.agg #[.int .i64 s.term, .int .i64 s.stamp, .int .i64 s.next, .slice b1 m1 k1, .slice b2 m2 k2, .slice b3 m3 k3, .slice b4 m4 k4], .int .i64 2], by simp [results, Try.results22, go_sem, qO0, qO1, qO2, qO3, qO4, qO5, qO6], _, rfl, (by rw [show R = s from HR9.out]; exact ⟨_, _, _, _, rfl, tn_tv O1.out.v, O2.out.v, O3.out.v, O4.out.v⟩), HB.out⟩
  replace HR9 : Hid (R = if E = 0 then sweptS (rpL s le sp cl) else sweptS s) := HR9
  obtain ⟨hck, hlb, hcb⟩ := HCP.out rfl
  have HLR := Lib.hid (lesB_R hlb)
  have HSZ9 := Lib.hid (HSZ.out rfl)
  have HCHK : Hid (chkS s = true) := Lib.hid HCE.out.symm
  clear hck hlb hcb HCP HEF HCE HSZ
  have qR0 : W6.cell? ⟨N, 0, none⟩ = some (.int .i64 s.term) := cell_at HR.out 0
  have qR1 : W6.cell? ⟨N, 1, none⟩ = some (.int .i64 s.stamp) := cell_at HR.out 1
  have qR2 : W6.cell? ⟨N, 2, none⟩ = some (.int .i64 s.next) := cell_at HR.out 2
  have qR3 : W6.cell? ⟨N, 3, none⟩ = some (.slice ta tn tc) := cell_at HR.out 3
  have qR4 : W6.cell? ⟨N, 4, none⟩ = some (.slice la ln lc) := cell_at HR.out 4
  have qR5 : W6.cell? ⟨N, 5, none⟩ = some (.slice sa sn sc) := cell_at HR.out 5
  have qR6 : W6.cell? ⟨N, 6, none⟩ = some (.slice da dn dc) := cell_at HR.out 6
  have qRz : ∀ j, W6.frozen? ⟨N, j, none⟩ = false := fun j => free_at HR.out j
  have qRl : N < W6.heap.size := HR.out.lt
  have qKB0 : W6.cell? ⟨(N + 1), 0, none⟩ = some (.int .i64 le) := cell_at HKB.out 0
  have qKBz : ∀ j, W6.frozen? ⟨(N + 1), j, none⟩ = false := fun j => free_at HKB.out j
  have qKBl : (N + 1) < W6.heap.size := HKB.out.lt
  go_wp2_with fail
  go_at_call 29
  go_fit (HPL.out _ HL.out)
  rintro e W7 ⟨hc, hB⟩
  clear qR0 qR1 qR2 qR3 qR4 qR5 qR6 qRz qRl qKB0 qKBz qKBl
  replace HB := Lib.hid (HB.out.trans (hB.mono HB.out.size))
  replace HT := Lib.hid (HT0.out.below HB.out)
  replace HL := Lib.hid (HL0.out.below HB.out)
  replace HS := Lib.hid (HS0.out.below HB.out)
  replace HD := Lib.hid (HD0.out.below HB.out)
  replace HR := Lib.hid (HR.out.step hB)
  replace HKB := Lib.hid (HKB.out.step hB)
  replace HO := Lib.hid (HO.out.step hB)
  replace O1 := Lib.hid (O1.out.step hB)
  replace O2 := Lib.hid (O2.out.step hB)
  replace O3 := Lib.hid (O3.out.step hB)
  replace O4 := Lib.hid (O4.out.step hB)
  clear hB
  rcases hc with ⟨i, x, hi, hx, hxk, hfx, rfl⟩ | ⟨hfn, rfl⟩
  rotate_left
  · skip
    have hee := HE9.out.trans (rpE_no sh ep le sp HCHK.out hfn)
    clear hfn
    have qR0 : W7.cell? ⟨N, 0, none⟩ = some (.int .i64 s.term) := cell_at HR.out 0
    have qR1 : W7.cell? ⟨N, 1, none⟩ = some (.int .i64 s.stamp) := cell_at HR.out 1
    have qR2 : W7.cell? ⟨N, 2, none⟩ = some (.int .i64 s.next) := cell_at HR.out 2
    have qR3 : W7.cell? ⟨N, 3, none⟩ = some (.slice ta tn tc) := cell_at HR.out 3
    have qR4 : W7.cell? ⟨N, 4, none⟩ = some (.slice la ln lc) := cell_at HR.out 4
    have qR5 : W7.cell? ⟨N, 5, none⟩ = some (.slice sa sn sc) := cell_at HR.out 5
    have qR6 : W7.cell? ⟨N, 6, none⟩ = some (.slice da dn dc) := cell_at HR.out 6
    have qRz : ∀ j, W7.frozen? ⟨N, j, none⟩ = false := fun j => free_at HR.out j
    have qRl : N < W7.heap.size := HR.out.lt
    obtain rfl : E = 180 := hee
    have qO0 : W7.cell? ⟨(N + 1 + 1), 0, none⟩ = some (.int .i64 s.term) := cell_at HO.out 0
    have qO1 : W7.cell? ⟨(N + 1 + 1), 1, none⟩ = some (.int .i64 s.stamp) := cell_at HO.out 1
    have qO2 : W7.cell? ⟨(N + 1 + 1), 2, none⟩ = some (.int .i64 s.next) := cell_at HO.out 2
    have qO3 : W7.cell? ⟨(N + 1 + 1), 3, none⟩ = some (.slice b1 m1 k1) := cell_at HO.out 3
    have qO4 : W7.cell? ⟨(N + 1 + 1), 4, none⟩ = some (.slice b2 m2 k2) := cell_at HO.out 4
    have qO5 : W7.cell? ⟨(N + 1 + 1), 5, none⟩ = some (.slice b3 m3 k3) := cell_at HO.out 5
    have qO6 : W7.cell? ⟨(N + 1 + 1), 6, none⟩ = some (.slice b4 m4 k4) := cell_at HO.out 6
    have qOz : ∀ j, W7.frozen? ⟨(N + 1 + 1), j, none⟩ = false := fun j => free_at HO.out j
    have qOl : (N + 1 + 1) < W7.heap.size := HO.out.lt
    go_wp2_with fail
    clear qR0 qR1 qR2 qR3 qR4 qR5 qR6 qRz qRl qO0 qO1 qO2 qO3 qO4 qO5 qO6 qOz qOl
    obtain ⟨LS, hLS⟩ : ∃ L : List Value, L = [.int .i64 s.term, .int .i64 s.stamp, .int .i64 s.next, .slice b1 m1 k1, .slice b2 m2 k2, .slice b3 m3 k3, .slice b4 m4 k4] := ⟨_, rfl⟩
    obtain ⟨W8, hWS⟩ : ∃ WS, WS = W7.setCells (N + 1 + 1) 0 LS := ⟨_, rfl⟩
    have hch := hWS
    rw [hLS] at hch
    simp only [World.setCells, Nat.zero_add, Nat.reduceAdd] at hch
    rw [← hch]
    clear hch
    have hkS := stC_blk HO.out LS (by rw [hLS]; rfl)
    have hfS := stC_fr (N + 1 + 1) LS 0 W7
    rw [← hWS] at hkS hfS
    rw [hLS] at hkS
    replace HB := Lib.hid (HB.out.trans (hfS.below HB.out.size (by have := HLON.out; simp; try omega)))
    replace HT := Lib.hid (HT0.out.below HB.out)
    replace HL := Lib.hid (HL0.out.below HB.out)
    replace HS := Lib.hid (HS0.out.below HB.out)
    replace HD := Lib.hid (HD0.out.below HB.out)
    replace HR := Lib.hid (show Blk W8 N #[.int .i64 s.term, .int .i64 s.stamp, .int .i64 s.next, .slice ta tn tc, .slice la ln lc, .slice sa sn sc, .slice da dn dc] 27 from (hfS.block _ HR.out.lt (by simp; try omega)).trans HR.out)
    replace HKB := Lib.hid (show Blk W8 (N + 1) #[.int .i64 le] 3 from (hfS.block _ HKB.out.lt (by simp; try omega)).trans HKB.out)
    replace O1 := Lib.hid (O1.out.fr hfS (by have := FO1.out; omega))
    replace O2 := Lib.hid (O2.out.fr hfS (by have := FO2.out; omega))
    replace O3 := Lib.hid (O3.out.fr hfS (by have := FO3.out; omega))
    replace O4 := Lib.hid (O4.out.fr hfS (by have := FO4.out; omega))
    replace HO := Lib.hid (show Blk W8 (N + 1 + 1) #[.int .i64 s.term, .int .i64 s.stamp, .int .i64 s.next, .slice b1 m1 k1, .slice b2 m2 k2, .slice b3 m3 k3, .slice b4 m4 k4] 27 from hkS)
    clear hWS hLS hkS hfS
    refine leaves_cons (f := 52) (args := #[.pointer (some ⟨(N + 1 + 1), 0, none⟩)]) (by simp) (by simp [go_sem]) ?_
    refine (report1_d .returning _ _ _ _ (s) (N + 1 + 1) _ HO.out (tn_tv O1.out.v) O2.out.v O3.out.v O4.out.v HFEW.out HSZ9.out).mono ?_
    rintro e u9 W9 ⟨rfl, vt9, rfl, hO9, hQ9, hF9⟩
    have z0 : W9.cell? ⟨(N + 1 + 1), 0, none⟩ = some (.int .i64 s.term) := cell_at hO9 0
    have z1 : W9.cell? ⟨(N + 1 + 1), 1, none⟩ = some (.int .i64 s.stamp) := cell_at hO9 1
    have z2 : W9.cell? ⟨(N + 1 + 1), 2, none⟩ = some (.int .i64 s.next) := cell_at hO9 2
    have z3 : W9.cell? ⟨(N + 1 + 1), 3, none⟩ = some (vt9) := cell_at hO9 3
    have z4 : W9.cell? ⟨(N + 1 + 1), 4, none⟩ = some (.slice b2 m2 k2) := cell_at hO9 4
    have z5 : W9.cell? ⟨(N + 1 + 1), 5, none⟩ = some (.slice b3 m3 k3) := cell_at hO9 5
    have z6 : W9.cell? ⟨(N + 1 + 1), 6, none⟩ = some (.slice b4 m4 k4) := cell_at hO9 6
    exact ⟨.tuple #[.agg #[.int .i64 s.term, .int .i64 s.stamp, .int .i64 s.next, vt9, .slice b2 m2 k2, .slice b3 m3 k3, .slice b4 m4 k4], .int .i64 180], by simp [results, Try.results22, go_sem, z0, z1, z2, z3, z4, z5, z6], _, rfl, (by rw [HR9.out, if_neg (by decide)]; exact ⟨_, _, _, _, rfl, hQ9, (O2.out.fr hF9 (by have := FO2.out; omega)).v, (O3.out.fr hF9 (by have := FO3.out; omega)).v, (O4.out.fr hF9 (by have := FO4.out; omega)).v⟩), HB.out.trans (hF9.below HB.out.size (by have := HLON.out; simp; omega))⟩
  obtain ⟨g, o, y, ea, g1, g2, q0, q1, q2, q3, q4, q5, q6⟩ := HL.out.at i hi
  subst ea
  obtain rfl : x = y := Option.some.inj (hx.symm.trans g2)
  have b9 : (i < ln) = True := eq_true hi
  have hsx := HSZ9.out x (List.mem_of_getElem? g2)
  have HXI := Lib.hid g2
  have HEX := Lib.hid (HE9.out.trans (rpE_at sh ep le sp HCHK.out hfx))
  have HRL := Lib.hid (show rpL s le sp cl = if cl = false ∧ sp < x.size then ⟨s.term, s.stamp, s.next, s.ts, spL le sp s.ls, s.ss, s.ds⟩ else ⟨s.term, s.stamp, s.next, if cl then bkL s.ts x.tenant (outL (wo le s.ls) x.tenant) (x.size - sp) else s.ts, wo le s.ls, s.ss, s.ds⟩ by unfold rpL; rw [hfx]; rfl)
  have HKEY := Lib.hid hxk
  clear hx hxk hfx g2
  by_cases ha : x.shaper = sh
  rotate_left
  · skip
    have da1 : (x.shaper != sh) = true := by simp [ha]
    have da2 : decide (x.shaper = sh) = false := decide_eq_false ha
    have da3 : (x.shaper = sh) = False := eq_false ha
    have hee : E = 180 := by rw [HEX.out, if_neg (by rintro ⟨e1, e2⟩; first | exact hb e2 | exact ha e1)]
    have qR0 : W7.cell? ⟨N, 0, none⟩ = some (.int .i64 s.term) := cell_at HR.out 0
    have qR1 : W7.cell? ⟨N, 1, none⟩ = some (.int .i64 s.stamp) := cell_at HR.out 1
    have qR2 : W7.cell? ⟨N, 2, none⟩ = some (.int .i64 s.next) := cell_at HR.out 2
    have qR3 : W7.cell? ⟨N, 3, none⟩ = some (.slice ta tn tc) := cell_at HR.out 3
    have qR4 : W7.cell? ⟨N, 4, none⟩ = some (.slice (some ⟨g, o, none⟩) ln lc) := cell_at HR.out 4
    have qR5 : W7.cell? ⟨N, 5, none⟩ = some (.slice sa sn sc) := cell_at HR.out 5
    have qR6 : W7.cell? ⟨N, 6, none⟩ = some (.slice da dn dc) := cell_at HR.out 6
    have qRz : ∀ j, W7.frozen? ⟨N, j, none⟩ = false := fun j => free_at HR.out j
    have qRl : N < W7.heap.size := HR.out.lt
    obtain rfl : E = 180 := hee
    have qO0 : W7.cell? ⟨(N + 1 + 1), 0, none⟩ = some (.int .i64 s.term) := cell_at HO.out 0
    have qO1 : W7.cell? ⟨(N + 1 + 1), 1, none⟩ = some (.int .i64 s.stamp) := cell_at HO.out 1
    have qO2 : W7.cell? ⟨(N + 1 + 1), 2, none⟩ = some (.int .i64 s.next) := cell_at HO.out 2
    have qO3 : W7.cell? ⟨(N + 1 + 1), 3, none⟩ = some (.slice b1 m1 k1) := cell_at HO.out 3
    have qO4 : W7.cell? ⟨(N + 1 + 1), 4, none⟩ = some (.slice b2 m2 k2) := cell_at HO.out 4
    have qO5 : W7.cell? ⟨(N + 1 + 1), 5, none⟩ = some (.slice b3 m3 k3) := cell_at HO.out 5
    have qO6 : W7.cell? ⟨(N + 1 + 1), 6, none⟩ = some (.slice b4 m4 k4) := cell_at HO.out 6
    have qOz : ∀ j, W7.frozen? ⟨(N + 1 + 1), j, none⟩ = false := fun j => free_at HO.out j
    have qOl : (N + 1 + 1) < W7.heap.size := HO.out.lt
    go_wp2_with fail
    clear qR0 qR1 qR2 qR3 qR4 qR5 qR6 qRz qRl qO0 qO1 qO2 qO3 qO4 qO5 qO6 qOz qOl
    obtain ⟨LS, hLS⟩ : ∃ L : List Value, L = [.int .i64 s.term, .int .i64 s.stamp, .int .i64 s.next, .slice b1 m1 k1, .slice b2 m2 k2, .slice b3 m3 k3, .slice b4 m4 k4] := ⟨_, rfl⟩
    obtain ⟨W8, hWS⟩ : ∃ WS, WS = W7.setCells (N + 1 + 1) 0 LS := ⟨_, rfl⟩
    have hch := hWS
    rw [hLS] at hch
    simp only [World.setCells, Nat.zero_add, Nat.reduceAdd] at hch
    rw [← hch]
    clear hch
    have hkS := stC_blk HO.out LS (by rw [hLS]; rfl)
    have hfS := stC_fr (N + 1 + 1) LS 0 W7
    rw [← hWS] at hkS hfS
    rw [hLS] at hkS
    replace HB := Lib.hid (HB.out.trans (hfS.below HB.out.size (by have := HLON.out; simp; try omega)))
    replace HT := Lib.hid (HT0.out.below HB.out)
    replace HL := Lib.hid (HL0.out.below HB.out)
    replace HS := Lib.hid (HS0.out.below HB.out)
    replace HD := Lib.hid (HD0.out.below HB.out)
    replace HR := Lib.hid (show Blk W8 N #[.int .i64 s.term, .int .i64 s.stamp, .int .i64 s.next, .slice ta tn tc, .slice (some ⟨g, o, none⟩) ln lc, .slice sa sn sc, .slice da dn dc] 27 from (hfS.block _ HR.out.lt (by simp; try omega)).trans HR.out)
    replace HKB := Lib.hid (show Blk W8 (N + 1) #[.int .i64 le] 3 from (hfS.block _ HKB.out.lt (by simp; try omega)).trans HKB.out)
    replace O1 := Lib.hid (O1.out.fr hfS (by have := FO1.out; omega))
    replace O2 := Lib.hid (O2.out.fr hfS (by have := FO2.out; omega))
    replace O3 := Lib.hid (O3.out.fr hfS (by have := FO3.out; omega))
    replace O4 := Lib.hid (O4.out.fr hfS (by have := FO4.out; omega))
    replace HO := Lib.hid (show Blk W8 (N + 1 + 1) #[.int .i64 s.term, .int .i64 s.stamp, .int .i64 s.next, .slice b1 m1 k1, .slice b2 m2 k2, .slice b3 m3 k3, .slice b4 m4 k4] 27 from hkS)
    clear hWS hLS hkS hfS
    refine leaves_cons (f := 52) (args := #[.pointer (some ⟨(N + 1 + 1), 0, none⟩)]) (by simp) (by simp [go_sem]) ?_
    refine (report1_d .returning _ _ _ _ (s) (N + 1 + 1) _ HO.out (tn_tv O1.out.v) O2.out.v O3.out.v O4.out.v HFEW.out HSZ9.out).mono ?_
    rintro e u9 W9 ⟨rfl, vt9, rfl, hO9, hQ9, hF9⟩
    have z0 : W9.cell? ⟨(N + 1 + 1), 0, none⟩ = some (.int .i64 s.term) := cell_at hO9 0
    have z1 : W9.cell? ⟨(N + 1 + 1), 1, none⟩ = some (.int .i64 s.stamp) := cell_at hO9 1
    have z2 : W9.cell? ⟨(N + 1 + 1), 2, none⟩ = some (.int .i64 s.next) := cell_at hO9 2
    have z3 : W9.cell? ⟨(N + 1 + 1), 3, none⟩ = some (vt9) := cell_at hO9 3
    have z4 : W9.cell? ⟨(N + 1 + 1), 4, none⟩ = some (.slice b2 m2 k2) := cell_at hO9 4
    have z5 : W9.cell? ⟨(N + 1 + 1), 5, none⟩ = some (.slice b3 m3 k3) := cell_at hO9 5
    have z6 : W9.cell? ⟨(N + 1 + 1), 6, none⟩ = some (.slice b4 m4 k4) := cell_at hO9 6
    exact ⟨.tuple #[.agg #[.int .i64 s.term, .int .i64 s.stamp, .int .i64 s.next, vt9, .slice b2 m2 k2, .slice b3 m3 k3, .slice b4 m4 k4], .int .i64 180], by simp [results, Try.results22, go_sem, z0, z1, z2, z3, z4, z5, z6], _, rfl, (by rw [HR9.out, if_neg (by decide)]; exact ⟨_, _, _, _, rfl, hQ9, (O2.out.fr hF9 (by have := FO2.out; omega)).v, (O3.out.fr hF9 (by have := FO3.out; omega)).v, (O4.out.fr hF9 (by have := FO4.out; omega)).v⟩), HB.out.trans (hF9.below HB.out.size (by have := HLON.out; simp; omega))⟩
  have da1 : (x.shaper != sh) = false := by simp [ha]
  have da2 : decide (x.shaper = sh) = true := decide_eq_true ha
  have HHa := Lib.hid ha
  clear ha
  by_cases hb : x.epoch = ep
  rotate_left
  · skip
    have db1 : (x.epoch != ep) = true := by simp [hb]
    have db2 : decide (x.epoch = ep) = false := decide_eq_false hb
    have db3 : (x.epoch = ep) = False := eq_false hb
    have hee : E = 180 := by rw [HEX.out, if_neg (by rintro ⟨e1, e2⟩; first | exact hb e2 | exact ha e1)]
    have qR0 : W7.cell? ⟨N, 0, none⟩ = some (.int .i64 s.term) := cell_at HR.out 0
    have qR1 : W7.cell? ⟨N, 1, none⟩ = some (.int .i64 s.stamp) := cell_at HR.out 1
    have qR2 : W7.cell? ⟨N, 2, none⟩ = some (.int .i64 s.next) := cell_at HR.out 2
    have qR3 : W7.cell? ⟨N, 3, none⟩ = some (.slice ta tn tc) := cell_at HR.out 3
    have qR4 : W7.cell? ⟨N, 4, none⟩ = some (.slice (some ⟨g, o, none⟩) ln lc) := cell_at HR.out 4
    have qR5 : W7.cell? ⟨N, 5, none⟩ = some (.slice sa sn sc) := cell_at HR.out 5
    have qR6 : W7.cell? ⟨N, 6, none⟩ = some (.slice da dn dc) := cell_at HR.out 6
    have qRz : ∀ j, W7.frozen? ⟨N, j, none⟩ = false := fun j => free_at HR.out j
    have qRl : N < W7.heap.size := HR.out.lt
    obtain rfl : E = 180 := hee
    have qO0 : W7.cell? ⟨(N + 1 + 1), 0, none⟩ = some (.int .i64 s.term) := cell_at HO.out 0
    have qO1 : W7.cell? ⟨(N + 1 + 1), 1, none⟩ = some (.int .i64 s.stamp) := cell_at HO.out 1
    have qO2 : W7.cell? ⟨(N + 1 + 1), 2, none⟩ = some (.int .i64 s.next) := cell_at HO.out 2
    have qO3 : W7.cell? ⟨(N + 1 + 1), 3, none⟩ = some (.slice b1 m1 k1) := cell_at HO.out 3
    have qO4 : W7.cell? ⟨(N + 1 + 1), 4, none⟩ = some (.slice b2 m2 k2) := cell_at HO.out 4
    have qO5 : W7.cell? ⟨(N + 1 + 1), 5, none⟩ = some (.slice b3 m3 k3) := cell_at HO.out 5
    have qO6 : W7.cell? ⟨(N + 1 + 1), 6, none⟩ = some (.slice b4 m4 k4) := cell_at HO.out 6
    have qOz : ∀ j, W7.frozen? ⟨(N + 1 + 1), j, none⟩ = false := fun j => free_at HO.out j
    have qOl : (N + 1 + 1) < W7.heap.size := HO.out.lt
    go_wp2_with fail
    clear qR0 qR1 qR2 qR3 qR4 qR5 qR6 qRz qRl qO0 qO1 qO2 qO3 qO4 qO5 qO6 qOz qOl
    obtain ⟨LS, hLS⟩ : ∃ L : List Value, L = [.int .i64 s.term, .int .i64 s.stamp, .int .i64 s.next, .slice b1 m1 k1, .slice b2 m2 k2, .slice b3 m3 k3, .slice b4 m4 k4] := ⟨_, rfl⟩
    obtain ⟨W8, hWS⟩ : ∃ WS, WS = W7.setCells (N + 1 + 1) 0 LS := ⟨_, rfl⟩
    have hch := hWS
    rw [hLS] at hch
    simp only [World.setCells, Nat.zero_add, Nat.reduceAdd] at hch
    rw [← hch]
    clear hch
    have hkS := stC_blk HO.out LS (by rw [hLS]; rfl)
    have hfS := stC_fr (N + 1 + 1) LS 0 W7
    rw [← hWS] at hkS hfS
    rw [hLS] at hkS
    replace HB := Lib.hid (HB.out.trans (hfS.below HB.out.size (by have := HLON.out; simp; try omega)))
    replace HT := Lib.hid (HT0.out.below HB.out)
    replace HL := Lib.hid (HL0.out.below HB.out)
    replace HS := Lib.hid (HS0.out.below HB.out)
    replace HD := Lib.hid (HD0.out.below HB.out)
    replace HR := Lib.hid (show Blk W8 N #[.int .i64 s.term, .int .i64 s.stamp, .int .i64 s.next, .slice ta tn tc, .slice (some ⟨g, o, none⟩) ln lc, .slice sa sn sc, .slice da dn dc] 27 from (hfS.block _ HR.out.lt (by simp; try omega)).trans HR.out)
    replace HKB := Lib.hid (show Blk W8 (N + 1) #[.int .i64 le] 3 from (hfS.block _ HKB.out.lt (by simp; try omega)).trans HKB.out)
    replace O1 := Lib.hid (O1.out.fr hfS (by have := FO1.out; omega))
    replace O2 := Lib.hid (O2.out.fr hfS (by have := FO2.out; omega))
    replace O3 := Lib.hid (O3.out.fr hfS (by have := FO3.out; omega))
    replace O4 := Lib.hid (O4.out.fr hfS (by have := FO4.out; omega))
    replace HO := Lib.hid (show Blk W8 (N + 1 + 1) #[.int .i64 s.term, .int .i64 s.stamp, .int .i64 s.next, .slice b1 m1 k1, .slice b2 m2 k2, .slice b3 m3 k3, .slice b4 m4 k4] 27 from hkS)
    clear hWS hLS hkS hfS
    refine leaves_cons (f := 52) (args := #[.pointer (some ⟨(N + 1 + 1), 0, none⟩)]) (by simp) (by simp [go_sem]) ?_
    refine (report1_d .returning _ _ _ _ (s) (N + 1 + 1) _ HO.out (tn_tv O1.out.v) O2.out.v O3.out.v O4.out.v HFEW.out HSZ9.out).mono ?_
    rintro e u9 W9 ⟨rfl, vt9, rfl, hO9, hQ9, hF9⟩
    have z0 : W9.cell? ⟨(N + 1 + 1), 0, none⟩ = some (.int .i64 s.term) := cell_at hO9 0
    have z1 : W9.cell? ⟨(N + 1 + 1), 1, none⟩ = some (.int .i64 s.stamp) := cell_at hO9 1
    have z2 : W9.cell? ⟨(N + 1 + 1), 2, none⟩ = some (.int .i64 s.next) := cell_at hO9 2
    have z3 : W9.cell? ⟨(N + 1 + 1), 3, none⟩ = some (vt9) := cell_at hO9 3
    have z4 : W9.cell? ⟨(N + 1 + 1), 4, none⟩ = some (.slice b2 m2 k2) := cell_at hO9 4
    have z5 : W9.cell? ⟨(N + 1 + 1), 5, none⟩ = some (.slice b3 m3 k3) := cell_at hO9 5
    have z6 : W9.cell? ⟨(N + 1 + 1), 6, none⟩ = some (.slice b4 m4 k4) := cell_at hO9 6
    exact ⟨.tuple #[.agg #[.int .i64 s.term, .int .i64 s.stamp, .int .i64 s.next, vt9, .slice b2 m2 k2, .slice b3 m3 k3, .slice b4 m4 k4], .int .i64 180], by simp [results, Try.results22, go_sem, z0, z1, z2, z3, z4, z5, z6], _, rfl, (by rw [HR9.out, if_neg (by decide)]; exact ⟨_, _, _, _, rfl, hQ9, (O2.out.fr hF9 (by have := FO2.out; omega)).v, (O3.out.fr hF9 (by have := FO3.out; omega)).v, (O4.out.fr hF9 (by have := FO4.out; omega)).v⟩), HB.out.trans (hF9.below HB.out.size (by have := HLON.out; simp; omega))⟩
  have db1 : (x.epoch != ep) = false := by simp [hb]
  have db2 : decide (x.epoch = ep) = true := decide_eq_true hb
  have HHb := Lib.hid hb
  clear hb
  replace HEX : Hid (E = if sp < x.spent ∨ x.size < sp then 2 else 0) := Lib.hid (by rw [HEX.out, if_pos ⟨HHa.out, HHb.out⟩])
  have qR0 : W7.cell? ⟨N, 0, none⟩ = some (.int .i64 s.term) := cell_at HR.out 0
  have qR1 : W7.cell? ⟨N, 1, none⟩ = some (.int .i64 s.stamp) := cell_at HR.out 1
  have qR2 : W7.cell? ⟨N, 2, none⟩ = some (.int .i64 s.next) := cell_at HR.out 2
  have qR3 : W7.cell? ⟨N, 3, none⟩ = some (.slice ta tn tc) := cell_at HR.out 3
  have qR4 : W7.cell? ⟨N, 4, none⟩ = some (.slice (some ⟨g, o, none⟩) ln lc) := cell_at HR.out 4
  have qR5 : W7.cell? ⟨N, 5, none⟩ = some (.slice sa sn sc) := cell_at HR.out 5
  have qR6 : W7.cell? ⟨N, 6, none⟩ = some (.slice da dn dc) := cell_at HR.out 6
  have qRz : ∀ j, W7.frozen? ⟨N, j, none⟩ = false := fun j => free_at HR.out j
  have qRl : N < W7.heap.size := HR.out.lt
  go_upto_region 9 with fail
  clear qR0 qR1 qR2 qR3 qR4 qR5 qR6 qRz qRl
  obtain ⟨X9, hX9⟩ : ∃ n0, n0 = W7.heap.size := ⟨_, rfl⟩
  have HXX9HR : Hid (N < X9) := Lib.hid (by rw [hX9]; exact HR.out.lt)
  have HXX9HKB : Hid ((N + 1) < X9) := Lib.hid (by rw [hX9]; exact HKB.out.lt)
  have HXX9HO : Hid ((N + 1 + 1) < X9) := Lib.hid (by rw [hX9]; exact HO.out.lt)
  have HUX9O1 : Hid (∀ g, ot = some g → g < X9) := Lib.hid (fun g e => by rw [hX9]; subst e; exact O1.out.1.lt)
  have HUX9O2 : Hid (∀ g, ol = some g → g < X9) := Lib.hid (fun g e => by rw [hX9]; subst e; exact O2.out.1.lt)
  have HUX9O3 : Hid (∀ g, os = some g → g < X9) := Lib.hid (fun g e => by rw [hX9]; subst e; exact O3.out.1.lt)
  have HUX9O4 : Hid (∀ g, od = some g → g < X9) := Lib.hid (fun g e => by rw [hX9]; subst e; exact O4.out.1.lt)
  have HLOX9 : Hid (w.heap.size ≤ X9) := Lib.hid (by have := HB.out.size; omega)
  obtain ⟨W8, hA0⟩ : ∃ W0, W0 = W7.alloc (.cells #[.int .i64 x.id, .int .i64 x.tenant, .int .i64 x.shaper, .int .i64 x.epoch, .int .i64 x.number, .int .i64 x.size, .int .i64 x.spent] 31) := ⟨_, rfl⟩
  have hB : Below W7.heap.size W7 W8 := by rw [hA0]; exact (Below.refl _ _).alloc (Nat.le_refl _) _
  have hS0 : W8.heap.size = X9 + 1 := by rw [hA0]; simp [← hX9]
  have HX9 := Lib.hid (show Blk W8 X9 #[.int .i64 x.id, .int .i64 x.tenant, .int .i64 x.shaper, .int .i64 x.epoch, .int .i64 x.number, .int .i64 x.size, .int .i64 x.spent] 31 by rw [hA0, hX9]; exact blk_new _ _ _)
  replace HB := Lib.hid (HB.out.trans (hB.mono HB.out.size))
  replace HT := Lib.hid (HT0.out.below HB.out)
  replace HL := Lib.hid (HL0.out.below HB.out)
  replace HS := Lib.hid (HS0.out.below HB.out)
  replace HD := Lib.hid (HD0.out.below HB.out)
  replace HR := Lib.hid (HR.out.step hB)
  replace HKB := Lib.hid (HKB.out.step hB)
  replace HO := Lib.hid (HO.out.step hB)
  replace O1 := Lib.hid (O1.out.step hB)
  replace O2 := Lib.hid (O2.out.step hB)
  replace O3 := Lib.hid (O3.out.step hB)
  replace O4 := Lib.hid (O4.out.step hB)
  clear hB
  have HSX9 := Lib.hid hS0
  rw [← hX9, ← hA0]
  clear hA0 hX9 hS0
  clear q0 q1 q2 q3 q4 q5 q6 da1 da2 db1 db2
  by_cases hc : sp < x.spent
  · skip
    have ttc : decide (sp < x.spent) = true := decide_eq_true hc
    have hee : E = 2 := by rw [HEX.out, if_pos (by omega)]
    have qX90 : W8.cell? ⟨X9, 0, none⟩ = some (.int .i64 x.id) := cell_at HX9.out 0
    have qX91 : W8.cell? ⟨X9, 1, none⟩ = some (.int .i64 x.tenant) := cell_at HX9.out 1
    have qX92 : W8.cell? ⟨X9, 2, none⟩ = some (.int .i64 x.shaper) := cell_at HX9.out 2
    have qX93 : W8.cell? ⟨X9, 3, none⟩ = some (.int .i64 x.epoch) := cell_at HX9.out 3
    have qX94 : W8.cell? ⟨X9, 4, none⟩ = some (.int .i64 x.number) := cell_at HX9.out 4
    have qX95 : W8.cell? ⟨X9, 5, none⟩ = some (.int .i64 x.size) := cell_at HX9.out 5
    have qX96 : W8.cell? ⟨X9, 6, none⟩ = some (.int .i64 x.spent) := cell_at HX9.out 6
    have qX9z : ∀ j, W8.frozen? ⟨X9, j, none⟩ = false := fun j => free_at HX9.out j
    have qX9l : X9 < W8.heap.size := HX9.out.lt
    obtain rfl : E = 2 := hee
    have qO0 : W8.cell? ⟨(N + 1 + 1), 0, none⟩ = some (.int .i64 s.term) := cell_at HO.out 0
    have qO1 : W8.cell? ⟨(N + 1 + 1), 1, none⟩ = some (.int .i64 s.stamp) := cell_at HO.out 1
    have qO2 : W8.cell? ⟨(N + 1 + 1), 2, none⟩ = some (.int .i64 s.next) := cell_at HO.out 2
    have qO3 : W8.cell? ⟨(N + 1 + 1), 3, none⟩ = some (.slice b1 m1 k1) := cell_at HO.out 3
    have qO4 : W8.cell? ⟨(N + 1 + 1), 4, none⟩ = some (.slice b2 m2 k2) := cell_at HO.out 4
    have qO5 : W8.cell? ⟨(N + 1 + 1), 5, none⟩ = some (.slice b3 m3 k3) := cell_at HO.out 5
    have qO6 : W8.cell? ⟨(N + 1 + 1), 6, none⟩ = some (.slice b4 m4 k4) := cell_at HO.out 6
    have qOz : ∀ j, W8.frozen? ⟨(N + 1 + 1), j, none⟩ = false := fun j => free_at HO.out j
    have qOl : (N + 1 + 1) < W8.heap.size := HO.out.lt
    go_wp2_with fail
    clear qX90 qX91 qX92 qX93 qX94 qX95 qX96 qX9z qX9l qO0 qO1 qO2 qO3 qO4 qO5 qO6 qOz qOl
    obtain ⟨LS, hLS⟩ : ∃ L : List Value, L = [.int .i64 s.term, .int .i64 s.stamp, .int .i64 s.next, .slice b1 m1 k1, .slice b2 m2 k2, .slice b3 m3 k3, .slice b4 m4 k4] := ⟨_, rfl⟩
    obtain ⟨W9, hWS⟩ : ∃ WS, WS = W8.setCells (N + 1 + 1) 0 LS := ⟨_, rfl⟩
    have hch := hWS
    rw [hLS] at hch
    simp only [World.setCells, Nat.zero_add, Nat.reduceAdd] at hch
    rw [← hch]
    clear hch
    have hkS := stC_blk HO.out LS (by rw [hLS]; rfl)
    have hfS := stC_fr (N + 1 + 1) LS 0 W8
    rw [← hWS] at hkS hfS
    rw [hLS] at hkS
    replace HB := Lib.hid (HB.out.trans (hfS.below HB.out.size (by have := HLON.out; simp; try omega)))
    replace HT := Lib.hid (HT0.out.below HB.out)
    replace HL := Lib.hid (HL0.out.below HB.out)
    replace HS := Lib.hid (HS0.out.below HB.out)
    replace HD := Lib.hid (HD0.out.below HB.out)
    replace HR := Lib.hid (show Blk W9 N #[.int .i64 s.term, .int .i64 s.stamp, .int .i64 s.next, .slice ta tn tc, .slice (some ⟨g, o, none⟩) ln lc, .slice sa sn sc, .slice da dn dc] 27 from (hfS.block _ HR.out.lt (by have hx0 := HXX9HR.out; have hx1 := HXX9HKB.out; have hx2 := HXX9HO.out; simp; try omega)).trans HR.out)
    replace HKB := Lib.hid (show Blk W9 (N + 1) #[.int .i64 le] 3 from (hfS.block _ HKB.out.lt (by have hx0 := HXX9HR.out; have hx1 := HXX9HKB.out; have hx2 := HXX9HO.out; simp; try omega)).trans HKB.out)
    replace O1 := Lib.hid (O1.out.fr hfS (by have := FO1.out; omega))
    replace O2 := Lib.hid (O2.out.fr hfS (by have := FO2.out; omega))
    replace O3 := Lib.hid (O3.out.fr hfS (by have := FO3.out; omega))
    replace O4 := Lib.hid (O4.out.fr hfS (by have := FO4.out; omega))
    replace HX9 := Lib.hid (show Blk W9 X9 #[.int .i64 x.id, .int .i64 x.tenant, .int .i64 x.shaper, .int .i64 x.epoch, .int .i64 x.number, .int .i64 x.size, .int .i64 x.spent] 31 from (hfS.block _ HX9.out.lt (by have hx0 := HXX9HR.out; have hx1 := HXX9HKB.out; have hx2 := HXX9HO.out; simp; try omega)).trans HX9.out)
    replace HO := Lib.hid (show Blk W9 (N + 1 + 1) #[.int .i64 s.term, .int .i64 s.stamp, .int .i64 s.next, .slice b1 m1 k1, .slice b2 m2 k2, .slice b3 m3 k3, .slice b4 m4 k4] 27 from hkS)
    clear hWS hLS hkS hfS
    refine leaves_cons (f := 52) (args := #[.pointer (some ⟨(N + 1 + 1), 0, none⟩)]) (by simp) (by simp [go_sem]) ?_
    refine (report1_d .returning _ _ _ _ (s) (N + 1 + 1) _ HO.out (tn_tv O1.out.v) O2.out.v O3.out.v O4.out.v HFEW.out HSZ9.out).mono ?_
    rintro e u9 W10 ⟨rfl, vt9, rfl, hO9, hQ9, hF9⟩
    have z0 : W10.cell? ⟨(N + 1 + 1), 0, none⟩ = some (.int .i64 s.term) := cell_at hO9 0
    have z1 : W10.cell? ⟨(N + 1 + 1), 1, none⟩ = some (.int .i64 s.stamp) := cell_at hO9 1
    have z2 : W10.cell? ⟨(N + 1 + 1), 2, none⟩ = some (.int .i64 s.next) := cell_at hO9 2
    have z3 : W10.cell? ⟨(N + 1 + 1), 3, none⟩ = some (vt9) := cell_at hO9 3
    have z4 : W10.cell? ⟨(N + 1 + 1), 4, none⟩ = some (.slice b2 m2 k2) := cell_at hO9 4
    have z5 : W10.cell? ⟨(N + 1 + 1), 5, none⟩ = some (.slice b3 m3 k3) := cell_at hO9 5
    have z6 : W10.cell? ⟨(N + 1 + 1), 6, none⟩ = some (.slice b4 m4 k4) := cell_at hO9 6
    exact ⟨.tuple #[.agg #[.int .i64 s.term, .int .i64 s.stamp, .int .i64 s.next, vt9, .slice b2 m2 k2, .slice b3 m3 k3, .slice b4 m4 k4], .int .i64 2], by simp [results, Try.results22, go_sem, z0, z1, z2, z3, z4, z5, z6], _, rfl, (by rw [HR9.out, if_neg (by decide)]; exact ⟨_, _, _, _, rfl, hQ9, (O2.out.fr hF9 (by have := FO2.out; omega)).v, (O3.out.fr hF9 (by have := FO3.out; omega)).v, (O4.out.fr hF9 (by have := FO4.out; omega)).v⟩), HB.out.trans (hF9.below HB.out.size (by have := HLON.out; simp; omega))⟩
  have ttc : decide (sp < x.spent) = false := decide_eq_false hc
  by_cases hd : x.size < sp
  · skip
    have ttd : decide (x.size < sp) = true := decide_eq_true hd
    have hee : E = 2 := by rw [HEX.out, if_pos (by omega)]
    have qX90 : W8.cell? ⟨X9, 0, none⟩ = some (.int .i64 x.id) := cell_at HX9.out 0
    have qX91 : W8.cell? ⟨X9, 1, none⟩ = some (.int .i64 x.tenant) := cell_at HX9.out 1
    have qX92 : W8.cell? ⟨X9, 2, none⟩ = some (.int .i64 x.shaper) := cell_at HX9.out 2
    have qX93 : W8.cell? ⟨X9, 3, none⟩ = some (.int .i64 x.epoch) := cell_at HX9.out 3
    have qX94 : W8.cell? ⟨X9, 4, none⟩ = some (.int .i64 x.number) := cell_at HX9.out 4
    have qX95 : W8.cell? ⟨X9, 5, none⟩ = some (.int .i64 x.size) := cell_at HX9.out 5
    have qX96 : W8.cell? ⟨X9, 6, none⟩ = some (.int .i64 x.spent) := cell_at HX9.out 6
    have qX9z : ∀ j, W8.frozen? ⟨X9, j, none⟩ = false := fun j => free_at HX9.out j
    have qX9l : X9 < W8.heap.size := HX9.out.lt
    obtain rfl : E = 2 := hee
    have qO0 : W8.cell? ⟨(N + 1 + 1), 0, none⟩ = some (.int .i64 s.term) := cell_at HO.out 0
    have qO1 : W8.cell? ⟨(N + 1 + 1), 1, none⟩ = some (.int .i64 s.stamp) := cell_at HO.out 1
    have qO2 : W8.cell? ⟨(N + 1 + 1), 2, none⟩ = some (.int .i64 s.next) := cell_at HO.out 2
    have qO3 : W8.cell? ⟨(N + 1 + 1), 3, none⟩ = some (.slice b1 m1 k1) := cell_at HO.out 3
    have qO4 : W8.cell? ⟨(N + 1 + 1), 4, none⟩ = some (.slice b2 m2 k2) := cell_at HO.out 4
    have qO5 : W8.cell? ⟨(N + 1 + 1), 5, none⟩ = some (.slice b3 m3 k3) := cell_at HO.out 5
    have qO6 : W8.cell? ⟨(N + 1 + 1), 6, none⟩ = some (.slice b4 m4 k4) := cell_at HO.out 6
    have qOz : ∀ j, W8.frozen? ⟨(N + 1 + 1), j, none⟩ = false := fun j => free_at HO.out j
    have qOl : (N + 1 + 1) < W8.heap.size := HO.out.lt
    go_wp2_with fail
    clear qX90 qX91 qX92 qX93 qX94 qX95 qX96 qX9z qX9l qO0 qO1 qO2 qO3 qO4 qO5 qO6 qOz qOl
    obtain ⟨LS, hLS⟩ : ∃ L : List Value, L = [.int .i64 s.term, .int .i64 s.stamp, .int .i64 s.next, .slice b1 m1 k1, .slice b2 m2 k2, .slice b3 m3 k3, .slice b4 m4 k4] := ⟨_, rfl⟩
    obtain ⟨W9, hWS⟩ : ∃ WS, WS = W8.setCells (N + 1 + 1) 0 LS := ⟨_, rfl⟩
    have hch := hWS
    rw [hLS] at hch
    simp only [World.setCells, Nat.zero_add, Nat.reduceAdd] at hch
    rw [← hch]
    clear hch
    have hkS := stC_blk HO.out LS (by rw [hLS]; rfl)
    have hfS := stC_fr (N + 1 + 1) LS 0 W8
    rw [← hWS] at hkS hfS
    rw [hLS] at hkS
    replace HB := Lib.hid (HB.out.trans (hfS.below HB.out.size (by have := HLON.out; simp; try omega)))
    replace HT := Lib.hid (HT0.out.below HB.out)
    replace HL := Lib.hid (HL0.out.below HB.out)
    replace HS := Lib.hid (HS0.out.below HB.out)
    replace HD := Lib.hid (HD0.out.below HB.out)
    replace HR := Lib.hid (show Blk W9 N #[.int .i64 s.term, .int .i64 s.stamp, .int .i64 s.next, .slice ta tn tc, .slice (some ⟨g, o, none⟩) ln lc, .slice sa sn sc, .slice da dn dc] 27 from (hfS.block _ HR.out.lt (by have hx0 := HXX9HR.out; have hx1 := HXX9HKB.out; have hx2 := HXX9HO.out; simp; try omega)).trans HR.out)
    replace HKB := Lib.hid (show Blk W9 (N + 1) #[.int .i64 le] 3 from (hfS.block _ HKB.out.lt (by have hx0 := HXX9HR.out; have hx1 := HXX9HKB.out; have hx2 := HXX9HO.out; simp; try omega)).trans HKB.out)
    replace O1 := Lib.hid (O1.out.fr hfS (by have := FO1.out; omega))
    replace O2 := Lib.hid (O2.out.fr hfS (by have := FO2.out; omega))
    replace O3 := Lib.hid (O3.out.fr hfS (by have := FO3.out; omega))
    replace O4 := Lib.hid (O4.out.fr hfS (by have := FO4.out; omega))
    replace HX9 := Lib.hid (show Blk W9 X9 #[.int .i64 x.id, .int .i64 x.tenant, .int .i64 x.shaper, .int .i64 x.epoch, .int .i64 x.number, .int .i64 x.size, .int .i64 x.spent] 31 from (hfS.block _ HX9.out.lt (by have hx0 := HXX9HR.out; have hx1 := HXX9HKB.out; have hx2 := HXX9HO.out; simp; try omega)).trans HX9.out)
    replace HO := Lib.hid (show Blk W9 (N + 1 + 1) #[.int .i64 s.term, .int .i64 s.stamp, .int .i64 s.next, .slice b1 m1 k1, .slice b2 m2 k2, .slice b3 m3 k3, .slice b4 m4 k4] 27 from hkS)
    clear hWS hLS hkS hfS
    refine leaves_cons (f := 52) (args := #[.pointer (some ⟨(N + 1 + 1), 0, none⟩)]) (by simp) (by simp [go_sem]) ?_
    refine (report1_d .returning _ _ _ _ (s) (N + 1 + 1) _ HO.out (tn_tv O1.out.v) O2.out.v O3.out.v O4.out.v HFEW.out HSZ9.out).mono ?_
    rintro e u9 W10 ⟨rfl, vt9, rfl, hO9, hQ9, hF9⟩
    have z0 : W10.cell? ⟨(N + 1 + 1), 0, none⟩ = some (.int .i64 s.term) := cell_at hO9 0
    have z1 : W10.cell? ⟨(N + 1 + 1), 1, none⟩ = some (.int .i64 s.stamp) := cell_at hO9 1
    have z2 : W10.cell? ⟨(N + 1 + 1), 2, none⟩ = some (.int .i64 s.next) := cell_at hO9 2
    have z3 : W10.cell? ⟨(N + 1 + 1), 3, none⟩ = some (vt9) := cell_at hO9 3
    have z4 : W10.cell? ⟨(N + 1 + 1), 4, none⟩ = some (.slice b2 m2 k2) := cell_at hO9 4
    have z5 : W10.cell? ⟨(N + 1 + 1), 5, none⟩ = some (.slice b3 m3 k3) := cell_at hO9 5
    have z6 : W10.cell? ⟨(N + 1 + 1), 6, none⟩ = some (.slice b4 m4 k4) := cell_at hO9 6
    exact ⟨.tuple #[.agg #[.int .i64 s.term, .int .i64 s.stamp, .int .i64 s.next, vt9, .slice b2 m2 k2, .slice b3 m3 k3, .slice b4 m4 k4], .int .i64 2], by simp [results, Try.results22, go_sem, z0, z1, z2, z3, z4, z5, z6], _, rfl, (by rw [HR9.out, if_neg (by decide)]; exact ⟨_, _, _, _, rfl, hQ9, (O2.out.fr hF9 (by have := FO2.out; omega)).v, (O3.out.fr hF9 (by have := FO3.out; omega)).v, (O4.out.fr hF9 (by have := FO4.out; omega)).v⟩), HB.out.trans (hF9.below HB.out.size (by have := HLON.out; simp; omega))⟩
  have ttd : decide (x.size < sp) = false := decide_eq_false hd
  have hE0 : E = 0 := by rw [HEX.out, if_neg (by omega)]
  subst hE0
  replace HR9 : Hid (R = sweptS (rpL s le sp cl)) := Lib.hid (by rw [HR9.out, if_pos rfl])
  clear HEX HE9
  cases cl
  rotate_left
  · skip
    have qO0 : W8.cell? ⟨(N + 1 + 1), 0, none⟩ = some (.int .i64 s.term) := cell_at HO.out 0
    have qO1 : W8.cell? ⟨(N + 1 + 1), 1, none⟩ = some (.int .i64 s.stamp) := cell_at HO.out 1
    have qO2 : W8.cell? ⟨(N + 1 + 1), 2, none⟩ = some (.int .i64 s.next) := cell_at HO.out 2
    have qO3 : W8.cell? ⟨(N + 1 + 1), 3, none⟩ = some (.slice b1 m1 k1) := cell_at HO.out 3
    have qO4 : W8.cell? ⟨(N + 1 + 1), 4, none⟩ = some (.slice b2 m2 k2) := cell_at HO.out 4
    have qO5 : W8.cell? ⟨(N + 1 + 1), 5, none⟩ = some (.slice b3 m3 k3) := cell_at HO.out 5
    have qO6 : W8.cell? ⟨(N + 1 + 1), 6, none⟩ = some (.slice b4 m4 k4) := cell_at HO.out 6
    have qOz : ∀ j, W8.frozen? ⟨(N + 1 + 1), j, none⟩ = false := fun j => free_at HO.out j
    have qOl : (N + 1 + 1) < W8.heap.size := HO.out.lt
    have qKB0 : W8.cell? ⟨(N + 1), 0, none⟩ = some (.int .i64 le) := cell_at HKB.out 0
    have qKBz : ∀ j, W8.frozen? ⟨(N + 1), j, none⟩ = false := fun j => free_at HKB.out j
    have qKBl : (N + 1) < W8.heap.size := HKB.out.lt
    have HKN := Lib.hid (show ∀ Y, Below W8.heap.size W8 Y → Y.cell? ⟨N + 1, 0, none⟩ = some (.int .i64 le) ∧ N + 1 < Y.heap.size from fun Y hY => ⟨(hY.cell (p := ⟨N + 1, 0, none⟩) HKB.out.lt).trans (cell_at HKB.out 0), Nat.lt_of_lt_of_le HKB.out.lt hY.size⟩)
    have HWO := Lib.hid (lwithout_any _ #[.pointer (some ⟨N + 1, 0, none⟩)] (fun x => decide (x.id = le)) _ s.ls W8 W8 O2.out.v ent_rp2 (fun x Y hx hY => rp2_any x le (N + 1) Y (HKN.out Y hY).1 (HKN.out Y hY).2) (Below.refl _ _) (by rw [← Hln.out]; exact f2))
    have qX90 : W8.cell? ⟨X9, 0, none⟩ = some (.int .i64 x.id) := cell_at HX9.out 0
    have qX91 : W8.cell? ⟨X9, 1, none⟩ = some (.int .i64 x.tenant) := cell_at HX9.out 1
    have qX92 : W8.cell? ⟨X9, 2, none⟩ = some (.int .i64 x.shaper) := cell_at HX9.out 2
    have qX93 : W8.cell? ⟨X9, 3, none⟩ = some (.int .i64 x.epoch) := cell_at HX9.out 3
    have qX94 : W8.cell? ⟨X9, 4, none⟩ = some (.int .i64 x.number) := cell_at HX9.out 4
    have qX95 : W8.cell? ⟨X9, 5, none⟩ = some (.int .i64 x.size) := cell_at HX9.out 5
    have qX96 : W8.cell? ⟨X9, 6, none⟩ = some (.int .i64 x.spent) := cell_at HX9.out 6
    have qX9z : ∀ j, W8.frozen? ⟨X9, j, none⟩ = false := fun j => free_at HX9.out j
    have qX9l : X9 < W8.heap.size := HX9.out.lt
    go_wp2_with fail
    go_at_call 53
    go_fit HWO.out
    rintro e W9 ⟨v5, rfl, hv5, hB⟩
    clear qO0 qO1 qO2 qO3 qO4 qO5 qO6 qOz qOl qKB0 qKBz qKBl qX90 qX91 qX92 qX93 qX94 qX95 qX96 qX9z qX9l
    replace HB := Lib.hid (HB.out.trans (hB.mono HB.out.size))
    replace HT := Lib.hid (HT0.out.below HB.out)
    replace HL := Lib.hid (HL0.out.below HB.out)
    replace HS := Lib.hid (HS0.out.below HB.out)
    replace HD := Lib.hid (HD0.out.below HB.out)
    replace HR := Lib.hid (HR.out.step hB)
    replace HKB := Lib.hid (HKB.out.step hB)
    replace HO := Lib.hid (HO.out.step hB)
    replace O1 := Lib.hid (O1.out.step hB)
    replace O2 := Lib.hid (O2.out.step hB)
    replace O3 := Lib.hid (O3.out.step hB)
    replace O4 := Lib.hid (O4.out.step hB)
    replace HX9 := Lib.hid (HX9.out.step hB)
    clear hB
    obtain ⟨b5, m5, k5, rfl, Hb5, x5, y5⟩ := hv5.sh
    have HQ : Hid (LeV _ _ (wo le s.ls)) := Lib.hid hv5
    clear hv5 HWO HKN
    have HZ9 : Hid (sizeB (wo le s.ls)) := Lib.hid (sizeB_filter _ HSZ9.out)
    have HF1 : Hid ((wo le s.ls).length ≤ 200) := Lib.hid (Nat.le_trans (List.length_filter_le _ _) HFEW.out.2.1)
    have qO0 : W9.cell? ⟨(N + 1 + 1), 0, none⟩ = some (.int .i64 s.term) := cell_at HO.out 0
    have qO1 : W9.cell? ⟨(N + 1 + 1), 1, none⟩ = some (.int .i64 s.stamp) := cell_at HO.out 1
    have qO2 : W9.cell? ⟨(N + 1 + 1), 2, none⟩ = some (.int .i64 s.next) := cell_at HO.out 2
    have qO3 : W9.cell? ⟨(N + 1 + 1), 3, none⟩ = some (.slice b1 m1 k1) := cell_at HO.out 3
    have qO4 : W9.cell? ⟨(N + 1 + 1), 4, none⟩ = some (.slice b2 m2 k2) := cell_at HO.out 4
    have qO5 : W9.cell? ⟨(N + 1 + 1), 5, none⟩ = some (.slice b3 m3 k3) := cell_at HO.out 5
    have qO6 : W9.cell? ⟨(N + 1 + 1), 6, none⟩ = some (.slice b4 m4 k4) := cell_at HO.out 6
    have qOz : ∀ j, W9.frozen? ⟨(N + 1 + 1), j, none⟩ = false := fun j => free_at HO.out j
    have qOl : (N + 1 + 1) < W9.heap.size := HO.out.lt
    go_upto_region 15 with fail
    clear qO0 qO1 qO2 qO3 qO4 qO5 qO6 qOz qOl
    obtain ⟨W10, hWS⟩ : ∃ WS, WS = W9.setCell ⟨(N + 1 + 1), 4, none⟩ (.slice b5 m5 k5) := ⟨_, rfl⟩
    rw [← hWS]
    have hfS : Fr [(N + 1 + 1)] W9 W10 := by rw [hWS]; exact (Fr.refl _ _).setCell _ (.inl (by simp)) _
    have hkS : Blk W10 (N + 1 + 1) #[.int .i64 s.term, .int .i64 s.stamp, .int .i64 s.next, .slice b1 m1 k1, .slice b5 m5 k5, .slice b3 m3 k3, .slice b4 m4 k4] 27 := by rw [hWS]; exact HO.out.set 4 _
    replace HB := Lib.hid (HB.out.trans (hfS.below HB.out.size (by have := HLON.out; simp; try omega)))
    replace HT := Lib.hid (HT0.out.below HB.out)
    replace HL := Lib.hid (HL0.out.below HB.out)
    replace HS := Lib.hid (HS0.out.below HB.out)
    replace HD := Lib.hid (HD0.out.below HB.out)
    replace HR := Lib.hid (show Blk W10 N #[.int .i64 s.term, .int .i64 s.stamp, .int .i64 s.next, .slice ta tn tc, .slice (some ⟨g, o, none⟩) ln lc, .slice sa sn sc, .slice da dn dc] 27 from (hfS.block _ HR.out.lt (by have hx0 := HXX9HR.out; have hx1 := HXX9HKB.out; have hx2 := HXX9HO.out; simp; try omega)).trans HR.out)
    replace HKB := Lib.hid (show Blk W10 (N + 1) #[.int .i64 le] 3 from (hfS.block _ HKB.out.lt (by have hx0 := HXX9HR.out; have hx1 := HXX9HKB.out; have hx2 := HXX9HO.out; simp; try omega)).trans HKB.out)
    replace O1 := Lib.hid (O1.out.fr hfS (by have := FO1.out; omega))
    replace O2 := Lib.hid (O2.out.fr hfS (by have := FO2.out; omega))
    replace O3 := Lib.hid (O3.out.fr hfS (by have := FO3.out; omega))
    replace O4 := Lib.hid (O4.out.fr hfS (by have := FO4.out; omega))
    replace HX9 := Lib.hid (show Blk W10 X9 #[.int .i64 x.id, .int .i64 x.tenant, .int .i64 x.shaper, .int .i64 x.epoch, .int .i64 x.number, .int .i64 x.size, .int .i64 x.spent] 31 from (hfS.block _ HX9.out.lt (by have hx0 := HXX9HR.out; have hx1 := HXX9HKB.out; have hx2 := HXX9HO.out; simp; try omega)).trans HX9.out)
    replace HQ := Lib.hid (HQ.out.fr HO.out hfS)
    replace HO := Lib.hid (show Blk W10 (N + 1 + 1) #[.int .i64 s.term, .int .i64 s.stamp, .int .i64 s.next, .slice b1 m1 k1, .slice b5 m5 k5, .slice b3 m3 k3, .slice b4 m4 k4] 27 from hkS)
    clear hWS hfS hkS
    have HSV2 : Hid (SV W10 (.agg #[.int .i64 s.term, .int .i64 s.stamp, .int .i64 s.next, .slice b1 m1 k1, .slice b5 m5 k5, .slice b3 m3 k3, .slice b4 m4 k4]) ⟨s.term, s.stamp, s.next, s.ts, wo le s.ls, s.ss, s.ds⟩) := Lib.hid ⟨_, _, _, _, rfl, tn_tv O1.out.v, HQ.out, O3.out.v, O4.out.v⟩
    obtain ⟨lft, hlft⟩ : ∃ n, n = x.size - sp := ⟨_, rfl⟩
    have wl : IntKind.i64.wrap (x.size - sp) = lft := (IntWalk.i64_in _ (by omega)).trans hlft.symm
    have HBK := Lib.hid (back_led _ _ x.tenant lft W10 HSV2.out ⟨HFEW.out.1, HF1.out, HFEW.out.2.2.1, HFEW.out.2.2.2⟩ HZ9.out (by omega))
    have HLFT := Lib.hid hlft
    clear hlft
    have qO0 : W10.cell? ⟨(N + 1 + 1), 0, none⟩ = some (.int .i64 s.term) := cell_at HO.out 0
    have qO1 : W10.cell? ⟨(N + 1 + 1), 1, none⟩ = some (.int .i64 s.stamp) := cell_at HO.out 1
    have qO2 : W10.cell? ⟨(N + 1 + 1), 2, none⟩ = some (.int .i64 s.next) := cell_at HO.out 2
    have qO3 : W10.cell? ⟨(N + 1 + 1), 3, none⟩ = some (.slice b1 m1 k1) := cell_at HO.out 3
    have qO4 : W10.cell? ⟨(N + 1 + 1), 4, none⟩ = some (.slice b5 m5 k5) := cell_at HO.out 4
    have qO5 : W10.cell? ⟨(N + 1 + 1), 5, none⟩ = some (.slice b3 m3 k3) := cell_at HO.out 5
    have qO6 : W10.cell? ⟨(N + 1 + 1), 6, none⟩ = some (.slice b4 m4 k4) := cell_at HO.out 6
    have qOz : ∀ j, W10.frozen? ⟨(N + 1 + 1), j, none⟩ = false := fun j => free_at HO.out j
    have qOl : (N + 1 + 1) < W10.heap.size := HO.out.lt
    have qX90 : W10.cell? ⟨X9, 0, none⟩ = some (.int .i64 x.id) := cell_at HX9.out 0
    have qX91 : W10.cell? ⟨X9, 1, none⟩ = some (.int .i64 x.tenant) := cell_at HX9.out 1
    have qX92 : W10.cell? ⟨X9, 2, none⟩ = some (.int .i64 x.shaper) := cell_at HX9.out 2
    have qX93 : W10.cell? ⟨X9, 3, none⟩ = some (.int .i64 x.epoch) := cell_at HX9.out 3
    have qX94 : W10.cell? ⟨X9, 4, none⟩ = some (.int .i64 x.number) := cell_at HX9.out 4
    have qX95 : W10.cell? ⟨X9, 5, none⟩ = some (.int .i64 x.size) := cell_at HX9.out 5
    have qX96 : W10.cell? ⟨X9, 6, none⟩ = some (.int .i64 x.spent) := cell_at HX9.out 6
    have qX9z : ∀ j, W10.frozen? ⟨X9, j, none⟩ = false := fun j => free_at HX9.out j
    have qX9l : X9 < W10.heap.size := HX9.out.lt
    go_wp2_with fail
    go_at_call 55
    go_fit HBK.out
    rintro e W11 ⟨v6, rfl, hv6, hB⟩
    clear qO0 qO1 qO2 qO3 qO4 qO5 qO6 qOz qOl qX90 qX91 qX92 qX93 qX94 qX95 qX96 qX9z qX9l
    replace HB := Lib.hid (HB.out.trans (hB.mono HB.out.size))
    replace HT := Lib.hid (HT0.out.below HB.out)
    replace HL := Lib.hid (HL0.out.below HB.out)
    replace HS := Lib.hid (HS0.out.below HB.out)
    replace HD := Lib.hid (HD0.out.below HB.out)
    replace HR := Lib.hid (HR.out.step hB)
    replace HKB := Lib.hid (HKB.out.step hB)
    replace HO := Lib.hid (HO.out.step hB)
    replace O1 := Lib.hid (O1.out.step hB)
    replace O2 := Lib.hid (O2.out.step hB)
    replace O3 := Lib.hid (O3.out.step hB)
    replace O4 := Lib.hid (O4.out.step hB)
    replace HX9 := Lib.hid (HX9.out.step hB)
    replace HQ := Lib.hid (HQ.out.below hB)
    clear hB
    obtain ⟨b6, m6, k6, rfl, Hb6, x6, y6⟩ := hv6.sh
    have HQ6 := Lib.hid hv6
    clear hv6 HBK wl
    have qO0 : W11.cell? ⟨(N + 1 + 1), 0, none⟩ = some (.int .i64 s.term) := cell_at HO.out 0
    have qO1 : W11.cell? ⟨(N + 1 + 1), 1, none⟩ = some (.int .i64 s.stamp) := cell_at HO.out 1
    have qO2 : W11.cell? ⟨(N + 1 + 1), 2, none⟩ = some (.int .i64 s.next) := cell_at HO.out 2
    have qO3 : W11.cell? ⟨(N + 1 + 1), 3, none⟩ = some (.slice b1 m1 k1) := cell_at HO.out 3
    have qO4 : W11.cell? ⟨(N + 1 + 1), 4, none⟩ = some (.slice b5 m5 k5) := cell_at HO.out 4
    have qO5 : W11.cell? ⟨(N + 1 + 1), 5, none⟩ = some (.slice b3 m3 k3) := cell_at HO.out 5
    have qO6 : W11.cell? ⟨(N + 1 + 1), 6, none⟩ = some (.slice b4 m4 k4) := cell_at HO.out 6
    have qOz : ∀ j, W11.frozen? ⟨(N + 1 + 1), j, none⟩ = false := fun j => free_at HO.out j
    have qOl : (N + 1 + 1) < W11.heap.size := HO.out.lt
    go_upto_region 17 with fail
    clear qO0 qO1 qO2 qO3 qO4 qO5 qO6 qOz qOl
    obtain ⟨W12, hWS⟩ : ∃ WS, WS = W11.setCell ⟨(N + 1 + 1), 3, none⟩ (.slice b6 m6 k6) := ⟨_, rfl⟩
    rw [← hWS]
    have hfS : Fr [(N + 1 + 1)] W11 W12 := by rw [hWS]; exact (Fr.refl _ _).setCell _ (.inl (by simp)) _
    have hkS : Blk W12 (N + 1 + 1) #[.int .i64 s.term, .int .i64 s.stamp, .int .i64 s.next, .slice b6 m6 k6, .slice b5 m5 k5, .slice b3 m3 k3, .slice b4 m4 k4] 27 := by rw [hWS]; exact HO.out.set 3 _
    replace HB := Lib.hid (HB.out.trans (hfS.below HB.out.size (by have := HLON.out; simp; try omega)))
    replace HT := Lib.hid (HT0.out.below HB.out)
    replace HL := Lib.hid (HL0.out.below HB.out)
    replace HS := Lib.hid (HS0.out.below HB.out)
    replace HD := Lib.hid (HD0.out.below HB.out)
    replace HR := Lib.hid (show Blk W12 N #[.int .i64 s.term, .int .i64 s.stamp, .int .i64 s.next, .slice ta tn tc, .slice (some ⟨g, o, none⟩) ln lc, .slice sa sn sc, .slice da dn dc] 27 from (hfS.block _ HR.out.lt (by have hx0 := HXX9HR.out; have hx1 := HXX9HKB.out; have hx2 := HXX9HO.out; simp; try omega)).trans HR.out)
    replace HKB := Lib.hid (show Blk W12 (N + 1) #[.int .i64 le] 3 from (hfS.block _ HKB.out.lt (by have hx0 := HXX9HR.out; have hx1 := HXX9HKB.out; have hx2 := HXX9HO.out; simp; try omega)).trans HKB.out)
    replace O1 := Lib.hid (O1.out.fr hfS (by have := FO1.out; omega))
    replace O2 := Lib.hid (O2.out.fr hfS (by have := FO2.out; omega))
    replace O3 := Lib.hid (O3.out.fr hfS (by have := FO3.out; omega))
    replace O4 := Lib.hid (O4.out.fr hfS (by have := FO4.out; omega))
    replace HX9 := Lib.hid (show Blk W12 X9 #[.int .i64 x.id, .int .i64 x.tenant, .int .i64 x.shaper, .int .i64 x.epoch, .int .i64 x.number, .int .i64 x.size, .int .i64 x.spent] 31 from (hfS.block _ HX9.out.lt (by have hx0 := HXX9HR.out; have hx1 := HXX9HKB.out; have hx2 := HXX9HO.out; simp; try omega)).trans HX9.out)
    replace HQ := Lib.hid (HQ.out.fr HO.out hfS)
    replace HQ6 := Lib.hid (HQ6.out.fr HO.out hfS)
    replace HO := Lib.hid (show Blk W12 (N + 1 + 1) #[.int .i64 s.term, .int .i64 s.stamp, .int .i64 s.next, .slice b6 m6 k6, .slice b5 m5 k5, .slice b3 m3 k3, .slice b4 m4 k4] 27 from hkS)
    clear hWS hfS hkS
    obtain ⟨ts2, hts2⟩ : ∃ t, t = bkL s.ts x.tenant (outL (wo le s.ls) x.tenant) lft := ⟨_, rfl⟩
    have HLN2 : Hid (ts2.length ≤ 200) := Lib.hid (by rw [hts2]; exact Nat.le_trans (bkL_len _ _ _ _) (by have := chk_len (chkS_parts HCHK.out).1; omega))
    replace HQ6 : Hid (TV _ _ ts2) := Lib.hid (by rw [hts2]; exact HQ6.out)
    have HTS2 := Lib.hid hts2
    clear hts2
    have HF9 : Hid (fewS ⟨s.term, s.stamp, s.next, ts2, wo le s.ls, s.ss, s.ds⟩) := Lib.hid ⟨HLN2.out, HF1.out, HFEW.out.2.2.1, HFEW.out.2.2.2⟩
    have qO0 : W12.cell? ⟨(N + 1 + 1), 0, none⟩ = some (.int .i64 s.term) := cell_at HO.out 0
    have qO1 : W12.cell? ⟨(N + 1 + 1), 1, none⟩ = some (.int .i64 s.stamp) := cell_at HO.out 1
    have qO2 : W12.cell? ⟨(N + 1 + 1), 2, none⟩ = some (.int .i64 s.next) := cell_at HO.out 2
    have qO3 : W12.cell? ⟨(N + 1 + 1), 3, none⟩ = some (.slice b6 m6 k6) := cell_at HO.out 3
    have qO4 : W12.cell? ⟨(N + 1 + 1), 4, none⟩ = some (.slice b5 m5 k5) := cell_at HO.out 4
    have qO5 : W12.cell? ⟨(N + 1 + 1), 5, none⟩ = some (.slice b3 m3 k3) := cell_at HO.out 5
    have qO6 : W12.cell? ⟨(N + 1 + 1), 6, none⟩ = some (.slice b4 m4 k4) := cell_at HO.out 6
    have qOz : ∀ j, W12.frozen? ⟨(N + 1 + 1), j, none⟩ = false := fun j => free_at HO.out j
    have qOl : (N + 1 + 1) < W12.heap.size := HO.out.lt
    go_wp2_with fail
    clear qO0 qO1 qO2 qO3 qO4 qO5 qO6 qOz qOl
    obtain ⟨LS, hLS⟩ : ∃ L : List Value, L = [.int .i64 s.term, .int .i64 s.stamp, .int .i64 s.next, .slice b6 m6 k6, .slice b5 m5 k5, .slice b3 m3 k3, .slice b4 m4 k4] := ⟨_, rfl⟩
    obtain ⟨W13, hWS⟩ : ∃ WS, WS = W12.setCells (N + 1 + 1) 0 LS := ⟨_, rfl⟩
    have hch := hWS
    rw [hLS] at hch
    simp only [World.setCells, Nat.zero_add, Nat.reduceAdd] at hch
    rw [← hch]
    clear hch
    have hkS := stC_blk HO.out LS (by rw [hLS]; rfl)
    have hfS := stC_fr (N + 1 + 1) LS 0 W12
    rw [← hWS] at hkS hfS
    rw [hLS] at hkS
    replace HB := Lib.hid (HB.out.trans (hfS.below HB.out.size (by have := HLON.out; simp; try omega)))
    replace HT := Lib.hid (HT0.out.below HB.out)
    replace HL := Lib.hid (HL0.out.below HB.out)
    replace HS := Lib.hid (HS0.out.below HB.out)
    replace HD := Lib.hid (HD0.out.below HB.out)
    replace HR := Lib.hid (show Blk W13 N #[.int .i64 s.term, .int .i64 s.stamp, .int .i64 s.next, .slice ta tn tc, .slice (some ⟨g, o, none⟩) ln lc, .slice sa sn sc, .slice da dn dc] 27 from (hfS.block _ HR.out.lt (by have hx0 := HXX9HR.out; have hx1 := HXX9HKB.out; have hx2 := HXX9HO.out; simp; try omega)).trans HR.out)
    replace HKB := Lib.hid (show Blk W13 (N + 1) #[.int .i64 le] 3 from (hfS.block _ HKB.out.lt (by have hx0 := HXX9HR.out; have hx1 := HXX9HKB.out; have hx2 := HXX9HO.out; simp; try omega)).trans HKB.out)
    replace O1 := Lib.hid (O1.out.fr hfS (by have := FO1.out; omega))
    replace O2 := Lib.hid (O2.out.fr hfS (by have := FO2.out; omega))
    replace O3 := Lib.hid (O3.out.fr hfS (by have := FO3.out; omega))
    replace O4 := Lib.hid (O4.out.fr hfS (by have := FO4.out; omega))
    replace HX9 := Lib.hid (show Blk W13 X9 #[.int .i64 x.id, .int .i64 x.tenant, .int .i64 x.shaper, .int .i64 x.epoch, .int .i64 x.number, .int .i64 x.size, .int .i64 x.spent] 31 from (hfS.block _ HX9.out.lt (by have hx0 := HXX9HR.out; have hx1 := HXX9HKB.out; have hx2 := HXX9HO.out; simp; try omega)).trans HX9.out)
    replace HQ := Lib.hid (HQ.out.fr HO.out hfS)
    replace HQ6 := Lib.hid (HQ6.out.fr HO.out hfS)
    replace HO := Lib.hid (show Blk W13 (N + 1 + 1) #[.int .i64 s.term, .int .i64 s.stamp, .int .i64 s.next, .slice b6 m6 k6, .slice b5 m5 k5, .slice b3 m3 k3, .slice b4 m4 k4] 27 from hkS)
    clear hWS hLS hkS hfS
    refine leaves_cons (f := 52) (args := #[.pointer (some ⟨(N + 1 + 1), 0, none⟩)]) (by simp) (by simp [go_sem]) ?_
    refine (report1_d .returning _ _ _ _ (⟨s.term, s.stamp, s.next, ts2, wo le s.ls, s.ss, s.ds⟩) (N + 1 + 1) _ HO.out HQ6.out HQ.out O3.out.v O4.out.v HF9.out HZ9.out).mono ?_
    rintro e u9 W14 ⟨rfl, vt9, rfl, hO9, hQ9, hF9⟩
    have z0 : W14.cell? ⟨(N + 1 + 1), 0, none⟩ = some (.int .i64 s.term) := cell_at hO9 0
    have z1 : W14.cell? ⟨(N + 1 + 1), 1, none⟩ = some (.int .i64 s.stamp) := cell_at hO9 1
    have z2 : W14.cell? ⟨(N + 1 + 1), 2, none⟩ = some (.int .i64 s.next) := cell_at hO9 2
    have z3 : W14.cell? ⟨(N + 1 + 1), 3, none⟩ = some (vt9) := cell_at hO9 3
    have z4 : W14.cell? ⟨(N + 1 + 1), 4, none⟩ = some (.slice b5 m5 k5) := cell_at hO9 4
    have z5 : W14.cell? ⟨(N + 1 + 1), 5, none⟩ = some (.slice b3 m3 k3) := cell_at hO9 5
    have z6 : W14.cell? ⟨(N + 1 + 1), 6, none⟩ = some (.slice b4 m4 k4) := cell_at hO9 6
    exact ⟨.tuple #[.agg #[.int .i64 s.term, .int .i64 s.stamp, .int .i64 s.next, vt9, .slice b5 m5 k5, .slice b3 m3 k3, .slice b4 m4 k4], .int .i64 0], by simp [results, Try.results22, go_sem, z0, z1, z2, z3, z4, z5, z6], _, rfl, (by rw [HR9.out, HRL.out, if_neg (by simp)]; simp only [if_true]; rw [← HLFT.out, ← HTS2.out]; exact ⟨_, _, _, _, rfl, hQ9, HQ.out.fr HO.out hF9, (O3.out.fr hF9 (by have := FO3.out; omega)).v, (O4.out.fr hF9 (by have := FO4.out; omega)).v⟩), HB.out.trans (hF9.below HB.out.size (by have := HLON.out; simp; omega))⟩
  by_cases he : sp < x.size
  rotate_left
  · skip
    have tte : decide (sp < x.size) = false := decide_eq_false he
    have qO0 : W8.cell? ⟨(N + 1 + 1), 0, none⟩ = some (.int .i64 s.term) := cell_at HO.out 0
    have qO1 : W8.cell? ⟨(N + 1 + 1), 1, none⟩ = some (.int .i64 s.stamp) := cell_at HO.out 1
    have qO2 : W8.cell? ⟨(N + 1 + 1), 2, none⟩ = some (.int .i64 s.next) := cell_at HO.out 2
    have qO3 : W8.cell? ⟨(N + 1 + 1), 3, none⟩ = some (.slice b1 m1 k1) := cell_at HO.out 3
    have qO4 : W8.cell? ⟨(N + 1 + 1), 4, none⟩ = some (.slice b2 m2 k2) := cell_at HO.out 4
    have qO5 : W8.cell? ⟨(N + 1 + 1), 5, none⟩ = some (.slice b3 m3 k3) := cell_at HO.out 5
    have qO6 : W8.cell? ⟨(N + 1 + 1), 6, none⟩ = some (.slice b4 m4 k4) := cell_at HO.out 6
    have qOz : ∀ j, W8.frozen? ⟨(N + 1 + 1), j, none⟩ = false := fun j => free_at HO.out j
    have qOl : (N + 1 + 1) < W8.heap.size := HO.out.lt
    have qKB0 : W8.cell? ⟨(N + 1), 0, none⟩ = some (.int .i64 le) := cell_at HKB.out 0
    have qKBz : ∀ j, W8.frozen? ⟨(N + 1), j, none⟩ = false := fun j => free_at HKB.out j
    have qKBl : (N + 1) < W8.heap.size := HKB.out.lt
    have HKN := Lib.hid (show ∀ Y, Below W8.heap.size W8 Y → Y.cell? ⟨N + 1, 0, none⟩ = some (.int .i64 le) ∧ N + 1 < Y.heap.size from fun Y hY => ⟨(hY.cell (p := ⟨N + 1, 0, none⟩) HKB.out.lt).trans (cell_at HKB.out 0), Nat.lt_of_lt_of_le HKB.out.lt hY.size⟩)
    have HWO := Lib.hid (lwithout_any _ #[.pointer (some ⟨N + 1, 0, none⟩)] (fun x => decide (x.id = le)) _ s.ls W8 W8 O2.out.v ent_rp2 (fun x Y hx hY => rp2_any x le (N + 1) Y (HKN.out Y hY).1 (HKN.out Y hY).2) (Below.refl _ _) (by rw [← Hln.out]; exact f2))
    have qX90 : W8.cell? ⟨X9, 0, none⟩ = some (.int .i64 x.id) := cell_at HX9.out 0
    have qX91 : W8.cell? ⟨X9, 1, none⟩ = some (.int .i64 x.tenant) := cell_at HX9.out 1
    have qX92 : W8.cell? ⟨X9, 2, none⟩ = some (.int .i64 x.shaper) := cell_at HX9.out 2
    have qX93 : W8.cell? ⟨X9, 3, none⟩ = some (.int .i64 x.epoch) := cell_at HX9.out 3
    have qX94 : W8.cell? ⟨X9, 4, none⟩ = some (.int .i64 x.number) := cell_at HX9.out 4
    have qX95 : W8.cell? ⟨X9, 5, none⟩ = some (.int .i64 x.size) := cell_at HX9.out 5
    have qX96 : W8.cell? ⟨X9, 6, none⟩ = some (.int .i64 x.spent) := cell_at HX9.out 6
    have qX9z : ∀ j, W8.frozen? ⟨X9, j, none⟩ = false := fun j => free_at HX9.out j
    have qX9l : X9 < W8.heap.size := HX9.out.lt
    go_wp2_with fail
    go_at_call 53
    go_fit HWO.out
    rintro e W9 ⟨v5, rfl, hv5, hB⟩
    clear qO0 qO1 qO2 qO3 qO4 qO5 qO6 qOz qOl qKB0 qKBz qKBl qX90 qX91 qX92 qX93 qX94 qX95 qX96 qX9z qX9l
    replace HB := Lib.hid (HB.out.trans (hB.mono HB.out.size))
    replace HT := Lib.hid (HT0.out.below HB.out)
    replace HL := Lib.hid (HL0.out.below HB.out)
    replace HS := Lib.hid (HS0.out.below HB.out)
    replace HD := Lib.hid (HD0.out.below HB.out)
    replace HR := Lib.hid (HR.out.step hB)
    replace HKB := Lib.hid (HKB.out.step hB)
    replace HO := Lib.hid (HO.out.step hB)
    replace O1 := Lib.hid (O1.out.step hB)
    replace O2 := Lib.hid (O2.out.step hB)
    replace O3 := Lib.hid (O3.out.step hB)
    replace O4 := Lib.hid (O4.out.step hB)
    replace HX9 := Lib.hid (HX9.out.step hB)
    clear hB
    obtain ⟨b5, m5, k5, rfl, Hb5, x5, y5⟩ := hv5.sh
    have HQ : Hid (LeV _ _ (wo le s.ls)) := Lib.hid hv5
    clear hv5 HWO HKN
    have HZ9 : Hid (sizeB (wo le s.ls)) := Lib.hid (sizeB_filter _ HSZ9.out)
    have HF1 : Hid ((wo le s.ls).length ≤ 200) := Lib.hid (Nat.le_trans (List.length_filter_le _ _) HFEW.out.2.1)
    have qO0 : W9.cell? ⟨(N + 1 + 1), 0, none⟩ = some (.int .i64 s.term) := cell_at HO.out 0
    have qO1 : W9.cell? ⟨(N + 1 + 1), 1, none⟩ = some (.int .i64 s.stamp) := cell_at HO.out 1
    have qO2 : W9.cell? ⟨(N + 1 + 1), 2, none⟩ = some (.int .i64 s.next) := cell_at HO.out 2
    have qO3 : W9.cell? ⟨(N + 1 + 1), 3, none⟩ = some (.slice b1 m1 k1) := cell_at HO.out 3
    have qO4 : W9.cell? ⟨(N + 1 + 1), 4, none⟩ = some (.slice b2 m2 k2) := cell_at HO.out 4
    have qO5 : W9.cell? ⟨(N + 1 + 1), 5, none⟩ = some (.slice b3 m3 k3) := cell_at HO.out 5
    have qO6 : W9.cell? ⟨(N + 1 + 1), 6, none⟩ = some (.slice b4 m4 k4) := cell_at HO.out 6
    have qOz : ∀ j, W9.frozen? ⟨(N + 1 + 1), j, none⟩ = false := fun j => free_at HO.out j
    have qOl : (N + 1 + 1) < W9.heap.size := HO.out.lt
    go_upto_region 15 with fail
    clear qO0 qO1 qO2 qO3 qO4 qO5 qO6 qOz qOl
    obtain ⟨W10, hWS⟩ : ∃ WS, WS = W9.setCell ⟨(N + 1 + 1), 4, none⟩ (.slice b5 m5 k5) := ⟨_, rfl⟩
    rw [← hWS]
    have hfS : Fr [(N + 1 + 1)] W9 W10 := by rw [hWS]; exact (Fr.refl _ _).setCell _ (.inl (by simp)) _
    have hkS : Blk W10 (N + 1 + 1) #[.int .i64 s.term, .int .i64 s.stamp, .int .i64 s.next, .slice b1 m1 k1, .slice b5 m5 k5, .slice b3 m3 k3, .slice b4 m4 k4] 27 := by rw [hWS]; exact HO.out.set 4 _
    replace HB := Lib.hid (HB.out.trans (hfS.below HB.out.size (by have := HLON.out; simp; try omega)))
    replace HT := Lib.hid (HT0.out.below HB.out)
    replace HL := Lib.hid (HL0.out.below HB.out)
    replace HS := Lib.hid (HS0.out.below HB.out)
    replace HD := Lib.hid (HD0.out.below HB.out)
    replace HR := Lib.hid (show Blk W10 N #[.int .i64 s.term, .int .i64 s.stamp, .int .i64 s.next, .slice ta tn tc, .slice (some ⟨g, o, none⟩) ln lc, .slice sa sn sc, .slice da dn dc] 27 from (hfS.block _ HR.out.lt (by have hx0 := HXX9HR.out; have hx1 := HXX9HKB.out; have hx2 := HXX9HO.out; simp; try omega)).trans HR.out)
    replace HKB := Lib.hid (show Blk W10 (N + 1) #[.int .i64 le] 3 from (hfS.block _ HKB.out.lt (by have hx0 := HXX9HR.out; have hx1 := HXX9HKB.out; have hx2 := HXX9HO.out; simp; try omega)).trans HKB.out)
    replace O1 := Lib.hid (O1.out.fr hfS (by have := FO1.out; omega))
    replace O2 := Lib.hid (O2.out.fr hfS (by have := FO2.out; omega))
    replace O3 := Lib.hid (O3.out.fr hfS (by have := FO3.out; omega))
    replace O4 := Lib.hid (O4.out.fr hfS (by have := FO4.out; omega))
    replace HX9 := Lib.hid (show Blk W10 X9 #[.int .i64 x.id, .int .i64 x.tenant, .int .i64 x.shaper, .int .i64 x.epoch, .int .i64 x.number, .int .i64 x.size, .int .i64 x.spent] 31 from (hfS.block _ HX9.out.lt (by have hx0 := HXX9HR.out; have hx1 := HXX9HKB.out; have hx2 := HXX9HO.out; simp; try omega)).trans HX9.out)
    replace HQ := Lib.hid (HQ.out.fr HO.out hfS)
    replace HO := Lib.hid (show Blk W10 (N + 1 + 1) #[.int .i64 s.term, .int .i64 s.stamp, .int .i64 s.next, .slice b1 m1 k1, .slice b5 m5 k5, .slice b3 m3 k3, .slice b4 m4 k4] 27 from hkS)
    clear hWS hfS hkS
    have HF9 : Hid (fewS ⟨s.term, s.stamp, s.next, s.ts, wo le s.ls, s.ss, s.ds⟩) := Lib.hid ⟨HFEW.out.1, HF1.out, HFEW.out.2.2.1, HFEW.out.2.2.2⟩
    have qO0 : W10.cell? ⟨(N + 1 + 1), 0, none⟩ = some (.int .i64 s.term) := cell_at HO.out 0
    have qO1 : W10.cell? ⟨(N + 1 + 1), 1, none⟩ = some (.int .i64 s.stamp) := cell_at HO.out 1
    have qO2 : W10.cell? ⟨(N + 1 + 1), 2, none⟩ = some (.int .i64 s.next) := cell_at HO.out 2
    have qO3 : W10.cell? ⟨(N + 1 + 1), 3, none⟩ = some (.slice b1 m1 k1) := cell_at HO.out 3
    have qO4 : W10.cell? ⟨(N + 1 + 1), 4, none⟩ = some (.slice b5 m5 k5) := cell_at HO.out 4
    have qO5 : W10.cell? ⟨(N + 1 + 1), 5, none⟩ = some (.slice b3 m3 k3) := cell_at HO.out 5
    have qO6 : W10.cell? ⟨(N + 1 + 1), 6, none⟩ = some (.slice b4 m4 k4) := cell_at HO.out 6
    have qOz : ∀ j, W10.frozen? ⟨(N + 1 + 1), j, none⟩ = false := fun j => free_at HO.out j
    have qOl : (N + 1 + 1) < W10.heap.size := HO.out.lt
    go_wp2_with fail
    clear qO0 qO1 qO2 qO3 qO4 qO5 qO6 qOz qOl
    obtain ⟨LS, hLS⟩ : ∃ L : List Value, L = [.int .i64 s.term, .int .i64 s.stamp, .int .i64 s.next, .slice b1 m1 k1, .slice b5 m5 k5, .slice b3 m3 k3, .slice b4 m4 k4] := ⟨_, rfl⟩
    obtain ⟨W11, hWS⟩ : ∃ WS, WS = W10.setCells (N + 1 + 1) 0 LS := ⟨_, rfl⟩
    have hch := hWS
    rw [hLS] at hch
    simp only [World.setCells, Nat.zero_add, Nat.reduceAdd] at hch
    rw [← hch]
    clear hch
    have hkS := stC_blk HO.out LS (by rw [hLS]; rfl)
    have hfS := stC_fr (N + 1 + 1) LS 0 W10
    rw [← hWS] at hkS hfS
    rw [hLS] at hkS
    replace HB := Lib.hid (HB.out.trans (hfS.below HB.out.size (by have := HLON.out; simp; try omega)))
    replace HT := Lib.hid (HT0.out.below HB.out)
    replace HL := Lib.hid (HL0.out.below HB.out)
    replace HS := Lib.hid (HS0.out.below HB.out)
    replace HD := Lib.hid (HD0.out.below HB.out)
    replace HR := Lib.hid (show Blk W11 N #[.int .i64 s.term, .int .i64 s.stamp, .int .i64 s.next, .slice ta tn tc, .slice (some ⟨g, o, none⟩) ln lc, .slice sa sn sc, .slice da dn dc] 27 from (hfS.block _ HR.out.lt (by have hx0 := HXX9HR.out; have hx1 := HXX9HKB.out; have hx2 := HXX9HO.out; simp; try omega)).trans HR.out)
    replace HKB := Lib.hid (show Blk W11 (N + 1) #[.int .i64 le] 3 from (hfS.block _ HKB.out.lt (by have hx0 := HXX9HR.out; have hx1 := HXX9HKB.out; have hx2 := HXX9HO.out; simp; try omega)).trans HKB.out)
    replace O1 := Lib.hid (O1.out.fr hfS (by have := FO1.out; omega))
    replace O2 := Lib.hid (O2.out.fr hfS (by have := FO2.out; omega))
    replace O3 := Lib.hid (O3.out.fr hfS (by have := FO3.out; omega))
    replace O4 := Lib.hid (O4.out.fr hfS (by have := FO4.out; omega))
    replace HX9 := Lib.hid (show Blk W11 X9 #[.int .i64 x.id, .int .i64 x.tenant, .int .i64 x.shaper, .int .i64 x.epoch, .int .i64 x.number, .int .i64 x.size, .int .i64 x.spent] 31 from (hfS.block _ HX9.out.lt (by have hx0 := HXX9HR.out; have hx1 := HXX9HKB.out; have hx2 := HXX9HO.out; simp; try omega)).trans HX9.out)
    replace HQ := Lib.hid (HQ.out.fr HO.out hfS)
    replace HO := Lib.hid (show Blk W11 (N + 1 + 1) #[.int .i64 s.term, .int .i64 s.stamp, .int .i64 s.next, .slice b1 m1 k1, .slice b5 m5 k5, .slice b3 m3 k3, .slice b4 m4 k4] 27 from hkS)
    clear hWS hLS hkS hfS
    refine leaves_cons (f := 52) (args := #[.pointer (some ⟨(N + 1 + 1), 0, none⟩)]) (by simp) (by simp [go_sem]) ?_
    refine (report1_d .returning _ _ _ _ (⟨s.term, s.stamp, s.next, s.ts, wo le s.ls, s.ss, s.ds⟩) (N + 1 + 1) _ HO.out (tn_tv O1.out.v) HQ.out O3.out.v O4.out.v HF9.out HZ9.out).mono ?_
    rintro e u9 W12 ⟨rfl, vt9, rfl, hO9, hQ9, hF9⟩
    have z0 : W12.cell? ⟨(N + 1 + 1), 0, none⟩ = some (.int .i64 s.term) := cell_at hO9 0
    have z1 : W12.cell? ⟨(N + 1 + 1), 1, none⟩ = some (.int .i64 s.stamp) := cell_at hO9 1
    have z2 : W12.cell? ⟨(N + 1 + 1), 2, none⟩ = some (.int .i64 s.next) := cell_at hO9 2
    have z3 : W12.cell? ⟨(N + 1 + 1), 3, none⟩ = some (vt9) := cell_at hO9 3
    have z4 : W12.cell? ⟨(N + 1 + 1), 4, none⟩ = some (.slice b5 m5 k5) := cell_at hO9 4
    have z5 : W12.cell? ⟨(N + 1 + 1), 5, none⟩ = some (.slice b3 m3 k3) := cell_at hO9 5
    have z6 : W12.cell? ⟨(N + 1 + 1), 6, none⟩ = some (.slice b4 m4 k4) := cell_at hO9 6
    exact ⟨.tuple #[.agg #[.int .i64 s.term, .int .i64 s.stamp, .int .i64 s.next, vt9, .slice b5 m5 k5, .slice b3 m3 k3, .slice b4 m4 k4], .int .i64 0], by simp [results, Try.results22, go_sem, z0, z1, z2, z3, z4, z5, z6], _, rfl, (by rw [HR9.out, HRL.out, if_neg (by omega)]; exact ⟨_, _, _, _, rfl, hQ9, HQ.out.fr HO.out hF9, (O3.out.fr hF9 (by have := FO3.out; omega)).v, (O4.out.fr hF9 (by have := FO4.out; omega)).v⟩), HB.out.trans (hF9.below HB.out.size (by have := HLON.out; simp; omega))⟩
  have tte : decide (sp < x.size) = true := decide_eq_true he
  obtain ⟨gr, rfl, rfl⟩ : ∃ gr, ol = some gr ∧ b2 = some ⟨gr, 0, none⟩ := by
    rcases O2.out.1.cases with ⟨_, _, h0, _⟩ | ⟨gr, cap, cur, e1, e2, _⟩
    · exact absurd h0 (by rw [← Hln.out]; omega)
    · injection e2 with e3 e4 e5
      exact ⟨gr, e1, e3⟩
  have hm2 : m2 = ln := Hb2.out.trans Hln.out.symm
  subst hm2
  have HG2 := Lib.hid (O2.out.2.2 gr rfl)
  obtain ⟨g3, e3, c3, z3⟩ := O2.out.1.cell (i * 7 + 6) (by rw [← Hln.out]; omega)
  obtain rfl := Option.some.inj e3
  have c6 : (llLe s.ls)[i * 7 + 6]? = some (.int .i64 x.spent) := by
    rw [llLe_g, leL_at _ _ _ _ (by rw [← Hln.out]; omega) (by omega), gLe_of HXI.out]
    rfl
  rw [c6] at c3
  clear e3 c6
  have qO0 : W8.cell? ⟨(N + 1 + 1), 0, none⟩ = some (.int .i64 s.term) := cell_at HO.out 0
  have qO1 : W8.cell? ⟨(N + 1 + 1), 1, none⟩ = some (.int .i64 s.stamp) := cell_at HO.out 1
  have qO2 : W8.cell? ⟨(N + 1 + 1), 2, none⟩ = some (.int .i64 s.next) := cell_at HO.out 2
  have qO3 : W8.cell? ⟨(N + 1 + 1), 3, none⟩ = some (.slice b1 m1 k1) := cell_at HO.out 3
  have qO4 : W8.cell? ⟨(N + 1 + 1), 4, none⟩ = some (.slice (some ⟨gr, 0, none⟩) m2 k2) := cell_at HO.out 4
  have qO5 : W8.cell? ⟨(N + 1 + 1), 5, none⟩ = some (.slice b3 m3 k3) := cell_at HO.out 5
  have qO6 : W8.cell? ⟨(N + 1 + 1), 6, none⟩ = some (.slice b4 m4 k4) := cell_at HO.out 6
  have qOz : ∀ j, W8.frozen? ⟨(N + 1 + 1), j, none⟩ = false := fun j => free_at HO.out j
  have qOl : (N + 1 + 1) < W8.heap.size := HO.out.lt
  have qX90 : W8.cell? ⟨X9, 0, none⟩ = some (.int .i64 x.id) := cell_at HX9.out 0
  have qX91 : W8.cell? ⟨X9, 1, none⟩ = some (.int .i64 x.tenant) := cell_at HX9.out 1
  have qX92 : W8.cell? ⟨X9, 2, none⟩ = some (.int .i64 x.shaper) := cell_at HX9.out 2
  have qX93 : W8.cell? ⟨X9, 3, none⟩ = some (.int .i64 x.epoch) := cell_at HX9.out 3
  have qX94 : W8.cell? ⟨X9, 4, none⟩ = some (.int .i64 x.number) := cell_at HX9.out 4
  have qX95 : W8.cell? ⟨X9, 5, none⟩ = some (.int .i64 x.size) := cell_at HX9.out 5
  have qX96 : W8.cell? ⟨X9, 6, none⟩ = some (.int .i64 x.spent) := cell_at HX9.out 6
  have qX9z : ∀ j, W8.frozen? ⟨X9, j, none⟩ = false := fun j => free_at HX9.out j
  have qX9l : X9 < W8.heap.size := HX9.out.lt
  go_upto_region 13 with fail
  obtain ⟨W9, hWS⟩ : ∃ WS, WS = W8.setCell ⟨gr, i * 7 + 6, none⟩ (.int .i64 sp) := ⟨_, rfl⟩
  rw [← hWS]
  have hfS : Fr [gr] W8 W9 := by rw [hWS]; exact (Fr.refl _ _).setCell _ (.inl (by simp)) _
  have hO2 := O2.out.setSpent HXI.out sp hsp
  rw [← hWS] at hO2
  clear qO0 qO1 qO2 qO3 qO4 qO5 qO6 qOz qOl qX90 qX91 qX92 qX93 qX94 qX95 qX96 qX9z qX9l
  replace HB := Lib.hid (HB.out.trans (hfS.below HB.out.size (by have := HB0L.out; have := HG2.out; simp; omega)))
  replace HO := Lib.hid (show Blk W9 (N + 1 + 1) #[.int .i64 s.term, .int .i64 s.stamp, .int .i64 s.next, .slice b1 m1 k1, .slice (some ⟨gr, 0, none⟩) m2 k2, .slice b3 m3 k3, .slice b4 m4 k4] 27 from (hfS.block _ HO.out.lt (by have := HG2.out; have := FO2.out; simp; omega)).trans HO.out)
  replace O1 := Lib.hid (O1.out.frL O2.out hfS)
  replace O3 := Lib.hid (O3.out.frL O2.out hfS)
  replace O4 := Lib.hid (O4.out.frL O2.out hfS)
  replace O2 := Lib.hid hO2
  clear hO2 hfS hWS c3 z3 tte
  have HSPL := Lib.hid (show spL le sp s.ls = s.ls.set i ⟨x.id, x.tenant, x.shaper, x.epoch, x.number, x.size, sp⟩ by rw [← HKEY.out]; exact spL_set s.ls s.ts s.next 0 sp i x HLR.out HXI.out)
  have HF9 : Hid (fewS ⟨s.term, s.stamp, s.next, s.ts, s.ls.set i ⟨x.id, x.tenant, x.shaper, x.epoch, x.number, x.size, sp⟩, s.ss, s.ds⟩) := Lib.hid ⟨HFEW.out.1, (by show (s.ls.set _ _).length ≤ 200; rw [List.length_set]; exact HFEW.out.2.1), HFEW.out.2.2.1, HFEW.out.2.2.2⟩
  have HZ9 := Lib.hid (sizeB_set sp HSZ9.out HXI.out (by omega) he)
  have qO0 : W9.cell? ⟨(N + 1 + 1), 0, none⟩ = some (.int .i64 s.term) := cell_at HO.out 0
  have qO1 : W9.cell? ⟨(N + 1 + 1), 1, none⟩ = some (.int .i64 s.stamp) := cell_at HO.out 1
  have qO2 : W9.cell? ⟨(N + 1 + 1), 2, none⟩ = some (.int .i64 s.next) := cell_at HO.out 2
  have qO3 : W9.cell? ⟨(N + 1 + 1), 3, none⟩ = some (.slice b1 m1 k1) := cell_at HO.out 3
  have qO4 : W9.cell? ⟨(N + 1 + 1), 4, none⟩ = some (.slice (some ⟨gr, 0, none⟩) m2 k2) := cell_at HO.out 4
  have qO5 : W9.cell? ⟨(N + 1 + 1), 5, none⟩ = some (.slice b3 m3 k3) := cell_at HO.out 5
  have qO6 : W9.cell? ⟨(N + 1 + 1), 6, none⟩ = some (.slice b4 m4 k4) := cell_at HO.out 6
  have qOz : ∀ j, W9.frozen? ⟨(N + 1 + 1), j, none⟩ = false := fun j => free_at HO.out j
  have qOl : (N + 1 + 1) < W9.heap.size := HO.out.lt
  go_wp2_with fail
  clear qO0 qO1 qO2 qO3 qO4 qO5 qO6 qOz qOl
  obtain ⟨LS, hLS⟩ : ∃ L : List Value, L = [.int .i64 s.term, .int .i64 s.stamp, .int .i64 s.next, .slice b1 m1 k1, .slice (some ⟨gr, 0, none⟩) m2 k2, .slice b3 m3 k3, .slice b4 m4 k4] := ⟨_, rfl⟩
  obtain ⟨W10, hWS⟩ : ∃ WS, WS = W9.setCells (N + 1 + 1) 0 LS := ⟨_, rfl⟩
  have hch := hWS
  rw [hLS] at hch
  simp only [World.setCells, Nat.zero_add, Nat.reduceAdd] at hch
  rw [← hch]
  clear hch
  have hkS := stC_blk HO.out LS (by rw [hLS]; rfl)
  have hfS := stC_fr (N + 1 + 1) LS 0 W9
  rw [← hWS] at hkS hfS
  rw [hLS] at hkS
  replace HB := Lib.hid (HB.out.trans (hfS.below HB.out.size (by have := HLON.out; simp; try omega)))
  replace O1 := Lib.hid (O1.out.fr hfS (by have := FO1.out; omega))
  replace O2 := Lib.hid (O2.out.fr hfS (by have := FO2.out; omega))
  replace O3 := Lib.hid (O3.out.fr hfS (by have := FO3.out; omega))
  replace O4 := Lib.hid (O4.out.fr hfS (by have := FO4.out; omega))
  replace HO := Lib.hid (show Blk W10 (N + 1 + 1) #[.int .i64 s.term, .int .i64 s.stamp, .int .i64 s.next, .slice b1 m1 k1, .slice (some ⟨gr, 0, none⟩) m2 k2, .slice b3 m3 k3, .slice b4 m4 k4] 27 from hkS)
  clear hWS hLS hkS hfS
  refine leaves_cons (f := 52) (args := #[.pointer (some ⟨(N + 1 + 1), 0, none⟩)]) (by simp) (by simp [go_sem]) ?_
  refine (report1_d .returning _ _ _ _ (⟨s.term, s.stamp, s.next, s.ts, s.ls.set i ⟨x.id, x.tenant, x.shaper, x.epoch, x.number, x.size, sp⟩, s.ss, s.ds⟩) (N + 1 + 1) _ HO.out (tn_tv O1.out.v) O2.out.v O3.out.v O4.out.v HF9.out HZ9.out).mono ?_
  rintro e u9 W11 ⟨rfl, vt9, rfl, hO9, hQ9, hF9⟩
  have z0 : W11.cell? ⟨(N + 1 + 1), 0, none⟩ = some (.int .i64 s.term) := cell_at hO9 0
  have z1 : W11.cell? ⟨(N + 1 + 1), 1, none⟩ = some (.int .i64 s.stamp) := cell_at hO9 1
  have z2 : W11.cell? ⟨(N + 1 + 1), 2, none⟩ = some (.int .i64 s.next) := cell_at hO9 2
  have z3 : W11.cell? ⟨(N + 1 + 1), 3, none⟩ = some (vt9) := cell_at hO9 3
  have z4 : W11.cell? ⟨(N + 1 + 1), 4, none⟩ = some (.slice (some ⟨gr, 0, none⟩) m2 k2) := cell_at hO9 4
  have z5 : W11.cell? ⟨(N + 1 + 1), 5, none⟩ = some (.slice b3 m3 k3) := cell_at hO9 5
  have z6 : W11.cell? ⟨(N + 1 + 1), 6, none⟩ = some (.slice b4 m4 k4) := cell_at hO9 6
  exact ⟨.tuple #[.agg #[.int .i64 s.term, .int .i64 s.stamp, .int .i64 s.next, vt9, .slice (some ⟨gr, 0, none⟩) m2 k2, .slice b3 m3 k3, .slice b4 m4 k4], .int .i64 0], by simp [results, Try.results22, go_sem, z0, z1, z2, z3, z4, z5, z6], _, rfl, (by rw [HR9.out, HRL.out, if_pos (by first | exact ⟨rfl, he⟩ | exact ⟨trivial, he⟩), HSPL.out]; exact ⟨_, _, _, _, rfl, hQ9, (O2.out.fr hF9 (by have := FO2.out; omega)).v, (O3.out.fr hF9 (by have := FO3.out; omega)).v, (O4.out.fr hF9 (by have := FO4.out; omega)).v⟩), HB.out.trans (hF9.below HB.out.size (by have := HLON.out; simp; omega))⟩
end Go.Proofs.Ytfgnjpdlchimpaa
namespace Go.Proofs.Ytfgnjpdlchimpaa
open Go.RowKit
set_option linter.unusedSimpArgs false
set_option linter.unusedVariables false

theorem le_eq (x : LeE) (w : World) : (Op.equal 31 (.agg #[.int .i64 x.id, .int .i64 x.tenant, .int .i64 x.shaper, .int .i64 x.epoch, .int .i64 x.number, .int .i64 x.size, .int .i64 x.spent]) (.agg #[.int .i64 x.id, .int .i64 x.tenant, .int .i64 x.shaper, .int .i64 x.epoch, .int .i64 x.number, .int .i64 x.size, .int .i64 x.spent])).run Try.prog w = .ok true w := by
  have hf : Try.prog.fieldsOf 31 = #[⟨"Id", 3, 0, false, "", "", 0⟩, ⟨"Tenant", 3, 1, false, "", "", 8⟩, ⟨"Shaper", 3, 2, false, "", "", 16⟩, ⟨"Epoch", 3, 3, false, "", "", 24⟩, ⟨"Number", 3, 4, false, "", "", 32⟩, ⟨"Size", 3, 5, false, "", "", 40⟩, ⟨"Spent", 3, 6, false, "", "", 48⟩] := by kernel_rfl
  have e1 : ∀ (d : Nat) (a b : Int), (Op.equalIn (d + 1) 3 (.int .i64 a) (.int .i64 b)).run Try.prog w = .ok (a == b) w := fun d a b => run_equalIn_int w d _ .i64 .i64 a b (by kernel_rfl)
  show (Op.equalIn (9998 + 1 + 1) _ _ _).run _ w = _
  rw [run_equalIn_struct w _ _ _ _ (by kernel_rfl) (by kernel_rfl), hf]
  simp [Op.eqFields, part, e1, go_sem]
theorem le_neq (x : LeE) (w : World) : (binOp .neq 31 (.agg #[.int .i64 x.id, .int .i64 x.tenant, .int .i64 x.shaper, .int .i64 x.epoch, .int .i64 x.number, .int .i64 x.size, .int .i64 x.spent]) (.agg #[.int .i64 x.id, .int .i64 x.tenant, .int .i64 x.shaper, .int .i64 x.epoch, .int .i64 x.number, .int .i64 x.size, .int .i64 x.spent])).run Try.prog w = .ok (.bool false) w := by
  simp only [binOp]
  simp [le_eq, Result.andThen]
theorem le_eql (x : LeE) (w : World) : (binOp .eql 31 (.agg #[.int .i64 x.id, .int .i64 x.tenant, .int .i64 x.shaper, .int .i64 x.epoch, .int .i64 x.number, .int .i64 x.size, .int .i64 x.spent]) (.agg #[.int .i64 x.id, .int .i64 x.tenant, .int .i64 x.shaper, .int .i64 x.epoch, .int .i64 x.number, .int .i64 x.size, .int .i64 x.spent])).run Try.prog w = .ok (.bool true) w := by
  simp only [binOp]
  simp [le_eq, Result.andThen]
theorem ans_eql (p q r s t : Int) (w : World) : (binOp .eql 41 (.agg #[.int .i64 p, .int .i64 q, .int .i64 r, .int .i64 s, .int .i64 t]) (.agg #[.int .i64 p, .int .i64 q, .int .i64 r, .int .i64 s, .int .i64 t])).run Try.prog w = .ok (.bool true) w := by
  have hf : Try.prog.fieldsOf 41 = #[⟨"E", 39, 0, false, "", "", 0⟩, ⟨"Rate", 3, 1, false, "", "", 8⟩, ⟨"Burst", 3, 2, false, "", "", 16⟩, ⟨"Lease", 3, 3, false, "", "", 24⟩, ⟨"Size", 3, 4, false, "", "", 32⟩] := by kernel_rfl
  rw [run_eql_struct, show (10000 : Nat) = 9998 + 1 + 1 from rfl, run_equalIn_struct w _ _ _ _ (by kernel_rfl) (by kernel_rfl), hf]
  have e1 : ∀ a b : Int, (Op.equalIn (9998 + 1) 3 (.int .i64 a) (.int .i64 b)).run Try.prog w = .ok (a == b) w := fun a b => run_equalIn_int w 9998 _ .i64 .i64 a b (by kernel_rfl)
  have e2 : ∀ a b : Int, (Op.equalIn (9998 + 1) 39 (.int .i64 a) (.int .i64 b)).run Try.prog w = .ok (a == b) w := fun a b => run_equalIn_int w 9998 _ .i64 .i64 a b (by kernel_rfl)
  simp [Op.eqFields, part, e1, e2, go_sem]
theorem se_neq (x : SeE) (w : World) : (binOp .neq 70 (.agg #[.int .i64 x.client, .int .i64 x.number, .int .i64 x.e, .int .i64 x.rate, .int .i64 x.burst, .int .i64 x.lease, .int .i64 x.size]) (.agg #[.int .i64 x.client, .int .i64 x.number, .int .i64 x.e, .int .i64 x.rate, .int .i64 x.burst, .int .i64 x.lease, .int .i64 x.size])).run Try.prog w = .ok (.bool false) w := by
  have hg : Try.prog.fieldsOf 70 = #[⟨"Client", 3, 0, false, "", "", 0⟩, ⟨"Number", 3, 1, false, "", "", 8⟩, ⟨"Answer", 41, 2, false, "", "", 16⟩] := by kernel_rfl
  have hf : Try.prog.fieldsOf 41 = #[⟨"E", 39, 0, false, "", "", 0⟩, ⟨"Rate", 3, 1, false, "", "", 8⟩, ⟨"Burst", 3, 2, false, "", "", 16⟩, ⟨"Lease", 3, 3, false, "", "", 24⟩, ⟨"Size", 3, 4, false, "", "", 32⟩] := by kernel_rfl
  have e1 : ∀ (d : Nat) (a b : Int), (Op.equalIn (d + 1) 3 (.int .i64 a) (.int .i64 b)).run Try.prog w = .ok (a == b) w := fun d a b => run_equalIn_int w d _ .i64 .i64 a b (by kernel_rfl)
  have e2 : ∀ a b : Int, (Op.equalIn (9997 + 1) 39 (.int .i64 a) (.int .i64 b)).run Try.prog w = .ok (a == b) w := fun a b => run_equalIn_int w 9997 _ .i64 .i64 a b (by kernel_rfl)
  have e3 : (Op.equalIn (9998 + 1) 41 (.agg #[.int .i64 x.e, .int .i64 x.rate, .int .i64 x.burst, .int .i64 x.lease, .int .i64 x.size]) (.agg #[.int .i64 x.e, .int .i64 x.rate, .int .i64 x.burst, .int .i64 x.lease, .int .i64 x.size])).run Try.prog w = .ok true w := by
    rw [show 9998 + 1 = 9997 + 1 + 1 from rfl, run_equalIn_struct w _ _ _ _ (by kernel_rfl) (by kernel_rfl), hf]
    simp [Op.eqFields, part, e1, e2, go_sem]
  have e4 : (Op.equal 70 (.agg #[.int .i64 x.client, .int .i64 x.number, .int .i64 x.e, .int .i64 x.rate, .int .i64 x.burst, .int .i64 x.lease, .int .i64 x.size]) (.agg #[.int .i64 x.client, .int .i64 x.number, .int .i64 x.e, .int .i64 x.rate, .int .i64 x.burst, .int .i64 x.lease, .int .i64 x.size])).run Try.prog w = .ok true w := by
    show (Op.equalIn (9998 + 1 + 1) _ _ _).run _ w = _
    rw [run_equalIn_struct w _ _ _ _ (by kernel_rfl) (by kernel_rfl), hg]
    have hsz : (Try.prog.info? 41).map (fun i => i.size) = some 5 := by kernel_rfl
    simp [Op.eqFields, part, e1, e3, go_sem]
  simp only [binOp]
  simp [e4, Result.andThen]
theorem dk_neq (x : DkE) (w : World) : (binOp .neq 72 (.agg #[.int .i64 x.shaper, .int .i64 x.epoch, .int .i64 x.number, .int .i64 x.e, .int .i64 x.rate, .int .i64 x.burst, .int .i64 x.lease, .int .i64 x.size]) (.agg #[.int .i64 x.shaper, .int .i64 x.epoch, .int .i64 x.number, .int .i64 x.e, .int .i64 x.rate, .int .i64 x.burst, .int .i64 x.lease, .int .i64 x.size])).run Try.prog w = .ok (.bool false) w := by
  have hg : Try.prog.fieldsOf 72 = #[⟨"Shaper", 3, 0, false, "", "", 0⟩, ⟨"Epoch", 3, 1, false, "", "", 8⟩, ⟨"Number", 3, 2, false, "", "", 16⟩, ⟨"Answer", 41, 3, false, "", "", 24⟩] := by kernel_rfl
  have hf : Try.prog.fieldsOf 41 = #[⟨"E", 39, 0, false, "", "", 0⟩, ⟨"Rate", 3, 1, false, "", "", 8⟩, ⟨"Burst", 3, 2, false, "", "", 16⟩, ⟨"Lease", 3, 3, false, "", "", 24⟩, ⟨"Size", 3, 4, false, "", "", 32⟩] := by kernel_rfl
  have e1 : ∀ (d : Nat) (a b : Int), (Op.equalIn (d + 1) 3 (.int .i64 a) (.int .i64 b)).run Try.prog w = .ok (a == b) w := fun d a b => run_equalIn_int w d _ .i64 .i64 a b (by kernel_rfl)
  have e2 : ∀ a b : Int, (Op.equalIn (9997 + 1) 39 (.int .i64 a) (.int .i64 b)).run Try.prog w = .ok (a == b) w := fun a b => run_equalIn_int w 9997 _ .i64 .i64 a b (by kernel_rfl)
  have e3 : (Op.equalIn (9998 + 1) 41 (.agg #[.int .i64 x.e, .int .i64 x.rate, .int .i64 x.burst, .int .i64 x.lease, .int .i64 x.size]) (.agg #[.int .i64 x.e, .int .i64 x.rate, .int .i64 x.burst, .int .i64 x.lease, .int .i64 x.size])).run Try.prog w = .ok true w := by
    rw [show 9998 + 1 = 9997 + 1 + 1 from rfl, run_equalIn_struct w _ _ _ _ (by kernel_rfl) (by kernel_rfl), hf]
    simp [Op.eqFields, part, e1, e2, go_sem]
  have e4 : (Op.equal 72 (.agg #[.int .i64 x.shaper, .int .i64 x.epoch, .int .i64 x.number, .int .i64 x.e, .int .i64 x.rate, .int .i64 x.burst, .int .i64 x.lease, .int .i64 x.size]) (.agg #[.int .i64 x.shaper, .int .i64 x.epoch, .int .i64 x.number, .int .i64 x.e, .int .i64 x.rate, .int .i64 x.burst, .int .i64 x.lease, .int .i64 x.size])).run Try.prog w = .ok true w := by
    show (Op.equalIn (9998 + 1 + 1) _ _ _).run _ w = _
    rw [run_equalIn_struct w _ _ _ _ (by kernel_rfl) (by kernel_rfl), hg]
    have hsz : (Try.prog.info? 41).map (fun i => i.size) = some 5 := by kernel_rfl
    simp [Op.eqFields, part, e1, e3, go_sem]
  simp only [binOp]
  simp [e4, Result.andThen]
set_option maxRecDepth 100000 in
set_option maxHeartbeats 16000000 in
theorem sameS_any (v1 v2 : Value) (s : StE) (w : World) (h1 : SV w v1 s) (h2 : SV w v2 s) :
    Calls Try.prog 17 #[v1, v2] w fun e w' => e = .returned (.bool true) ∧ Below w.heap.size w w' := by
  obtain ⟨vt, vl, vs, vd, rfl, ht, hl, hs, hd⟩ := h1
  obtain ⟨ta, tn, tc, rfl, Htn, tn1, tn2⟩ := ht.sh
  obtain ⟨la, ln, lc, rfl, Hln, ln1, ln2⟩ := hl.sh
  obtain ⟨sa, sn, sc, rfl, Hsn, sn1, sn2⟩ := hs.sh
  obtain ⟨da, dn, dc, rfl, Hdn, dn1, dn2⟩ := hd.sh
  have HT0 := Lib.hid ht
  have HL0 := Lib.hid hl
  have HS0 := Lib.hid hs
  have HD0 := Lib.hid hd
  have HT := Lib.hid ht
  have HL := Lib.hid hl
  have HS := Lib.hid hs
  have HD := Lib.hid hd
  clear ht hl hs hd
  obtain ⟨vt, vl, vs, vd, rfl, ht, hl, hs, hd⟩ := h2
  obtain ⟨ta2, tn2', tc2, rfl, Htn2, tm1, tm2⟩ := ht.sh
  obtain ⟨la2, ln2', lc2, rfl, Hln2, lm1, lm2⟩ := hl.sh
  obtain ⟨sa2, sn2', sc2, rfl, Hsn2, sm1, sm2⟩ := hs.sh
  obtain ⟨da2, dn2', dc2, rfl, Hdn2, dm1, dm2⟩ := hd.sh
  obtain rfl : tn = tn2' := Htn.out.trans Htn2.out.symm
  obtain rfl : ln = ln2' := Hln.out.trans Hln2.out.symm
  obtain rfl : sn = sn2' := Hsn.out.trans Hsn2.out.symm
  obtain rfl : dn = dn2' := Hdn.out.trans Hdn2.out.symm
  have GT0 := Lib.hid ht
  have GL0 := Lib.hid hl
  have GS0 := Lib.hid hs
  have GD0 := Lib.hid hd
  have GT := Lib.hid ht
  have GL := Lib.hid hl
  have GS := Lib.hid hs
  have GD := Lib.hid hd
  clear ht hl hs hd
  have HB : Hid (Below w.heap.size w w) := Lib.hid (Below.refl _ _)
  go_enter Try.func17, Try.ntmps17
  go_upto_region 1 with fail
  obtain ⟨N, hN⟩ : ∃ n0, n0 = w.heap.size := ⟨_, rfl⟩
  have HLON : Hid (w.heap.size ≤ N) := Lib.hid (by have := HB.out.size; omega)
  obtain ⟨W1, hA0⟩ : ∃ W0, W0 = w.alloc (.cells #[.int .i64 s.term, .int .i64 s.stamp, .int .i64 s.next, .slice ta tn tc, .slice la ln lc, .slice sa sn sc, .slice da dn dc] 27) := ⟨_, rfl⟩
  have hB : Below w.heap.size w W1 := by rw [hA0]; exact (Below.refl _ _).alloc (Nat.le_refl _) _
  have hS0 : W1.heap.size = N + 1 := by rw [hA0]; simp [← hN]
  have HR := Lib.hid (show Blk W1 N #[.int .i64 s.term, .int .i64 s.stamp, .int .i64 s.next, .slice ta tn tc, .slice la ln lc, .slice sa sn sc, .slice da dn dc] 27 by rw [hA0, hN]; exact blk_new _ _ _)
  replace HB := Lib.hid (HB.out.trans (hB.mono HB.out.size))
  replace HT := Lib.hid (HT0.out.below HB.out)
  replace HL := Lib.hid (HL0.out.below HB.out)
  replace HS := Lib.hid (HS0.out.below HB.out)
  replace HD := Lib.hid (HD0.out.below HB.out)
  replace GT := Lib.hid (GT0.out.below HB.out)
  replace GL := Lib.hid (GL0.out.below HB.out)
  replace GS := Lib.hid (GS0.out.below HB.out)
  replace GD := Lib.hid (GD0.out.below HB.out)
  clear hB
  obtain ⟨W2, hA1⟩ : ∃ W0, W0 = W1.alloc (.cells #[.int .i64 s.term, .int .i64 s.stamp, .int .i64 s.next, .slice ta2 tn tc2, .slice la2 ln lc2, .slice sa2 sn sc2, .slice da2 dn dc2] 27) := ⟨_, rfl⟩
  have hB : Below W1.heap.size W1 W2 := by rw [hA1]; exact (Below.refl _ _).alloc (Nat.le_refl _) _
  have hS1 : W2.heap.size = N + 2 := by rw [hA1]; simp [hS0]
  have HR2 := Lib.hid (show Blk W2 (N + 1) #[.int .i64 s.term, .int .i64 s.stamp, .int .i64 s.next, .slice ta2 tn tc2, .slice la2 ln lc2, .slice sa2 sn sc2, .slice da2 dn dc2] 27 by rw [hA1, ← hS0]; exact blk_new _ _ _)
  replace HB := Lib.hid (HB.out.trans (hB.mono HB.out.size))
  replace HT := Lib.hid (HT0.out.below HB.out)
  replace HL := Lib.hid (HL0.out.below HB.out)
  replace HS := Lib.hid (HS0.out.below HB.out)
  replace HD := Lib.hid (HD0.out.below HB.out)
  replace GT := Lib.hid (GT0.out.below HB.out)
  replace GL := Lib.hid (GL0.out.below HB.out)
  replace GS := Lib.hid (GS0.out.below HB.out)
  replace GD := Lib.hid (GD0.out.below HB.out)
  replace HR := Lib.hid (HR.out.step hB)
  clear hB
  have HSN := Lib.hid hS1
  rw [← hN, ← hA0, ← hA1]
  clear hA1 hA0 hN hS0 hS1
  have qR0 : W2.cell? ⟨N, 0, none⟩ = some (.int .i64 s.term) := cell_at HR.out 0
  have qR1 : W2.cell? ⟨N, 1, none⟩ = some (.int .i64 s.stamp) := cell_at HR.out 1
  have qR2 : W2.cell? ⟨N, 2, none⟩ = some (.int .i64 s.next) := cell_at HR.out 2
  have qR3 : W2.cell? ⟨N, 3, none⟩ = some (.slice ta tn tc) := cell_at HR.out 3
  have qR4 : W2.cell? ⟨N, 4, none⟩ = some (.slice la ln lc) := cell_at HR.out 4
  have qR5 : W2.cell? ⟨N, 5, none⟩ = some (.slice sa sn sc) := cell_at HR.out 5
  have qR6 : W2.cell? ⟨N, 6, none⟩ = some (.slice da dn dc) := cell_at HR.out 6
  have qRz : ∀ j, W2.frozen? ⟨N, j, none⟩ = false := fun j => free_at HR.out j
  have qRl : N < W2.heap.size := HR.out.lt
  have qR20 : W2.cell? ⟨(N + 1), 0, none⟩ = some (.int .i64 s.term) := cell_at HR2.out 0
  have qR21 : W2.cell? ⟨(N + 1), 1, none⟩ = some (.int .i64 s.stamp) := cell_at HR2.out 1
  have qR22 : W2.cell? ⟨(N + 1), 2, none⟩ = some (.int .i64 s.next) := cell_at HR2.out 2
  have qR23 : W2.cell? ⟨(N + 1), 3, none⟩ = some (.slice ta2 tn tc2) := cell_at HR2.out 3
  have qR24 : W2.cell? ⟨(N + 1), 4, none⟩ = some (.slice la2 ln lc2) := cell_at HR2.out 4
  have qR25 : W2.cell? ⟨(N + 1), 5, none⟩ = some (.slice sa2 sn sc2) := cell_at HR2.out 5
  have qR26 : W2.cell? ⟨(N + 1), 6, none⟩ = some (.slice da2 dn dc2) := cell_at HR2.out 6
  have qR2z : ∀ j, W2.frozen? ⟨(N + 1), j, none⟩ = false := fun j => free_at HR2.out j
  have qR2l : (N + 1) < W2.heap.size := HR2.out.lt
  have HSM := Lib.hid (same_tv _ _ s.ts W2 HT.out GT.out)
  go_wp2_with fail
  go_at_call 35
  go_fit HSM.out
  rintro e W3 ⟨rfl, hB⟩
  clear qR0 qR1 qR2 qR3 qR4 qR5 qR6 qRz qRl qR20 qR21 qR22 qR23 qR24 qR25 qR26 qR2z qR2l
  replace HB := Lib.hid (HB.out.trans (hB.mono HB.out.size))
  replace HT := Lib.hid (HT0.out.below HB.out)
  replace HL := Lib.hid (HL0.out.below HB.out)
  replace HS := Lib.hid (HS0.out.below HB.out)
  replace HD := Lib.hid (HD0.out.below HB.out)
  replace GT := Lib.hid (GT0.out.below HB.out)
  replace GL := Lib.hid (GL0.out.below HB.out)
  replace GS := Lib.hid (GS0.out.below HB.out)
  replace GD := Lib.hid (GD0.out.below HB.out)
  replace HR := Lib.hid (HR.out.step hB)
  replace HR2 := Lib.hid (HR2.out.step hB)
  clear hB
  have qR0 : W3.cell? ⟨N, 0, none⟩ = some (.int .i64 s.term) := cell_at HR.out 0
  have qR1 : W3.cell? ⟨N, 1, none⟩ = some (.int .i64 s.stamp) := cell_at HR.out 1
  have qR2 : W3.cell? ⟨N, 2, none⟩ = some (.int .i64 s.next) := cell_at HR.out 2
  have qR3 : W3.cell? ⟨N, 3, none⟩ = some (.slice ta tn tc) := cell_at HR.out 3
  have qR4 : W3.cell? ⟨N, 4, none⟩ = some (.slice la ln lc) := cell_at HR.out 4
  have qR5 : W3.cell? ⟨N, 5, none⟩ = some (.slice sa sn sc) := cell_at HR.out 5
  have qR6 : W3.cell? ⟨N, 6, none⟩ = some (.slice da dn dc) := cell_at HR.out 6
  have qRz : ∀ j, W3.frozen? ⟨N, j, none⟩ = false := fun j => free_at HR.out j
  have qRl : N < W3.heap.size := HR.out.lt
  have qR20 : W3.cell? ⟨(N + 1), 0, none⟩ = some (.int .i64 s.term) := cell_at HR2.out 0
  have qR21 : W3.cell? ⟨(N + 1), 1, none⟩ = some (.int .i64 s.stamp) := cell_at HR2.out 1
  have qR22 : W3.cell? ⟨(N + 1), 2, none⟩ = some (.int .i64 s.next) := cell_at HR2.out 2
  have qR23 : W3.cell? ⟨(N + 1), 3, none⟩ = some (.slice ta2 tn tc2) := cell_at HR2.out 3
  have qR24 : W3.cell? ⟨(N + 1), 4, none⟩ = some (.slice la2 ln lc2) := cell_at HR2.out 4
  have qR25 : W3.cell? ⟨(N + 1), 5, none⟩ = some (.slice sa2 sn sc2) := cell_at HR2.out 5
  have qR26 : W3.cell? ⟨(N + 1), 6, none⟩ = some (.slice da2 dn dc2) := cell_at HR2.out 6
  have qR2z : ∀ j, W3.frozen? ⟨(N + 1), j, none⟩ = false := fun j => free_at HR2.out j
  have qR2l : (N + 1) < W3.heap.size := HR2.out.lt
  go_wp2_with fail
  clear qR0 qR1 qR2 qR3 qR4 qR5 qR6 qRz qRl qR20 qR21 qR22 qR23 qR24 qR25 qR26 qR2z qR2l
  go_loopw [5] (fun k wr => ∃ i : Nat, i ≤ ln ∧ k = .int .i64 i ∧ Below W3.heap.size W3 wr) (fun k _ => ln - (intOf k).toNat)
  case atStart => exact ⟨0, Nat.zero_le _, rfl, Below.refl _ _⟩
  case round =>
    obtain ⟨i, hi, rfl, hB⟩ := hrel
    have HBC := Lib.hid hB
    replace HB := Lib.hid (HB.out.trans (hB.mono HB.out.size))
    replace HT := Lib.hid (HT0.out.below HB.out)
    replace HL := Lib.hid (HL0.out.below HB.out)
    replace HS := Lib.hid (HS0.out.below HB.out)
    replace HD := Lib.hid (HD0.out.below HB.out)
    replace GT := Lib.hid (GT0.out.below HB.out)
    replace GL := Lib.hid (GL0.out.below HB.out)
    replace GS := Lib.hid (GS0.out.below HB.out)
    replace GD := Lib.hid (GD0.out.below HB.out)
    replace HR := Lib.hid (HR.out.step hB)
    replace HR2 := Lib.hid (HR2.out.step hB)
    clear hB
    by_cases hkln : i < ln
    · skip
      have b9 : (i < ln) = True := eq_true hkln
      obtain ⟨g, o, x, ea, g1, g2, q0, q1, q2, q3, q4, q5, q6⟩ := HL.out.at i hkln
      subst ea
      obtain ⟨g', o', y, ea, g1', g2', p0, p1, p2, p3, p4, p5, p6⟩ := GL.out.at i hkln
      subst ea
      obtain rfl : x = y := Option.some.inj (g2.symm.trans g2')
      have hne := le_neq x
      have ww5 : IntKind.i64.wrap ((i : Int) + 1) = (i : Int) + 1 := IntWalk.i64_in _ (by omega)
      clear g2 g2'
      have qR0 : wr.cell? ⟨N, 0, none⟩ = some (.int .i64 s.term) := cell_at HR.out 0
      have qR1 : wr.cell? ⟨N, 1, none⟩ = some (.int .i64 s.stamp) := cell_at HR.out 1
      have qR2 : wr.cell? ⟨N, 2, none⟩ = some (.int .i64 s.next) := cell_at HR.out 2
      have qR3 : wr.cell? ⟨N, 3, none⟩ = some (.slice ta tn tc) := cell_at HR.out 3
      have qR4 : wr.cell? ⟨N, 4, none⟩ = some (.slice (some ⟨g, o, none⟩) ln lc) := cell_at HR.out 4
      have qR5 : wr.cell? ⟨N, 5, none⟩ = some (.slice sa sn sc) := cell_at HR.out 5
      have qR6 : wr.cell? ⟨N, 6, none⟩ = some (.slice da dn dc) := cell_at HR.out 6
      have qRz : ∀ j, wr.frozen? ⟨N, j, none⟩ = false := fun j => free_at HR.out j
      have qRl : N < wr.heap.size := HR.out.lt
      have qR20 : wr.cell? ⟨(N + 1), 0, none⟩ = some (.int .i64 s.term) := cell_at HR2.out 0
      have qR21 : wr.cell? ⟨(N + 1), 1, none⟩ = some (.int .i64 s.stamp) := cell_at HR2.out 1
      have qR22 : wr.cell? ⟨(N + 1), 2, none⟩ = some (.int .i64 s.next) := cell_at HR2.out 2
      have qR23 : wr.cell? ⟨(N + 1), 3, none⟩ = some (.slice ta2 tn tc2) := cell_at HR2.out 3
      have qR24 : wr.cell? ⟨(N + 1), 4, none⟩ = some (.slice (some ⟨g', o', none⟩) ln lc2) := cell_at HR2.out 4
      have qR25 : wr.cell? ⟨(N + 1), 5, none⟩ = some (.slice sa2 sn sc2) := cell_at HR2.out 5
      have qR26 : wr.cell? ⟨(N + 1), 6, none⟩ = some (.slice da2 dn dc2) := cell_at HR2.out 6
      have qR2z : ∀ j, wr.frozen? ⟨(N + 1), j, none⟩ = false := fun j => free_at HR2.out j
      have qR2l : (N + 1) < wr.heap.size := HR2.out.lt
      go_wp2_with fail
      (refine wp_region_quiet_lit (by kernel_rfl) (by kernel_rfl) ?_; (repeat (first | go_big_quiet_step (fail) | (refine BigFrame.wpQuiet_skip (by rfl) ?_; try simp only [Act.put, List.setIfInBounds_toArray, List.set_cons_zero, List.set_cons_succ]))); refine wpQuiet_nil ?_; intro _ hw9; obtain ⟨nq, hw8⟩ := hw9; subst hw8)
      clear qR0 qR1 qR2 qR3 qR4 qR5 qR6 qRz qRl qR20 qR21 qR22 qR23 qR24 qR25 qR26 qR2z qR2l
      obtain ⟨W4, hWn⟩ : ∃ X, X = wr.drewN nq := ⟨_, rfl⟩
      rw [← hWn]
      have hB : Below wr.heap.size wr W4 := by rw [hWn]; exact dN _ _
      clear hWn
      replace HB := Lib.hid (HB.out.trans (hB.mono HB.out.size))
      replace HT := Lib.hid (HT0.out.below HB.out)
      replace HL := Lib.hid (HL0.out.below HB.out)
      replace HS := Lib.hid (HS0.out.below HB.out)
      replace HD := Lib.hid (HD0.out.below HB.out)
      replace GT := Lib.hid (GT0.out.below HB.out)
      replace GL := Lib.hid (GL0.out.below HB.out)
      replace GS := Lib.hid (GS0.out.below HB.out)
      replace GD := Lib.hid (GD0.out.below HB.out)
      replace HR := Lib.hid (HR.out.step hB)
      replace HR2 := Lib.hid (HR2.out.step hB)
      replace HBC := Lib.hid (HBC.out.trans (hB.mono HBC.out.size))
      clear hB
      have qR0 : W4.cell? ⟨N, 0, none⟩ = some (.int .i64 s.term) := cell_at HR.out 0
      have qR1 : W4.cell? ⟨N, 1, none⟩ = some (.int .i64 s.stamp) := cell_at HR.out 1
      have qR2 : W4.cell? ⟨N, 2, none⟩ = some (.int .i64 s.next) := cell_at HR.out 2
      have qR3 : W4.cell? ⟨N, 3, none⟩ = some (.slice ta tn tc) := cell_at HR.out 3
      have qR4 : W4.cell? ⟨N, 4, none⟩ = some (.slice (some ⟨g, o, none⟩) ln lc) := cell_at HR.out 4
      have qR5 : W4.cell? ⟨N, 5, none⟩ = some (.slice sa sn sc) := cell_at HR.out 5
      have qR6 : W4.cell? ⟨N, 6, none⟩ = some (.slice da dn dc) := cell_at HR.out 6
      have qRz : ∀ j, W4.frozen? ⟨N, j, none⟩ = false := fun j => free_at HR.out j
      have qRl : N < W4.heap.size := HR.out.lt
      have qR20 : W4.cell? ⟨(N + 1), 0, none⟩ = some (.int .i64 s.term) := cell_at HR2.out 0
      have qR21 : W4.cell? ⟨(N + 1), 1, none⟩ = some (.int .i64 s.stamp) := cell_at HR2.out 1
      have qR22 : W4.cell? ⟨(N + 1), 2, none⟩ = some (.int .i64 s.next) := cell_at HR2.out 2
      have qR23 : W4.cell? ⟨(N + 1), 3, none⟩ = some (.slice ta2 tn tc2) := cell_at HR2.out 3
      have qR24 : W4.cell? ⟨(N + 1), 4, none⟩ = some (.slice (some ⟨g', o', none⟩) ln lc2) := cell_at HR2.out 4
      have qR25 : W4.cell? ⟨(N + 1), 5, none⟩ = some (.slice sa2 sn sc2) := cell_at HR2.out 5
      have qR26 : W4.cell? ⟨(N + 1), 6, none⟩ = some (.slice da2 dn dc2) := cell_at HR2.out 6
      have qR2z : ∀ j, W4.frozen? ⟨(N + 1), j, none⟩ = false := fun j => free_at HR2.out j
      have qR2l : (N + 1) < W4.heap.size := HR2.out.lt
      go_wp2_with fail
      go_roundw
      case rel => exact ⟨i + 1, by omega, by go_num, HBC.out⟩
      case measure => first | (simp [intOf]; done) | (simp [intOf]; omega)
    · skip
      have b9 : (i < ln) = False := eq_false hkln
      obtain rfl : ln = i := by omega
      clear HBC
      rename World => V5
      have qR0 : V5.cell? ⟨N, 0, none⟩ = some (.int .i64 s.term) := cell_at HR.out 0
      have qR1 : V5.cell? ⟨N, 1, none⟩ = some (.int .i64 s.stamp) := cell_at HR.out 1
      have qR2 : V5.cell? ⟨N, 2, none⟩ = some (.int .i64 s.next) := cell_at HR.out 2
      have qR3 : V5.cell? ⟨N, 3, none⟩ = some (.slice ta tn tc) := cell_at HR.out 3
      have qR4 : V5.cell? ⟨N, 4, none⟩ = some (.slice la ln lc) := cell_at HR.out 4
      have qR5 : V5.cell? ⟨N, 5, none⟩ = some (.slice sa sn sc) := cell_at HR.out 5
      have qR6 : V5.cell? ⟨N, 6, none⟩ = some (.slice da dn dc) := cell_at HR.out 6
      have qRz : ∀ j, V5.frozen? ⟨N, j, none⟩ = false := fun j => free_at HR.out j
      have qRl : N < V5.heap.size := HR.out.lt
      have qR20 : V5.cell? ⟨(N + 1), 0, none⟩ = some (.int .i64 s.term) := cell_at HR2.out 0
      have qR21 : V5.cell? ⟨(N + 1), 1, none⟩ = some (.int .i64 s.stamp) := cell_at HR2.out 1
      have qR22 : V5.cell? ⟨(N + 1), 2, none⟩ = some (.int .i64 s.next) := cell_at HR2.out 2
      have qR23 : V5.cell? ⟨(N + 1), 3, none⟩ = some (.slice ta2 tn tc2) := cell_at HR2.out 3
      have qR24 : V5.cell? ⟨(N + 1), 4, none⟩ = some (.slice la2 ln lc2) := cell_at HR2.out 4
      have qR25 : V5.cell? ⟨(N + 1), 5, none⟩ = some (.slice sa2 sn sc2) := cell_at HR2.out 5
      have qR26 : V5.cell? ⟨(N + 1), 6, none⟩ = some (.slice da2 dn dc2) := cell_at HR2.out 6
      have qR2z : ∀ j, V5.frozen? ⟨(N + 1), j, none⟩ = false := fun j => free_at HR2.out j
      have qR2l : (N + 1) < V5.heap.size := HR2.out.lt
      go_wp2_with fail
      clear qR0 qR1 qR2 qR3 qR4 qR5 qR6 qRz qRl qR20 qR21 qR22 qR23 qR24 qR25 qR26 qR2z qR2l
      go_loopw [6] (fun k wr => ∃ i : Nat, i ≤ sn ∧ k = .int .i64 i ∧ Below V5.heap.size V5 wr) (fun k _ => sn - (intOf k).toNat)
      case atStart => exact ⟨0, Nat.zero_le _, rfl, Below.refl _ _⟩
      case round =>
        obtain ⟨i, hi, rfl, hB⟩ := hrel
        have HBC := Lib.hid hB
        replace HB := Lib.hid (HB.out.trans (hB.mono HB.out.size))
        replace HT := Lib.hid (HT0.out.below HB.out)
        replace HL := Lib.hid (HL0.out.below HB.out)
        replace HS := Lib.hid (HS0.out.below HB.out)
        replace HD := Lib.hid (HD0.out.below HB.out)
        replace GT := Lib.hid (GT0.out.below HB.out)
        replace GL := Lib.hid (GL0.out.below HB.out)
        replace GS := Lib.hid (GS0.out.below HB.out)
        replace GD := Lib.hid (GD0.out.below HB.out)
        replace HR := Lib.hid (HR.out.step hB)
        replace HR2 := Lib.hid (HR2.out.step hB)
        clear hB
        by_cases hksn : i < sn
        · skip
          have b9 : (i < sn) = True := eq_true hksn
          obtain ⟨g, o, x, ea, g1, g2, q0, q1, q2, q3, q4, q5, q6⟩ := HS.out.at i hksn
          subst ea
          obtain ⟨g', o', y, ea, g1', g2', p0, p1, p2, p3, p4, p5, p6⟩ := GS.out.at i hksn
          subst ea
          obtain rfl : x = y := Option.some.inj (g2.symm.trans g2')
          have hne := se_neq x
          have ww5 : IntKind.i64.wrap ((i : Int) + 1) = (i : Int) + 1 := IntWalk.i64_in _ (by omega)
          clear g2 g2'
          have qR0 : wr.cell? ⟨N, 0, none⟩ = some (.int .i64 s.term) := cell_at HR.out 0
          have qR1 : wr.cell? ⟨N, 1, none⟩ = some (.int .i64 s.stamp) := cell_at HR.out 1
          have qR2 : wr.cell? ⟨N, 2, none⟩ = some (.int .i64 s.next) := cell_at HR.out 2
          have qR3 : wr.cell? ⟨N, 3, none⟩ = some (.slice ta tn tc) := cell_at HR.out 3
          have qR4 : wr.cell? ⟨N, 4, none⟩ = some (.slice la ln lc) := cell_at HR.out 4
          have qR5 : wr.cell? ⟨N, 5, none⟩ = some (.slice (some ⟨g, o, none⟩) sn sc) := cell_at HR.out 5
          have qR6 : wr.cell? ⟨N, 6, none⟩ = some (.slice da dn dc) := cell_at HR.out 6
          have qRz : ∀ j, wr.frozen? ⟨N, j, none⟩ = false := fun j => free_at HR.out j
          have qRl : N < wr.heap.size := HR.out.lt
          have qR20 : wr.cell? ⟨(N + 1), 0, none⟩ = some (.int .i64 s.term) := cell_at HR2.out 0
          have qR21 : wr.cell? ⟨(N + 1), 1, none⟩ = some (.int .i64 s.stamp) := cell_at HR2.out 1
          have qR22 : wr.cell? ⟨(N + 1), 2, none⟩ = some (.int .i64 s.next) := cell_at HR2.out 2
          have qR23 : wr.cell? ⟨(N + 1), 3, none⟩ = some (.slice ta2 tn tc2) := cell_at HR2.out 3
          have qR24 : wr.cell? ⟨(N + 1), 4, none⟩ = some (.slice la2 ln lc2) := cell_at HR2.out 4
          have qR25 : wr.cell? ⟨(N + 1), 5, none⟩ = some (.slice (some ⟨g', o', none⟩) sn sc2) := cell_at HR2.out 5
          have qR26 : wr.cell? ⟨(N + 1), 6, none⟩ = some (.slice da2 dn dc2) := cell_at HR2.out 6
          have qR2z : ∀ j, wr.frozen? ⟨(N + 1), j, none⟩ = false := fun j => free_at HR2.out j
          have qR2l : (N + 1) < wr.heap.size := HR2.out.lt
          go_wp2_with fail
          (refine wp_region_quiet_lit (by kernel_rfl) (by kernel_rfl) ?_; (repeat (first | go_big_quiet_step (fail) | (refine BigFrame.wpQuiet_skip (by rfl) ?_; try simp only [Act.put, List.setIfInBounds_toArray, List.set_cons_zero, List.set_cons_succ]))); refine wpQuiet_nil ?_; intro _ hw9; obtain ⟨nq, hw8⟩ := hw9; subst hw8)
          clear qR0 qR1 qR2 qR3 qR4 qR5 qR6 qRz qRl qR20 qR21 qR22 qR23 qR24 qR25 qR26 qR2z qR2l
          obtain ⟨W4, hWn⟩ : ∃ X, X = wr.drewN nq := ⟨_, rfl⟩
          rw [← hWn]
          have hB : Below wr.heap.size wr W4 := by rw [hWn]; exact dN _ _
          clear hWn
          replace HB := Lib.hid (HB.out.trans (hB.mono HB.out.size))
          replace HT := Lib.hid (HT0.out.below HB.out)
          replace HL := Lib.hid (HL0.out.below HB.out)
          replace HS := Lib.hid (HS0.out.below HB.out)
          replace HD := Lib.hid (HD0.out.below HB.out)
          replace GT := Lib.hid (GT0.out.below HB.out)
          replace GL := Lib.hid (GL0.out.below HB.out)
          replace GS := Lib.hid (GS0.out.below HB.out)
          replace GD := Lib.hid (GD0.out.below HB.out)
          replace HR := Lib.hid (HR.out.step hB)
          replace HR2 := Lib.hid (HR2.out.step hB)
          replace HBC := Lib.hid (HBC.out.trans (hB.mono HBC.out.size))
          clear hB
          have qR0 : W4.cell? ⟨N, 0, none⟩ = some (.int .i64 s.term) := cell_at HR.out 0
          have qR1 : W4.cell? ⟨N, 1, none⟩ = some (.int .i64 s.stamp) := cell_at HR.out 1
          have qR2 : W4.cell? ⟨N, 2, none⟩ = some (.int .i64 s.next) := cell_at HR.out 2
          have qR3 : W4.cell? ⟨N, 3, none⟩ = some (.slice ta tn tc) := cell_at HR.out 3
          have qR4 : W4.cell? ⟨N, 4, none⟩ = some (.slice la ln lc) := cell_at HR.out 4
          have qR5 : W4.cell? ⟨N, 5, none⟩ = some (.slice (some ⟨g, o, none⟩) sn sc) := cell_at HR.out 5
          have qR6 : W4.cell? ⟨N, 6, none⟩ = some (.slice da dn dc) := cell_at HR.out 6
          have qRz : ∀ j, W4.frozen? ⟨N, j, none⟩ = false := fun j => free_at HR.out j
          have qRl : N < W4.heap.size := HR.out.lt
          have qR20 : W4.cell? ⟨(N + 1), 0, none⟩ = some (.int .i64 s.term) := cell_at HR2.out 0
          have qR21 : W4.cell? ⟨(N + 1), 1, none⟩ = some (.int .i64 s.stamp) := cell_at HR2.out 1
          have qR22 : W4.cell? ⟨(N + 1), 2, none⟩ = some (.int .i64 s.next) := cell_at HR2.out 2
          have qR23 : W4.cell? ⟨(N + 1), 3, none⟩ = some (.slice ta2 tn tc2) := cell_at HR2.out 3
          have qR24 : W4.cell? ⟨(N + 1), 4, none⟩ = some (.slice la2 ln lc2) := cell_at HR2.out 4
          have qR25 : W4.cell? ⟨(N + 1), 5, none⟩ = some (.slice (some ⟨g', o', none⟩) sn sc2) := cell_at HR2.out 5
          have qR26 : W4.cell? ⟨(N + 1), 6, none⟩ = some (.slice da2 dn dc2) := cell_at HR2.out 6
          have qR2z : ∀ j, W4.frozen? ⟨(N + 1), j, none⟩ = false := fun j => free_at HR2.out j
          have qR2l : (N + 1) < W4.heap.size := HR2.out.lt
          go_wp2_with fail
          go_roundw
          case rel => exact ⟨i + 1, by omega, by go_num, HBC.out⟩
          case measure => first | (simp [intOf]; done) | (simp [intOf]; omega)
        · skip
          have b9 : (i < sn) = False := eq_false hksn
          obtain rfl : sn = i := by omega
          clear HBC
          rename World => V6
          have qR0 : V6.cell? ⟨N, 0, none⟩ = some (.int .i64 s.term) := cell_at HR.out 0
          have qR1 : V6.cell? ⟨N, 1, none⟩ = some (.int .i64 s.stamp) := cell_at HR.out 1
          have qR2 : V6.cell? ⟨N, 2, none⟩ = some (.int .i64 s.next) := cell_at HR.out 2
          have qR3 : V6.cell? ⟨N, 3, none⟩ = some (.slice ta tn tc) := cell_at HR.out 3
          have qR4 : V6.cell? ⟨N, 4, none⟩ = some (.slice la ln lc) := cell_at HR.out 4
          have qR5 : V6.cell? ⟨N, 5, none⟩ = some (.slice sa sn sc) := cell_at HR.out 5
          have qR6 : V6.cell? ⟨N, 6, none⟩ = some (.slice da dn dc) := cell_at HR.out 6
          have qRz : ∀ j, V6.frozen? ⟨N, j, none⟩ = false := fun j => free_at HR.out j
          have qRl : N < V6.heap.size := HR.out.lt
          have qR20 : V6.cell? ⟨(N + 1), 0, none⟩ = some (.int .i64 s.term) := cell_at HR2.out 0
          have qR21 : V6.cell? ⟨(N + 1), 1, none⟩ = some (.int .i64 s.stamp) := cell_at HR2.out 1
          have qR22 : V6.cell? ⟨(N + 1), 2, none⟩ = some (.int .i64 s.next) := cell_at HR2.out 2
          have qR23 : V6.cell? ⟨(N + 1), 3, none⟩ = some (.slice ta2 tn tc2) := cell_at HR2.out 3
          have qR24 : V6.cell? ⟨(N + 1), 4, none⟩ = some (.slice la2 ln lc2) := cell_at HR2.out 4
          have qR25 : V6.cell? ⟨(N + 1), 5, none⟩ = some (.slice sa2 sn sc2) := cell_at HR2.out 5
          have qR26 : V6.cell? ⟨(N + 1), 6, none⟩ = some (.slice da2 dn dc2) := cell_at HR2.out 6
          have qR2z : ∀ j, V6.frozen? ⟨(N + 1), j, none⟩ = false := fun j => free_at HR2.out j
          have qR2l : (N + 1) < V6.heap.size := HR2.out.lt
          go_wp2_with fail
          clear qR0 qR1 qR2 qR3 qR4 qR5 qR6 qRz qRl qR20 qR21 qR22 qR23 qR24 qR25 qR26 qR2z qR2l
          go_loopw [7] (fun k wr => ∃ i : Nat, i ≤ dn ∧ k = .int .i64 i ∧ Below V6.heap.size V6 wr) (fun k _ => dn - (intOf k).toNat)
          case atStart => exact ⟨0, Nat.zero_le _, rfl, Below.refl _ _⟩
          case round =>
            obtain ⟨i, hi, rfl, hB⟩ := hrel
            have HBC := Lib.hid hB
            replace HB := Lib.hid (HB.out.trans (hB.mono HB.out.size))
            replace HT := Lib.hid (HT0.out.below HB.out)
            replace HL := Lib.hid (HL0.out.below HB.out)
            replace HS := Lib.hid (HS0.out.below HB.out)
            replace HD := Lib.hid (HD0.out.below HB.out)
            replace GT := Lib.hid (GT0.out.below HB.out)
            replace GL := Lib.hid (GL0.out.below HB.out)
            replace GS := Lib.hid (GS0.out.below HB.out)
            replace GD := Lib.hid (GD0.out.below HB.out)
            replace HR := Lib.hid (HR.out.step hB)
            replace HR2 := Lib.hid (HR2.out.step hB)
            clear hB
            by_cases hkdn : i < dn
            · skip
              have b9 : (i < dn) = True := eq_true hkdn
              obtain ⟨g, o, x, ea, g1, g2, q0, q1, q2, q3, q4, q5, q6, q7⟩ := HD.out.at i hkdn
              subst ea
              obtain ⟨g', o', y, ea, g1', g2', p0, p1, p2, p3, p4, p5, p6, p7⟩ := GD.out.at i hkdn
              subst ea
              obtain rfl : x = y := Option.some.inj (g2.symm.trans g2')
              have hne := dk_neq x
              have ww5 : IntKind.i64.wrap ((i : Int) + 1) = (i : Int) + 1 := IntWalk.i64_in _ (by omega)
              clear g2 g2'
              have qR0 : wr.cell? ⟨N, 0, none⟩ = some (.int .i64 s.term) := cell_at HR.out 0
              have qR1 : wr.cell? ⟨N, 1, none⟩ = some (.int .i64 s.stamp) := cell_at HR.out 1
              have qR2 : wr.cell? ⟨N, 2, none⟩ = some (.int .i64 s.next) := cell_at HR.out 2
              have qR3 : wr.cell? ⟨N, 3, none⟩ = some (.slice ta tn tc) := cell_at HR.out 3
              have qR4 : wr.cell? ⟨N, 4, none⟩ = some (.slice la ln lc) := cell_at HR.out 4
              have qR5 : wr.cell? ⟨N, 5, none⟩ = some (.slice sa sn sc) := cell_at HR.out 5
              have qR6 : wr.cell? ⟨N, 6, none⟩ = some (.slice (some ⟨g, o, none⟩) dn dc) := cell_at HR.out 6
              have qRz : ∀ j, wr.frozen? ⟨N, j, none⟩ = false := fun j => free_at HR.out j
              have qRl : N < wr.heap.size := HR.out.lt
              have qR20 : wr.cell? ⟨(N + 1), 0, none⟩ = some (.int .i64 s.term) := cell_at HR2.out 0
              have qR21 : wr.cell? ⟨(N + 1), 1, none⟩ = some (.int .i64 s.stamp) := cell_at HR2.out 1
              have qR22 : wr.cell? ⟨(N + 1), 2, none⟩ = some (.int .i64 s.next) := cell_at HR2.out 2
              have qR23 : wr.cell? ⟨(N + 1), 3, none⟩ = some (.slice ta2 tn tc2) := cell_at HR2.out 3
              have qR24 : wr.cell? ⟨(N + 1), 4, none⟩ = some (.slice la2 ln lc2) := cell_at HR2.out 4
              have qR25 : wr.cell? ⟨(N + 1), 5, none⟩ = some (.slice sa2 sn sc2) := cell_at HR2.out 5
              have qR26 : wr.cell? ⟨(N + 1), 6, none⟩ = some (.slice (some ⟨g', o', none⟩) dn dc2) := cell_at HR2.out 6
              have qR2z : ∀ j, wr.frozen? ⟨(N + 1), j, none⟩ = false := fun j => free_at HR2.out j
              have qR2l : (N + 1) < wr.heap.size := HR2.out.lt
              go_wp2_with fail
              (refine wp_region_quiet_lit (by kernel_rfl) (by kernel_rfl) ?_; (repeat (first | go_big_quiet_step (fail) | (refine BigFrame.wpQuiet_skip (by rfl) ?_; try simp only [Act.put, List.setIfInBounds_toArray, List.set_cons_zero, List.set_cons_succ]))); refine wpQuiet_nil ?_; intro _ hw9; obtain ⟨nq, hw8⟩ := hw9; subst hw8)
              clear qR0 qR1 qR2 qR3 qR4 qR5 qR6 qRz qRl qR20 qR21 qR22 qR23 qR24 qR25 qR26 qR2z qR2l
              obtain ⟨W4, hWn⟩ : ∃ X, X = wr.drewN nq := ⟨_, rfl⟩
              rw [← hWn]
              have hB : Below wr.heap.size wr W4 := by rw [hWn]; exact dN _ _
              clear hWn
              replace HB := Lib.hid (HB.out.trans (hB.mono HB.out.size))
              replace HT := Lib.hid (HT0.out.below HB.out)
              replace HL := Lib.hid (HL0.out.below HB.out)
              replace HS := Lib.hid (HS0.out.below HB.out)
              replace HD := Lib.hid (HD0.out.below HB.out)
              replace GT := Lib.hid (GT0.out.below HB.out)
              replace GL := Lib.hid (GL0.out.below HB.out)
              replace GS := Lib.hid (GS0.out.below HB.out)
              replace GD := Lib.hid (GD0.out.below HB.out)
              replace HR := Lib.hid (HR.out.step hB)
              replace HR2 := Lib.hid (HR2.out.step hB)
              replace HBC := Lib.hid (HBC.out.trans (hB.mono HBC.out.size))
              clear hB
              have qR0 : W4.cell? ⟨N, 0, none⟩ = some (.int .i64 s.term) := cell_at HR.out 0
              have qR1 : W4.cell? ⟨N, 1, none⟩ = some (.int .i64 s.stamp) := cell_at HR.out 1
              have qR2 : W4.cell? ⟨N, 2, none⟩ = some (.int .i64 s.next) := cell_at HR.out 2
              have qR3 : W4.cell? ⟨N, 3, none⟩ = some (.slice ta tn tc) := cell_at HR.out 3
              have qR4 : W4.cell? ⟨N, 4, none⟩ = some (.slice la ln lc) := cell_at HR.out 4
              have qR5 : W4.cell? ⟨N, 5, none⟩ = some (.slice sa sn sc) := cell_at HR.out 5
              have qR6 : W4.cell? ⟨N, 6, none⟩ = some (.slice (some ⟨g, o, none⟩) dn dc) := cell_at HR.out 6
              have qRz : ∀ j, W4.frozen? ⟨N, j, none⟩ = false := fun j => free_at HR.out j
              have qRl : N < W4.heap.size := HR.out.lt
              have qR20 : W4.cell? ⟨(N + 1), 0, none⟩ = some (.int .i64 s.term) := cell_at HR2.out 0
              have qR21 : W4.cell? ⟨(N + 1), 1, none⟩ = some (.int .i64 s.stamp) := cell_at HR2.out 1
              have qR22 : W4.cell? ⟨(N + 1), 2, none⟩ = some (.int .i64 s.next) := cell_at HR2.out 2
              have qR23 : W4.cell? ⟨(N + 1), 3, none⟩ = some (.slice ta2 tn tc2) := cell_at HR2.out 3
              have qR24 : W4.cell? ⟨(N + 1), 4, none⟩ = some (.slice la2 ln lc2) := cell_at HR2.out 4
              have qR25 : W4.cell? ⟨(N + 1), 5, none⟩ = some (.slice sa2 sn sc2) := cell_at HR2.out 5
              have qR26 : W4.cell? ⟨(N + 1), 6, none⟩ = some (.slice (some ⟨g', o', none⟩) dn dc2) := cell_at HR2.out 6
              have qR2z : ∀ j, W4.frozen? ⟨(N + 1), j, none⟩ = false := fun j => free_at HR2.out j
              have qR2l : (N + 1) < W4.heap.size := HR2.out.lt
              go_wp2_with fail
              go_roundw
              case rel => exact ⟨i + 1, by omega, by go_num, HBC.out⟩
              case measure => first | (simp [intOf]; done) | (simp [intOf]; omega)
            · skip
              have b9 : (i < dn) = False := eq_false hkdn
              obtain rfl : dn = i := by omega
              clear HBC
              rename World => V7
              have qR0 : V7.cell? ⟨N, 0, none⟩ = some (.int .i64 s.term) := cell_at HR.out 0
              have qR1 : V7.cell? ⟨N, 1, none⟩ = some (.int .i64 s.stamp) := cell_at HR.out 1
              have qR2 : V7.cell? ⟨N, 2, none⟩ = some (.int .i64 s.next) := cell_at HR.out 2
              have qR3 : V7.cell? ⟨N, 3, none⟩ = some (.slice ta tn tc) := cell_at HR.out 3
              have qR4 : V7.cell? ⟨N, 4, none⟩ = some (.slice la ln lc) := cell_at HR.out 4
              have qR5 : V7.cell? ⟨N, 5, none⟩ = some (.slice sa sn sc) := cell_at HR.out 5
              have qR6 : V7.cell? ⟨N, 6, none⟩ = some (.slice da dn dc) := cell_at HR.out 6
              have qRz : ∀ j, V7.frozen? ⟨N, j, none⟩ = false := fun j => free_at HR.out j
              have qRl : N < V7.heap.size := HR.out.lt
              have qR20 : V7.cell? ⟨(N + 1), 0, none⟩ = some (.int .i64 s.term) := cell_at HR2.out 0
              have qR21 : V7.cell? ⟨(N + 1), 1, none⟩ = some (.int .i64 s.stamp) := cell_at HR2.out 1
              have qR22 : V7.cell? ⟨(N + 1), 2, none⟩ = some (.int .i64 s.next) := cell_at HR2.out 2
              have qR23 : V7.cell? ⟨(N + 1), 3, none⟩ = some (.slice ta2 tn tc2) := cell_at HR2.out 3
              have qR24 : V7.cell? ⟨(N + 1), 4, none⟩ = some (.slice la2 ln lc2) := cell_at HR2.out 4
              have qR25 : V7.cell? ⟨(N + 1), 5, none⟩ = some (.slice sa2 sn sc2) := cell_at HR2.out 5
              have qR26 : V7.cell? ⟨(N + 1), 6, none⟩ = some (.slice da2 dn dc2) := cell_at HR2.out 6
              have qR2z : ∀ j, V7.frozen? ⟨(N + 1), j, none⟩ = false := fun j => free_at HR2.out j
              have qR2l : (N + 1) < V7.heap.size := HR2.out.lt
              go_wp2_with fail
              go_ret
              exact ⟨rfl, HB.out⟩
set_option maxRecDepth 100000 in
set_option maxHeartbeats 4000000 in
theorem greatS_any (v : Value) (s : StE) (w : World) (h : SV w v s) :
    Calls Try.prog 9 #[v] w fun e w' => e = .returned (.bool (decide (60 < s.ts.length) || decide (100 < s.ls.length) || decide (60 < s.ss.length) || decide (60 < s.ds.length))) ∧ Below w.heap.size w w' := by
  obtain ⟨vt, vl, vs, vd, rfl, ht, hl, hs, hd⟩ := h
  obtain ⟨ta, tn, tc, rfl, Htn, tn1, tn2⟩ := ht.sh
  obtain ⟨la, ln, lc, rfl, Hln, ln1, ln2⟩ := hl.sh
  obtain ⟨sa, sn, sc, rfl, Hsn, sn1, sn2⟩ := hs.sh
  obtain ⟨da, dn, dc, rfl, Hdn, dn1, dn2⟩ := hd.sh
  have HT0 := Lib.hid ht
  have HL0 := Lib.hid hl
  have HS0 := Lib.hid hs
  have HD0 := Lib.hid hd
  have HT := Lib.hid ht
  have HL := Lib.hid hl
  have HS := Lib.hid hs
  have HD := Lib.hid hd
  clear ht hl hs hd
  rw [← Htn.out, ← Hln.out, ← Hsn.out, ← Hdn.out]
  have HB : Hid (Below w.heap.size w w) := Lib.hid (Below.refl _ _)
  go_enter Try.func9, Try.ntmps9
  go_upto_region 1 with fail
  obtain ⟨N, hN⟩ : ∃ n0, n0 = w.heap.size := ⟨_, rfl⟩
  have HLON : Hid (w.heap.size ≤ N) := Lib.hid (by have := HB.out.size; omega)
  obtain ⟨W1, hA0⟩ : ∃ W0, W0 = w.alloc (.cells #[.int .i64 s.term, .int .i64 s.stamp, .int .i64 s.next, .slice ta tn tc, .slice la ln lc, .slice sa sn sc, .slice da dn dc] 27) := ⟨_, rfl⟩
  have hB : Below w.heap.size w W1 := by rw [hA0]; exact (Below.refl _ _).alloc (Nat.le_refl _) _
  have hS0 : W1.heap.size = N + 1 := by rw [hA0]; simp [← hN]
  have HR := Lib.hid (show Blk W1 N #[.int .i64 s.term, .int .i64 s.stamp, .int .i64 s.next, .slice ta tn tc, .slice la ln lc, .slice sa sn sc, .slice da dn dc] 27 by rw [hA0, hN]; exact blk_new _ _ _)
  replace HB := Lib.hid (HB.out.trans (hB.mono HB.out.size))
  replace HT := Lib.hid (HT0.out.below HB.out)
  replace HL := Lib.hid (HL0.out.below HB.out)
  replace HS := Lib.hid (HS0.out.below HB.out)
  replace HD := Lib.hid (HD0.out.below HB.out)
  clear hB
  have HSN := Lib.hid hS0
  rw [← hN, ← hA0]
  clear hA0 hN hS0
  have qR0 : W1.cell? ⟨N, 0, none⟩ = some (.int .i64 s.term) := cell_at HR.out 0
  have qR1 : W1.cell? ⟨N, 1, none⟩ = some (.int .i64 s.stamp) := cell_at HR.out 1
  have qR2 : W1.cell? ⟨N, 2, none⟩ = some (.int .i64 s.next) := cell_at HR.out 2
  have qR3 : W1.cell? ⟨N, 3, none⟩ = some (.slice ta tn tc) := cell_at HR.out 3
  have qR4 : W1.cell? ⟨N, 4, none⟩ = some (.slice la ln lc) := cell_at HR.out 4
  have qR5 : W1.cell? ⟨N, 5, none⟩ = some (.slice sa sn sc) := cell_at HR.out 5
  have qR6 : W1.cell? ⟨N, 6, none⟩ = some (.slice da dn dc) := cell_at HR.out 6
  have qRz : ∀ j, W1.frozen? ⟨N, j, none⟩ = false := fun j => free_at HR.out j
  have qRl : N < W1.heap.size := HR.out.lt
  by_cases htn : 60 < tn
  · skip
    have ttn : decide ((60 : Int) < (tn : Int)) = true := decide_eq_true (by omega)
    go_wp2_with fail
    go_ret
    exact ⟨ret_bool (by simp [*]), HB.out⟩
  · skip
    have ttn : decide ((60 : Int) < (tn : Int)) = false := decide_eq_false (by omega)
    by_cases hln : 100 < ln
    · skip
      have tln : decide ((100 : Int) < (ln : Int)) = true := decide_eq_true (by omega)
      go_wp2_with fail
      go_ret
      exact ⟨ret_bool (by simp [*]), HB.out⟩
    · skip
      have tln : decide ((100 : Int) < (ln : Int)) = false := decide_eq_false (by omega)
      by_cases hsn : 60 < sn
      · skip
        have tsn : decide ((60 : Int) < (sn : Int)) = true := decide_eq_true (by omega)
        go_wp2_with fail
        go_ret
        exact ⟨ret_bool (by simp [*]), HB.out⟩
      · skip
        have tsn : decide ((60 : Int) < (sn : Int)) = false := decide_eq_false (by omega)
        by_cases hdn : 60 < dn
        · skip
          have tdn : decide ((60 : Int) < (dn : Int)) = true := decide_eq_true (by omega)
          go_wp2_with fail
          go_ret
          exact ⟨ret_bool (by simp [*]), HB.out⟩
        · skip
          have tdn : decide ((60 : Int) < (dn : Int)) = false := decide_eq_false (by omega)
          go_wp2_with fail
          go_ret
          exact ⟨ret_bool (by simp [*]), HB.out⟩
end Go.Proofs.Ytfgnjpdlchimpaa
namespace Go.Proofs.Ytfgnjpdlchimpaa
open Go.RowKit
set_option linter.unusedSimpArgs false
set_option linter.unusedVariables false

def w0 : StE := ⟨0, 0, 1, [⟨3, 1000, 20, 7000, false⟩], [], [], []⟩
def w1 : StE := ⟨0, 0, 2, [⟨3, 1000, 20, 2000, false⟩], [⟨1, 3, 1, 1, 1, 5, 0⟩], [], []⟩
def w2 : StE := ⟨0, 0, 2, [⟨3, 1000, 20, 2000, false⟩], [⟨1, 3, 1, 1, 1, 5, 2⟩], [], []⟩
def w3 : StE := ⟨0, 0, 2, [⟨3, 1000, 20, 4000, false⟩], [], [], []⟩
theorem w_01 : grS w0 1 1 1 3 5 = w1 := by rfl
theorem w_01a : grA w0 1 1 1 3 5 = ansG 0 1000 20 1 5 := by rfl
theorem w_12 : rpS w1 1 1 1 2 false = w2 := by rfl
theorem w_12e : rpE w1 1 1 1 2 = 0 := by rfl
theorem w_23 : rpS w2 1 1 1 3 true = w3 := by rfl
theorem w_23e : rpE w2 1 1 1 3 = 0 := by rfl
theorem w_34 : rpE w3 1 1 1 3 = 180 := by rfl
theorem w_1o : outS w1 3 = 5 := by rfl
theorem w_2o : outS w2 3 = 3 := by rfl
theorem TV.head {W : World} {a : Option Addr} {n c : Nat} {x : TnE} (h : TV W (.slice a n c) [x]) : n = 1 ∧ ∃ g o, a = some ⟨g, o, none⟩ ∧ g < W.heap.size ∧ W.cell? ⟨g, o + 0 * 5 + 3, none⟩ = some (.int .i64 x.bkt) := by
  have hn : n = 1 := by
    obtain ⟨a', b, o, c', ee, h⟩ := h
    injection ee
  subst hn
  obtain ⟨g, o, e, ea, g1, g2, _, _, _, c3, _⟩ := h.at 0 (by omega)
  have : e = x := by simpa using g2.symm
  subst this
  exact ⟨rfl, g, o, ea, g1, c3⟩
set_option maxRecDepth 100000 in
set_option maxHeartbeats 4000000 in
theorem start_any (w : World) : Calls Try.prog 28 #[] w fun e w' => ∃ v, e = .returned v ∧ SV w' v w0 ∧ Below w.heap.size w w' := by
  obtain ⟨B0, hB0⟩ : ∃ n, n = w.heap.size := ⟨_, rfl⟩
  rw [← hB0]
  have HB0 := Lib.hid hB0
  clear hB0
  have HB : Hid (Below w.heap.size w w) := Lib.hid (Below.refl _ _)
  go_enter Try.func28, Try.ntmps28
  go_wp2_with fail
  obtain ⟨N, hN⟩ : ∃ n0, n0 = w.heap.size := ⟨_, rfl⟩
  have HLON : Hid (w.heap.size ≤ N) := Lib.hid (by have := HB.out.size; omega)
  obtain ⟨W1, hA0⟩ : ∃ W0, W0 = w.alloc (.cells #[.int .i64 0, .int .i64 0, .int .i64 1, .slice (some ⟨N + 1, 0, none⟩) 1 1, .slice none 0 0, .slice none 0 0, .slice none 0 0] 27) := ⟨_, rfl⟩
  have hB : Below w.heap.size w W1 := by rw [hA0]; exact (Below.refl _ _).alloc (Nat.le_refl _) _
  have hS0 : W1.heap.size = N + 1 := by rw [hA0]; simp [← hN]
  have HZ := Lib.hid (show Blk W1 N #[.int .i64 0, .int .i64 0, .int .i64 1, .slice (some ⟨N + 1, 0, none⟩) 1 1, .slice none 0 0, .slice none 0 0, .slice none 0 0] 27 by rw [hA0, hN]; exact blk_new _ _ _)
  replace HB := Lib.hid (HB.out.trans (hB.mono HB.out.size))
  clear hB
  obtain ⟨W2, hA1⟩ : ∃ W0, W0 = W1.alloc (.cells #[.int .i64 3, .int .i64 1000, .int .i64 20, .int .i64 7000, .bool false] 54) := ⟨_, rfl⟩
  have hB : Below W1.heap.size W1 W2 := by rw [hA1]; exact (Below.refl _ _).alloc (Nat.le_refl _) _
  have hS1 : W2.heap.size = N + 2 := by rw [hA1]; simp [hS0]
  have HT := Lib.hid (show Blk W2 (N + 1) #[.int .i64 3, .int .i64 1000, .int .i64 20, .int .i64 7000, .bool false] 54 by rw [hA1, ← hS0]; exact blk_new _ _ _)
  replace HB := Lib.hid (HB.out.trans (hB.mono HB.out.size))
  replace HZ := Lib.hid (HZ.out.step hB)
  clear hB
  have HSN := Lib.hid hS1
  rw [← hN, ← hA0, ← hA1]
  clear hA1 hA0 hN hS0 hS1
  have qZ0 : W2.cell? ⟨N, 0, none⟩ = some (.int .i64 0) := cell_at HZ.out 0
  have qZ1 : W2.cell? ⟨N, 1, none⟩ = some (.int .i64 0) := cell_at HZ.out 1
  have qZ2 : W2.cell? ⟨N, 2, none⟩ = some (.int .i64 1) := cell_at HZ.out 2
  have qZ3 : W2.cell? ⟨N, 3, none⟩ = some (.slice (some ⟨N + 1, 0, none⟩) 1 1) := cell_at HZ.out 3
  have qZ4 : W2.cell? ⟨N, 4, none⟩ = some (.slice none 0 0) := cell_at HZ.out 4
  have qZ5 : W2.cell? ⟨N, 5, none⟩ = some (.slice none 0 0) := cell_at HZ.out 5
  have qZ6 : W2.cell? ⟨N, 6, none⟩ = some (.slice none 0 0) := cell_at HZ.out 6
  have qZz : ∀ j, W2.frozen? ⟨N, j, none⟩ = false := fun j => free_at HZ.out j
  have qZl : N < W2.heap.size := HZ.out.lt
  exact bodyPost_ret (v := .agg #[.int .i64 0, .int .i64 0, .int .i64 1, .slice (some ⟨N + 1, 0, none⟩) 1 1, .slice none 0 0, .slice none 0 0, .slice none 0 0]) (by simp [results, Try.results28, go_sem, qZ0, qZ1, qZ2, qZ3, qZ4, qZ5, qZ6]) rfl ⟨_, rfl, ⟨_, _, _, _, rfl, tn_tv (tn9v_one (e := ⟨3, 1000, 20, 7000, false⟩) HT.out (by unfold TnE.ok; decide)), lev_nil _, sev_nil _, dkv_nil _⟩, by rw [HB0.out]; exact HB.out⟩
set_option maxRecDepth 100000 in
set_option maxHeartbeats 8000000 in
theorem wakes_any (w : World) : Calls Try.prog 10 #[] w fun e w' => e = .returned (.bool true) ∧ Below w.heap.size w w' := by
  have HST := Lib.hid start_any
  have HGR := Lib.hid (fun W v (h : SV W v w0) => grant_any v w0 1 1 1 3 5 W h (by unfold fewS; decide) (by decide))
  have HR1 := Lib.hid (fun W v (h : SV W v w1) => report_any v w1 1 1 1 2 false W h (by unfold fewS; decide) (by decide))
  have HR2 := Lib.hid (fun W v (h : SV W v w2) => report_any v w2 1 1 1 3 true W h (by unfold fewS; decide) (by decide))
  have HR3 := Lib.hid (fun W v (h : SV W v w3) => report_any v w3 1 1 1 3 true W h (by unfold fewS; decide) (by decide))
  have HO1 := Lib.hid (fun W v (h : SV W v w1) => out_any v w1 3 W h (by unfold fewS; decide))
  have HO2 := Lib.hid (fun W v (h : SV W v w2) => out_any v w2 3 W h (by unfold fewS; decide))
  rw [w_01, w_01a] at HGR
  rw [w_12, w_12e] at HR1
  rw [w_23, w_23e] at HR2
  rw [w_34] at HR3
  rw [w_1o] at HO1
  rw [w_2o] at HO2
  unfold ansG at HGR
  have HANS := Lib.hid (fun W => ans_eql 0 1000 20 1 5 W)
  obtain ⟨s1, hs1⟩ : ∃ s, s = w1 := ⟨_, rfl⟩
  obtain ⟨s2, hs2⟩ : ∃ s, s = w2 := ⟨_, rfl⟩
  obtain ⟨s3, hs3⟩ : ∃ s, s = w3 := ⟨_, rfl⟩
  rw [← hs1] at HGR HR1 HO1
  rw [← hs2] at HR1 HR2 HO2
  rw [← hs3] at HR2 HR3
  have E1 : Hid (s1.ts = [⟨3, 1000, 20, 2000, false⟩]) := Lib.hid (by rw [hs1]; rfl)
  have E3 : Hid (s3.ts = [⟨3, 1000, 20, 4000, false⟩]) := Lib.hid (by rw [hs3]; rfl)
  have L3 : Hid (s3.ls = []) := Lib.hid (by rw [hs3]; rfl)
  clear hs1 hs2 hs3
  have HB : Hid (Below w.heap.size w w) := Lib.hid (Below.refl _ _)
  go_enter Try.func10, Try.ntmps10
  go_wp2_with fail
  go_at_call 28
  go_fit (HST.out _)
  rintro e W1 ⟨v0, rfl, hv0, hB⟩
  replace HB := Lib.hid (HB.out.trans (hB.mono HB.out.size))
  clear hB
  have HGR2 := Lib.hid (HGR.out _ _ hv0)
  clear hv0
  go_wp2_with fail
  go_at_call 20
  go_fit HGR2.out
  rintro e W2 ⟨v1, rfl, hv1, hB⟩
  replace HB := Lib.hid (HB.out.trans (hB.mono HB.out.size))
  clear hB
  obtain ⟨xt1, xl1, xs1, xd1, rfl, ht1, hl1, hs1, hd1⟩ := hv1
  obtain ⟨at1, nt1, ct1, rfl, Nt1, _, _⟩ := ht1.sh
  obtain ⟨al1, nl1, cl1, rfl, Nl1, _, _⟩ := hl1.sh
  obtain ⟨as1, ns1, cs1, rfl, Ns1, _, _⟩ := hs1.sh
  obtain ⟨ad1, nd1, cd1, rfl, Nd1, _, _⟩ := hd1.sh
  have V1 := Lib.hid (show SV _ (.agg #[.int .i64 s1.term, .int .i64 s1.stamp, .int .i64 s1.next, .slice at1 nt1 ct1, .slice al1 nl1 cl1, .slice as1 ns1 cs1, .slice ad1 nd1 cd1]) s1 from ⟨_, _, _, _, rfl, ht1, hl1, hs1, hd1⟩)
  have T1 := Lib.hid ht1
  clear ht1 hl1 hs1 hd1
  go_upto_region 2 with fail
  obtain ⟨A9, hA9⟩ : ∃ n0, n0 = W2.heap.size := ⟨_, rfl⟩
  have HLOA9 : Hid (w.heap.size ≤ A9) := Lib.hid (by have := HB.out.size; omega)
  obtain ⟨W3, hA0⟩ : ∃ W0, W0 = W2.alloc (.cells #[.int .i64 s1.term, .int .i64 s1.stamp, .int .i64 s1.next, .slice at1 nt1 ct1, .slice al1 nl1 cl1, .slice as1 ns1 cs1, .slice ad1 nd1 cd1] 27) := ⟨_, rfl⟩
  have hB : Below W2.heap.size W2 W3 := by rw [hA0]; exact (Below.refl _ _).alloc (Nat.le_refl _) _
  have hS0 : W3.heap.size = A9 + 1 := by rw [hA0]; simp [← hA9]
  have HA1 := Lib.hid (show Blk W3 A9 #[.int .i64 s1.term, .int .i64 s1.stamp, .int .i64 s1.next, .slice at1 nt1 ct1, .slice al1 nl1 cl1, .slice as1 ns1 cs1, .slice ad1 nd1 cd1] 27 by rw [hA0, hA9]; exact blk_new _ _ _)
  replace HB := Lib.hid (HB.out.trans (hB.mono HB.out.size))
  replace V1 := Lib.hid (V1.out.below hB)
  replace T1 := Lib.hid (T1.out.below hB)
  clear hB
  obtain ⟨W4, hA1⟩ : ∃ W0, W0 = W3.alloc (.cells #[.int .i64 0, .int .i64 1000, .int .i64 20, .int .i64 1, .int .i64 5] 41) := ⟨_, rfl⟩
  have hB : Below W3.heap.size W3 W4 := by rw [hA1]; exact (Below.refl _ _).alloc (Nat.le_refl _) _
  have hS1 : W4.heap.size = A9 + 2 := by rw [hA1]; simp [hS0]
  have HA2 := Lib.hid (show Blk W4 (A9 + 1) #[.int .i64 0, .int .i64 1000, .int .i64 20, .int .i64 1, .int .i64 5] 41 by rw [hA1, ← hS0]; exact blk_new _ _ _)
  replace HB := Lib.hid (HB.out.trans (hB.mono HB.out.size))
  replace V1 := Lib.hid (V1.out.below hB)
  replace T1 := Lib.hid (T1.out.below hB)
  replace HA1 := Lib.hid (HA1.out.step hB)
  clear hB
  have HSA9 := Lib.hid hS1
  rw [← hA9, ← hA0, ← hA1]
  clear hA1 hA0 hA9 hS0 hS1
  have qA10 : W4.cell? ⟨A9, 0, none⟩ = some (.int .i64 s1.term) := cell_at HA1.out 0
  have qA11 : W4.cell? ⟨A9, 1, none⟩ = some (.int .i64 s1.stamp) := cell_at HA1.out 1
  have qA12 : W4.cell? ⟨A9, 2, none⟩ = some (.int .i64 s1.next) := cell_at HA1.out 2
  have qA13 : W4.cell? ⟨A9, 3, none⟩ = some (.slice at1 nt1 ct1) := cell_at HA1.out 3
  have qA14 : W4.cell? ⟨A9, 4, none⟩ = some (.slice al1 nl1 cl1) := cell_at HA1.out 4
  have qA15 : W4.cell? ⟨A9, 5, none⟩ = some (.slice as1 ns1 cs1) := cell_at HA1.out 5
  have qA16 : W4.cell? ⟨A9, 6, none⟩ = some (.slice ad1 nd1 cd1) := cell_at HA1.out 6
  have qA1z : ∀ j, W4.frozen? ⟨A9, j, none⟩ = false := fun j => free_at HA1.out j
  have qA1l : A9 < W4.heap.size := HA1.out.lt
  go_wp2_with fail
  go_at_call 14
  go_fit (HO1.out _ _ V1.out)
  rintro e W5 ⟨rfl, hB⟩
  clear qA10 qA11 qA12 qA13 qA14 qA15 qA16 qA1z qA1l
  replace HB := Lib.hid (HB.out.trans (hB.mono HB.out.size))
  replace V1 := Lib.hid (V1.out.below hB)
  replace T1 := Lib.hid (T1.out.below hB)
  replace HA1 := Lib.hid (HA1.out.step hB)
  replace HA2 := Lib.hid (HA2.out.step hB)
  clear hB
  have qA10 : W5.cell? ⟨A9, 0, none⟩ = some (.int .i64 s1.term) := cell_at HA1.out 0
  have qA11 : W5.cell? ⟨A9, 1, none⟩ = some (.int .i64 s1.stamp) := cell_at HA1.out 1
  have qA12 : W5.cell? ⟨A9, 2, none⟩ = some (.int .i64 s1.next) := cell_at HA1.out 2
  have qA13 : W5.cell? ⟨A9, 3, none⟩ = some (.slice at1 nt1 ct1) := cell_at HA1.out 3
  have qA14 : W5.cell? ⟨A9, 4, none⟩ = some (.slice al1 nl1 cl1) := cell_at HA1.out 4
  have qA15 : W5.cell? ⟨A9, 5, none⟩ = some (.slice as1 ns1 cs1) := cell_at HA1.out 5
  have qA16 : W5.cell? ⟨A9, 6, none⟩ = some (.slice ad1 nd1 cd1) := cell_at HA1.out 6
  have qA1z : ∀ j, W5.frozen? ⟨A9, j, none⟩ = false := fun j => free_at HA1.out j
  have qA1l : A9 < W5.heap.size := HA1.out.lt
  go_wp2_with fail
  go_at_call 22
  go_fit (HR1.out _ _ V1.out)
  rintro e W6 ⟨v2, rfl, hv2, hB⟩
  clear qA10 qA11 qA12 qA13 qA14 qA15 qA16 qA1z qA1l
  replace HB := Lib.hid (HB.out.trans (hB.mono HB.out.size))
  replace V1 := Lib.hid (V1.out.below hB)
  replace T1 := Lib.hid (T1.out.below hB)
  replace HA1 := Lib.hid (HA1.out.step hB)
  replace HA2 := Lib.hid (HA2.out.step hB)
  clear hB
  obtain ⟨xt2, xl2, xs2, xd2, rfl, ht2, hl2, hs2, hd2⟩ := hv2
  obtain ⟨at2, nt2, ct2, rfl, Nt2, _, _⟩ := ht2.sh
  obtain ⟨al2, nl2, cl2, rfl, Nl2, _, _⟩ := hl2.sh
  obtain ⟨as2, ns2, cs2, rfl, Ns2, _, _⟩ := hs2.sh
  obtain ⟨ad2, nd2, cd2, rfl, Nd2, _, _⟩ := hd2.sh
  have V2 := Lib.hid (show SV _ (.agg #[.int .i64 s2.term, .int .i64 s2.stamp, .int .i64 s2.next, .slice at2 nt2 ct2, .slice al2 nl2 cl2, .slice as2 ns2 cs2, .slice ad2 nd2 cd2]) s2 from ⟨_, _, _, _, rfl, ht2, hl2, hs2, hd2⟩)
  have T2 := Lib.hid ht2
  clear ht2 hl2 hs2 hd2
  go_upto_region 4 with fail
  obtain ⟨B9, hB9⟩ : ∃ n0, n0 = W6.heap.size := ⟨_, rfl⟩
  have HXB9HA1 : Hid (A9 < B9) := Lib.hid (by rw [hB9]; exact HA1.out.lt)
  have HXB9HA2 : Hid ((A9 + 1) < B9) := Lib.hid (by rw [hB9]; exact HA2.out.lt)
  have HLOB9 : Hid (w.heap.size ≤ B9) := Lib.hid (by have := HB.out.size; omega)
  obtain ⟨W7, hA0⟩ : ∃ W0, W0 = W6.alloc (.cells #[.int .i64 s2.term, .int .i64 s2.stamp, .int .i64 s2.next, .slice at2 nt2 ct2, .slice al2 nl2 cl2, .slice as2 ns2 cs2, .slice ad2 nd2 cd2] 27) := ⟨_, rfl⟩
  have hB : Below W6.heap.size W6 W7 := by rw [hA0]; exact (Below.refl _ _).alloc (Nat.le_refl _) _
  have hS0 : W7.heap.size = B9 + 1 := by rw [hA0]; simp [← hB9]
  have HB2 := Lib.hid (show Blk W7 B9 #[.int .i64 s2.term, .int .i64 s2.stamp, .int .i64 s2.next, .slice at2 nt2 ct2, .slice al2 nl2 cl2, .slice as2 ns2 cs2, .slice ad2 nd2 cd2] 27 by rw [hA0, hB9]; exact blk_new _ _ _)
  replace HB := Lib.hid (HB.out.trans (hB.mono HB.out.size))
  replace V1 := Lib.hid (V1.out.below hB)
  replace T1 := Lib.hid (T1.out.below hB)
  replace HA1 := Lib.hid (HA1.out.step hB)
  replace HA2 := Lib.hid (HA2.out.step hB)
  replace V2 := Lib.hid (V2.out.below hB)
  replace T2 := Lib.hid (T2.out.below hB)
  clear hB
  have HSB9 := Lib.hid hS0
  rw [← hB9, ← hA0]
  clear hA0 hB9 hS0
  have qB20 : W7.cell? ⟨B9, 0, none⟩ = some (.int .i64 s2.term) := cell_at HB2.out 0
  have qB21 : W7.cell? ⟨B9, 1, none⟩ = some (.int .i64 s2.stamp) := cell_at HB2.out 1
  have qB22 : W7.cell? ⟨B9, 2, none⟩ = some (.int .i64 s2.next) := cell_at HB2.out 2
  have qB23 : W7.cell? ⟨B9, 3, none⟩ = some (.slice at2 nt2 ct2) := cell_at HB2.out 3
  have qB24 : W7.cell? ⟨B9, 4, none⟩ = some (.slice al2 nl2 cl2) := cell_at HB2.out 4
  have qB25 : W7.cell? ⟨B9, 5, none⟩ = some (.slice as2 ns2 cs2) := cell_at HB2.out 5
  have qB26 : W7.cell? ⟨B9, 6, none⟩ = some (.slice ad2 nd2 cd2) := cell_at HB2.out 6
  have qB2z : ∀ j, W7.frozen? ⟨B9, j, none⟩ = false := fun j => free_at HB2.out j
  have qB2l : B9 < W7.heap.size := HB2.out.lt
  go_wp2_with fail
  go_at_call 22
  go_fit (HR2.out _ _ V2.out)
  rintro e W8 ⟨v3, rfl, hv3, hB⟩
  clear qB20 qB21 qB22 qB23 qB24 qB25 qB26 qB2z qB2l
  replace HB := Lib.hid (HB.out.trans (hB.mono HB.out.size))
  replace V1 := Lib.hid (V1.out.below hB)
  replace T1 := Lib.hid (T1.out.below hB)
  replace HA1 := Lib.hid (HA1.out.step hB)
  replace HA2 := Lib.hid (HA2.out.step hB)
  replace V2 := Lib.hid (V2.out.below hB)
  replace T2 := Lib.hid (T2.out.below hB)
  replace HB2 := Lib.hid (HB2.out.step hB)
  clear hB
  obtain ⟨xt3, xl3, xs3, xd3, rfl, ht3, hl3, hs3, hd3⟩ := hv3
  obtain ⟨at3, nt3, ct3, rfl, Nt3, _, _⟩ := ht3.sh
  obtain ⟨al3, nl3, cl3, rfl, Nl3, _, _⟩ := hl3.sh
  obtain ⟨as3, ns3, cs3, rfl, Ns3, _, _⟩ := hs3.sh
  obtain ⟨ad3, nd3, cd3, rfl, Nd3, _, _⟩ := hd3.sh
  have V3 := Lib.hid (show SV _ (.agg #[.int .i64 s3.term, .int .i64 s3.stamp, .int .i64 s3.next, .slice at3 nt3 ct3, .slice al3 nl3 cl3, .slice as3 ns3 cs3, .slice ad3 nd3 cd3]) s3 from ⟨_, _, _, _, rfl, ht3, hl3, hs3, hd3⟩)
  have T3 := Lib.hid ht3
  clear ht3 hl3 hs3 hd3
  go_upto_region 5 with fail
  obtain ⟨C9, hC9⟩ : ∃ n0, n0 = W8.heap.size := ⟨_, rfl⟩
  have HXC9HA1 : Hid (A9 < C9) := Lib.hid (by rw [hC9]; exact HA1.out.lt)
  have HXC9HA2 : Hid ((A9 + 1) < C9) := Lib.hid (by rw [hC9]; exact HA2.out.lt)
  have HXC9HB2 : Hid (B9 < C9) := Lib.hid (by rw [hC9]; exact HB2.out.lt)
  have HLOC9 : Hid (w.heap.size ≤ C9) := Lib.hid (by have := HB.out.size; omega)
  obtain ⟨W9, hA0⟩ : ∃ W0, W0 = W8.alloc (.cells #[.int .i64 s3.term, .int .i64 s3.stamp, .int .i64 s3.next, .slice at3 nt3 ct3, .slice al3 nl3 cl3, .slice as3 ns3 cs3, .slice ad3 nd3 cd3] 27) := ⟨_, rfl⟩
  have hB : Below W8.heap.size W8 W9 := by rw [hA0]; exact (Below.refl _ _).alloc (Nat.le_refl _) _
  have hS0 : W9.heap.size = C9 + 1 := by rw [hA0]; simp [← hC9]
  have HC3 := Lib.hid (show Blk W9 C9 #[.int .i64 s3.term, .int .i64 s3.stamp, .int .i64 s3.next, .slice at3 nt3 ct3, .slice al3 nl3 cl3, .slice as3 ns3 cs3, .slice ad3 nd3 cd3] 27 by rw [hA0, hC9]; exact blk_new _ _ _)
  replace HB := Lib.hid (HB.out.trans (hB.mono HB.out.size))
  replace V1 := Lib.hid (V1.out.below hB)
  replace T1 := Lib.hid (T1.out.below hB)
  replace HA1 := Lib.hid (HA1.out.step hB)
  replace HA2 := Lib.hid (HA2.out.step hB)
  replace V2 := Lib.hid (V2.out.below hB)
  replace T2 := Lib.hid (T2.out.below hB)
  replace HB2 := Lib.hid (HB2.out.step hB)
  replace V3 := Lib.hid (V3.out.below hB)
  replace T3 := Lib.hid (T3.out.below hB)
  clear hB
  have HSC9 := Lib.hid hS0
  rw [← hC9, ← hA0]
  clear hA0 hC9 hS0
  have qC30 : W9.cell? ⟨C9, 0, none⟩ = some (.int .i64 s3.term) := cell_at HC3.out 0
  have qC31 : W9.cell? ⟨C9, 1, none⟩ = some (.int .i64 s3.stamp) := cell_at HC3.out 1
  have qC32 : W9.cell? ⟨C9, 2, none⟩ = some (.int .i64 s3.next) := cell_at HC3.out 2
  have qC33 : W9.cell? ⟨C9, 3, none⟩ = some (.slice at3 nt3 ct3) := cell_at HC3.out 3
  have qC34 : W9.cell? ⟨C9, 4, none⟩ = some (.slice al3 nl3 cl3) := cell_at HC3.out 4
  have qC35 : W9.cell? ⟨C9, 5, none⟩ = some (.slice as3 ns3 cs3) := cell_at HC3.out 5
  have qC36 : W9.cell? ⟨C9, 6, none⟩ = some (.slice ad3 nd3 cd3) := cell_at HC3.out 6
  have qC3z : ∀ j, W9.frozen? ⟨C9, j, none⟩ = false := fun j => free_at HC3.out j
  have qC3l : C9 < W9.heap.size := HC3.out.lt
  go_wp2_with fail
  go_at_call 22
  go_fit (HR3.out _ _ V3.out)
  rintro e W10 ⟨v4, rfl, hv4, hB⟩
  clear qC30 qC31 qC32 qC33 qC34 qC35 qC36 qC3z qC3l
  replace HB := Lib.hid (HB.out.trans (hB.mono HB.out.size))
  replace V1 := Lib.hid (V1.out.below hB)
  replace T1 := Lib.hid (T1.out.below hB)
  replace HA1 := Lib.hid (HA1.out.step hB)
  replace HA2 := Lib.hid (HA2.out.step hB)
  replace V2 := Lib.hid (V2.out.below hB)
  replace T2 := Lib.hid (T2.out.below hB)
  replace HB2 := Lib.hid (HB2.out.step hB)
  replace V3 := Lib.hid (V3.out.below hB)
  replace T3 := Lib.hid (T3.out.below hB)
  replace HC3 := Lib.hid (HC3.out.step hB)
  clear hB
  obtain ⟨xt4, xl4, xs4, xd4, rfl, ht4, hl4, hs4, hd4⟩ := hv4
  obtain ⟨at4, nt4, ct4, rfl, Nt4, _, _⟩ := ht4.sh
  obtain ⟨al4, nl4, cl4, rfl, Nl4, _, _⟩ := hl4.sh
  obtain ⟨as4, ns4, cs4, rfl, Ns4, _, _⟩ := hs4.sh
  obtain ⟨ad4, nd4, cd4, rfl, Nd4, _, _⟩ := hd4.sh
  obtain ⟨s4, hs9⟩ : ∃ s, s = rpS s3 1 1 1 3 true := ⟨_, rfl⟩
  rw [← hs9]
  clear ht4 hl4 hs4 hd4 hs9
  go_upto_region 6 with fail
  obtain ⟨D9, hD9⟩ : ∃ n0, n0 = W10.heap.size := ⟨_, rfl⟩
  have HXD9HA1 : Hid (A9 < D9) := Lib.hid (by rw [hD9]; exact HA1.out.lt)
  have HXD9HA2 : Hid ((A9 + 1) < D9) := Lib.hid (by rw [hD9]; exact HA2.out.lt)
  have HXD9HB2 : Hid (B9 < D9) := Lib.hid (by rw [hD9]; exact HB2.out.lt)
  have HXD9HC3 : Hid (C9 < D9) := Lib.hid (by rw [hD9]; exact HC3.out.lt)
  have HLOD9 : Hid (w.heap.size ≤ D9) := Lib.hid (by have := HB.out.size; omega)
  obtain ⟨W11, hA0⟩ : ∃ W0, W0 = W10.alloc (.cells #[.int .i64 s4.term, .int .i64 s4.stamp, .int .i64 s4.next, .slice at4 nt4 ct4, .slice al4 nl4 cl4, .slice as4 ns4 cs4, .slice ad4 nd4 cd4] 27) := ⟨_, rfl⟩
  have hB : Below W10.heap.size W10 W11 := by rw [hA0]; exact (Below.refl _ _).alloc (Nat.le_refl _) _
  have hS0 : W11.heap.size = D9 + 1 := by rw [hA0]; simp [← hD9]
  have HD4 := Lib.hid (show Blk W11 D9 #[.int .i64 s4.term, .int .i64 s4.stamp, .int .i64 s4.next, .slice at4 nt4 ct4, .slice al4 nl4 cl4, .slice as4 ns4 cs4, .slice ad4 nd4 cd4] 27 by rw [hA0, hD9]; exact blk_new _ _ _)
  replace HB := Lib.hid (HB.out.trans (hB.mono HB.out.size))
  replace V1 := Lib.hid (V1.out.below hB)
  replace T1 := Lib.hid (T1.out.below hB)
  replace HA1 := Lib.hid (HA1.out.step hB)
  replace HA2 := Lib.hid (HA2.out.step hB)
  replace V2 := Lib.hid (V2.out.below hB)
  replace T2 := Lib.hid (T2.out.below hB)
  replace HB2 := Lib.hid (HB2.out.step hB)
  replace V3 := Lib.hid (V3.out.below hB)
  replace T3 := Lib.hid (T3.out.below hB)
  replace HC3 := Lib.hid (HC3.out.step hB)
  clear hB
  have HSD9 := Lib.hid hS0
  rw [← hD9, ← hA0]
  clear hA0 hD9 hS0
  have hh1 := T1.out
  rw [E1.out] at hh1
  obtain ⟨e1, gt1, ot1, rfl, gl1, cc1⟩ := hh1.head
  have hh3 := T3.out
  rw [E3.out] at hh3
  obtain ⟨e3, gt3, ot3, rfl, gl3, cc3⟩ := hh3.head
  have e5 : nl3 = 0 := by rw [Nl3.out, L3.out]; rfl
  subst e1 e3 e5
  clear hh1 hh3
  have HA := HANS.out W11
  have qA10 : W11.cell? ⟨A9, 0, none⟩ = some (.int .i64 s1.term) := cell_at HA1.out 0
  have qA11 : W11.cell? ⟨A9, 1, none⟩ = some (.int .i64 s1.stamp) := cell_at HA1.out 1
  have qA12 : W11.cell? ⟨A9, 2, none⟩ = some (.int .i64 s1.next) := cell_at HA1.out 2
  have qA13 : W11.cell? ⟨A9, 3, none⟩ = some (.slice (some ⟨gt1, ot1, none⟩) 1 ct1) := cell_at HA1.out 3
  have qA14 : W11.cell? ⟨A9, 4, none⟩ = some (.slice al1 nl1 cl1) := cell_at HA1.out 4
  have qA15 : W11.cell? ⟨A9, 5, none⟩ = some (.slice as1 ns1 cs1) := cell_at HA1.out 5
  have qA16 : W11.cell? ⟨A9, 6, none⟩ = some (.slice ad1 nd1 cd1) := cell_at HA1.out 6
  have qA1z : ∀ j, W11.frozen? ⟨A9, j, none⟩ = false := fun j => free_at HA1.out j
  have qA1l : A9 < W11.heap.size := HA1.out.lt
  have qA20 : W11.cell? ⟨(A9 + 1), 0, none⟩ = some (.int .i64 0) := cell_at HA2.out 0
  have qA21 : W11.cell? ⟨(A9 + 1), 1, none⟩ = some (.int .i64 1000) := cell_at HA2.out 1
  have qA22 : W11.cell? ⟨(A9 + 1), 2, none⟩ = some (.int .i64 20) := cell_at HA2.out 2
  have qA23 : W11.cell? ⟨(A9 + 1), 3, none⟩ = some (.int .i64 1) := cell_at HA2.out 3
  have qA24 : W11.cell? ⟨(A9 + 1), 4, none⟩ = some (.int .i64 5) := cell_at HA2.out 4
  have qA2z : ∀ j, W11.frozen? ⟨(A9 + 1), j, none⟩ = false := fun j => free_at HA2.out j
  have qA2l : (A9 + 1) < W11.heap.size := HA2.out.lt
  have qB20 : W11.cell? ⟨B9, 0, none⟩ = some (.int .i64 s2.term) := cell_at HB2.out 0
  have qB21 : W11.cell? ⟨B9, 1, none⟩ = some (.int .i64 s2.stamp) := cell_at HB2.out 1
  have qB22 : W11.cell? ⟨B9, 2, none⟩ = some (.int .i64 s2.next) := cell_at HB2.out 2
  have qB23 : W11.cell? ⟨B9, 3, none⟩ = some (.slice at2 nt2 ct2) := cell_at HB2.out 3
  have qB24 : W11.cell? ⟨B9, 4, none⟩ = some (.slice al2 nl2 cl2) := cell_at HB2.out 4
  have qB25 : W11.cell? ⟨B9, 5, none⟩ = some (.slice as2 ns2 cs2) := cell_at HB2.out 5
  have qB26 : W11.cell? ⟨B9, 6, none⟩ = some (.slice ad2 nd2 cd2) := cell_at HB2.out 6
  have qB2z : ∀ j, W11.frozen? ⟨B9, j, none⟩ = false := fun j => free_at HB2.out j
  have qB2l : B9 < W11.heap.size := HB2.out.lt
  have qC30 : W11.cell? ⟨C9, 0, none⟩ = some (.int .i64 s3.term) := cell_at HC3.out 0
  have qC31 : W11.cell? ⟨C9, 1, none⟩ = some (.int .i64 s3.stamp) := cell_at HC3.out 1
  have qC32 : W11.cell? ⟨C9, 2, none⟩ = some (.int .i64 s3.next) := cell_at HC3.out 2
  have qC33 : W11.cell? ⟨C9, 3, none⟩ = some (.slice (some ⟨gt3, ot3, none⟩) 1 ct3) := cell_at HC3.out 3
  have qC34 : W11.cell? ⟨C9, 4, none⟩ = some (.slice al3 0 cl3) := cell_at HC3.out 4
  have qC35 : W11.cell? ⟨C9, 5, none⟩ = some (.slice as3 ns3 cs3) := cell_at HC3.out 5
  have qC36 : W11.cell? ⟨C9, 6, none⟩ = some (.slice ad3 nd3 cd3) := cell_at HC3.out 6
  have qC3z : ∀ j, W11.frozen? ⟨C9, j, none⟩ = false := fun j => free_at HC3.out j
  have qC3l : C9 < W11.heap.size := HC3.out.lt
  go_wp2_with fail
  go_at_call 14
  go_fit (HO2.out _ _ V2.out)
  rintro e W12 ⟨rfl, hB⟩
  clear qA10 qA11 qA12 qA13 qA14 qA15 qA16 qA1z qA1l qA20 qA21 qA22 qA23 qA24 qA2z qA2l qB20 qB21 qB22 qB23 qB24 qB25 qB26 qB2z qB2l qC30 qC31 qC32 qC33 qC34 qC35 qC36 qC3z qC3l
  replace HB := Lib.hid (HB.out.trans (hB.mono HB.out.size))
  replace V1 := Lib.hid (V1.out.below hB)
  replace T1 := Lib.hid (T1.out.below hB)
  replace HA1 := Lib.hid (HA1.out.step hB)
  replace HA2 := Lib.hid (HA2.out.step hB)
  replace V2 := Lib.hid (V2.out.below hB)
  replace T2 := Lib.hid (T2.out.below hB)
  replace HB2 := Lib.hid (HB2.out.step hB)
  replace V3 := Lib.hid (V3.out.below hB)
  replace T3 := Lib.hid (T3.out.below hB)
  replace HC3 := Lib.hid (HC3.out.step hB)
  replace HD4 := Lib.hid (HD4.out.step hB)
  clear hB
  have hh3 := T3.out
  rw [E3.out] at hh3
  obtain ⟨_, gt3', ot3', e3', gl3', cc3'⟩ := hh3.head
  injection e3' with e3'
  injection e3' with e31 e32 e33
  subst e31 e32
  clear hh3 cc1 cc3
  have qC30 : W12.cell? ⟨C9, 0, none⟩ = some (.int .i64 s3.term) := cell_at HC3.out 0
  have qC31 : W12.cell? ⟨C9, 1, none⟩ = some (.int .i64 s3.stamp) := cell_at HC3.out 1
  have qC32 : W12.cell? ⟨C9, 2, none⟩ = some (.int .i64 s3.next) := cell_at HC3.out 2
  have qC33 : W12.cell? ⟨C9, 3, none⟩ = some (.slice (some ⟨gt3, ot3, none⟩) 1 ct3) := cell_at HC3.out 3
  have qC34 : W12.cell? ⟨C9, 4, none⟩ = some (.slice al3 0 cl3) := cell_at HC3.out 4
  have qC35 : W12.cell? ⟨C9, 5, none⟩ = some (.slice as3 ns3 cs3) := cell_at HC3.out 5
  have qC36 : W12.cell? ⟨C9, 6, none⟩ = some (.slice ad3 nd3 cd3) := cell_at HC3.out 6
  have qC3z : ∀ j, W12.frozen? ⟨C9, j, none⟩ = false := fun j => free_at HC3.out j
  have qC3l : C9 < W12.heap.size := HC3.out.lt
  go_wp2_with fail
  go_ret
  exact ⟨rfl, HB.out⟩
end Go.Proofs.Ytfgnjpdlchimpaa
namespace Go.Proofs.Ytfgnjpdlchimpaa
open Go.RowKit
set_option linter.unusedSimpArgs false
set_option linter.unusedVariables false

theorem state_inv {W : World} {x : Dt} (h : Fits Try.prog W 27 x) : ∃ (s : StE) (l : List Value), x.cells = l ∧ SV W (.agg l.toArray) s := by
  obtain ⟨l, rfl, hl2, hl3⟩ := h.agg_inv Try.underlying27
  obtain ⟨y0, e0, f0⟩ := hl3 0 _ rfl
  obtain ⟨y1, e1, f1⟩ := hl3 1 _ rfl
  obtain ⟨y2, e2, f2⟩ := hl3 2 _ rfl
  obtain ⟨y3, e3, f3⟩ := hl3 3 _ rfl
  obtain ⟨y4, e4, f4⟩ := hl3 4 _ rfl
  obtain ⟨y5, e5, f5⟩ := hl3 5 _ rfl
  obtain ⟨y6, e6, f6⟩ := hl3 6 _ rfl
  obtain ⟨n0, rfl, g0⟩ := f0.int_inv Try.underlying3
  obtain ⟨n1, rfl, g1⟩ := f1.int_inv Try.underlying3
  obtain ⟨n2, rfl, g2⟩ := f2.int_inv Try.underlying3
  obtain ⟨ta, tl, tc, ty, rfl, g3⟩ := f3.slice_inv Try.underlying22
  obtain ⟨la, ll, lc, ly, rfl, g4⟩ := f4.slice_inv Try.underlying23
  obtain ⟨sa, sl, sc, sy, rfl, g5⟩ := f5.slice_inv Try.underlying24
  obtain ⟨da, dl, dc, dy, rfl, g6⟩ := f6.slice_inv Try.underlying25
  obtain ⟨L1, q1, h1⟩ := tv_cells W g3
  obtain ⟨L2, q2, h2⟩ := lev_cells W g4
  obtain ⟨L3, q3, h3⟩ := sev_cells W g5
  obtain ⟨L4, q4, h4⟩ := dkv_cells W g6
  match l, hl2 with
  | [z0, z1, z2, z3, z4, z5, z6], _ =>
    obtain rfl : z0 = _ := by simpa using e0
    obtain rfl : z1 = _ := by simpa using e1
    obtain rfl : z2 = _ := by simpa using e2
    obtain rfl : z3 = _ := by simpa using e3
    obtain rfl : z4 = _ := by simpa using e4
    obtain rfl : z5 = _ := by simpa using e5
    obtain rfl : z6 = _ := by simpa using e6
    exact ⟨⟨n0, n1, n2, L1, L2, L3, L4⟩, [.int .i64 n0, .int .i64 n1, .int .i64 n2, .slice ta tl tc, .slice la ll lc, .slice sa sl sc, .slice da dl dc], rfl, _, _, _, _, rfl, h1, h2, h3, h4⟩
end Go.Proofs.Ytfgnjpdlchimpaa
