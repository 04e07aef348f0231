/-
  WireEntry: the walk.
-/
import Derived.Test.YtiednacpmlilbaaDoorWq8
import Derived.Test.YtiednacpmlilbaaDoorWen
import Derived.Test.YtiednacpmlilbaaDoorWd2
namespace Go.Proofs.YtiednacpmlilbaaDoor
open Go.RowKit
set_option linter.unusedSimpArgs false
set_option linter.unusedVariables false

theorem vds_of {W : World} {t k st : Int} {n : Nat} {u : Value} {l : List Nat} (h : BV W u l) (ht : -9223372036854775808 ≤ t ∧ t ≤ 9223372036854775807) (hk : -128 ≤ k ∧ k ≤ 127) (hs : -9223372036854775808 ≤ st ∧ st ≤ 9223372036854775807) (hn : n < 256) : VDs W #[.int .i64 t, .int .i8 k, .int .i64 st, .int .u8 (n : Nat), u] entryW [.i t, .i k, .i st, .i (n : Nat), .b l] := by
  refine ⟨rfl, fun i f d h1 h2 => ?_⟩
  match i, h1, h2 with
  | 0, h1, h2 => cases h1; cases h2; exact ⟨_, rfl, rfl, ht⟩
  | 1, h1, h2 => cases h1; cases h2; exact ⟨_, rfl, rfl, hk⟩
  | 2, h1, h2 => cases h1; cases h2; exact ⟨_, rfl, rfl, hs⟩
  | 3, h1, h2 => cases h1; cases h2; exact ⟨_, rfl, rfl, by omega, by omega⟩
  | 4, h1, h2 => cases h1; cases h2; exact ⟨_, rfl, h⟩
  | k + 5, h1, h2 => simp [entryW] at h1
set_option maxRecDepth 100000 in
set_option maxHeartbeats 16000000 in
theorem law_entry (w : World) (t k st : Int) (n : Nat) (da : Option Addr) (dn dc : Nat) (l : List Nat) (v : Value) (bs : List Nat) (ht : Tab w) (hx : BV w (.slice da dn dc) l) (hv : BV w v bs)
    (ht1 : -9223372036854775808 ≤ t ∧ t ≤ 9223372036854775807) (hk1 : -128 ≤ k ∧ k ≤ 127) (hs1 : -9223372036854775808 ≤ st ∧ st ≤ 9223372036854775807) (hn1 : n < 256) :
    Calls Tryd.prog 3 #[.agg #[.int .i64 t, .int .i8 k, .int .i64 st, .int .u8 (n : Nat), .slice da dn dc], v] w fun e w' => e = .returned (.bool true) ∧ Below w.heap.size w w' := by
  have hv0 := hv
  obtain ⟨va, vn, vc, rfl, hvn, v1, v2⟩ := hv.sh
  obtain ⟨x, hxx⟩ : ∃ x, x = w.heap.size := ⟨_, rfl⟩
  obtain ⟨W1, hW1⟩ : ∃ X, X = w.alloc (.cells #[.int .i64 t, .int .i8 k, .int .i64 st, .int .u8 (n : Nat), .slice da dn dc] 25) := ⟨_, rfl⟩
  have b1 : Below w.heap.size w W1 := by rw [hW1]; exact alloc_b _ _
  have kx : Blk W1 x #[.int .i64 t, .int .i8 k, .int .i64 st, .int .u8 (n : Nat), .slice da dn dc] 25 := by rw [hW1, hxx]; exact blk_new _ _ _
  have x4 : W1.cell? ⟨x, 4, none⟩ = some (.slice da dn dc) := cell_at kx 4
  have hdn : dn = l.length := by obtain ⟨_, _, _, _, e, _⟩ := hx; injection e
  have HX := Lib.hid kx
  have HB := Lib.hid b1
  have HT := Lib.hid ht
  have HVX := Lib.hid (hx.below b1)
  have HVB := Lib.hid (hv0.below b1)
  have HN := Lib.hid (And.intro hdn hvn.out)
  have hok : VDs W1 #[.int .i64 t, .int .i8 k, .int .i64 st, .int .u8 (n : Nat), .slice da dn dc] entryW [.i t, .i k, .i st, .i (n : Nat), .b l] := vds_of (hx.below b1) ht1 hk1 hs1 hn1
  have HDS := Lib.hid (And.intro (fun W (h : BV W (.slice da dn dc) l) => show VDs W #[.int .i64 t, .int .i8 k, .int .i64 st, .int .u8 (n : Nat), .slice da dn dc] entryW [.i t, .i k, .i st, .i (n : Nat), .b l] from vds_of h ht1 hk1 hs1 hn1) hn1)
  have HR1 := Lib.hid (show (-9223372036854775808 ≤ t ∧ t ≤ 9223372036854775807) ∧ (-128 ≤ k ∧ k ≤ 127) ∧ (-9223372036854775808 ≤ st ∧ st ≤ 9223372036854775807) from ⟨ht1, hk1, hs1⟩)
  clear hv0 hv hvn hx hdn kx b1 ht hok ht1 hk1 hs1
  by_cases hbig : 4000 < dn ∨ 4000 < vn
  · have HW := Lib.hid (wakes_any W1 (HT.out.below HB.out))
    go_enter Tryd.func3, Tryd.ntmps3
    go_upto_region 1 with fail
    rw [← hxx, ← hW1]
    clear hW1 hxx
    by_cases hd : 4000 < dn
    · have d1 : ((4000 : Int) < (dn : Int)) = True := eq_true (by omega)
      have d2 : (4000 < dn) = True := eq_true hd
      go_wp2_with (refine Calls.mono HW.out ?_; rintro e W2 ⟨rfl, hB⟩; have HE := Lib.hid (HB.out.trans (hB.mono HB.out.size)); clear hB)
      try go_wp2_with fail
      go_ret
      exact ⟨rfl, HE.out⟩
    · have d1 : ((4000 : Int) < (dn : Int)) = False := eq_false (by omega)
      have d2 : (4000 < dn) = False := eq_false hd
      have d3 : ((4000 : Int) < (vn : Int)) = True := eq_true (by omega)
      have d4 : (4000 < vn) = True := eq_true (by omega)
      go_wp2_with (refine Calls.mono HW.out ?_; rintro e W2 ⟨rfl, hB⟩; have HE := Lib.hid (HB.out.trans (hB.mono HB.out.size)); clear hB)
      try go_wp2_with fail
      go_ret
      exact ⟨rfl, HE.out⟩
  · have d1 : ((4000 : Int) < (dn : Int)) = False := eq_false (by omega)
    have d2 : (4000 < dn) = False := eq_false (by omega)
    have d3 : ((4000 : Int) < (vn : Int)) = False := eq_false (by omega)
    have d4 : (4000 < vn) = False := eq_false (by omega)
    have hln : l.length ≤ 4000 := by have := HN.out.1; omega
    have hbn : bs.length ≤ 1048576 := by have := HN.out.2; omega
    obtain ⟨EN, hEN⟩ : ∃ EN, EN = encFs entryW [.i t, .i k, .i st, .i (n : Nat), .b l] := ⟨_, rfl⟩
    have henl : EN.length ≤ 1000000000 := by rw [hEN]; simp [encFs, entryW, encF, e8_len]; omega
    have HRW := Lib.hid (fun W (h : BV W (.slice da dn dc) l) => rEntry_w W t k st n (.slice da dn dc) l h HDS.out.2 (by omega))
    have HPW := Lib.hid (fun W (h : BV W (.slice da dn dc) l) => wEntry_any W #[.int .i64 t, .int .i8 k, .int .i64 st, .int .u8 (n : Nat), .slice da dn dc] [.i t, .i k, .i st, .i (n : Nat), .b l] rfl (HDS.out.1 W h) (by rw [← hEN]; exact henl))
    rw [← hEN] at HRW HPW
    obtain ⟨sA, hsA⟩ : ∃ q, q = (bytesU EN).toArray := ⟨_, rfl⟩
    have HCA := Lib.hid (fun W u (h : BV W u EN) => show (convert 23 9 u).run Tryd.prog W = .ok (.string ⟨sA⟩) W by rw [hsA]; exact bv_string h)
    have HY1 := Lib.hid (reU_any W1 _ bs HVB.out hbn)
    have HY2 := Lib.hid (fun W (h : Below W1.heap.size W1 W) => rreU_any W _ bs (HVB.out.below h) hbn)
    obtain ⟨ur, hur⟩ : ∃ A, A = (reU bs).2.1 := ⟨_, rfl⟩
    obtain ⟨ue, hue⟩ : ∃ A, A = (reU bs).2.2 := ⟨_, rfl⟩
    obtain ⟨ud, hud⟩ : ∃ A, A = (reU bs).1 := ⟨_, rfl⟩
    rw [← hur, ← hue, ← hud] at HY1 HY2
    clear hur hue hud hsA hEN henl hbig
    go_enter Tryd.func3, Tryd.ntmps3
    go_upto_region 1 with fail
    rw [← hxx, ← hW1]
    clear hW1 hxx
    go_wp2_with (refine Calls.mono HY1.out ?_; rintro e W2 ⟨t1, k1, st1, n1, ya, yn, yc, l1, rfl, hu1, hv1, hB2⟩; have HU1 := Lib.hid hu1; have HVY := Lib.hid hv1; have HB2 := Lib.hid hB2; clear hu1 hv1 hB2 HY1)
    obtain ⟨y, hy⟩ : ∃ y, y = W2.heap.size := ⟨_, rfl⟩
    obtain ⟨W3, hW3⟩ : ∃ A, A = W2.alloc (.cells #[.int .i64 t1, .int .i8 k1, .int .i64 st1, .int .u8 (n1 : Nat), .slice ya yn yc] 25) := ⟨_, rfl⟩
    rw [← hy, ← hW3]
    have b3 : Below W2.heap.size W2 W3 := by rw [hW3]; exact alloc_b _ _
    have ky : Blk W3 y #[.int .i64 t1, .int .i8 k1, .int .i64 st1, .int .u8 (n1 : Nat), .slice ya yn yc] 25 := by rw [hW3, hy]; exact blk_new _ _ _
    have HY := Lib.hid ky
    have hb13 : Below W1.heap.size W1 W3 := HB2.out.trans (b3.mono HB2.out.size)
    have HB13 := Lib.hid hb13
    replace HVY := Lib.hid (HVY.out.below b3)
    have HY3 := Lib.hid (HY2.out W3 hb13)
    clear b3 ky hb13 hW3 hy HB2 HY2
    refine Calls.mono HY3.out ?_
    rintro e W4 ⟨t2, k2, st2, n2, za, zn, zc, l2, rfl, hu2, hv2, hB4⟩
    obtain ⟨rfl, rfl, rfl, rfl, rfl⟩ : t2 = t1 ∧ k2 = k1 ∧ st2 = st1 ∧ n2 = n1 ∧ l2 = l1 := by
      have h9 := HU1.out.symm.trans hu2
      simp only [List.cons.injEq, WD.i.injEq, WD.b.injEq, and_true] at h9
      obtain ⟨e1, e2, e3, e4, e5⟩ := h9
      exact ⟨e1.symm, e2.symm, e3.symm, by omega, e5.symm⟩
    obtain ⟨z, hz⟩ : ∃ z, z = W4.heap.size := ⟨_, rfl⟩
    obtain ⟨W5, hW5⟩ : ∃ A, A = W4.alloc (.cells #[.int .i64 t2, .int .i8 k2, .int .i64 st2, .int .u8 (n2 : Nat), .slice za zn zc] 25) := ⟨_, rfl⟩
    have b5 : Below W4.heap.size W4 W5 := by rw [hW5]; exact alloc_b _ _
    have kz : Blk W5 z #[.int .i64 t2, .int .i8 k2, .int .i64 st2, .int .u8 (n2 : Nat), .slice za zn zc] 25 := by rw [hW5, hz]; exact blk_new _ _ _
    have bd5 := drew_b W5
    have hb35 : Below W3.heap.size W3 W5.drew := hB4.trans ((b5.mono hB4.size).trans (bd5.mono (Nat.le_trans hB4.size b5.size)))
    have hb15 : Below W1.heap.size W1 W5.drew := HB13.out.trans (hb35.mono HB13.out.size)
    replace HX := Lib.hid (HX.out.step hb15)
    replace HY := Lib.hid (HY.out.step hb35)
    have HZ := Lib.hid (kz.step bd5)
    replace HVX := Lib.hid (HVX.out.below hb15)
    replace HVY := Lib.hid (HVY.out.below hb35)
    have HVZ := Lib.hid ((hv2.below b5).below bd5)
    replace HB := Lib.hid (HB.out.trans (hb15.mono HB.out.size))
    clear b5 kz bd5 hb35 hb15 hv2 hu2 hB4 HB13 HY3 HU1 x4
    go_upto_region 5 with fail
    rw [← hz, ← hW5]
    clear hW5 hz
    refine wp_region_held_drew (S := fun X => X.cell? ⟨x, 0, none⟩ = some (.int .i64 t) ∧ X.cell? ⟨x, 1, none⟩ = some (.int .i8 k) ∧ X.cell? ⟨x, 2, none⟩ = some (.int .i64 st) ∧ X.cell? ⟨x, 3, none⟩ = some (.int .u8 (n : Nat)) ∧ X.cell? ⟨x, 4, none⟩ = some (.slice da dn dc) ∧ X.cell? ⟨y, 0, none⟩ = some (.int .i64 t2) ∧ X.cell? ⟨y, 1, none⟩ = some (.int .i8 k2) ∧ X.cell? ⟨y, 2, none⟩ = some (.int .i64 st2) ∧ X.cell? ⟨y, 3, none⟩ = some (.int .u8 (n2 : Nat)) ∧ X.cell? ⟨y, 4, none⟩ = some (.slice ya yn yc) ∧ X.cell? ⟨z, 0, none⟩ = some (.int .i64 t2) ∧ X.cell? ⟨z, 1, none⟩ = some (.int .i8 k2) ∧ X.cell? ⟨z, 2, none⟩ = some (.int .i64 st2) ∧ X.cell? ⟨z, 3, none⟩ = some (.int .u8 (n2 : Nat)) ∧ X.cell? ⟨z, 4, none⟩ = some (.slice za zn zc)) (by kernel_rfl) ⟨cell_at HX.out 0, cell_at HX.out 1, cell_at HX.out 2, cell_at HX.out 3, cell_at HX.out 4, cell_at HY.out 0, cell_at HY.out 1, cell_at HY.out 2, cell_at HY.out 3, cell_at HY.out 4, cell_at HZ.out 0, cell_at HZ.out 1, cell_at HZ.out 2, cell_at HZ.out 3, cell_at HZ.out 4⟩ (fun hHeld => ?_)
    ((refine wpAnyH_take (i := 0) (v := ?_) (by (simp only [List.getElem?_toArray, List.getElem?_cons_succ, List.getElem?_cons_zero]); rfl) (by kernel_rfl) (by kernel_rfl) (by kernel_rfl) (by exact fun _ _ _ h => h) (Or.inl ⟨by rfl, ?_⟩) (by assumption) ?_); rotate_left; focus (intro wS hSw; (try dsimp only at hSw); go_simp; first | done | with_reducible rfl); try simp only [Act.put, List.setIfInBounds_toArray, List.set_cons_zero, List.set_cons_succ])
    ((refine wpAnyH_take (i := 3) (v := ?_) (by (simp only [List.getElem?_toArray, List.getElem?_cons_succ, List.getElem?_cons_zero]); rfl) (by kernel_rfl) (by kernel_rfl) (by kernel_rfl) (by exact fun _ _ _ h => h) (Or.inl ⟨by rfl, ?_⟩) (by assumption) ?_); rotate_left; focus (intro wS hSw; (try dsimp only at hSw); go_simp; first | done | with_reducible rfl); try simp only [Act.put, List.setIfInBounds_toArray, List.set_cons_zero, List.set_cons_succ])
    refine wpAnyH_ready (rs := [1]) (by kernel_rfl) (by simp) ?_
    refine AllReadyH.cons (by (simp only [List.getElem?_toArray, List.getElem?_cons_succ, List.getElem?_cons_zero]); exact rfl) (fun K hK => ?_) AllReadyH.nil
    try rw [if_pos (by rfl)]
    go_simp
    refine Calls.mono (HPW.out _ HVX.out) ?_
    rintro e W5 ⟨v1, rfl, h1, hB⟩
    replace HX := Lib.hid (HX.out.step hB)
    replace HY := Lib.hid (HY.out.step hB)
    replace HZ := Lib.hid (HZ.out.step hB)
    replace HVX := Lib.hid (HVX.out.below hB)
    replace HVY := Lib.hid (HVY.out.below hB)
    replace HVZ := Lib.hid (HVZ.out.below hB)
    replace HB := Lib.hid (HB.out.trans (hB.mono HB.out.size))
    have H1 := Lib.hid h1
    clear h1
    clear hB
    try go_simp
    refine hK.out _ _ ⟨cell_at HX.out 0, cell_at HX.out 1, cell_at HX.out 2, cell_at HX.out 3, cell_at HX.out 4, cell_at HY.out 0, cell_at HY.out 1, cell_at HY.out 2, cell_at HY.out 3, cell_at HY.out 4, cell_at HZ.out 0, cell_at HZ.out 1, cell_at HZ.out 2, cell_at HZ.out 3, cell_at HZ.out 4⟩ (fun hHeld => ?_)
    clear hK K
    try simp only [Act.put, List.setIfInBounds_toArray, List.set_cons_zero, List.set_cons_succ]
    refine wpAnyH_ready (rs := [2, 4]) (by kernel_rfl) (by simp) ?_
    refine AllReadyH.cons (by (simp only [List.getElem?_toArray, List.getElem?_cons_succ, List.getElem?_cons_zero]); exact rfl) (fun K hK => ?_) (AllReadyH.cons (by (simp only [List.getElem?_toArray, List.getElem?_cons_succ, List.getElem?_cons_zero]); exact rfl) (fun K hK => ?_) AllReadyH.nil)
    · skip
      have hcq := HCA.out _ _ H1.out
      try rw [if_pos (by rfl)]
      go_simp
      refine hK.out _ _ ⟨cell_at HX.out 0, cell_at HX.out 1, cell_at HX.out 2, cell_at HX.out 3, cell_at HX.out 4, cell_at HY.out 0, cell_at HY.out 1, cell_at HY.out 2, cell_at HY.out 3, cell_at HY.out 4, cell_at HZ.out 0, cell_at HZ.out 1, cell_at HZ.out 2, cell_at HZ.out 3, cell_at HZ.out 4⟩ (fun hHeld => ?_)
      clear hK K
      try simp only [Act.put, List.setIfInBounds_toArray, List.set_cons_zero, List.set_cons_succ]
      try clear hcq
      refine wpAnyH_ready (rs := [4]) (by kernel_rfl) (by simp) ?_
      refine AllReadyH.cons (by (simp only [List.getElem?_toArray, List.getElem?_cons_succ, List.getElem?_cons_zero]); exact rfl) (fun K hK => ?_) AllReadyH.nil
      try rw [if_pos (by rfl)]
      go_simp
      refine Calls.mono (HRW.out _ HVX.out) ?_
      rintro e W6 ⟨v2, rfl, h2, hB⟩
      replace HX := Lib.hid (HX.out.step hB)
      replace HY := Lib.hid (HY.out.step hB)
      replace HZ := Lib.hid (HZ.out.step hB)
      replace HVX := Lib.hid (HVX.out.below hB)
      replace HVY := Lib.hid (HVY.out.below hB)
      replace HVZ := Lib.hid (HVZ.out.below hB)
      replace HB := Lib.hid (HB.out.trans (hB.mono HB.out.size))
      have H2 := Lib.hid h2
      clear h2
      clear hB
      try go_simp
      refine hK.out _ _ ⟨cell_at HX.out 0, cell_at HX.out 1, cell_at HX.out 2, cell_at HX.out 3, cell_at HX.out 4, cell_at HY.out 0, cell_at HY.out 1, cell_at HY.out 2, cell_at HY.out 3, cell_at HY.out 4, cell_at HZ.out 0, cell_at HZ.out 1, cell_at HZ.out 2, cell_at HZ.out 3, cell_at HZ.out 4⟩ (fun hHeld => ?_)
      clear hK K
      try simp only [Act.put, List.setIfInBounds_toArray, List.set_cons_zero, List.set_cons_succ]
      refine wpAnyH_ready (rs := [5]) (by kernel_rfl) (by simp) ?_
      refine AllReadyH.cons (by (simp only [List.getElem?_toArray, List.getElem?_cons_succ, List.getElem?_cons_zero]); exact rfl) (fun K hK => ?_) AllReadyH.nil
      have hcq := HCA.out _ _ H2.out
      try rw [if_pos (by rfl)]
      go_simp
      refine hK.out _ _ ⟨cell_at HX.out 0, cell_at HX.out 1, cell_at HX.out 2, cell_at HX.out 3, cell_at HX.out 4, cell_at HY.out 0, cell_at HY.out 1, cell_at HY.out 2, cell_at HY.out 3, cell_at HY.out 4, cell_at HZ.out 0, cell_at HZ.out 1, cell_at HZ.out 2, cell_at HZ.out 3, cell_at HZ.out 4⟩ (fun hHeld => ?_)
      clear hK K
      try simp only [Act.put, List.setIfInBounds_toArray, List.set_cons_zero, List.set_cons_succ]
      try clear hcq
      ((refine wpAnyH_take (i := 6) (v := ?_) (by (simp only [List.getElem?_toArray, List.getElem?_cons_succ, List.getElem?_cons_zero]); rfl) (by kernel_rfl) (by kernel_rfl) (by kernel_rfl) (by exact fun _ _ _ h => h) (Or.inl ⟨by rfl, ?_⟩) (by assumption) ?_); rotate_left; focus (intro wS hSw; (try dsimp only at hSw); go_simp; first | done | with_reducible rfl); try simp only [Act.put, List.setIfInBounds_toArray, List.set_cons_zero, List.set_cons_succ])
      try simp only [Act.put, List.setIfInBounds_toArray, List.set_cons_zero, List.set_cons_succ]
      ((refine wpAnyH_take (i := 7) (v := ?_) (by (simp only [List.getElem?_toArray, List.getElem?_cons_succ, List.getElem?_cons_zero]); rfl) (by kernel_rfl) (by kernel_rfl) (by kernel_rfl) (by exact fun _ _ _ h => h) (Or.inl ⟨by rfl, ?_⟩) (by assumption) ?_); rotate_left; focus (intro wS hSw; (try dsimp only at hSw); go_simp; first | done | with_reducible rfl); try simp only [Act.put, List.setIfInBounds_toArray, List.set_cons_zero, List.set_cons_succ])
      try simp only [Act.put, List.setIfInBounds_toArray, List.set_cons_zero, List.set_cons_succ]
      ((refine wpAnyH_take (i := 8) (v := ?_) (by (simp only [List.getElem?_toArray, List.getElem?_cons_succ, List.getElem?_cons_zero]); rfl) (by kernel_rfl) (by kernel_rfl) (by kernel_rfl) (by exact fun _ _ _ h => h) (Or.inl ⟨by (go_simp; try rfl), ?_⟩) (by assumption) ?_); rotate_left; focus (intro wS hSw; (try dsimp only at hSw); go_simp; first | done | with_reducible rfl); try simp only [Act.put, List.setIfInBounds_toArray, List.set_cons_zero, List.set_cons_succ])
      try simp only [Act.put, List.setIfInBounds_toArray, List.set_cons_zero, List.set_cons_succ]
      ((refine wpAnyH_take (i := 9) (v := ?_) (by (simp only [List.getElem?_toArray, List.getElem?_cons_succ, List.getElem?_cons_zero]); rfl) (by kernel_rfl) (by kernel_rfl) (by kernel_rfl) (by exact fun _ _ _ h => h) (Or.inl ⟨by (go_simp; try rfl), ?_⟩) (by assumption) ?_); rotate_left; focus (intro wS hSw; (try dsimp only at hSw); go_simp; first | done | with_reducible rfl); try simp only [Act.put, List.setIfInBounds_toArray, List.set_cons_zero, List.set_cons_succ])
      try simp only [Act.put, List.setIfInBounds_toArray, List.set_cons_zero, List.set_cons_succ]
      refine wpAnyH_ready (rs := [10]) (by kernel_rfl) (by simp) ?_
      refine AllReadyH.cons (by (simp only [List.getElem?_toArray, List.getElem?_cons_succ, List.getElem?_cons_zero]); exact rfl) (fun K hK => ?_) AllReadyH.nil
      try rw [if_pos (by rfl)]
      go_simp
      refine Calls.mono (same_entry _ _ _ _ _ _ _ _ _ _ _ _ HVY.out HVZ.out) ?_
      rintro e W8 ⟨rfl, hB⟩
      replace HX := Lib.hid (HX.out.step hB)
      replace HY := Lib.hid (HY.out.step hB)
      replace HZ := Lib.hid (HZ.out.step hB)
      replace HVX := Lib.hid (HVX.out.below hB)
      replace HVY := Lib.hid (HVY.out.below hB)
      replace HVZ := Lib.hid (HVZ.out.below hB)
      replace HB := Lib.hid (HB.out.trans (hB.mono HB.out.size))
      skip
      clear hB
      try go_simp
      refine hK.out _ _ ⟨cell_at HX.out 0, cell_at HX.out 1, cell_at HX.out 2, cell_at HX.out 3, cell_at HX.out 4, cell_at HY.out 0, cell_at HY.out 1, cell_at HY.out 2, cell_at HY.out 3, cell_at HY.out 4, cell_at HZ.out 0, cell_at HZ.out 1, cell_at HZ.out 2, cell_at HZ.out 3, cell_at HZ.out 4⟩ (fun hHeld => ?_)
      clear hK K
      try simp only [Act.put, List.setIfInBounds_toArray, List.set_cons_zero, List.set_cons_succ]
      ((refine wpAnyH_take (i := 11) (v := ?_) (by (simp only [List.getElem?_toArray, List.getElem?_cons_succ, List.getElem?_cons_zero]); rfl) (by kernel_rfl) (by kernel_rfl) (by kernel_rfl) (by exact fun _ _ _ h => h) (Or.inl ⟨by rfl, ?_⟩) (by assumption) ?_); rotate_left; focus (intro wS hSw; (try dsimp only at hSw); go_simp; first | done | with_reducible rfl); try simp only [Act.put, List.setIfInBounds_toArray, List.set_cons_zero, List.set_cons_succ])
      try simp only [Act.put, List.setIfInBounds_toArray, List.set_cons_zero, List.set_cons_succ]
      ((refine wpAnyH_take (i := 12) (v := ?_) (by (simp only [List.getElem?_toArray, List.getElem?_cons_succ, List.getElem?_cons_zero]); rfl) (by kernel_rfl) (by kernel_rfl) (by kernel_rfl) (by exact fun _ _ _ h => h) (Or.inl ⟨by rfl, ?_⟩) (by assumption) ?_); rotate_left; focus (intro wS hSw; (try dsimp only at hSw); go_simp; first | done | with_reducible rfl); try simp only [Act.put, List.setIfInBounds_toArray, List.set_cons_zero, List.set_cons_succ])
      try simp only [Act.put, List.setIfInBounds_toArray, List.set_cons_zero, List.set_cons_succ]
      ((refine wpAnyH_take (i := 13) (v := ?_) (by (simp only [List.getElem?_toArray, List.getElem?_cons_succ, List.getElem?_cons_zero]); rfl) (by kernel_rfl) (by kernel_rfl) (by kernel_rfl) (by exact fun _ _ _ h => h) (Or.inl ⟨by (go_simp; try rfl), ?_⟩) (by assumption) ?_); rotate_left; focus (intro wS hSw; (try dsimp only at hSw); go_simp; first | done | with_reducible rfl); try simp only [Act.put, List.setIfInBounds_toArray, List.set_cons_zero, List.set_cons_succ])
      try simp only [Act.put, List.setIfInBounds_toArray, List.set_cons_zero, List.set_cons_succ]
      ((refine wpAnyH_take (i := 14) (v := ?_) (by (simp only [List.getElem?_toArray, List.getElem?_cons_succ, List.getElem?_cons_zero]); rfl) (by kernel_rfl) (by kernel_rfl) (by kernel_rfl) (by exact fun _ _ _ h => h) (Or.inl ⟨by (go_simp; try rfl), ?_⟩) (by assumption) ?_); rotate_left; focus (intro wS hSw; (try dsimp only at hSw); go_simp; first | done | with_reducible rfl); try simp only [Act.put, List.setIfInBounds_toArray, List.set_cons_zero, List.set_cons_succ])
      try simp only [Act.put, List.setIfInBounds_toArray, List.set_cons_zero, List.set_cons_succ]
      ((refine wpAnyH_take (i := 15) (v := ?_) (by (simp only [List.getElem?_toArray, List.getElem?_cons_succ, List.getElem?_cons_zero]); rfl) (by kernel_rfl) (by kernel_rfl) (by kernel_rfl) (by exact fun _ _ _ h => h) (Or.inl ⟨by (go_simp; try rfl), ?_⟩) (by assumption) ?_); rotate_left; focus (intro wS hSw; (try dsimp only at hSw); go_simp; first | done | with_reducible rfl); try simp only [Act.put, List.setIfInBounds_toArray, List.set_cons_zero, List.set_cons_succ])
      try simp only [Act.put, List.setIfInBounds_toArray, List.set_cons_zero, List.set_cons_succ]
      ((refine wpAnyH_take (i := 16) (v := ?_) (by (simp only [List.getElem?_toArray, List.getElem?_cons_succ, List.getElem?_cons_zero]); rfl) (by kernel_rfl) (by kernel_rfl) (by kernel_rfl) (by exact fun _ _ _ h => h) (Or.inl ⟨by rfl, ?_⟩) (by assumption) ?_); rotate_left; focus (intro wS hSw; (try dsimp only at hSw); go_simp; first | done | with_reducible rfl); try simp only [Act.put, List.setIfInBounds_toArray, List.set_cons_zero, List.set_cons_succ])
      try simp only [Act.put, List.setIfInBounds_toArray, List.set_cons_zero, List.set_cons_succ]
      ((refine wpAnyH_take (i := 17) (v := ?_) (by (simp only [List.getElem?_toArray, List.getElem?_cons_succ, List.getElem?_cons_zero]); rfl) (by kernel_rfl) (by kernel_rfl) (by kernel_rfl) (by exact fun _ _ _ h => h) (Or.inl ⟨by rfl, ?_⟩) (by assumption) ?_); rotate_left; focus (intro wS hSw; (try dsimp only at hSw); go_simp; first | done | with_reducible rfl); try simp only [Act.put, List.setIfInBounds_toArray, List.set_cons_zero, List.set_cons_succ])
      try simp only [Act.put, List.setIfInBounds_toArray, List.set_cons_zero, List.set_cons_succ]
      ((refine wpAnyH_take (i := 18) (v := ?_) (by (simp only [List.getElem?_toArray, List.getElem?_cons_succ, List.getElem?_cons_zero]); rfl) (by kernel_rfl) (by kernel_rfl) (by kernel_rfl) (by exact fun _ _ _ h => h) (Or.inl ⟨by (go_simp; try rfl), ?_⟩) (by assumption) ?_); rotate_left; focus (intro wS hSw; (try dsimp only at hSw); go_simp; first | done | with_reducible rfl); try simp only [Act.put, List.setIfInBounds_toArray, List.set_cons_zero, List.set_cons_succ])
      try simp only [Act.put, List.setIfInBounds_toArray, List.set_cons_zero, List.set_cons_succ]
      ((refine wpAnyH_take (i := 19) (v := ?_) (by (simp only [List.getElem?_toArray, List.getElem?_cons_succ, List.getElem?_cons_zero]); rfl) (by kernel_rfl) (by kernel_rfl) (by kernel_rfl) (by exact fun _ _ _ h => h) (Or.inl ⟨by (go_simp; try rfl), ?_⟩) (by assumption) ?_); rotate_left; focus (intro wS hSw; (try dsimp only at hSw); go_simp; first | done | with_reducible rfl); try simp only [Act.put, List.setIfInBounds_toArray, List.set_cons_zero, List.set_cons_succ])
      try simp only [Act.put, List.setIfInBounds_toArray, List.set_cons_zero, List.set_cons_succ]
      ((refine wpAnyH_take (i := 20) (v := ?_) (by (simp only [List.getElem?_toArray, List.getElem?_cons_succ, List.getElem?_cons_zero]); rfl) (by kernel_rfl) (by kernel_rfl) (by kernel_rfl) (by exact fun _ _ _ h => h) (Or.inl ⟨by (go_simp; try rfl), ?_⟩) (by assumption) ?_); rotate_left; focus (intro wS hSw; (try dsimp only at hSw); go_simp; first | done | with_reducible rfl); try simp only [Act.put, List.setIfInBounds_toArray, List.set_cons_zero, List.set_cons_succ])
      try simp only [Act.put, List.setIfInBounds_toArray, List.set_cons_zero, List.set_cons_succ]
      ((refine wpAnyH_take (i := 21) (v := ?_) (by (simp only [List.getElem?_toArray, List.getElem?_cons_succ, List.getElem?_cons_zero]); rfl) (by kernel_rfl) (by kernel_rfl) (by kernel_rfl) (by exact fun _ _ _ h => h) (Or.inl ⟨by rfl, ?_⟩) (by assumption) ?_); rotate_left; focus (intro wS hSw; (try dsimp only at hSw); go_simp; first | done | with_reducible rfl); try simp only [Act.put, List.setIfInBounds_toArray, List.set_cons_zero, List.set_cons_succ])
      try simp only [Act.put, List.setIfInBounds_toArray, List.set_cons_zero, List.set_cons_succ]
      ((refine wpAnyH_take (i := 22) (v := ?_) (by (simp only [List.getElem?_toArray, List.getElem?_cons_succ, List.getElem?_cons_zero]); rfl) (by kernel_rfl) (by kernel_rfl) (by kernel_rfl) (by exact fun _ _ _ h => h) (Or.inl ⟨by rfl, ?_⟩) (by assumption) ?_); rotate_left; focus (intro wS hSw; (try dsimp only at hSw); go_simp; first | done | with_reducible rfl); try simp only [Act.put, List.setIfInBounds_toArray, List.set_cons_zero, List.set_cons_succ])
      try simp only [Act.put, List.setIfInBounds_toArray, List.set_cons_zero, List.set_cons_succ]
      refine wpAnyH_ready (rs := [23]) (by kernel_rfl) (by simp) ?_
      refine AllReadyH.cons (by (simp only [List.getElem?_toArray, List.getElem?_cons_succ, List.getElem?_cons_zero]); exact rfl) (fun K hK => ?_) AllReadyH.nil
      try rw [if_pos (by rfl)]
      go_simp
      refine Calls.mono (wakes_any _ (HT.out.below HB.out)) ?_
      rintro e W9 ⟨rfl, hB⟩
      replace HX := Lib.hid (HX.out.step hB)
      replace HY := Lib.hid (HY.out.step hB)
      replace HZ := Lib.hid (HZ.out.step hB)
      replace HVX := Lib.hid (HVX.out.below hB)
      replace HVY := Lib.hid (HVY.out.below hB)
      replace HVZ := Lib.hid (HVZ.out.below hB)
      replace HB := Lib.hid (HB.out.trans (hB.mono HB.out.size))
      skip
      clear hB
      try go_simp
      refine hK.out _ _ ⟨cell_at HX.out 0, cell_at HX.out 1, cell_at HX.out 2, cell_at HX.out 3, cell_at HX.out 4, cell_at HY.out 0, cell_at HY.out 1, cell_at HY.out 2, cell_at HY.out 3, cell_at HY.out 4, cell_at HZ.out 0, cell_at HZ.out 1, cell_at HZ.out 2, cell_at HZ.out 3, cell_at HZ.out 4⟩ (fun hHeld => ?_)
      clear hK K
      try simp only [Act.put, List.setIfInBounds_toArray, List.set_cons_zero, List.set_cons_succ]
      ((refine wpAnyH_take (i := 24) (v := ?_) (by (simp only [List.getElem?_toArray, List.getElem?_cons_succ, List.getElem?_cons_zero]); rfl) (by kernel_rfl) (by kernel_rfl) (by kernel_rfl) (by exact fun _ _ _ h => h) (Or.inl ⟨by rfl, ?_⟩) (by assumption) ?_); rotate_left; focus (intro wS hSw; (try dsimp only at hSw); go_simp; first | done | with_reducible rfl); try simp only [Act.put, List.setIfInBounds_toArray, List.set_cons_zero, List.set_cons_succ])
      try simp only [Act.put, List.setIfInBounds_toArray, List.set_cons_zero, List.set_cons_succ]
      ((refine wpAnyH_take (i := 25) (v := ?_) (by (simp only [List.getElem?_toArray, List.getElem?_cons_succ, List.getElem?_cons_zero]); rfl) (by kernel_rfl) (by kernel_rfl) (by kernel_rfl) (by exact fun _ _ _ h => h) (Or.inl ⟨by rfl, ?_⟩) (by assumption) ?_); rotate_left; focus (intro wS hSw; (try dsimp only at hSw); go_simp; first | done | with_reducible rfl); try simp only [Act.put, List.setIfInBounds_toArray, List.set_cons_zero, List.set_cons_succ])
      try simp only [Act.put, List.setIfInBounds_toArray, List.set_cons_zero, List.set_cons_succ]
      refine wpAnyH_done (by kernel_rfl) ?_ _
      try simp only [Act.put, List.setIfInBounds_toArray, List.set_cons_zero, List.set_cons_succ]
      try go_wp2_with fail
      go_ret
      exact ⟨rfl, HB.out⟩
    · skip
      try rw [if_pos (by rfl)]
      go_simp
      refine Calls.mono (HRW.out _ HVX.out) ?_
      rintro e W6 ⟨v2, rfl, h2, hB⟩
      replace HX := Lib.hid (HX.out.step hB)
      replace HY := Lib.hid (HY.out.step hB)
      replace HZ := Lib.hid (HZ.out.step hB)
      replace HVX := Lib.hid (HVX.out.below hB)
      replace HVY := Lib.hid (HVY.out.below hB)
      replace HVZ := Lib.hid (HVZ.out.below hB)
      replace HB := Lib.hid (HB.out.trans (hB.mono HB.out.size))
      have H2 := Lib.hid h2
      replace H1 := Lib.hid (H1.out.below hB)
      clear h2
      clear hB
      try go_simp
      refine hK.out _ _ ⟨cell_at HX.out 0, cell_at HX.out 1, cell_at HX.out 2, cell_at HX.out 3, cell_at HX.out 4, cell_at HY.out 0, cell_at HY.out 1, cell_at HY.out 2, cell_at HY.out 3, cell_at HY.out 4, cell_at HZ.out 0, cell_at HZ.out 1, cell_at HZ.out 2, cell_at HZ.out 3, cell_at HZ.out 4⟩ (fun hHeld => ?_)
      clear hK K
      try simp only [Act.put, List.setIfInBounds_toArray, List.set_cons_zero, List.set_cons_succ]
      refine wpAnyH_ready (rs := [2, 5]) (by kernel_rfl) (by simp) ?_
      refine AllReadyH.cons (by (simp only [List.getElem?_toArray, List.getElem?_cons_succ, List.getElem?_cons_zero]); exact rfl) (fun K hK => ?_) (AllReadyH.cons (by (simp only [List.getElem?_toArray, List.getElem?_cons_succ, List.getElem?_cons_zero]); exact rfl) (fun K hK => ?_) AllReadyH.nil)
      · skip
        have hcq := HCA.out _ _ H1.out
        try rw [if_pos (by rfl)]
        go_simp
        refine hK.out _ _ ⟨cell_at HX.out 0, cell_at HX.out 1, cell_at HX.out 2, cell_at HX.out 3, cell_at HX.out 4, cell_at HY.out 0, cell_at HY.out 1, cell_at HY.out 2, cell_at HY.out 3, cell_at HY.out 4, cell_at HZ.out 0, cell_at HZ.out 1, cell_at HZ.out 2, cell_at HZ.out 3, cell_at HZ.out 4⟩ (fun hHeld => ?_)
        clear hK K
        try simp only [Act.put, List.setIfInBounds_toArray, List.set_cons_zero, List.set_cons_succ]
        try clear hcq
        refine wpAnyH_ready (rs := [5]) (by kernel_rfl) (by simp) ?_
        refine AllReadyH.cons (by (simp only [List.getElem?_toArray, List.getElem?_cons_succ, List.getElem?_cons_zero]); exact rfl) (fun K hK => ?_) AllReadyH.nil
        have hcq := HCA.out _ _ H2.out
        try rw [if_pos (by rfl)]
        go_simp
        refine hK.out _ _ ⟨cell_at HX.out 0, cell_at HX.out 1, cell_at HX.out 2, cell_at HX.out 3, cell_at HX.out 4, cell_at HY.out 0, cell_at HY.out 1, cell_at HY.out 2, cell_at HY.out 3, cell_at HY.out 4, cell_at HZ.out 0, cell_at HZ.out 1, cell_at HZ.out 2, cell_at HZ.out 3, cell_at HZ.out 4⟩ (fun hHeld => ?_)
        clear hK K
        try simp only [Act.put, List.setIfInBounds_toArray, List.set_cons_zero, List.set_cons_succ]
        try clear hcq
        ((refine wpAnyH_take (i := 6) (v := ?_) (by (simp only [List.getElem?_toArray, List.getElem?_cons_succ, List.getElem?_cons_zero]); rfl) (by kernel_rfl) (by kernel_rfl) (by kernel_rfl) (by exact fun _ _ _ h => h) (Or.inl ⟨by rfl, ?_⟩) (by assumption) ?_); rotate_left; focus (intro wS hSw; (try dsimp only at hSw); go_simp; first | done | with_reducible rfl); try simp only [Act.put, List.setIfInBounds_toArray, List.set_cons_zero, List.set_cons_succ])
        try simp only [Act.put, List.setIfInBounds_toArray, List.set_cons_zero, List.set_cons_succ]
        ((refine wpAnyH_take (i := 7) (v := ?_) (by (simp only [List.getElem?_toArray, List.getElem?_cons_succ, List.getElem?_cons_zero]); rfl) (by kernel_rfl) (by kernel_rfl) (by kernel_rfl) (by exact fun _ _ _ h => h) (Or.inl ⟨by rfl, ?_⟩) (by assumption) ?_); rotate_left; focus (intro wS hSw; (try dsimp only at hSw); go_simp; first | done | with_reducible rfl); try simp only [Act.put, List.setIfInBounds_toArray, List.set_cons_zero, List.set_cons_succ])
        try simp only [Act.put, List.setIfInBounds_toArray, List.set_cons_zero, List.set_cons_succ]
        ((refine wpAnyH_take (i := 8) (v := ?_) (by (simp only [List.getElem?_toArray, List.getElem?_cons_succ, List.getElem?_cons_zero]); rfl) (by kernel_rfl) (by kernel_rfl) (by kernel_rfl) (by exact fun _ _ _ h => h) (Or.inl ⟨by (go_simp; try rfl), ?_⟩) (by assumption) ?_); rotate_left; focus (intro wS hSw; (try dsimp only at hSw); go_simp; first | done | with_reducible rfl); try simp only [Act.put, List.setIfInBounds_toArray, List.set_cons_zero, List.set_cons_succ])
        try simp only [Act.put, List.setIfInBounds_toArray, List.set_cons_zero, List.set_cons_succ]
        ((refine wpAnyH_take (i := 9) (v := ?_) (by (simp only [List.getElem?_toArray, List.getElem?_cons_succ, List.getElem?_cons_zero]); rfl) (by kernel_rfl) (by kernel_rfl) (by kernel_rfl) (by exact fun _ _ _ h => h) (Or.inl ⟨by (go_simp; try rfl), ?_⟩) (by assumption) ?_); rotate_left; focus (intro wS hSw; (try dsimp only at hSw); go_simp; first | done | with_reducible rfl); try simp only [Act.put, List.setIfInBounds_toArray, List.set_cons_zero, List.set_cons_succ])
        try simp only [Act.put, List.setIfInBounds_toArray, List.set_cons_zero, List.set_cons_succ]
        refine wpAnyH_ready (rs := [10]) (by kernel_rfl) (by simp) ?_
        refine AllReadyH.cons (by (simp only [List.getElem?_toArray, List.getElem?_cons_succ, List.getElem?_cons_zero]); exact rfl) (fun K hK => ?_) AllReadyH.nil
        try rw [if_pos (by rfl)]
        go_simp
        refine Calls.mono (same_entry _ _ _ _ _ _ _ _ _ _ _ _ HVY.out HVZ.out) ?_
        rintro e W8 ⟨rfl, hB⟩
        replace HX := Lib.hid (HX.out.step hB)
        replace HY := Lib.hid (HY.out.step hB)
        replace HZ := Lib.hid (HZ.out.step hB)
        replace HVX := Lib.hid (HVX.out.below hB)
        replace HVY := Lib.hid (HVY.out.below hB)
        replace HVZ := Lib.hid (HVZ.out.below hB)
        replace HB := Lib.hid (HB.out.trans (hB.mono HB.out.size))
        skip
        clear hB
        try go_simp
        refine hK.out _ _ ⟨cell_at HX.out 0, cell_at HX.out 1, cell_at HX.out 2, cell_at HX.out 3, cell_at HX.out 4, cell_at HY.out 0, cell_at HY.out 1, cell_at HY.out 2, cell_at HY.out 3, cell_at HY.out 4, cell_at HZ.out 0, cell_at HZ.out 1, cell_at HZ.out 2, cell_at HZ.out 3, cell_at HZ.out 4⟩ (fun hHeld => ?_)
        clear hK K
        try simp only [Act.put, List.setIfInBounds_toArray, List.set_cons_zero, List.set_cons_succ]
        ((refine wpAnyH_take (i := 11) (v := ?_) (by (simp only [List.getElem?_toArray, List.getElem?_cons_succ, List.getElem?_cons_zero]); rfl) (by kernel_rfl) (by kernel_rfl) (by kernel_rfl) (by exact fun _ _ _ h => h) (Or.inl ⟨by rfl, ?_⟩) (by assumption) ?_); rotate_left; focus (intro wS hSw; (try dsimp only at hSw); go_simp; first | done | with_reducible rfl); try simp only [Act.put, List.setIfInBounds_toArray, List.set_cons_zero, List.set_cons_succ])
        try simp only [Act.put, List.setIfInBounds_toArray, List.set_cons_zero, List.set_cons_succ]
        ((refine wpAnyH_take (i := 12) (v := ?_) (by (simp only [List.getElem?_toArray, List.getElem?_cons_succ, List.getElem?_cons_zero]); rfl) (by kernel_rfl) (by kernel_rfl) (by kernel_rfl) (by exact fun _ _ _ h => h) (Or.inl ⟨by rfl, ?_⟩) (by assumption) ?_); rotate_left; focus (intro wS hSw; (try dsimp only at hSw); go_simp; first | done | with_reducible rfl); try simp only [Act.put, List.setIfInBounds_toArray, List.set_cons_zero, List.set_cons_succ])
        try simp only [Act.put, List.setIfInBounds_toArray, List.set_cons_zero, List.set_cons_succ]
        ((refine wpAnyH_take (i := 13) (v := ?_) (by (simp only [List.getElem?_toArray, List.getElem?_cons_succ, List.getElem?_cons_zero]); rfl) (by kernel_rfl) (by kernel_rfl) (by kernel_rfl) (by exact fun _ _ _ h => h) (Or.inl ⟨by (go_simp; try rfl), ?_⟩) (by assumption) ?_); rotate_left; focus (intro wS hSw; (try dsimp only at hSw); go_simp; first | done | with_reducible rfl); try simp only [Act.put, List.setIfInBounds_toArray, List.set_cons_zero, List.set_cons_succ])
        try simp only [Act.put, List.setIfInBounds_toArray, List.set_cons_zero, List.set_cons_succ]
        ((refine wpAnyH_take (i := 14) (v := ?_) (by (simp only [List.getElem?_toArray, List.getElem?_cons_succ, List.getElem?_cons_zero]); rfl) (by kernel_rfl) (by kernel_rfl) (by kernel_rfl) (by exact fun _ _ _ h => h) (Or.inl ⟨by (go_simp; try rfl), ?_⟩) (by assumption) ?_); rotate_left; focus (intro wS hSw; (try dsimp only at hSw); go_simp; first | done | with_reducible rfl); try simp only [Act.put, List.setIfInBounds_toArray, List.set_cons_zero, List.set_cons_succ])
        try simp only [Act.put, List.setIfInBounds_toArray, List.set_cons_zero, List.set_cons_succ]
        ((refine wpAnyH_take (i := 15) (v := ?_) (by (simp only [List.getElem?_toArray, List.getElem?_cons_succ, List.getElem?_cons_zero]); rfl) (by kernel_rfl) (by kernel_rfl) (by kernel_rfl) (by exact fun _ _ _ h => h) (Or.inl ⟨by (go_simp; try rfl), ?_⟩) (by assumption) ?_); rotate_left; focus (intro wS hSw; (try dsimp only at hSw); go_simp; first | done | with_reducible rfl); try simp only [Act.put, List.setIfInBounds_toArray, List.set_cons_zero, List.set_cons_succ])
        try simp only [Act.put, List.setIfInBounds_toArray, List.set_cons_zero, List.set_cons_succ]
        ((refine wpAnyH_take (i := 16) (v := ?_) (by (simp only [List.getElem?_toArray, List.getElem?_cons_succ, List.getElem?_cons_zero]); rfl) (by kernel_rfl) (by kernel_rfl) (by kernel_rfl) (by exact fun _ _ _ h => h) (Or.inl ⟨by rfl, ?_⟩) (by assumption) ?_); rotate_left; focus (intro wS hSw; (try dsimp only at hSw); go_simp; first | done | with_reducible rfl); try simp only [Act.put, List.setIfInBounds_toArray, List.set_cons_zero, List.set_cons_succ])
        try simp only [Act.put, List.setIfInBounds_toArray, List.set_cons_zero, List.set_cons_succ]
        ((refine wpAnyH_take (i := 17) (v := ?_) (by (simp only [List.getElem?_toArray, List.getElem?_cons_succ, List.getElem?_cons_zero]); rfl) (by kernel_rfl) (by kernel_rfl) (by kernel_rfl) (by exact fun _ _ _ h => h) (Or.inl ⟨by rfl, ?_⟩) (by assumption) ?_); rotate_left; focus (intro wS hSw; (try dsimp only at hSw); go_simp; first | done | with_reducible rfl); try simp only [Act.put, List.setIfInBounds_toArray, List.set_cons_zero, List.set_cons_succ])
        try simp only [Act.put, List.setIfInBounds_toArray, List.set_cons_zero, List.set_cons_succ]
        ((refine wpAnyH_take (i := 18) (v := ?_) (by (simp only [List.getElem?_toArray, List.getElem?_cons_succ, List.getElem?_cons_zero]); rfl) (by kernel_rfl) (by kernel_rfl) (by kernel_rfl) (by exact fun _ _ _ h => h) (Or.inl ⟨by (go_simp; try rfl), ?_⟩) (by assumption) ?_); rotate_left; focus (intro wS hSw; (try dsimp only at hSw); go_simp; first | done | with_reducible rfl); try simp only [Act.put, List.setIfInBounds_toArray, List.set_cons_zero, List.set_cons_succ])
        try simp only [Act.put, List.setIfInBounds_toArray, List.set_cons_zero, List.set_cons_succ]
        ((refine wpAnyH_take (i := 19) (v := ?_) (by (simp only [List.getElem?_toArray, List.getElem?_cons_succ, List.getElem?_cons_zero]); rfl) (by kernel_rfl) (by kernel_rfl) (by kernel_rfl) (by exact fun _ _ _ h => h) (Or.inl ⟨by (go_simp; try rfl), ?_⟩) (by assumption) ?_); rotate_left; focus (intro wS hSw; (try dsimp only at hSw); go_simp; first | done | with_reducible rfl); try simp only [Act.put, List.setIfInBounds_toArray, List.set_cons_zero, List.set_cons_succ])
        try simp only [Act.put, List.setIfInBounds_toArray, List.set_cons_zero, List.set_cons_succ]
        ((refine wpAnyH_take (i := 20) (v := ?_) (by (simp only [List.getElem?_toArray, List.getElem?_cons_succ, List.getElem?_cons_zero]); rfl) (by kernel_rfl) (by kernel_rfl) (by kernel_rfl) (by exact fun _ _ _ h => h) (Or.inl ⟨by (go_simp; try rfl), ?_⟩) (by assumption) ?_); rotate_left; focus (intro wS hSw; (try dsimp only at hSw); go_simp; first | done | with_reducible rfl); try simp only [Act.put, List.setIfInBounds_toArray, List.set_cons_zero, List.set_cons_succ])
        try simp only [Act.put, List.setIfInBounds_toArray, List.set_cons_zero, List.set_cons_succ]
        ((refine wpAnyH_take (i := 21) (v := ?_) (by (simp only [List.getElem?_toArray, List.getElem?_cons_succ, List.getElem?_cons_zero]); rfl) (by kernel_rfl) (by kernel_rfl) (by kernel_rfl) (by exact fun _ _ _ h => h) (Or.inl ⟨by rfl, ?_⟩) (by assumption) ?_); rotate_left; focus (intro wS hSw; (try dsimp only at hSw); go_simp; first | done | with_reducible rfl); try simp only [Act.put, List.setIfInBounds_toArray, List.set_cons_zero, List.set_cons_succ])
        try simp only [Act.put, List.setIfInBounds_toArray, List.set_cons_zero, List.set_cons_succ]
        ((refine wpAnyH_take (i := 22) (v := ?_) (by (simp only [List.getElem?_toArray, List.getElem?_cons_succ, List.getElem?_cons_zero]); rfl) (by kernel_rfl) (by kernel_rfl) (by kernel_rfl) (by exact fun _ _ _ h => h) (Or.inl ⟨by rfl, ?_⟩) (by assumption) ?_); rotate_left; focus (intro wS hSw; (try dsimp only at hSw); go_simp; first | done | with_reducible rfl); try simp only [Act.put, List.setIfInBounds_toArray, List.set_cons_zero, List.set_cons_succ])
        try simp only [Act.put, List.setIfInBounds_toArray, List.set_cons_zero, List.set_cons_succ]
        refine wpAnyH_ready (rs := [23]) (by kernel_rfl) (by simp) ?_
        refine AllReadyH.cons (by (simp only [List.getElem?_toArray, List.getElem?_cons_succ, List.getElem?_cons_zero]); exact rfl) (fun K hK => ?_) AllReadyH.nil
        try rw [if_pos (by rfl)]
        go_simp
        refine Calls.mono (wakes_any _ (HT.out.below HB.out)) ?_
        rintro e W9 ⟨rfl, hB⟩
        replace HX := Lib.hid (HX.out.step hB)
        replace HY := Lib.hid (HY.out.step hB)
        replace HZ := Lib.hid (HZ.out.step hB)
        replace HVX := Lib.hid (HVX.out.below hB)
        replace HVY := Lib.hid (HVY.out.below hB)
        replace HVZ := Lib.hid (HVZ.out.below hB)
        replace HB := Lib.hid (HB.out.trans (hB.mono HB.out.size))
        skip
        clear hB
        try go_simp
        refine hK.out _ _ ⟨cell_at HX.out 0, cell_at HX.out 1, cell_at HX.out 2, cell_at HX.out 3, cell_at HX.out 4, cell_at HY.out 0, cell_at HY.out 1, cell_at HY.out 2, cell_at HY.out 3, cell_at HY.out 4, cell_at HZ.out 0, cell_at HZ.out 1, cell_at HZ.out 2, cell_at HZ.out 3, cell_at HZ.out 4⟩ (fun hHeld => ?_)
        clear hK K
        try simp only [Act.put, List.setIfInBounds_toArray, List.set_cons_zero, List.set_cons_succ]
        ((refine wpAnyH_take (i := 24) (v := ?_) (by (simp only [List.getElem?_toArray, List.getElem?_cons_succ, List.getElem?_cons_zero]); rfl) (by kernel_rfl) (by kernel_rfl) (by kernel_rfl) (by exact fun _ _ _ h => h) (Or.inl ⟨by rfl, ?_⟩) (by assumption) ?_); rotate_left; focus (intro wS hSw; (try dsimp only at hSw); go_simp; first | done | with_reducible rfl); try simp only [Act.put, List.setIfInBounds_toArray, List.set_cons_zero, List.set_cons_succ])
        try simp only [Act.put, List.setIfInBounds_toArray, List.set_cons_zero, List.set_cons_succ]
        ((refine wpAnyH_take (i := 25) (v := ?_) (by (simp only [List.getElem?_toArray, List.getElem?_cons_succ, List.getElem?_cons_zero]); rfl) (by kernel_rfl) (by kernel_rfl) (by kernel_rfl) (by exact fun _ _ _ h => h) (Or.inl ⟨by rfl, ?_⟩) (by assumption) ?_); rotate_left; focus (intro wS hSw; (try dsimp only at hSw); go_simp; first | done | with_reducible rfl); try simp only [Act.put, List.setIfInBounds_toArray, List.set_cons_zero, List.set_cons_succ])
        try simp only [Act.put, List.setIfInBounds_toArray, List.set_cons_zero, List.set_cons_succ]
        refine wpAnyH_done (by kernel_rfl) ?_ _
        try simp only [Act.put, List.setIfInBounds_toArray, List.set_cons_zero, List.set_cons_succ]
        try go_wp2_with fail
        go_ret
        exact ⟨rfl, HB.out⟩
      · skip
        have hcq := HCA.out _ _ H2.out
        try rw [if_pos (by rfl)]
        go_simp
        refine hK.out _ _ ⟨cell_at HX.out 0, cell_at HX.out 1, cell_at HX.out 2, cell_at HX.out 3, cell_at HX.out 4, cell_at HY.out 0, cell_at HY.out 1, cell_at HY.out 2, cell_at HY.out 3, cell_at HY.out 4, cell_at HZ.out 0, cell_at HZ.out 1, cell_at HZ.out 2, cell_at HZ.out 3, cell_at HZ.out 4⟩ (fun hHeld => ?_)
        clear hK K
        try simp only [Act.put, List.setIfInBounds_toArray, List.set_cons_zero, List.set_cons_succ]
        try clear hcq
        refine wpAnyH_ready (rs := [2]) (by kernel_rfl) (by simp) ?_
        refine AllReadyH.cons (by (simp only [List.getElem?_toArray, List.getElem?_cons_succ, List.getElem?_cons_zero]); exact rfl) (fun K hK => ?_) AllReadyH.nil
        have hcq := HCA.out _ _ H1.out
        try rw [if_pos (by rfl)]
        go_simp
        refine hK.out _ _ ⟨cell_at HX.out 0, cell_at HX.out 1, cell_at HX.out 2, cell_at HX.out 3, cell_at HX.out 4, cell_at HY.out 0, cell_at HY.out 1, cell_at HY.out 2, cell_at HY.out 3, cell_at HY.out 4, cell_at HZ.out 0, cell_at HZ.out 1, cell_at HZ.out 2, cell_at HZ.out 3, cell_at HZ.out 4⟩ (fun hHeld => ?_)
        clear hK K
        try simp only [Act.put, List.setIfInBounds_toArray, List.set_cons_zero, List.set_cons_succ]
        try clear hcq
        ((refine wpAnyH_take (i := 6) (v := ?_) (by (simp only [List.getElem?_toArray, List.getElem?_cons_succ, List.getElem?_cons_zero]); rfl) (by kernel_rfl) (by kernel_rfl) (by kernel_rfl) (by exact fun _ _ _ h => h) (Or.inl ⟨by rfl, ?_⟩) (by assumption) ?_); rotate_left; focus (intro wS hSw; (try dsimp only at hSw); go_simp; first | done | with_reducible rfl); try simp only [Act.put, List.setIfInBounds_toArray, List.set_cons_zero, List.set_cons_succ])
        try simp only [Act.put, List.setIfInBounds_toArray, List.set_cons_zero, List.set_cons_succ]
        ((refine wpAnyH_take (i := 7) (v := ?_) (by (simp only [List.getElem?_toArray, List.getElem?_cons_succ, List.getElem?_cons_zero]); rfl) (by kernel_rfl) (by kernel_rfl) (by kernel_rfl) (by exact fun _ _ _ h => h) (Or.inl ⟨by rfl, ?_⟩) (by assumption) ?_); rotate_left; focus (intro wS hSw; (try dsimp only at hSw); go_simp; first | done | with_reducible rfl); try simp only [Act.put, List.setIfInBounds_toArray, List.set_cons_zero, List.set_cons_succ])
        try simp only [Act.put, List.setIfInBounds_toArray, List.set_cons_zero, List.set_cons_succ]
        ((refine wpAnyH_take (i := 8) (v := ?_) (by (simp only [List.getElem?_toArray, List.getElem?_cons_succ, List.getElem?_cons_zero]); rfl) (by kernel_rfl) (by kernel_rfl) (by kernel_rfl) (by exact fun _ _ _ h => h) (Or.inl ⟨by (go_simp; try rfl), ?_⟩) (by assumption) ?_); rotate_left; focus (intro wS hSw; (try dsimp only at hSw); go_simp; first | done | with_reducible rfl); try simp only [Act.put, List.setIfInBounds_toArray, List.set_cons_zero, List.set_cons_succ])
        try simp only [Act.put, List.setIfInBounds_toArray, List.set_cons_zero, List.set_cons_succ]
        ((refine wpAnyH_take (i := 9) (v := ?_) (by (simp only [List.getElem?_toArray, List.getElem?_cons_succ, List.getElem?_cons_zero]); rfl) (by kernel_rfl) (by kernel_rfl) (by kernel_rfl) (by exact fun _ _ _ h => h) (Or.inl ⟨by (go_simp; try rfl), ?_⟩) (by assumption) ?_); rotate_left; focus (intro wS hSw; (try dsimp only at hSw); go_simp; first | done | with_reducible rfl); try simp only [Act.put, List.setIfInBounds_toArray, List.set_cons_zero, List.set_cons_succ])
        try simp only [Act.put, List.setIfInBounds_toArray, List.set_cons_zero, List.set_cons_succ]
        refine wpAnyH_ready (rs := [10]) (by kernel_rfl) (by simp) ?_
        refine AllReadyH.cons (by (simp only [List.getElem?_toArray, List.getElem?_cons_succ, List.getElem?_cons_zero]); exact rfl) (fun K hK => ?_) AllReadyH.nil
        try rw [if_pos (by rfl)]
        go_simp
        refine Calls.mono (same_entry _ _ _ _ _ _ _ _ _ _ _ _ HVY.out HVZ.out) ?_
        rintro e W8 ⟨rfl, hB⟩
        replace HX := Lib.hid (HX.out.step hB)
        replace HY := Lib.hid (HY.out.step hB)
        replace HZ := Lib.hid (HZ.out.step hB)
        replace HVX := Lib.hid (HVX.out.below hB)
        replace HVY := Lib.hid (HVY.out.below hB)
        replace HVZ := Lib.hid (HVZ.out.below hB)
        replace HB := Lib.hid (HB.out.trans (hB.mono HB.out.size))
        skip
        clear hB
        try go_simp
        refine hK.out _ _ ⟨cell_at HX.out 0, cell_at HX.out 1, cell_at HX.out 2, cell_at HX.out 3, cell_at HX.out 4, cell_at HY.out 0, cell_at HY.out 1, cell_at HY.out 2, cell_at HY.out 3, cell_at HY.out 4, cell_at HZ.out 0, cell_at HZ.out 1, cell_at HZ.out 2, cell_at HZ.out 3, cell_at HZ.out 4⟩ (fun hHeld => ?_)
        clear hK K
        try simp only [Act.put, List.setIfInBounds_toArray, List.set_cons_zero, List.set_cons_succ]
        ((refine wpAnyH_take (i := 11) (v := ?_) (by (simp only [List.getElem?_toArray, List.getElem?_cons_succ, List.getElem?_cons_zero]); rfl) (by kernel_rfl) (by kernel_rfl) (by kernel_rfl) (by exact fun _ _ _ h => h) (Or.inl ⟨by rfl, ?_⟩) (by assumption) ?_); rotate_left; focus (intro wS hSw; (try dsimp only at hSw); go_simp; first | done | with_reducible rfl); try simp only [Act.put, List.setIfInBounds_toArray, List.set_cons_zero, List.set_cons_succ])
        try simp only [Act.put, List.setIfInBounds_toArray, List.set_cons_zero, List.set_cons_succ]
        ((refine wpAnyH_take (i := 12) (v := ?_) (by (simp only [List.getElem?_toArray, List.getElem?_cons_succ, List.getElem?_cons_zero]); rfl) (by kernel_rfl) (by kernel_rfl) (by kernel_rfl) (by exact fun _ _ _ h => h) (Or.inl ⟨by rfl, ?_⟩) (by assumption) ?_); rotate_left; focus (intro wS hSw; (try dsimp only at hSw); go_simp; first | done | with_reducible rfl); try simp only [Act.put, List.setIfInBounds_toArray, List.set_cons_zero, List.set_cons_succ])
        try simp only [Act.put, List.setIfInBounds_toArray, List.set_cons_zero, List.set_cons_succ]
        ((refine wpAnyH_take (i := 13) (v := ?_) (by (simp only [List.getElem?_toArray, List.getElem?_cons_succ, List.getElem?_cons_zero]); rfl) (by kernel_rfl) (by kernel_rfl) (by kernel_rfl) (by exact fun _ _ _ h => h) (Or.inl ⟨by (go_simp; try rfl), ?_⟩) (by assumption) ?_); rotate_left; focus (intro wS hSw; (try dsimp only at hSw); go_simp; first | done | with_reducible rfl); try simp only [Act.put, List.setIfInBounds_toArray, List.set_cons_zero, List.set_cons_succ])
        try simp only [Act.put, List.setIfInBounds_toArray, List.set_cons_zero, List.set_cons_succ]
        ((refine wpAnyH_take (i := 14) (v := ?_) (by (simp only [List.getElem?_toArray, List.getElem?_cons_succ, List.getElem?_cons_zero]); rfl) (by kernel_rfl) (by kernel_rfl) (by kernel_rfl) (by exact fun _ _ _ h => h) (Or.inl ⟨by (go_simp; try rfl), ?_⟩) (by assumption) ?_); rotate_left; focus (intro wS hSw; (try dsimp only at hSw); go_simp; first | done | with_reducible rfl); try simp only [Act.put, List.setIfInBounds_toArray, List.set_cons_zero, List.set_cons_succ])
        try simp only [Act.put, List.setIfInBounds_toArray, List.set_cons_zero, List.set_cons_succ]
        ((refine wpAnyH_take (i := 15) (v := ?_) (by (simp only [List.getElem?_toArray, List.getElem?_cons_succ, List.getElem?_cons_zero]); rfl) (by kernel_rfl) (by kernel_rfl) (by kernel_rfl) (by exact fun _ _ _ h => h) (Or.inl ⟨by (go_simp; try rfl), ?_⟩) (by assumption) ?_); rotate_left; focus (intro wS hSw; (try dsimp only at hSw); go_simp; first | done | with_reducible rfl); try simp only [Act.put, List.setIfInBounds_toArray, List.set_cons_zero, List.set_cons_succ])
        try simp only [Act.put, List.setIfInBounds_toArray, List.set_cons_zero, List.set_cons_succ]
        ((refine wpAnyH_take (i := 16) (v := ?_) (by (simp only [List.getElem?_toArray, List.getElem?_cons_succ, List.getElem?_cons_zero]); rfl) (by kernel_rfl) (by kernel_rfl) (by kernel_rfl) (by exact fun _ _ _ h => h) (Or.inl ⟨by rfl, ?_⟩) (by assumption) ?_); rotate_left; focus (intro wS hSw; (try dsimp only at hSw); go_simp; first | done | with_reducible rfl); try simp only [Act.put, List.setIfInBounds_toArray, List.set_cons_zero, List.set_cons_succ])
        try simp only [Act.put, List.setIfInBounds_toArray, List.set_cons_zero, List.set_cons_succ]
        ((refine wpAnyH_take (i := 17) (v := ?_) (by (simp only [List.getElem?_toArray, List.getElem?_cons_succ, List.getElem?_cons_zero]); rfl) (by kernel_rfl) (by kernel_rfl) (by kernel_rfl) (by exact fun _ _ _ h => h) (Or.inl ⟨by rfl, ?_⟩) (by assumption) ?_); rotate_left; focus (intro wS hSw; (try dsimp only at hSw); go_simp; first | done | with_reducible rfl); try simp only [Act.put, List.setIfInBounds_toArray, List.set_cons_zero, List.set_cons_succ])
        try simp only [Act.put, List.setIfInBounds_toArray, List.set_cons_zero, List.set_cons_succ]
        ((refine wpAnyH_take (i := 18) (v := ?_) (by (simp only [List.getElem?_toArray, List.getElem?_cons_succ, List.getElem?_cons_zero]); rfl) (by kernel_rfl) (by kernel_rfl) (by kernel_rfl) (by exact fun _ _ _ h => h) (Or.inl ⟨by (go_simp; try rfl), ?_⟩) (by assumption) ?_); rotate_left; focus (intro wS hSw; (try dsimp only at hSw); go_simp; first | done | with_reducible rfl); try simp only [Act.put, List.setIfInBounds_toArray, List.set_cons_zero, List.set_cons_succ])
        try simp only [Act.put, List.setIfInBounds_toArray, List.set_cons_zero, List.set_cons_succ]
        ((refine wpAnyH_take (i := 19) (v := ?_) (by (simp only [List.getElem?_toArray, List.getElem?_cons_succ, List.getElem?_cons_zero]); rfl) (by kernel_rfl) (by kernel_rfl) (by kernel_rfl) (by exact fun _ _ _ h => h) (Or.inl ⟨by (go_simp; try rfl), ?_⟩) (by assumption) ?_); rotate_left; focus (intro wS hSw; (try dsimp only at hSw); go_simp; first | done | with_reducible rfl); try simp only [Act.put, List.setIfInBounds_toArray, List.set_cons_zero, List.set_cons_succ])
        try simp only [Act.put, List.setIfInBounds_toArray, List.set_cons_zero, List.set_cons_succ]
        ((refine wpAnyH_take (i := 20) (v := ?_) (by (simp only [List.getElem?_toArray, List.getElem?_cons_succ, List.getElem?_cons_zero]); rfl) (by kernel_rfl) (by kernel_rfl) (by kernel_rfl) (by exact fun _ _ _ h => h) (Or.inl ⟨by (go_simp; try rfl), ?_⟩) (by assumption) ?_); rotate_left; focus (intro wS hSw; (try dsimp only at hSw); go_simp; first | done | with_reducible rfl); try simp only [Act.put, List.setIfInBounds_toArray, List.set_cons_zero, List.set_cons_succ])
        try simp only [Act.put, List.setIfInBounds_toArray, List.set_cons_zero, List.set_cons_succ]
        ((refine wpAnyH_take (i := 21) (v := ?_) (by (simp only [List.getElem?_toArray, List.getElem?_cons_succ, List.getElem?_cons_zero]); rfl) (by kernel_rfl) (by kernel_rfl) (by kernel_rfl) (by exact fun _ _ _ h => h) (Or.inl ⟨by rfl, ?_⟩) (by assumption) ?_); rotate_left; focus (intro wS hSw; (try dsimp only at hSw); go_simp; first | done | with_reducible rfl); try simp only [Act.put, List.setIfInBounds_toArray, List.set_cons_zero, List.set_cons_succ])
        try simp only [Act.put, List.setIfInBounds_toArray, List.set_cons_zero, List.set_cons_succ]
        ((refine wpAnyH_take (i := 22) (v := ?_) (by (simp only [List.getElem?_toArray, List.getElem?_cons_succ, List.getElem?_cons_zero]); rfl) (by kernel_rfl) (by kernel_rfl) (by kernel_rfl) (by exact fun _ _ _ h => h) (Or.inl ⟨by rfl, ?_⟩) (by assumption) ?_); rotate_left; focus (intro wS hSw; (try dsimp only at hSw); go_simp; first | done | with_reducible rfl); try simp only [Act.put, List.setIfInBounds_toArray, List.set_cons_zero, List.set_cons_succ])
        try simp only [Act.put, List.setIfInBounds_toArray, List.set_cons_zero, List.set_cons_succ]
        refine wpAnyH_ready (rs := [23]) (by kernel_rfl) (by simp) ?_
        refine AllReadyH.cons (by (simp only [List.getElem?_toArray, List.getElem?_cons_succ, List.getElem?_cons_zero]); exact rfl) (fun K hK => ?_) AllReadyH.nil
        try rw [if_pos (by rfl)]
        go_simp
        refine Calls.mono (wakes_any _ (HT.out.below HB.out)) ?_
        rintro e W9 ⟨rfl, hB⟩
        replace HX := Lib.hid (HX.out.step hB)
        replace HY := Lib.hid (HY.out.step hB)
        replace HZ := Lib.hid (HZ.out.step hB)
        replace HVX := Lib.hid (HVX.out.below hB)
        replace HVY := Lib.hid (HVY.out.below hB)
        replace HVZ := Lib.hid (HVZ.out.below hB)
        replace HB := Lib.hid (HB.out.trans (hB.mono HB.out.size))
        skip
        clear hB
        try go_simp
        refine hK.out _ _ ⟨cell_at HX.out 0, cell_at HX.out 1, cell_at HX.out 2, cell_at HX.out 3, cell_at HX.out 4, cell_at HY.out 0, cell_at HY.out 1, cell_at HY.out 2, cell_at HY.out 3, cell_at HY.out 4, cell_at HZ.out 0, cell_at HZ.out 1, cell_at HZ.out 2, cell_at HZ.out 3, cell_at HZ.out 4⟩ (fun hHeld => ?_)
        clear hK K
        try simp only [Act.put, List.setIfInBounds_toArray, List.set_cons_zero, List.set_cons_succ]
        ((refine wpAnyH_take (i := 24) (v := ?_) (by (simp only [List.getElem?_toArray, List.getElem?_cons_succ, List.getElem?_cons_zero]); rfl) (by kernel_rfl) (by kernel_rfl) (by kernel_rfl) (by exact fun _ _ _ h => h) (Or.inl ⟨by rfl, ?_⟩) (by assumption) ?_); rotate_left; focus (intro wS hSw; (try dsimp only at hSw); go_simp; first | done | with_reducible rfl); try simp only [Act.put, List.setIfInBounds_toArray, List.set_cons_zero, List.set_cons_succ])
        try simp only [Act.put, List.setIfInBounds_toArray, List.set_cons_zero, List.set_cons_succ]
        ((refine wpAnyH_take (i := 25) (v := ?_) (by (simp only [List.getElem?_toArray, List.getElem?_cons_succ, List.getElem?_cons_zero]); rfl) (by kernel_rfl) (by kernel_rfl) (by kernel_rfl) (by exact fun _ _ _ h => h) (Or.inl ⟨by rfl, ?_⟩) (by assumption) ?_); rotate_left; focus (intro wS hSw; (try dsimp only at hSw); go_simp; first | done | with_reducible rfl); try simp only [Act.put, List.setIfInBounds_toArray, List.set_cons_zero, List.set_cons_succ])
        try simp only [Act.put, List.setIfInBounds_toArray, List.set_cons_zero, List.set_cons_succ]
        refine wpAnyH_done (by kernel_rfl) ?_ _
        try simp only [Act.put, List.setIfInBounds_toArray, List.set_cons_zero, List.set_cons_succ]
        try go_wp2_with fail
        go_ret
        exact ⟨rfl, HB.out⟩
end Go.Proofs.YtiednacpmlilbaaDoor
