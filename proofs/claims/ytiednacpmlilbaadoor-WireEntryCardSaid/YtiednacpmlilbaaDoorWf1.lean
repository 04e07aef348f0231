/-
  The form of an entry, by a hand.
-/
import Derived.Test.YtiednacpmlilbaaDoorWo
namespace Go.Proofs.YtiednacpmlilbaaDoor
open Go.RowKit
set_option linter.unusedSimpArgs false
set_option linter.unusedVariables false

variable {S : Type}
set_option maxRecDepth 100000 in
set_option maxHeartbeats 8000000 in
theorem entry_form {H : HS S} (HC : HandC H) : FormC H 41 5 entryW := by
  intro W s ty g j ds hI hD hP hty
  obtain ⟨d0, d1, d2, d3, d4, rfl⟩ := len5 hD.len
  obtain ⟨B0, hB0⟩ : ∃ n, n = W.heap.size := ⟨_, rfl⟩
  have hE0 := HC.e0
  have hE1 := HC.e1
  have hE2 := HC.e2
  have hE3 := HC.e3
  have hE4 := HC.e4
  unfold EntK at hE0 hE1 hE2 hE3 hE4
  have HH := Lib.hid HC
  unfold HS.hv fv
  go_enter Tryd.func41, Tryd.ntmps41
  go_upto_region 1 with fail
  rw [← hB0]
  obtain ⟨W0, hW0⟩ : ∃ W1, W1 = W.alloc (.cells #[.func (.func H.k0) #[H.bnd] #[], .func (.func H.k1) #[H.bnd] #[], .func (.func H.k2) #[H.bnd] #[], .func (.func H.k3) #[H.bnd] #[], .func (.func H.k4) #[H.bnd] #[], .func (.func H.k5) #[H.bnd] #[]] 85) := ⟨_, rfl⟩
  rw [← hW0]
  have hbel : Below W.heap.size W W0 := by rw [hW0]; exact alloc_b _ _
  have HBK := Lib.hid (show Blk W0 B0 H.cs 85 by rw [hW0, hB0]; exact blk_new _ _ _)
  have HPR := Lib.hid (HC.new W s B0 85 hI (by omega) (by decide))
  have HF := Lib.hid (HC.frB hI hbel (cellN ty g j 5))
  have hF0 := HC.frB hI hbel (fun _ _ _ => False)
  have HI := Lib.hid (HC.inB hI hbel)
  have HTY := Lib.hid hty
  obtain ⟨D0, D1, D2, D3, D4, -⟩ := hD
  have HD0 := Lib.hid (D0.fr hF0 id)
  have HD1 := Lib.hid (D1.fr hF0 id)
  have HD2 := Lib.hid (D2.fr hF0 id)
  have HD3 := Lib.hid (D3.fr hF0 id)
  have HD4 := Lib.hid (D4.fr hF0 id)
  have HR := Lib.hid (show RunI H.pre H.step entryW s [d0, d1, d2, d3, d4] ([.num] ++ ([.small] ++ ([.num] ++ ([.set] ++ ([.text] ++ ([])))))) s ([d0] ++ ([d1] ++ ([d2] ++ ([d3] ++ ([d4] ++ ([])))))) [] from RunI.init hP)
  clear hW0 hB0 hbel hF0 hI hP hty D0 D1 D2 D3 D4
  refine wp_region_held_drew (S := fun X => X.cell? ⟨B0, 0, none⟩ = some (.func (.func H.k0) #[H.bnd] #[])) (by kernel_rfl) (cell_at HBK.out 0) (fun hHeld => ?_)
  ((refine wpAnyH_take (i := 0) (v := ?_) (by (simp only [List.getElem?_toArray, List.getElem?_cons_succ, List.getElem?_cons_zero]); rfl) (by kernel_rfl) (by kernel_rfl) (by kernel_rfl) (by exact fun _ _ _ h => h) (Or.inl ⟨by rfl, ?_⟩) (by assumption) ?_); rotate_left; focus (intro wS hSw; (try dsimp only at hSw); go_simp; first | done | with_reducible rfl); try simp only [Act.put, List.setIfInBounds_toArray, List.set_cons_zero, List.set_cons_succ])
  ((refine wpAnyH_take (i := 1) (v := ?_) (by (simp only [List.getElem?_toArray, List.getElem?_cons_succ, List.getElem?_cons_zero]); rfl) (by kernel_rfl) (by kernel_rfl) (by kernel_rfl) (by exact fun _ _ _ h => h) (Or.inl ⟨by rfl, ?_⟩) (by assumption) ?_); rotate_left; focus (intro wS hSw; (try dsimp only at hSw); go_simp; first | done | with_reducible rfl); try simp only [Act.put, List.setIfInBounds_toArray, List.set_cons_zero, List.set_cons_succ])
  ((refine wpAnyH_take (i := 2) (v := ?_) (by (simp only [List.getElem?_toArray, List.getElem?_cons_succ, List.getElem?_cons_zero]); rfl) (by kernel_rfl) (by kernel_rfl) (by kernel_rfl) (by exact fun _ _ _ h => h) (Or.inl ⟨by rfl, ?_⟩) (by assumption) ?_); rotate_left; focus (intro wS hSw; (try dsimp only at hSw); go_simp; first | done | with_reducible rfl); try simp only [Act.put, List.setIfInBounds_toArray, List.set_cons_zero, List.set_cons_succ])
  ((refine wpAnyH_take (i := 3) (v := ?_) (by (simp only [List.getElem?_toArray, List.getElem?_cons_succ, List.getElem?_cons_zero]); rfl) (by kernel_rfl) (by kernel_rfl) (by kernel_rfl) (by exact fun _ _ _ h => h) (Or.inl ⟨by rfl, ?_⟩) (by assumption) ?_); rotate_left; focus (intro wS hSw; (try dsimp only at hSw); go_simp; first | done | with_reducible rfl); try simp only [Act.put, List.setIfInBounds_toArray, List.set_cons_zero, List.set_cons_succ])
  ((refine wpAnyH_take (i := 4) (v := ?_) (by (simp only [List.getElem?_toArray, List.getElem?_cons_succ, List.getElem?_cons_zero]); rfl) (by kernel_rfl) (by kernel_rfl) (by kernel_rfl) (by exact fun _ _ _ h => h) (Or.inl ⟨by rfl, ?_⟩) (by assumption) ?_); rotate_left; focus (intro wS hSw; (try dsimp only at hSw); go_simp; first | done | with_reducible rfl); try simp only [Act.put, List.setIfInBounds_toArray, List.set_cons_zero, List.set_cons_succ])
  refine wpAnyH_ready (rs := [5]) (by kernel_rfl) (by simp) ?_
  refine AllReadyH.cons (by (simp only [List.getElem?_toArray, List.getElem?_cons_succ, List.getElem?_cons_zero]); rfl) (fun K hK => ?_) AllReadyH.nil
  go_simp
  have HC1 := Lib.hid (stepC_drew HH.out HH.out.num HI.out HD0.out (HR.out.fst rfl).1)
  rcases hst : H.step .num s d0 with a | ⟨s1, x0⟩
  · refine Calls.mono (endS_err HC1.out hst) ?_
    rintro e W1 ⟨hF2, rfl⟩
    exact (show _ ∧ EndS H (cellN ty g j 5) W _ _ _ _ from ⟨rfl, HF.out.trans hF2 (fun _ _ _ h => h) (fun t q i h => ⟨h.1, h.2.1, by have := h.2.2; omega, by have := h.2.2; omega⟩), by rw [show runFs H entryW s [d0, d1, d2, d3, d4] = _ from HR.out.err rfl (runFs_err H hst)]⟩)
  refine Calls.mono (endS_ok HC1.out hst) ?_
  rintro e W1 ⟨hF2, rfl, hI2, hD2⟩
  replace HD0 := Lib.hid hD2
  replace HD1 := Lib.hid (HD1.out.fr hF2 (fun h => by have := h.2.2; omega))
  replace HD2 := Lib.hid (HD2.out.fr hF2 (fun h => by have := h.2.2; omega))
  replace HD3 := Lib.hid (HD3.out.fr hF2 (fun h => by have := h.2.2; omega))
  replace HD4 := Lib.hid (HD4.out.fr hF2 (fun h => by have := h.2.2; omega))
  replace HI := Lib.hid hI2
  replace HF := Lib.hid (HF.out.trans hF2 (fun _ _ _ h => h) (fun t q i h => ⟨h.1, h.2.1, by have := h.2.2; omega, by have := h.2.2; omega⟩))
  replace HBK := Lib.hid (blk_keep HBK.out HPR.out hF2 (fun i h => HTY.out.1 h.1.symm))
  replace HR := Lib.hid (HR.out.ok rfl (runFs_one hst))
  clear hF2 hI2 hD2 hst HC1
  go_wp2_with fail
  refine hK.out _ _ (cell_at HBK.out 0) (fun hHeld => ?_)
  clear hK K
  try simp only [Act.put, List.setIfInBounds_toArray, List.set_cons_zero, List.set_cons_succ]
  refine wpAnyH_done (by kernel_rfl) ?_ _
  try simp only [Act.put, List.setIfInBounds_toArray, List.set_cons_zero, List.set_cons_succ]
  go_wp2_with fail
  refine wp_region_held_drew (S := fun X => X.cell? ⟨B0, 1, none⟩ = some (.func (.func H.k1) #[H.bnd] #[])) (by kernel_rfl) (cell_at HBK.out 1) (fun hHeld => ?_)
  ((refine wpAnyH_take (i := 0) (v := ?_) (by (simp only [List.getElem?_toArray, List.getElem?_cons_succ, List.getElem?_cons_zero]); rfl) (by kernel_rfl) (by kernel_rfl) (by kernel_rfl) (by exact fun _ _ _ h => h) (Or.inl ⟨by rfl, ?_⟩) (by assumption) ?_); rotate_left; focus (intro wS hSw; (try dsimp only at hSw); go_simp; first | done | with_reducible rfl); try simp only [Act.put, List.setIfInBounds_toArray, List.set_cons_zero, List.set_cons_succ])
  ((refine wpAnyH_take (i := 1) (v := ?_) (by (simp only [List.getElem?_toArray, List.getElem?_cons_succ, List.getElem?_cons_zero]); rfl) (by kernel_rfl) (by kernel_rfl) (by kernel_rfl) (by exact fun _ _ _ h => h) (Or.inl ⟨by rfl, ?_⟩) (by assumption) ?_); rotate_left; focus (intro wS hSw; (try dsimp only at hSw); go_simp; first | done | with_reducible rfl); try simp only [Act.put, List.setIfInBounds_toArray, List.set_cons_zero, List.set_cons_succ])
  ((refine wpAnyH_take (i := 2) (v := ?_) (by (simp only [List.getElem?_toArray, List.getElem?_cons_succ, List.getElem?_cons_zero]); rfl) (by kernel_rfl) (by kernel_rfl) (by kernel_rfl) (by exact fun _ _ _ h => h) (Or.inl ⟨by rfl, ?_⟩) (by assumption) ?_); rotate_left; focus (intro wS hSw; (try dsimp only at hSw); go_simp; first | done | with_reducible rfl); try simp only [Act.put, List.setIfInBounds_toArray, List.set_cons_zero, List.set_cons_succ])
  ((refine wpAnyH_take (i := 3) (v := ?_) (by (simp only [List.getElem?_toArray, List.getElem?_cons_succ, List.getElem?_cons_zero]); rfl) (by kernel_rfl) (by kernel_rfl) (by kernel_rfl) (by exact fun _ _ _ h => h) (Or.inl ⟨by rfl, ?_⟩) (by assumption) ?_); rotate_left; focus (intro wS hSw; (try dsimp only at hSw); go_simp; first | done | with_reducible rfl); try simp only [Act.put, List.setIfInBounds_toArray, List.set_cons_zero, List.set_cons_succ])
  ((refine wpAnyH_take (i := 4) (v := ?_) (by (simp only [List.getElem?_toArray, List.getElem?_cons_succ, List.getElem?_cons_zero]); rfl) (by kernel_rfl) (by kernel_rfl) (by kernel_rfl) (by exact fun _ _ _ h => h) (Or.inl ⟨by rfl, ?_⟩) (by assumption) ?_); rotate_left; focus (intro wS hSw; (try dsimp only at hSw); go_simp; first | done | with_reducible rfl); try simp only [Act.put, List.setIfInBounds_toArray, List.set_cons_zero, List.set_cons_succ])
  refine wpAnyH_ready (rs := [5]) (by kernel_rfl) (by simp) ?_
  refine AllReadyH.cons (by (simp only [List.getElem?_toArray, List.getElem?_cons_succ, List.getElem?_cons_zero]); rfl) (fun K hK => ?_) AllReadyH.nil
  go_simp
  have HC1 := Lib.hid (stepC_drew HH.out HH.out.small HI.out HD1.out (HR.out.fst rfl).1)
  rcases hst : H.step .small s1 d1 with a | ⟨s2, x1⟩
  · refine Calls.mono (endS_err HC1.out hst) ?_
    rintro e W2 ⟨hF2, rfl⟩
    exact (show _ ∧ EndS H (cellN ty g j 5) W _ _ _ _ from ⟨rfl, HF.out.trans hF2 (fun _ _ _ h => h) (fun t q i h => ⟨h.1, h.2.1, by have := h.2.2; omega, by have := h.2.2; omega⟩), by rw [show runFs H entryW s [d0, d1, d2, d3, d4] = _ from HR.out.err rfl (runFs_err H hst)]⟩)
  refine Calls.mono (endS_ok HC1.out hst) ?_
  rintro e W2 ⟨hF2, rfl, hI2, hD2⟩
  replace HD1 := Lib.hid hD2
  replace HD0 := Lib.hid (HD0.out.fr hF2 (fun h => by have := h.2.2; omega))
  replace HD2 := Lib.hid (HD2.out.fr hF2 (fun h => by have := h.2.2; omega))
  replace HD3 := Lib.hid (HD3.out.fr hF2 (fun h => by have := h.2.2; omega))
  replace HD4 := Lib.hid (HD4.out.fr hF2 (fun h => by have := h.2.2; omega))
  replace HI := Lib.hid hI2
  replace HF := Lib.hid (HF.out.trans hF2 (fun _ _ _ h => h) (fun t q i h => ⟨h.1, h.2.1, by have := h.2.2; omega, by have := h.2.2; omega⟩))
  replace HBK := Lib.hid (blk_keep HBK.out HPR.out hF2 (fun i h => HTY.out.1 h.1.symm))
  replace HR := Lib.hid (HR.out.ok rfl (runFs_one hst))
  clear hF2 hI2 hD2 hst HC1
  go_wp2_with fail
  refine hK.out _ _ (cell_at HBK.out 1) (fun hHeld => ?_)
  clear hK K
  try simp only [Act.put, List.setIfInBounds_toArray, List.set_cons_zero, List.set_cons_succ]
  refine wpAnyH_done (by kernel_rfl) ?_ _
  try simp only [Act.put, List.setIfInBounds_toArray, List.set_cons_zero, List.set_cons_succ]
  go_wp2_with fail
  refine wp_region_held_drew (S := fun X => X.cell? ⟨B0, 0, none⟩ = some (.func (.func H.k0) #[H.bnd] #[])) (by kernel_rfl) (cell_at HBK.out 0) (fun hHeld => ?_)
  ((refine wpAnyH_take (i := 0) (v := ?_) (by (simp only [List.getElem?_toArray, List.getElem?_cons_succ, List.getElem?_cons_zero]); rfl) (by kernel_rfl) (by kernel_rfl) (by kernel_rfl) (by exact fun _ _ _ h => h) (Or.inl ⟨by rfl, ?_⟩) (by assumption) ?_); rotate_left; focus (intro wS hSw; (try dsimp only at hSw); go_simp; first | done | with_reducible rfl); try simp only [Act.put, List.setIfInBounds_toArray, List.set_cons_zero, List.set_cons_succ])
  ((refine wpAnyH_take (i := 1) (v := ?_) (by (simp only [List.getElem?_toArray, List.getElem?_cons_succ, List.getElem?_cons_zero]); rfl) (by kernel_rfl) (by kernel_rfl) (by kernel_rfl) (by exact fun _ _ _ h => h) (Or.inl ⟨by rfl, ?_⟩) (by assumption) ?_); rotate_left; focus (intro wS hSw; (try dsimp only at hSw); go_simp; first | done | with_reducible rfl); try simp only [Act.put, List.setIfInBounds_toArray, List.set_cons_zero, List.set_cons_succ])
  ((refine wpAnyH_take (i := 2) (v := ?_) (by (simp only [List.getElem?_toArray, List.getElem?_cons_succ, List.getElem?_cons_zero]); rfl) (by kernel_rfl) (by kernel_rfl) (by kernel_rfl) (by exact fun _ _ _ h => h) (Or.inl ⟨by rfl, ?_⟩) (by assumption) ?_); rotate_left; focus (intro wS hSw; (try dsimp only at hSw); go_simp; first | done | with_reducible rfl); try simp only [Act.put, List.setIfInBounds_toArray, List.set_cons_zero, List.set_cons_succ])
  ((refine wpAnyH_take (i := 3) (v := ?_) (by (simp only [List.getElem?_toArray, List.getElem?_cons_succ, List.getElem?_cons_zero]); rfl) (by kernel_rfl) (by kernel_rfl) (by kernel_rfl) (by exact fun _ _ _ h => h) (Or.inl ⟨by rfl, ?_⟩) (by assumption) ?_); rotate_left; focus (intro wS hSw; (try dsimp only at hSw); go_simp; first | done | with_reducible rfl); try simp only [Act.put, List.setIfInBounds_toArray, List.set_cons_zero, List.set_cons_succ])
  ((refine wpAnyH_take (i := 4) (v := ?_) (by (simp only [List.getElem?_toArray, List.getElem?_cons_succ, List.getElem?_cons_zero]); rfl) (by kernel_rfl) (by kernel_rfl) (by kernel_rfl) (by exact fun _ _ _ h => h) (Or.inl ⟨by rfl, ?_⟩) (by assumption) ?_); rotate_left; focus (intro wS hSw; (try dsimp only at hSw); go_simp; first | done | with_reducible rfl); try simp only [Act.put, List.setIfInBounds_toArray, List.set_cons_zero, List.set_cons_succ])
  refine wpAnyH_ready (rs := [5]) (by kernel_rfl) (by simp) ?_
  refine AllReadyH.cons (by (simp only [List.getElem?_toArray, List.getElem?_cons_succ, List.getElem?_cons_zero]); rfl) (fun K hK => ?_) AllReadyH.nil
  go_simp
  have HC1 := Lib.hid (stepC_drew HH.out HH.out.num HI.out HD2.out (HR.out.fst rfl).1)
  rcases hst : H.step .num s2 d2 with a | ⟨s3, x2⟩
  · refine Calls.mono (endS_err HC1.out hst) ?_
    rintro e W3 ⟨hF2, rfl⟩
    exact (show _ ∧ EndS H (cellN ty g j 5) W _ _ _ _ from ⟨rfl, HF.out.trans hF2 (fun _ _ _ h => h) (fun t q i h => ⟨h.1, h.2.1, by have := h.2.2; omega, by have := h.2.2; omega⟩), by rw [show runFs H entryW s [d0, d1, d2, d3, d4] = _ from HR.out.err rfl (runFs_err H hst)]⟩)
  refine Calls.mono (endS_ok HC1.out hst) ?_
  rintro e W3 ⟨hF2, rfl, hI2, hD2⟩
  replace HD2 := Lib.hid hD2
  replace HD0 := Lib.hid (HD0.out.fr hF2 (fun h => by have := h.2.2; omega))
  replace HD1 := Lib.hid (HD1.out.fr hF2 (fun h => by have := h.2.2; omega))
  replace HD3 := Lib.hid (HD3.out.fr hF2 (fun h => by have := h.2.2; omega))
  replace HD4 := Lib.hid (HD4.out.fr hF2 (fun h => by have := h.2.2; omega))
  replace HI := Lib.hid hI2
  replace HF := Lib.hid (HF.out.trans hF2 (fun _ _ _ h => h) (fun t q i h => ⟨h.1, h.2.1, by have := h.2.2; omega, by have := h.2.2; omega⟩))
  replace HBK := Lib.hid (blk_keep HBK.out HPR.out hF2 (fun i h => HTY.out.1 h.1.symm))
  replace HR := Lib.hid (HR.out.ok rfl (runFs_one hst))
  clear hF2 hI2 hD2 hst HC1
  go_wp2_with fail
  refine hK.out _ _ (cell_at HBK.out 0) (fun hHeld => ?_)
  clear hK K
  try simp only [Act.put, List.setIfInBounds_toArray, List.set_cons_zero, List.set_cons_succ]
  refine wpAnyH_done (by kernel_rfl) ?_ _
  try simp only [Act.put, List.setIfInBounds_toArray, List.set_cons_zero, List.set_cons_succ]
  go_wp2_with fail
  refine wp_region_held_drew (S := fun X => X.cell? ⟨B0, 2, none⟩ = some (.func (.func H.k2) #[H.bnd] #[])) (by kernel_rfl) (cell_at HBK.out 2) (fun hHeld => ?_)
  ((refine wpAnyH_take (i := 0) (v := ?_) (by (simp only [List.getElem?_toArray, List.getElem?_cons_succ, List.getElem?_cons_zero]); rfl) (by kernel_rfl) (by kernel_rfl) (by kernel_rfl) (by exact fun _ _ _ h => h) (Or.inl ⟨by rfl, ?_⟩) (by assumption) ?_); rotate_left; focus (intro wS hSw; (try dsimp only at hSw); go_simp; first | done | with_reducible rfl); try simp only [Act.put, List.setIfInBounds_toArray, List.set_cons_zero, List.set_cons_succ])
  ((refine wpAnyH_take (i := 1) (v := ?_) (by (simp only [List.getElem?_toArray, List.getElem?_cons_succ, List.getElem?_cons_zero]); rfl) (by kernel_rfl) (by kernel_rfl) (by kernel_rfl) (by exact fun _ _ _ h => h) (Or.inl ⟨by rfl, ?_⟩) (by assumption) ?_); rotate_left; focus (intro wS hSw; (try dsimp only at hSw); go_simp; first | done | with_reducible rfl); try simp only [Act.put, List.setIfInBounds_toArray, List.set_cons_zero, List.set_cons_succ])
  ((refine wpAnyH_take (i := 2) (v := ?_) (by (simp only [List.getElem?_toArray, List.getElem?_cons_succ, List.getElem?_cons_zero]); rfl) (by kernel_rfl) (by kernel_rfl) (by kernel_rfl) (by exact fun _ _ _ h => h) (Or.inl ⟨by rfl, ?_⟩) (by assumption) ?_); rotate_left; focus (intro wS hSw; (try dsimp only at hSw); go_simp; first | done | with_reducible rfl); try simp only [Act.put, List.setIfInBounds_toArray, List.set_cons_zero, List.set_cons_succ])
  ((refine wpAnyH_take (i := 3) (v := ?_) (by (simp only [List.getElem?_toArray, List.getElem?_cons_succ, List.getElem?_cons_zero]); rfl) (by kernel_rfl) (by kernel_rfl) (by kernel_rfl) (by exact fun _ _ _ h => h) (Or.inl ⟨by rfl, ?_⟩) (by assumption) ?_); rotate_left; focus (intro wS hSw; (try dsimp only at hSw); go_simp; first | done | with_reducible rfl); try simp only [Act.put, List.setIfInBounds_toArray, List.set_cons_zero, List.set_cons_succ])
  ((refine wpAnyH_take (i := 4) (v := ?_) (by (simp only [List.getElem?_toArray, List.getElem?_cons_succ, List.getElem?_cons_zero]); rfl) (by kernel_rfl) (by kernel_rfl) (by kernel_rfl) (by exact fun _ _ _ h => h) (Or.inl ⟨by rfl, ?_⟩) (by assumption) ?_); rotate_left; focus (intro wS hSw; (try dsimp only at hSw); go_simp; first | done | with_reducible rfl); try simp only [Act.put, List.setIfInBounds_toArray, List.set_cons_zero, List.set_cons_succ])
  refine wpAnyH_ready (rs := [5]) (by kernel_rfl) (by simp) ?_
  refine AllReadyH.cons (by (simp only [List.getElem?_toArray, List.getElem?_cons_succ, List.getElem?_cons_zero]); rfl) (fun K hK => ?_) AllReadyH.nil
  go_simp
  have HC1 := Lib.hid (stepC_drew HH.out HH.out.set HI.out HD3.out (HR.out.fst rfl).1)
  rcases hst : H.step .set s3 d3 with a | ⟨s4, x3⟩
  · refine Calls.mono (endS_err HC1.out hst) ?_
    rintro e W4 ⟨hF2, rfl⟩
    exact (show _ ∧ EndS H (cellN ty g j 5) W _ _ _ _ from ⟨rfl, HF.out.trans hF2 (fun _ _ _ h => h) (fun t q i h => ⟨h.1, h.2.1, by have := h.2.2; omega, by have := h.2.2; omega⟩), by rw [show runFs H entryW s [d0, d1, d2, d3, d4] = _ from HR.out.err rfl (runFs_err H hst)]⟩)
  refine Calls.mono (endS_ok HC1.out hst) ?_
  rintro e W4 ⟨hF2, rfl, hI2, hD2⟩
  replace HD3 := Lib.hid hD2
  replace HD0 := Lib.hid (HD0.out.fr hF2 (fun h => by have := h.2.2; omega))
  replace HD1 := Lib.hid (HD1.out.fr hF2 (fun h => by have := h.2.2; omega))
  replace HD2 := Lib.hid (HD2.out.fr hF2 (fun h => by have := h.2.2; omega))
  replace HD4 := Lib.hid (HD4.out.fr hF2 (fun h => by have := h.2.2; omega))
  replace HI := Lib.hid hI2
  replace HF := Lib.hid (HF.out.trans hF2 (fun _ _ _ h => h) (fun t q i h => ⟨h.1, h.2.1, by have := h.2.2; omega, by have := h.2.2; omega⟩))
  replace HBK := Lib.hid (blk_keep HBK.out HPR.out hF2 (fun i h => HTY.out.1 h.1.symm))
  replace HR := Lib.hid (HR.out.ok rfl (runFs_one hst))
  clear hF2 hI2 hD2 hst HC1
  go_wp2_with fail
  refine hK.out _ _ (cell_at HBK.out 2) (fun hHeld => ?_)
  clear hK K
  try simp only [Act.put, List.setIfInBounds_toArray, List.set_cons_zero, List.set_cons_succ]
  refine wpAnyH_done (by kernel_rfl) ?_ _
  try simp only [Act.put, List.setIfInBounds_toArray, List.set_cons_zero, List.set_cons_succ]
  go_wp2_with fail
  refine wp_region_held_drew (S := fun X => X.cell? ⟨B0, 4, none⟩ = some (.func (.func H.k4) #[H.bnd] #[])) (by kernel_rfl) (cell_at HBK.out 4) (fun hHeld => ?_)
  ((refine wpAnyH_take (i := 0) (v := ?_) (by (simp only [List.getElem?_toArray, List.getElem?_cons_succ, List.getElem?_cons_zero]); rfl) (by kernel_rfl) (by kernel_rfl) (by kernel_rfl) (by exact fun _ _ _ h => h) (Or.inl ⟨by rfl, ?_⟩) (by assumption) ?_); rotate_left; focus (intro wS hSw; (try dsimp only at hSw); go_simp; first | done | with_reducible rfl); try simp only [Act.put, List.setIfInBounds_toArray, List.set_cons_zero, List.set_cons_succ])
  ((refine wpAnyH_take (i := 1) (v := ?_) (by (simp only [List.getElem?_toArray, List.getElem?_cons_succ, List.getElem?_cons_zero]); rfl) (by kernel_rfl) (by kernel_rfl) (by kernel_rfl) (by exact fun _ _ _ h => h) (Or.inl ⟨by rfl, ?_⟩) (by assumption) ?_); rotate_left; focus (intro wS hSw; (try dsimp only at hSw); go_simp; first | done | with_reducible rfl); try simp only [Act.put, List.setIfInBounds_toArray, List.set_cons_zero, List.set_cons_succ])
  ((refine wpAnyH_take (i := 2) (v := ?_) (by (simp only [List.getElem?_toArray, List.getElem?_cons_succ, List.getElem?_cons_zero]); rfl) (by kernel_rfl) (by kernel_rfl) (by kernel_rfl) (by exact fun _ _ _ h => h) (Or.inl ⟨by rfl, ?_⟩) (by assumption) ?_); rotate_left; focus (intro wS hSw; (try dsimp only at hSw); go_simp; first | done | with_reducible rfl); try simp only [Act.put, List.setIfInBounds_toArray, List.set_cons_zero, List.set_cons_succ])
  ((refine wpAnyH_take (i := 3) (v := ?_) (by (simp only [List.getElem?_toArray, List.getElem?_cons_succ, List.getElem?_cons_zero]); rfl) (by kernel_rfl) (by kernel_rfl) (by kernel_rfl) (by exact fun _ _ _ h => h) (Or.inl ⟨by rfl, ?_⟩) (by assumption) ?_); rotate_left; focus (intro wS hSw; (try dsimp only at hSw); go_simp; first | done | with_reducible rfl); try simp only [Act.put, List.setIfInBounds_toArray, List.set_cons_zero, List.set_cons_succ])
  ((refine wpAnyH_take (i := 4) (v := ?_) (by (simp only [List.getElem?_toArray, List.getElem?_cons_succ, List.getElem?_cons_zero]); rfl) (by kernel_rfl) (by kernel_rfl) (by kernel_rfl) (by exact fun _ _ _ h => h) (Or.inl ⟨by rfl, ?_⟩) (by assumption) ?_); rotate_left; focus (intro wS hSw; (try dsimp only at hSw); go_simp; first | done | with_reducible rfl); try simp only [Act.put, List.setIfInBounds_toArray, List.set_cons_zero, List.set_cons_succ])
  refine wpAnyH_ready (rs := [5]) (by kernel_rfl) (by simp) ?_
  refine AllReadyH.cons (by (simp only [List.getElem?_toArray, List.getElem?_cons_succ, List.getElem?_cons_zero]); rfl) (fun K hK => ?_) AllReadyH.nil
  go_simp
  have HC1 := Lib.hid (stepC_drew HH.out HH.out.text HI.out HD4.out (HR.out.fst rfl).1)
  rcases hst : H.step .text s4 d4 with a | ⟨s5, x4⟩
  · refine Calls.mono (endS_err HC1.out hst) ?_
    rintro e W5 ⟨hF2, rfl⟩
    exact (show _ ∧ EndS H (cellN ty g j 5) W _ _ _ _ from ⟨rfl, HF.out.trans hF2 (fun _ _ _ h => h) (fun t q i h => ⟨h.1, h.2.1, by have := h.2.2; omega, by have := h.2.2; omega⟩), by rw [show runFs H entryW s [d0, d1, d2, d3, d4] = _ from HR.out.err rfl (runFs_err H hst)]⟩)
  refine Calls.mono (endS_ok HC1.out hst) ?_
  rintro e W5 ⟨hF2, rfl, hI2, hD2⟩
  replace HD4 := Lib.hid hD2
  replace HD0 := Lib.hid (HD0.out.fr hF2 (fun h => by have := h.2.2; omega))
  replace HD1 := Lib.hid (HD1.out.fr hF2 (fun h => by have := h.2.2; omega))
  replace HD2 := Lib.hid (HD2.out.fr hF2 (fun h => by have := h.2.2; omega))
  replace HD3 := Lib.hid (HD3.out.fr hF2 (fun h => by have := h.2.2; omega))
  replace HI := Lib.hid hI2
  replace HF := Lib.hid (HF.out.trans hF2 (fun _ _ _ h => h) (fun t q i h => ⟨h.1, h.2.1, by have := h.2.2; omega, by have := h.2.2; omega⟩))
  replace HBK := Lib.hid (blk_keep HBK.out HPR.out hF2 (fun i h => HTY.out.1 h.1.symm))
  replace HR := Lib.hid (HR.out.ok rfl (runFs_one hst))
  clear hF2 hI2 hD2 hst HC1
  go_wp2_with fail
  refine hK.out _ _ (cell_at HBK.out 4) (fun hHeld => ?_)
  clear hK K
  try simp only [Act.put, List.setIfInBounds_toArray, List.set_cons_zero, List.set_cons_succ]
  refine wpAnyH_done (by kernel_rfl) ?_ _
  try simp only [Act.put, List.setIfInBounds_toArray, List.set_cons_zero, List.set_cons_succ]
  go_wp2_with fail
  go_end0
  refine ⟨HF.out, ?_⟩
  rw [show runFs H entryW s [d0, d1, d2, d3, d4] = _ from HR.out.done]
  exact ⟨rfl, HI.out, HD0.out, HD1.out, HD2.out, HD3.out, HD4.out, trivial⟩
end Go.Proofs.YtiednacpmlilbaaDoor
