/-
  What the document says of two runs: walked.
-/
import Derived.Test.YtnainlemnkfpkaaFae
namespace Go.Proofs.Ytnainlemnkfpkaa
open Go.RowKit
set_option linter.unusedSimpArgs false
set_option linter.unusedVariables false

def Q2 (a b : List Int) (k : Nat) : List Int := if k = 0 then a else b
theorem wk_r1 : natL (runL [1, 1] (Q2 [10, 10] [10, 10]) 2) = [0, 1, 0, 1] := by decide +kernel
theorem wk_r2 : natL (runL [3, 1] (Q2 [10, 10, 10] [10, 10]) 2) = [0, 1, 0, 0, 1] := by decide +kernel
theorem okq2 {a b : List Int} (h : a.length + b.length ≤ 1000) (ha : ∀ x ∈ a, 1 ≤ x ∧ x ≤ 1500) (hb : ∀ x ∈ b, 1 ≤ x ∧ x ≤ 1500) : okQ (Q2 a b) 2 := by
  refine ⟨by simp [totQ, Q2]; omega, fun k hk x hx => ?_⟩
  rcases (show k = 0 ∨ k = 1 by omega) with rfl | rfl
  · exact ha x hx
  · exact hb x hx
theorem okwt2 {a b : Int} (ha : 1 ≤ a ∧ a ≤ 16) (hb : 1 ≤ b ∧ b ≤ 16) : okWt [a, b] := by
  refine ⟨by simp, by simp, fun k hk => ?_⟩
  rcases (show k = 0 ∨ k = 1 by simp at hk; omega) with rfl | rfl
  · simpa [gI] using ha
  · simpa [gI] using hb
theorem inv_lit {W : World} {N : Nat} {L : List Int} (h : Blk W N (inL L).toArray 3) (ho : okI L) (hl : L.length ≤ 1000) : InV W (.slice (some ⟨N, 0, none⟩) L.length L.length) L := by
  refine ⟨_, N, 0, L.length, rfl, Nat.le_refl _, by unfold maxLen; omega, fun _ => ⟨rfl, h.lt⟩, fun k hk => ?_, fun k hk => ho _ (List.mem_of_getElem? (gI_lt hk))⟩
  rw [cell_at h, List.getElem?_toArray, Nat.zero_add]
  rw [inL_at, gI_lt hk]
  rfl
theorem qin_two {W : World} {N : Nat} {v0 v1 : Value} {a b : List Int} (h : Blk W N #[v0, v1] 22) (h0 : InV W v0 a) (h1 : InV W v1 b) : QIn W (some ⟨N, 0, none⟩) 2 2 N 0 (fun k => if k = 0 then v0 else v1) (Q2 a b) := by
  refine ⟨Nat.le_refl _, by unfold maxLen; omega, fun _ => ⟨rfl, h.lt⟩, fun k hk => ?_, fun k hk => ?_⟩
  · rcases (show k = 0 ∨ k = 1 by omega) with rfl | rfl
    · exact cell_at h 0
    · exact cell_at h 1
  · rcases (show k = 0 ∨ k = 1 by omega) with rfl | rfl
    · exact h0
    · exact h1
theorem wrun {w : World} {va : Value} {L a b : List Int} {R : List Int} {N : Nat} {v0 v1 : Value} (hv : InV w va L) (h : Blk w N #[v0, v1] 22) (h0 : InV w v0 a) (h1 : InV w v1 b) (hw : okWt L) (h2 : L.length = 2) (hq : okQ (Q2 a b) 2) (hl : a.length ≤ 1000 ∧ b.length ≤ 1000) (hR : natL (runL L (Q2 a b) 2) = R) :
    Calls Try.prog 16 #[va, .slice (some ⟨N, 0, none⟩) 2 2] w fun e w' => ∃ v, e = .returned v ∧ InV w' v R ∧ Below w.heap.size w w' := by
  refine (frun_any va L _ 2 2 N 0 _ _ w hv (qin_two h h0 h1) (by omega) (fun k hk => by unfold Q2; split <;> omega)).mono ?_
  rintro e w' ⟨v, rfl, ⟨ob, R', hi, hr⟩, hB⟩
  rcases hr with ⟨_, rfl⟩ | ⟨hn, _⟩
  · exact ⟨v, rfl, by rw [← hR]; exact hi.v, hB⟩
  · exact absurd ⟨hw, h2, hq⟩ hn
theorem wrun0 {w : World} {va : Value} {L : List Int} (hv : InV w va L) (hl : L.length ≠ 0) :
    Calls Try.prog 16 #[va, .slice none 0 0] w fun e w' => ∃ c a, e = .returned (.slice a 0 c) ∧ Below w.heap.size w w' := by
  refine (frun_any va L none 0 0 0 0 (fun _ => .slice none 0 0) (fun _ => []) w hv ⟨Nat.le_refl _, by unfold maxLen; omega, fun h => absurd h (by omega), fun k h => absurd h (by omega), fun k h => absurd h (by omega)⟩ (by omega) (fun k h => absurd h (by omega))).mono ?_
  rintro e w' ⟨v, rfl, ⟨ob, R', hi, hr⟩, hB⟩
  rcases hr with ⟨hn, _⟩ | ⟨_, rfl⟩
  · exact absurd hn.2.1 hl
  · obtain ⟨a, n, c, rfl, HN, _, _⟩ := hi.v.sh
    have : n = 0 := HN.out
    subst this
    exact ⟨c, a, rfl, hB⟩
set_option maxRecDepth 100000 in
set_option maxHeartbeats 8000000 in
theorem fwakes_any (w : World) : Calls Try.prog 7 #[] w fun e w' => e = .returned (.bool true) ∧ Below w.heap.size w w' := by
  have HB0 : Hid (Below w.heap.size w w) := Lib.hid (Below.refl _ _)
  go_enter Try.func7, Try.ntmps7
  go_wp2_with fail
  obtain ⟨N0, hN0⟩ : ∃ N, N = w.heap.size := ⟨_, rfl⟩
  obtain ⟨X0_0, hX0_0⟩ : ∃ W, W = w.alloc (.cells #[.int .i64 1, .int .i64 1] 3) := ⟨_, rfl⟩
  have hB : Below w.heap.size w X0_0 := by rw [hX0_0]; exact alloc_b _ _
  replace HB0 := Lib.hid (HB0.out.trans (hB.mono HB0.out.size))
  have hs0_0 : X0_0.heap.size = N0 + 1 := by rw [hX0_0]; simp [← hN0]
  have K0_0 := Lib.hid (show Blk X0_0 N0 #[.int .i64 1, .int .i64 1] 3 by rw [hX0_0, hN0]; exact blk_new _ _ _)
  obtain ⟨X0_1, hX0_1⟩ : ∃ W, W = X0_0.alloc (.cells #[.int .i64 10, .int .i64 10] 3) := ⟨_, rfl⟩
  have hB : Below X0_0.heap.size X0_0 X0_1 := by rw [hX0_1]; exact alloc_b _ _
  replace K0_0 := Lib.hid (Blk.step K0_0.out hB)
  replace HB0 := Lib.hid (HB0.out.trans (hB.mono HB0.out.size))
  have hs0_1 : X0_1.heap.size = N0 + 1 + 1 := by rw [hX0_1]; simp [hs0_0]
  have K0_1 := Lib.hid (show Blk X0_1 (N0 + 1) #[.int .i64 10, .int .i64 10] 3 by rw [hX0_1, ← hs0_0]; exact blk_new _ _ _)
  obtain ⟨X0_2, hX0_2⟩ : ∃ W, W = X0_1.alloc (.cells #[.int .i64 10, .int .i64 10] 3) := ⟨_, rfl⟩
  have hB : Below X0_1.heap.size X0_1 X0_2 := by rw [hX0_2]; exact alloc_b _ _
  replace K0_0 := Lib.hid (Blk.step K0_0.out hB)
  replace K0_1 := Lib.hid (Blk.step K0_1.out hB)
  replace HB0 := Lib.hid (HB0.out.trans (hB.mono HB0.out.size))
  have hs0_2 : X0_2.heap.size = N0 + 1 + 1 + 1 := by rw [hX0_2]; simp [hs0_1]
  have K0_2 := Lib.hid (show Blk X0_2 (N0 + 1 + 1) #[.int .i64 10, .int .i64 10] 3 by rw [hX0_2, ← hs0_1]; exact blk_new _ _ _)
  obtain ⟨X0_3, hX0_3⟩ : ∃ W, W = X0_2.alloc (.cells #[.slice (some ⟨N0 + 1, 0, none⟩) 2 2, .slice (some ⟨N0 + 1 + 1, 0, none⟩) 2 2] 22) := ⟨_, rfl⟩
  have hB : Below X0_2.heap.size X0_2 X0_3 := by rw [hX0_3]; exact alloc_b _ _
  replace K0_0 := Lib.hid (Blk.step K0_0.out hB)
  replace K0_1 := Lib.hid (Blk.step K0_1.out hB)
  replace K0_2 := Lib.hid (Blk.step K0_2.out hB)
  replace HB0 := Lib.hid (HB0.out.trans (hB.mono HB0.out.size))
  have hs0_3 : X0_3.heap.size = N0 + 1 + 1 + 1 + 1 := by rw [hX0_3]; simp [hs0_2]
  have K0_3 := Lib.hid (show Blk X0_3 (N0 + 1 + 1 + 1) #[.slice (some ⟨N0 + 1, 0, none⟩) 2 2, .slice (some ⟨N0 + 1 + 1, 0, none⟩) 2 2] 22 by rw [hX0_3, ← hs0_2]; exact blk_new _ _ _)
  rw [← hN0, ← hX0_0, ← hX0_1, ← hX0_2, ← hX0_3]
  clear hs0_3 hs0_2 hs0_1 hs0_0 hX0_3 hX0_2 hX0_1 hX0_0 hN0 hB
  go_at_call 16
  go_fit (wrun (R := [0, 1, 0, 1]) (inv_lit (L := [1, 1]) K0_0.out (by intro x hx; simp at hx; omega) (by simp)) K0_3.out (inv_lit (L := [10, 10]) K0_1.out (by intro x hx; simp at hx; omega) (by simp)) (inv_lit (L := [10, 10]) K0_2.out (by intro x hx; simp at hx; omega) (by simp)) (okwt2 (by omega) (by omega)) rfl (okq2 (by simp) (by intro x hx; simp at hx; omega) (by intro x hx; simp at hx; omega)) (by simp) wk_r1)
  rintro e Y1 ⟨v0, rfl, hv, hB⟩
  replace K0_0 := Lib.hid (Blk.step K0_0.out hB)
  replace K0_1 := Lib.hid (Blk.step K0_1.out hB)
  replace K0_2 := Lib.hid (Blk.step K0_2.out hB)
  replace K0_3 := Lib.hid (Blk.step K0_3.out hB)
  replace HB0 := Lib.hid (HB0.out.trans (hB.mono HB0.out.size))
  clear hB
  have V0 := Lib.hid hv
  clear hv
  obtain ⟨va0, vn0, vc0, rfl, _, _, _⟩ := V0.out.sh
  go_wp2_with fail
  obtain ⟨N1, hN1⟩ : ∃ N, N = Y1.heap.size := ⟨_, rfl⟩
  obtain ⟨X1_0, hX1_0⟩ : ∃ W, W = Y1.alloc (.cells #[.int .i64 0, .int .i64 1, .int .i64 0, .int .i64 1] 3) := ⟨_, rfl⟩
  have hB : Below Y1.heap.size Y1 X1_0 := by rw [hX1_0]; exact alloc_b _ _
  replace V0 := Lib.hid (V0.out.below hB)
  replace HB0 := Lib.hid (HB0.out.trans (hB.mono HB0.out.size))
  have hs1_0 : X1_0.heap.size = N1 + 1 := by rw [hX1_0]; simp [← hN1]
  have K1_0 := Lib.hid (show Blk X1_0 N1 #[.int .i64 0, .int .i64 1, .int .i64 0, .int .i64 1] 3 by rw [hX1_0, hN1]; exact blk_new _ _ _)
  rw [← hN1, ← hX1_0]
  clear hs1_0 hX1_0 hN1 hB
  go_at_call 15
  go_fit (frow_any _ _ [0, 1, 0, 1] _ V0.out (inv_lit (L := [0, 1, 0, 1]) K1_0.out (by intro x hx; simp at hx; omega) (by simp)))
  rintro e Y2 ⟨rfl, hB⟩
  replace V0 := Lib.hid (V0.out.below hB)
  replace K1_0 := Lib.hid (Blk.step K1_0.out hB)
  replace HB0 := Lib.hid (HB0.out.trans (hB.mono HB0.out.size))
  clear hB
  go_wp2_with fail
  obtain ⟨N2, hN2⟩ : ∃ N, N = Y2.heap.size := ⟨_, rfl⟩
  obtain ⟨X2_0, hX2_0⟩ : ∃ W, W = Y2.alloc (.cells #[.int .i64 3, .int .i64 1] 3) := ⟨_, rfl⟩
  have hB : Below Y2.heap.size Y2 X2_0 := by rw [hX2_0]; exact alloc_b _ _
  replace HB0 := Lib.hid (HB0.out.trans (hB.mono HB0.out.size))
  have hs2_0 : X2_0.heap.size = N2 + 1 := by rw [hX2_0]; simp [← hN2]
  have K2_0 := Lib.hid (show Blk X2_0 N2 #[.int .i64 3, .int .i64 1] 3 by rw [hX2_0, hN2]; exact blk_new _ _ _)
  obtain ⟨X2_1, hX2_1⟩ : ∃ W, W = X2_0.alloc (.cells #[.int .i64 10, .int .i64 10, .int .i64 10] 3) := ⟨_, rfl⟩
  have hB : Below X2_0.heap.size X2_0 X2_1 := by rw [hX2_1]; exact alloc_b _ _
  replace K2_0 := Lib.hid (Blk.step K2_0.out hB)
  replace HB0 := Lib.hid (HB0.out.trans (hB.mono HB0.out.size))
  have hs2_1 : X2_1.heap.size = N2 + 1 + 1 := by rw [hX2_1]; simp [hs2_0]
  have K2_1 := Lib.hid (show Blk X2_1 (N2 + 1) #[.int .i64 10, .int .i64 10, .int .i64 10] 3 by rw [hX2_1, ← hs2_0]; exact blk_new _ _ _)
  obtain ⟨X2_2, hX2_2⟩ : ∃ W, W = X2_1.alloc (.cells #[.int .i64 10, .int .i64 10] 3) := ⟨_, rfl⟩
  have hB : Below X2_1.heap.size X2_1 X2_2 := by rw [hX2_2]; exact alloc_b _ _
  replace K2_0 := Lib.hid (Blk.step K2_0.out hB)
  replace K2_1 := Lib.hid (Blk.step K2_1.out hB)
  replace HB0 := Lib.hid (HB0.out.trans (hB.mono HB0.out.size))
  have hs2_2 : X2_2.heap.size = N2 + 1 + 1 + 1 := by rw [hX2_2]; simp [hs2_1]
  have K2_2 := Lib.hid (show Blk X2_2 (N2 + 1 + 1) #[.int .i64 10, .int .i64 10] 3 by rw [hX2_2, ← hs2_1]; exact blk_new _ _ _)
  obtain ⟨X2_3, hX2_3⟩ : ∃ W, W = X2_2.alloc (.cells #[.slice (some ⟨N2 + 1, 0, none⟩) 3 3, .slice (some ⟨N2 + 1 + 1, 0, none⟩) 2 2] 22) := ⟨_, rfl⟩
  have hB : Below X2_2.heap.size X2_2 X2_3 := by rw [hX2_3]; exact alloc_b _ _
  replace K2_0 := Lib.hid (Blk.step K2_0.out hB)
  replace K2_1 := Lib.hid (Blk.step K2_1.out hB)
  replace K2_2 := Lib.hid (Blk.step K2_2.out hB)
  replace HB0 := Lib.hid (HB0.out.trans (hB.mono HB0.out.size))
  have hs2_3 : X2_3.heap.size = N2 + 1 + 1 + 1 + 1 := by rw [hX2_3]; simp [hs2_2]
  have K2_3 := Lib.hid (show Blk X2_3 (N2 + 1 + 1 + 1) #[.slice (some ⟨N2 + 1, 0, none⟩) 3 3, .slice (some ⟨N2 + 1 + 1, 0, none⟩) 2 2] 22 by rw [hX2_3, ← hs2_2]; exact blk_new _ _ _)
  rw [← hN2, ← hX2_0, ← hX2_1, ← hX2_2, ← hX2_3]
  clear hs2_3 hs2_2 hs2_1 hs2_0 hX2_3 hX2_2 hX2_1 hX2_0 hN2 hB
  go_at_call 16
  go_fit (wrun (R := [0, 1, 0, 0, 1]) (inv_lit (L := [3, 1]) K2_0.out (by intro x hx; simp at hx; omega) (by simp)) K2_3.out (inv_lit (L := [10, 10, 10]) K2_1.out (by intro x hx; simp at hx; omega) (by simp)) (inv_lit (L := [10, 10]) K2_2.out (by intro x hx; simp at hx; omega) (by simp)) (okwt2 (by omega) (by omega)) rfl (okq2 (by simp) (by intro x hx; simp at hx; omega) (by intro x hx; simp at hx; omega)) (by simp) wk_r2)
  rintro e Y3 ⟨v2, rfl, hv, hB⟩
  replace K2_0 := Lib.hid (Blk.step K2_0.out hB)
  replace K2_1 := Lib.hid (Blk.step K2_1.out hB)
  replace K2_2 := Lib.hid (Blk.step K2_2.out hB)
  replace K2_3 := Lib.hid (Blk.step K2_3.out hB)
  replace HB0 := Lib.hid (HB0.out.trans (hB.mono HB0.out.size))
  clear hB
  have V2 := Lib.hid hv
  clear hv
  obtain ⟨va2, vn2, vc2, rfl, _, _, _⟩ := V2.out.sh
  go_wp2_with fail
  obtain ⟨N3, hN3⟩ : ∃ N, N = Y3.heap.size := ⟨_, rfl⟩
  obtain ⟨X3_0, hX3_0⟩ : ∃ W, W = Y3.alloc (.cells #[.int .i64 0, .int .i64 1, .int .i64 0, .int .i64 0, .int .i64 1] 3) := ⟨_, rfl⟩
  have hB : Below Y3.heap.size Y3 X3_0 := by rw [hX3_0]; exact alloc_b _ _
  replace V2 := Lib.hid (V2.out.below hB)
  replace HB0 := Lib.hid (HB0.out.trans (hB.mono HB0.out.size))
  have hs3_0 : X3_0.heap.size = N3 + 1 := by rw [hX3_0]; simp [← hN3]
  have K3_0 := Lib.hid (show Blk X3_0 N3 #[.int .i64 0, .int .i64 1, .int .i64 0, .int .i64 0, .int .i64 1] 3 by rw [hX3_0, hN3]; exact blk_new _ _ _)
  rw [← hN3, ← hX3_0]
  clear hs3_0 hX3_0 hN3 hB
  go_at_call 15
  go_fit (frow_any _ _ [0, 1, 0, 0, 1] _ V2.out (inv_lit (L := [0, 1, 0, 0, 1]) K3_0.out (by intro x hx; simp at hx; omega) (by simp)))
  rintro e Y4 ⟨rfl, hB⟩
  replace V2 := Lib.hid (V2.out.below hB)
  replace K3_0 := Lib.hid (Blk.step K3_0.out hB)
  replace HB0 := Lib.hid (HB0.out.trans (hB.mono HB0.out.size))
  clear hB
  go_wp2_with fail
  obtain ⟨N4, hN4⟩ : ∃ N, N = Y4.heap.size := ⟨_, rfl⟩
  obtain ⟨X4_0, hX4_0⟩ : ∃ W, W = Y4.alloc (.cells #[.int .i64 1] 3) := ⟨_, rfl⟩
  have hB : Below Y4.heap.size Y4 X4_0 := by rw [hX4_0]; exact alloc_b _ _
  replace HB0 := Lib.hid (HB0.out.trans (hB.mono HB0.out.size))
  have hs4_0 : X4_0.heap.size = N4 + 1 := by rw [hX4_0]; simp [← hN4]
  have K4_0 := Lib.hid (show Blk X4_0 N4 #[.int .i64 1] 3 by rw [hX4_0, hN4]; exact blk_new _ _ _)
  rw [← hN4, ← hX4_0]
  clear hs4_0 hX4_0 hN4 hB
  go_at_call 16
  go_fit (wrun0 (inv_lit (L := [1]) K4_0.out (by intro x hx; simp at hx; omega) (by simp)) (by simp))
  rintro e Y5 ⟨cc, aa, rfl, hB⟩
  replace K4_0 := Lib.hid (Blk.step K4_0.out hB)
  replace HB0 := Lib.hid (HB0.out.trans (hB.mono HB0.out.size))
  clear hB
  go_wp2_with fail
  go_ret
  exact ⟨rfl, HB0.out⟩
end Go.Proofs.Ytnainlemnkfpkaa
