/-
  What the document says of a few rows.
-/
import Derived.Test.YtcadinoijclfnaaRoi
import Derived.Test.YtcadinoijclfnaaRo8
import Derived.Test.YtcadinoijclfnaaFw6
import Derived.Deep.DeepFit
namespace Go.Proofs.Ytcadinoijclfnaa
open Go.RowKit
set_option linter.unusedSimpArgs false
set_option linter.unusedVariables false

theorem rv_one {W : World} {b : Nat} {t : Int} (h : Blk W b #[.int .i64 t, .int .i8 0, .int .i64 0, .int .u8 0, .slice none 0 0] 47) (ht : -9223372036854775808 ≤ t ∧ t ≤ 9223372036854775807) : RV W (.slice (some ⟨b, 0, none⟩) 1 1) [tD t] := by
  refine ⟨some ⟨b, 0, none⟩, 1, b, 0, fun _ => tE t, rfl, ⟨Nat.le_refl _, by unfold maxLen; simp, fun _ => ⟨rfl, h.lt⟩, fun k hk i hi => ?_, fun k hk => tE_by t W⟩, one_p t, one_ok ht, by simp⟩
  obtain rfl : k = 0 := by simpa using hk
  rw [Nat.zero_mul, Nat.zero_add, cell_at h]
  match i, hi with
  | 0, _ => rfl
  | 1, _ => rfl
  | 2, _ => rfl
  | 3, _ => rfl
  | 4, _ => rfl
theorem lastL_any (base term : Int) (v : Value) (L : List EnD) (w : World) (h : RV w v L) (hk : okE base term L = 0) : Calls Try.prog 26 #[.agg #[.int .i64 base, .int .i64 term, v]] w fun e w' => e = .returned (.tuple #[.int .i64 (base + L.length), .int .i64 (termL base term L (base + L.length))]) ∧ Below w.heap.size w w' := by
  obtain ⟨a, c, g, o, F, rfl, h1, h2, h3, h4⟩ := h
  have := rowsLast_any base term a L.length c g o (fun k => (F k).ent) w (rv_ents h1 rfl h2 h3 h4)
  rw [okR_rows base term h2, okR_of hk, if_pos rfl, if_pos rfl] at this
  have e : lastT term L.length (fun k => (F k).ent) = termL base term L (base + L.length) := by
    rw [← termL_I base term _ h2 (by omega) (Int.le_refl _)]
    unfold lastT termI
    by_cases h0 : L.length = 0
    · rw [if_pos h0, if_pos (by omega)]
    · rw [if_neg h0, if_neg (by omega), show (base + (L.length : Int) - base - 1).toNat = L.length - 1 by omega]
  rwa [e] at this
def T1 (k : Nat) : Int := if k = 2 then 2 else 1
def T2 (k : Nat) : Int := if k = 0 then 2 else 1
theorem wr1 : tL T1 3 = [tD 1, tD 1, tD 2] := by kernel_rfl
theorem wr2 : tL T2 2 = [tD 2, tD 1] := by kernel_rfl
theorem wr3 : putF 0 0 [tD 1, tD 1, tD 2] 2 1 [tD 3] = ⟨0, 0, [tD 1, tD 1, tD 3], 3, true, 0⟩ := by kernel_rfl
theorem wr4 : putF 0 0 [tD 1, tD 1, tD 2] 5 2 [] = ⟨0, 0, [tD 1, tD 1, tD 2], 3, false, 0⟩ := by kernel_rfl
theorem wr5 : okE 0 0 [tD 1, tD 1, tD 3] = 0 := by kernel_rfl
theorem wr6 : termL 0 0 [tD 1, tD 1, tD 3] (0 + (([tD 1, tD 1, tD 3] : List EnD).length : Int)) = 3 := by kernel_rfl
theorem wr7 : okE 0 0 [tD 1, tD 1, tD 2] = 0 := by kernel_rfl
theorem wr8 : okE 0 0 [tD 2, tD 1] = 90 := by kernel_rfl
theorem T1_b : ∀ k, -9223372036854775808 ≤ T1 k ∧ T1 k ≤ 9223372036854775807 := fun k => by unfold T1; split <;> omega
theorem T2_b : ∀ k, -9223372036854775808 ≤ T2 k ∧ T2 k ≤ 9223372036854775807 := fun k => by unfold T2; split <;> omega
set_option maxRecDepth 100000 in
set_option maxHeartbeats 16000000 in
theorem rwakes_any (w : World) : Calls Try.prog 10 #[] w fun e w' => e = .returned (.bool true) ∧ Below w.heap.size w w' := by
  have HB : Hid (Below w.heap.size w w) := Lib.hid (Below.refl _ _)
  go_enter Try.func10, Try.ntmps10
  go_wp2_with fail
  go_at_call 31
  obtain ⟨S1, hS1⟩ : ∃ n0, n0 = w.heap.size := ⟨_, rfl⟩
  have HLOS1 : Hid (w.heap.size ≤ S1) := Lib.hid (by have := HB.out.size; omega)
  obtain ⟨W1, hA0⟩ : ∃ W0, W0 = w.alloc (.cells #[.int .i64 1, .int .i64 1, .int .i64 2] 3) := ⟨_, rfl⟩
  have hB : Below w.heap.size w W1 := by rw [hA0]; exact (Below.refl _ _).alloc (Nat.le_refl _) _
  have hS0 : W1.heap.size = S1 + 1 := by rw [hA0]; simp [← hS1]
  have HE := Lib.hid (show Blk W1 S1 #[.int .i64 1, .int .i64 1, .int .i64 2] 3 by rw [hA0, hS1]; exact blk_new _ _ _)
  replace HB := Lib.hid (HB.out.trans (hB.mono HB.out.size))
  clear hB
  have HSS1 := Lib.hid hS0
  rw [← hS1, ← hA0]
  clear hA0 hS1 hS0
  have C1 := Lib.hid (terms_any S1 3 3 T1 W1 HE.out.lt (by omega) (by unfold maxLen; omega) (fun k hk => by
    obtain rfl | rfl | rfl : k = 0 ∨ k = 1 ∨ k = 2 := by omega
    · exact cell_at HE.out 0
    · exact cell_at HE.out 1
    · exact cell_at HE.out 2) T1_b)
  rw [wr1] at C1
  go_fit C1.out
  rintro e W2 ⟨v1, rfl, hv1, hB⟩
  replace HB := Lib.hid (HB.out.trans (hB.mono HB.out.size))
  replace HE := Lib.hid (HE.out.step hB)
  clear hB
  obtain ⟨a1, n1, c1, rfl, Hn1, n11, n12, n13⟩ := hv1.sh
  have HV1 := Lib.hid hv1
  clear hv1
  go_upto_region 2 with fail
  obtain ⟨A9, hA9⟩ : ∃ n0, n0 = W2.heap.size := ⟨_, rfl⟩
  have HXA9HE : Hid (S1 < A9) := Lib.hid (by rw [hA9]; exact HE.out.lt)
  have HLOA9 : Hid (w.heap.size ≤ A9) := Lib.hid (by have := HB.out.size; omega)
  obtain ⟨W3, hA0⟩ : ∃ W0, W0 = W2.alloc (.cells #[.int .i64 0, .int .i64 0, .slice a1 n1 c1] 24) := ⟨_, rfl⟩
  have hB : Below W2.heap.size W2 W3 := by rw [hA0]; exact (Below.refl _ _).alloc (Nat.le_refl _) _
  have hS0 : W3.heap.size = A9 + 1 := by rw [hA0]; simp [← hA9]
  have HA := Lib.hid (show Blk W3 A9 #[.int .i64 0, .int .i64 0, .slice a1 n1 c1] 24 by rw [hA0, hA9]; exact blk_new _ _ _)
  replace HB := Lib.hid (HB.out.trans (hB.mono HB.out.size))
  replace HE := Lib.hid (HE.out.step hB)
  replace HV1 := Lib.hid (HV1.out.below hB)
  clear hB
  have HSA9 := Lib.hid hS0
  rw [← hA9, ← hA0]
  clear hA0 hA9 hS0
  have qA0 : W3.cell? ⟨A9, 0, none⟩ = some (.int .i64 0) := cell_at HA.out 0
  have qA1 : W3.cell? ⟨A9, 1, none⟩ = some (.int .i64 0) := cell_at HA.out 1
  have qA2 : W3.cell? ⟨A9, 2, none⟩ = some (.slice a1 n1 c1) := cell_at HA.out 2
  have qAz : ∀ j, W3.frozen? ⟨A9, j, none⟩ = false := fun j => free_at HA.out j
  have qAl : A9 < W3.heap.size := HA.out.lt
  go_wp2_with fail
  go_at_call 19
  clear qA0 qA1 qA2 qAz qAl
  obtain ⟨S2, hS2⟩ : ∃ n0, n0 = W3.heap.size := ⟨_, rfl⟩
  have HXS2HE : Hid (S1 < S2) := Lib.hid (by rw [hS2]; exact HE.out.lt)
  have HXS2HA : Hid (A9 < S2) := Lib.hid (by rw [hS2]; exact HA.out.lt)
  have HLOS2 : Hid (w.heap.size ≤ S2) := Lib.hid (by have := HB.out.size; omega)
  obtain ⟨W4, hA0⟩ : ∃ W0, W0 = W3.alloc (.cells #[.int .i64 3, .int .i8 0, .int .i64 0, .int .u8 0, .slice none 0 0] 47) := ⟨_, rfl⟩
  have hB : Below W3.heap.size W3 W4 := by rw [hA0]; exact (Below.refl _ _).alloc (Nat.le_refl _) _
  have hS0 : W4.heap.size = S2 + 1 := by rw [hA0]; simp [← hS2]
  have HE2 := Lib.hid (show Blk W4 S2 #[.int .i64 3, .int .i8 0, .int .i64 0, .int .u8 0, .slice none 0 0] 47 by rw [hA0, hS2]; exact blk_new _ _ _)
  replace HB := Lib.hid (HB.out.trans (hB.mono HB.out.size))
  replace HE := Lib.hid (HE.out.step hB)
  replace HV1 := Lib.hid (HV1.out.below hB)
  replace HA := Lib.hid (HA.out.step hB)
  clear hB
  have HSS2 := Lib.hid hS0
  rw [← hS2, ← hA0]
  clear hA0 hS2 hS0
  have C2 := Lib.hid (put_any 0 0 2 1 _ _ _ _ W4 HV1.out (rv_one HE2.out (by omega)) (by simp))
  rw [wr3] at C2
  unfold RwOut at C2
  go_fit C2.out
  rintro e W5 ⟨⟨v2, rfl, hv2⟩, hB⟩
  replace HB := Lib.hid (HB.out.trans (hB.mono HB.out.size))
  replace HE := Lib.hid (HE.out.step hB)
  replace HV1 := Lib.hid (HV1.out.below hB)
  replace HA := Lib.hid (HA.out.step hB)
  replace HE2 := Lib.hid (HE2.out.step hB)
  clear hB
  obtain ⟨a2, n2, c2, rfl, Hn2, n21, n22, n23⟩ := hv2.sh
  have HV2 := Lib.hid hv2
  clear hv2
  go_upto_region 3 with fail
  obtain ⟨D9, hD9⟩ : ∃ n0, n0 = W5.heap.size := ⟨_, rfl⟩
  have HXD9HE : Hid (S1 < D9) := Lib.hid (by rw [hD9]; exact HE.out.lt)
  have HXD9HA : Hid (A9 < D9) := Lib.hid (by rw [hD9]; exact HA.out.lt)
  have HXD9HE2 : Hid (S2 < D9) := Lib.hid (by rw [hD9]; exact HE2.out.lt)
  have HLOD9 : Hid (w.heap.size ≤ D9) := Lib.hid (by have := HB.out.size; omega)
  obtain ⟨W6, hA0⟩ : ∃ W0, W0 = W5.alloc (.cells #[.int .i64 0, .int .i64 0, .slice a2 n2 c2] 24) := ⟨_, rfl⟩
  have hB : Below W5.heap.size W5 W6 := by rw [hA0]; exact (Below.refl _ _).alloc (Nat.le_refl _) _
  have hS0 : W6.heap.size = D9 + 1 := by rw [hA0]; simp [← hD9]
  have HBB := Lib.hid (show Blk W6 D9 #[.int .i64 0, .int .i64 0, .slice a2 n2 c2] 24 by rw [hA0, hD9]; exact blk_new _ _ _)
  replace HB := Lib.hid (HB.out.trans (hB.mono HB.out.size))
  replace HE := Lib.hid (HE.out.step hB)
  replace HV1 := Lib.hid (HV1.out.below hB)
  replace HA := Lib.hid (HA.out.step hB)
  replace HE2 := Lib.hid (HE2.out.step hB)
  replace HV2 := Lib.hid (HV2.out.below hB)
  clear hB
  have HSD9 := Lib.hid hS0
  rw [← hD9, ← hA0]
  clear hA0 hD9 hS0
  have qA0 : W6.cell? ⟨A9, 0, none⟩ = some (.int .i64 0) := cell_at HA.out 0
  have qA1 : W6.cell? ⟨A9, 1, none⟩ = some (.int .i64 0) := cell_at HA.out 1
  have qA2 : W6.cell? ⟨A9, 2, none⟩ = some (.slice a1 n1 c1) := cell_at HA.out 2
  have qAz : ∀ j, W6.frozen? ⟨A9, j, none⟩ = false := fun j => free_at HA.out j
  have qAl : A9 < W6.heap.size := HA.out.lt
  have C3 := Lib.hid (fun W h => put_any 0 0 5 2 (.slice a1 n1 c1) (.slice none 0 0) [tD 1, tD 1, tD 2] [] W h (rv_nil W) (by simp))
  rw [wr4] at C3
  unfold RwOut at C3
  go_wp2_with fail
  go_at_call 19
  go_fit (C3.out _ HV1.out)
  rintro e W7 ⟨⟨v3, rfl, hv3⟩, hB⟩
  clear qA0 qA1 qA2 qAz qAl
  replace HB := Lib.hid (HB.out.trans (hB.mono HB.out.size))
  replace HE := Lib.hid (HE.out.step hB)
  replace HV1 := Lib.hid (HV1.out.below hB)
  replace HA := Lib.hid (HA.out.step hB)
  replace HE2 := Lib.hid (HE2.out.step hB)
  replace HV2 := Lib.hid (HV2.out.below hB)
  replace HBB := Lib.hid (HBB.out.step hB)
  clear hB
  obtain ⟨a3, n3, c3, rfl, Hn3, n31, n32, n33⟩ := hv3.sh
  have HV3 := Lib.hid hv3
  clear hv3
  go_upto_region 4 with fail
  obtain ⟨E9, hE9⟩ : ∃ n0, n0 = W7.heap.size := ⟨_, rfl⟩
  have HXE9HE : Hid (S1 < E9) := Lib.hid (by rw [hE9]; exact HE.out.lt)
  have HXE9HA : Hid (A9 < E9) := Lib.hid (by rw [hE9]; exact HA.out.lt)
  have HXE9HE2 : Hid (S2 < E9) := Lib.hid (by rw [hE9]; exact HE2.out.lt)
  have HXE9HBB : Hid (D9 < E9) := Lib.hid (by rw [hE9]; exact HBB.out.lt)
  have HLOE9 : Hid (w.heap.size ≤ E9) := Lib.hid (by have := HB.out.size; omega)
  obtain ⟨W8, hA0⟩ : ∃ W0, W0 = W7.alloc (.cells #[.int .i64 0, .int .i64 0, .slice a3 n3 c3] 24) := ⟨_, rfl⟩
  have hB : Below W7.heap.size W7 W8 := by rw [hA0]; exact (Below.refl _ _).alloc (Nat.le_refl _) _
  have hS0 : W8.heap.size = E9 + 1 := by rw [hA0]; simp [← hE9]
  have HC := Lib.hid (show Blk W8 E9 #[.int .i64 0, .int .i64 0, .slice a3 n3 c3] 24 by rw [hA0, hE9]; exact blk_new _ _ _)
  replace HB := Lib.hid (HB.out.trans (hB.mono HB.out.size))
  replace HE := Lib.hid (HE.out.step hB)
  replace HV1 := Lib.hid (HV1.out.below hB)
  replace HA := Lib.hid (HA.out.step hB)
  replace HE2 := Lib.hid (HE2.out.step hB)
  replace HV2 := Lib.hid (HV2.out.below hB)
  replace HBB := Lib.hid (HBB.out.step hB)
  replace HV3 := Lib.hid (HV3.out.below hB)
  clear hB
  have HSE9 := Lib.hid hS0
  rw [← hE9, ← hA0]
  clear hA0 hE9 hS0
  have qBB0 : W8.cell? ⟨D9, 0, none⟩ = some (.int .i64 0) := cell_at HBB.out 0
  have qBB1 : W8.cell? ⟨D9, 1, none⟩ = some (.int .i64 0) := cell_at HBB.out 1
  have qBB2 : W8.cell? ⟨D9, 2, none⟩ = some (.slice a2 n2 c2) := cell_at HBB.out 2
  have qBBz : ∀ j, W8.frozen? ⟨D9, j, none⟩ = false := fun j => free_at HBB.out j
  have qBBl : D9 < W8.heap.size := HBB.out.lt
  have C4 := Lib.hid (fun W h => lastL_any 0 0 (.slice a2 n2 c2) [tD 1, tD 1, tD 3] W h wr5)
  rw [wr6] at C4
  go_wp2_with fail
  go_at_call 26
  go_fit (C4.out _ HV2.out)
  rintro e W9 ⟨rfl, hB⟩
  clear qBB0 qBB1 qBB2 qBBz qBBl
  replace HB := Lib.hid (HB.out.trans (hB.mono HB.out.size))
  replace HE := Lib.hid (HE.out.step hB)
  replace HV1 := Lib.hid (HV1.out.below hB)
  replace HA := Lib.hid (HA.out.step hB)
  replace HE2 := Lib.hid (HE2.out.step hB)
  replace HV2 := Lib.hid (HV2.out.below hB)
  replace HBB := Lib.hid (HBB.out.step hB)
  replace HV3 := Lib.hid (HV3.out.below hB)
  replace HC := Lib.hid (HC.out.step hB)
  clear hB
  have qA0 : W9.cell? ⟨A9, 0, none⟩ = some (.int .i64 0) := cell_at HA.out 0
  have qA1 : W9.cell? ⟨A9, 1, none⟩ = some (.int .i64 0) := cell_at HA.out 1
  have qA2 : W9.cell? ⟨A9, 2, none⟩ = some (.slice a1 n1 c1) := cell_at HA.out 2
  have qAz : ∀ j, W9.frozen? ⟨A9, j, none⟩ = false := fun j => free_at HA.out j
  have qAl : A9 < W9.heap.size := HA.out.lt
  have C5 := Lib.hid (fun W h => checkR_any 0 0 (.slice a1 n1 c1) [tD 1, tD 1, tD 2] W h)
  rw [wr7] at C5
  go_wp2_with fail
  go_at_call 25
  go_fit (C5.out _ HV1.out)
  rintro e W10 ⟨rfl, hB⟩
  clear qA0 qA1 qA2 qAz qAl
  replace HB := Lib.hid (HB.out.trans (hB.mono HB.out.size))
  replace HE := Lib.hid (HE.out.step hB)
  replace HV1 := Lib.hid (HV1.out.below hB)
  replace HA := Lib.hid (HA.out.step hB)
  replace HE2 := Lib.hid (HE2.out.step hB)
  replace HV2 := Lib.hid (HV2.out.below hB)
  replace HBB := Lib.hid (HBB.out.step hB)
  replace HV3 := Lib.hid (HV3.out.below hB)
  replace HC := Lib.hid (HC.out.step hB)
  clear hB
  go_wp2_with fail
  go_at_call 31
  obtain ⟨S3, hS3⟩ : ∃ n0, n0 = W10.heap.size := ⟨_, rfl⟩
  have HXS3HE : Hid (S1 < S3) := Lib.hid (by rw [hS3]; exact HE.out.lt)
  have HXS3HA : Hid (A9 < S3) := Lib.hid (by rw [hS3]; exact HA.out.lt)
  have HXS3HE2 : Hid (S2 < S3) := Lib.hid (by rw [hS3]; exact HE2.out.lt)
  have HXS3HBB : Hid (D9 < S3) := Lib.hid (by rw [hS3]; exact HBB.out.lt)
  have HXS3HC : Hid (E9 < S3) := Lib.hid (by rw [hS3]; exact HC.out.lt)
  have HLOS3 : Hid (w.heap.size ≤ S3) := Lib.hid (by have := HB.out.size; omega)
  obtain ⟨W11, hA0⟩ : ∃ W0, W0 = W10.alloc (.cells #[.int .i64 2, .int .i64 1] 3) := ⟨_, rfl⟩
  have hB : Below W10.heap.size W10 W11 := by rw [hA0]; exact (Below.refl _ _).alloc (Nat.le_refl _) _
  have hS0 : W11.heap.size = S3 + 1 := by rw [hA0]; simp [← hS3]
  have HE3 := Lib.hid (show Blk W11 S3 #[.int .i64 2, .int .i64 1] 3 by rw [hA0, hS3]; exact blk_new _ _ _)
  replace HB := Lib.hid (HB.out.trans (hB.mono HB.out.size))
  replace HE := Lib.hid (HE.out.step hB)
  replace HV1 := Lib.hid (HV1.out.below hB)
  replace HA := Lib.hid (HA.out.step hB)
  replace HE2 := Lib.hid (HE2.out.step hB)
  replace HV2 := Lib.hid (HV2.out.below hB)
  replace HBB := Lib.hid (HBB.out.step hB)
  replace HV3 := Lib.hid (HV3.out.below hB)
  replace HC := Lib.hid (HC.out.step hB)
  clear hB
  have HSS3 := Lib.hid hS0
  rw [← hS3, ← hA0]
  clear hA0 hS3 hS0
  have C6 := Lib.hid (terms_any S3 2 2 T2 W11 HE3.out.lt (by omega) (by unfold maxLen; omega) (fun k hk => by
    obtain rfl | rfl : k = 0 ∨ k = 1 := by omega
    · exact cell_at HE3.out 0
    · exact cell_at HE3.out 1) T2_b)
  rw [wr2] at C6
  go_fit C6.out
  rintro e W12 ⟨v4, rfl, hv4, hB⟩
  replace HB := Lib.hid (HB.out.trans (hB.mono HB.out.size))
  replace HE := Lib.hid (HE.out.step hB)
  replace HV1 := Lib.hid (HV1.out.below hB)
  replace HA := Lib.hid (HA.out.step hB)
  replace HE2 := Lib.hid (HE2.out.step hB)
  replace HV2 := Lib.hid (HV2.out.below hB)
  replace HBB := Lib.hid (HBB.out.step hB)
  replace HV3 := Lib.hid (HV3.out.below hB)
  replace HC := Lib.hid (HC.out.step hB)
  replace HE3 := Lib.hid (HE3.out.step hB)
  clear hB
  obtain ⟨a4, n4, c4, rfl, Hn4, n41, n42, n43⟩ := hv4.sh
  have HV4 := Lib.hid hv4
  clear hv4
  have C7 := Lib.hid (fun W h => checkR_any 0 0 (.slice a4 n4 c4) [tD 2, tD 1] W h)
  rw [wr8] at C7
  go_wp2_with fail
  go_at_call 25
  go_fit (C7.out _ HV4.out)
  rintro e W13 ⟨rfl, hB⟩
  replace HB := Lib.hid (HB.out.trans (hB.mono HB.out.size))
  replace HE := Lib.hid (HE.out.step hB)
  replace HV1 := Lib.hid (HV1.out.below hB)
  replace HA := Lib.hid (HA.out.step hB)
  replace HE2 := Lib.hid (HE2.out.step hB)
  replace HV2 := Lib.hid (HV2.out.below hB)
  replace HBB := Lib.hid (HBB.out.step hB)
  replace HV3 := Lib.hid (HV3.out.below hB)
  replace HC := Lib.hid (HC.out.step hB)
  replace HE3 := Lib.hid (HE3.out.step hB)
  replace HV4 := Lib.hid (HV4.out.below hB)
  clear hB
  go_wp2_with fail
  go_ret
  exact ⟨rfl, HB.out⟩
end Go.Proofs.Ytcadinoijclfnaa
