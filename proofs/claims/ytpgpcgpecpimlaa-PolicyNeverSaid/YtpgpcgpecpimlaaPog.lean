/-
  What the document says of a few policies.
-/
import Derived.Test.YtpgpcgpecpimlaaPof
import Derived.Test.YtpgpcgpecpimlaaPo2
import Derived.Deep.RegionLaw
namespace Go.Proofs.Ytpgpcgpecpimlaa
open Go.RowKit
set_option linter.unusedSimpArgs false
set_option linter.unusedVariables false

theorem tv_one {W : World} {b : Nat} {x : TnE} (h : Blk W b #[.int .i64 x.id, .int .i64 x.rate, .int .i64 x.burst, .int .i64 x.bkt, .bool x.gone] 72) (hx : x.ok) : TV W (.slice (some ⟨b, 0, none⟩) 1 1) [x] := by
  refine ⟨some ⟨b, 0, none⟩, b, 0, 1, rfl, Nat.le_refl _, by unfold maxLen; simp, fun _ => ⟨rfl, h.lt⟩, fun k hk => ?_, fun k hk => ?_⟩
  · obtain rfl : k = 0 := by simpa using hk
    exact ⟨cell_at h 0, cell_at h 1, cell_at h 2, cell_at h 3, cell_at h 4⟩
  · obtain rfl : k = 0 := by simpa using hk
    exact hx
theorem tv_first {W : World} {v : Value} {x : TnE} (h : TV W v [x]) : ∃ b o c, v = .slice (some ⟨b, o, none⟩) 1 c ∧ 1 ≤ c ∧ c ≤ maxLen ∧ b < W.heap.size ∧ W.cell? ⟨b, o + 3, none⟩ = some (.int .i64 x.bkt) := by
  obtain ⟨a, b, o, c, rfl, h⟩ := h
  obtain ⟨rfl, e1⟩ := h.at_ (by simp)
  have := (h.cell 0 (by simp)).2.2.2.1
  rw [Nat.zero_mul, Nat.add_zero] at this
  exact ⟨b, o, c, rfl, h.le, h.max, e1, this⟩
theorem tvo_first {m : Nat} {W : World} {v : Value} {x : TnE} (h : TV W v [x]) : ∃ b o c, v = .slice (some ⟨b, o, none⟩) 1 c ∧ 1 ≤ c ∧ c ≤ maxLen ∧ b < W.heap.size ∧ W.cell? ⟨b, o + 3, none⟩ = some (.int .i64 x.bkt) := tv_first h
def wT1 : TnE := ⟨3, 1000, 500, 0, false⟩
def wT2 : TnE := ⟨3, 1, 500, 400000, false⟩
def wT3 : TnE := ⟨3, 1, 10, 6000, false⟩
def wT4 : TnE := ⟨3, 0, 0, 0, true⟩
theorem wp1 : putL [] 3 1000 500 0 = [wT1] ∧ putA [] 3 1000 500 = ansV 0 1000 500 := by
  refine ⟨by decide +kernel, ?_⟩
  have h : putE [] 3 1000 500 = 0 := by decide +kernel
  unfold putA
  rw [h]
  rfl
theorem wp2 : getV 3 [wT1] = ansV 0 1000 500 := by
  have h1 : getE 3 [wT1] = 0 := by decide +kernel
  have h2 : getX 3 [wT1] = wT1 := by decide +kernel
  unfold getV; rw [h1, h2]; rfl
theorem wp3 : putL [wT2] 3 1 10 4 = [wT3] ∧ putA [wT2] 3 1 10 = ansV 0 1 10 := by
  refine ⟨by decide +kernel, ?_⟩
  have h : putE [wT2] 3 1 10 = 0 := by decide +kernel
  unfold putA
  rw [h]
  rfl
theorem wp4 : delL [wT3] 3 4 = [wT4] ∧ delA [wT3] 3 = ansV 0 0 0 := by
  refine ⟨by decide +kernel, ?_⟩
  have h : getE 3 [wT3] = 0 := by decide +kernel
  unfold delA
  rw [h]
theorem wp5 : fndC 3 [wT4] = some wT4 := by decide +kernel
theorem wp6 : getV 3 [wT4] = ansV 161 0 0 := by
  have h1 : getE 3 [wT4] = 161 := by decide +kernel
  unfold getV getX; rw [h1]; rfl
set_option maxRecDepth 100000 in
set_option maxHeartbeats 8000000 in
theorem pwakes_any (w : World) : Calls Try.prog 41 #[] w fun e w' => e = .returned (.bool true) ∧ Below w.heap.size w w' := by
  have HB : Hid (Below w.heap.size w w) := Lib.hid (Below.refl _ _)
  have P1 := Lib.hid (pput_any (.slice none 0 0) [] 3 1000 500 0 w (tv_nil w) (by simp) (by omega))
  rw [wp1.1, wp1.2] at P1
  unfold ansV at P1
  go_enter Try.func41, Try.ntmps41
  go_wp2_with fail
  go_at_call 42
  refine Calls.mono P1.out ?_
  rintro e W1 ⟨v1, rfl, hv1, hB⟩
  have HB := Lib.hid (HB.out.trans (hB.mono HB.out.size))
  clear hB
  have HV1 := Lib.hid hv1
  clear hv1 P1
  go_upto_region 2 with fail
  obtain ⟨A1, hA1⟩ : ∃ A1, A1 = W1.heap.size := ⟨_, rfl⟩
  obtain ⟨W2, hW⟩ : ∃ W0, W0 = W1.alloc (.cells #[.int .i64 0, .int .i64 1000, .int .i64 500, .int .i64 0, .int .i64 0] 63) := ⟨_, rfl⟩
  have hB : Below W1.heap.size W1 W2 := by rw [hW]; exact (Below.refl _ _).alloc (Nat.le_refl _) _
  have HA1 := Lib.hid (show Blk W2 A1 #[.int .i64 0, .int .i64 1000, .int .i64 500, .int .i64 0, .int .i64 0] 63 by rw [hW, hA1]; exact blk_new _ _ _)
  have HV1 := Lib.hid (HV1.out.below hB)
  have HB := Lib.hid (HB.out.trans (hB.mono HB.out.size))
  rw [← hA1, ← hW]
  clear hW hA1 hB
  have P2 := Lib.hid (pget_any v1 [wT1] 3 W2 HV1.out)
  rw [wp2] at P2
  unfold ansV at P2
  go_wp2_with fail
  go_at_call 49
  refine Calls.mono P2.out ?_
  rintro e W3 ⟨rfl, hB⟩
  have HV1 := Lib.hid (HV1.out.below hB)
  have HA1 := Lib.hid (HA1.out.step hB)
  have HB := Lib.hid (HB.out.trans (hB.mono HB.out.size))
  clear hB
  clear P2
  go_upto_region 3 with fail
  obtain ⟨A2, hA2⟩ : ∃ A2, A2 = W3.heap.size := ⟨_, rfl⟩
  obtain ⟨W4, hW⟩ : ∃ W0, W0 = W3.alloc (.cells #[.int .i64 0, .int .i64 1000, .int .i64 500, .int .i64 0, .int .i64 0] 63) := ⟨_, rfl⟩
  have hB : Below W3.heap.size W3 W4 := by rw [hW]; exact (Below.refl _ _).alloc (Nat.le_refl _) _
  have HA2 := Lib.hid (show Blk W4 A2 #[.int .i64 0, .int .i64 1000, .int .i64 500, .int .i64 0, .int .i64 0] 63 by rw [hW, hA2]; exact blk_new _ _ _)
  have HV1 := Lib.hid (HV1.out.below hB)
  have HA1 := Lib.hid (HA1.out.step hB)
  have HB := Lib.hid (HB.out.trans (hB.mono HB.out.size))
  rw [← hA2, ← hW]
  clear hW hA2 hB
  go_wp2_with fail
  go_at_call 42
  obtain ⟨B2, hB2⟩ : ∃ B2, B2 = W4.heap.size := ⟨_, rfl⟩
  obtain ⟨W5, hW⟩ : ∃ W0, W0 = W4.alloc (.cells #[.int .i64 3, .int .i64 1, .int .i64 500, .int .i64 400000, .bool false] 72) := ⟨_, rfl⟩
  have hB : Below W4.heap.size W4 W5 := by rw [hW]; exact (Below.refl _ _).alloc (Nat.le_refl _) _
  have HB2 := Lib.hid (show Blk W5 B2 #[.int .i64 3, .int .i64 1, .int .i64 500, .int .i64 400000, .bool false] 72 by rw [hW, hB2]; exact blk_new _ _ _)
  have HV1 := Lib.hid (HV1.out.below hB)
  have HA1 := Lib.hid (HA1.out.step hB)
  have HA2 := Lib.hid (HA2.out.step hB)
  have HB := Lib.hid (HB.out.trans (hB.mono HB.out.size))
  rw [← hB2, ← hW]
  clear hW hB2 hB
  have P3 := Lib.hid (pput_any (.slice (some ⟨B2, 0, none⟩) 1 1) [wT2] 3 1 10 4 W5 (tv_one (x := wT2) HB2.out (by unfold wT2 TnE.ok; simp)) (by simp) (by omega))
  rw [wp3.1, wp3.2] at P3
  unfold ansV at P3
  refine Calls.mono P3.out ?_
  rintro e W6 ⟨v2, rfl, hv2, hB⟩
  have HV1 := Lib.hid (HV1.out.below hB)
  have HA1 := Lib.hid (HA1.out.step hB)
  have HA2 := Lib.hid (HA2.out.step hB)
  have HB2 := Lib.hid (HB2.out.step hB)
  have HB := Lib.hid (HB.out.trans (hB.mono HB.out.size))
  clear hB P3
  have HV2 := Lib.hid hv2
  clear hv2
  go_upto_region 4 with fail
  obtain ⟨A3, hA3⟩ : ∃ A3, A3 = W6.heap.size := ⟨_, rfl⟩
  obtain ⟨W7, hW⟩ : ∃ W0, W0 = W6.alloc (.cells #[.int .i64 0, .int .i64 1, .int .i64 10, .int .i64 0, .int .i64 0] 63) := ⟨_, rfl⟩
  have hB : Below W6.heap.size W6 W7 := by rw [hW]; exact (Below.refl _ _).alloc (Nat.le_refl _) _
  have HA3 := Lib.hid (show Blk W7 A3 #[.int .i64 0, .int .i64 1, .int .i64 10, .int .i64 0, .int .i64 0] 63 by rw [hW, hA3]; exact blk_new _ _ _)
  have HV1 := Lib.hid (HV1.out.below hB)
  have HA1 := Lib.hid (HA1.out.step hB)
  have HA2 := Lib.hid (HA2.out.step hB)
  have HB2 := Lib.hid (HB2.out.step hB)
  have HV2 := Lib.hid (HV2.out.below hB)
  have HB := Lib.hid (HB.out.trans (hB.mono HB.out.size))
  rw [← hA3, ← hW]
  clear hW hA3 hB
  have P4 := Lib.hid (pdelete_pos v2 [wT3] 3 4 W7 HV2.out (by simp) (by omega) (by omega))
  rw [wp4.1, wp4.2] at P4
  unfold ansV at P4
  go_wp2_with fail
  go_at_call 47
  refine Calls.mono P4.out ?_
  rintro e W8 ⟨v3, rfl, hv3, hB⟩
  have HV1 := Lib.hid (HV1.out.below hB)
  have HA1 := Lib.hid (HA1.out.step hB)
  have HA2 := Lib.hid (HA2.out.step hB)
  have HB2 := Lib.hid (HB2.out.step hB)
  have HV2 := Lib.hid (HV2.out.below hB)
  have HA3 := Lib.hid (HA3.out.step hB)
  have HB := Lib.hid (HB.out.trans (hB.mono HB.out.size))
  clear hB
  have HV3 := Lib.hid hv3
  clear hv3 P4
  go_upto_region 5 with fail
  obtain ⟨A4, hA4⟩ : ∃ A4, A4 = W8.heap.size := ⟨_, rfl⟩
  obtain ⟨W9, hW⟩ : ∃ W0, W0 = W8.alloc (.cells #[.int .i64 0, .int .i64 0, .int .i64 0, .int .i64 0, .int .i64 0] 63) := ⟨_, rfl⟩
  have hB : Below W8.heap.size W8 W9 := by rw [hW]; exact (Below.refl _ _).alloc (Nat.le_refl _) _
  have HA4 := Lib.hid (show Blk W9 A4 #[.int .i64 0, .int .i64 0, .int .i64 0, .int .i64 0, .int .i64 0] 63 by rw [hW, hA4]; exact blk_new _ _ _)
  have HV1 := Lib.hid (HV1.out.below hB)
  have HA1 := Lib.hid (HA1.out.step hB)
  have HA2 := Lib.hid (HA2.out.step hB)
  have HB2 := Lib.hid (HB2.out.step hB)
  have HV2 := Lib.hid (HV2.out.below hB)
  have HA3 := Lib.hid (HA3.out.step hB)
  have HV3 := Lib.hid (HV3.out.below hB)
  have HB := Lib.hid (HB.out.trans (hB.mono HB.out.size))
  rw [← hA4, ← hW]
  clear hW hA4 hB
  have P5 := Lib.hid (pFind_any v3 [wT4] 3 W9 HV3.out)
  rw [wp5] at P5
  simp only [Option.getD_some, Option.isSome_some, TnE.agg, wT4] at P5
  go_wp2_with fail
  go_at_call 51
  refine Calls.mono P5.out ?_
  rintro e W10 ⟨rfl, hB⟩
  have HV1 := Lib.hid (HV1.out.below hB)
  have HA1 := Lib.hid (HA1.out.step hB)
  have HA2 := Lib.hid (HA2.out.step hB)
  have HB2 := Lib.hid (HB2.out.step hB)
  have HV2 := Lib.hid (HV2.out.below hB)
  have HA3 := Lib.hid (HA3.out.step hB)
  have HV3 := Lib.hid (HV3.out.below hB)
  have HA4 := Lib.hid (HA4.out.step hB)
  have HB := Lib.hid (HB.out.trans (hB.mono HB.out.size))
  clear hB
  clear P5
  go_upto_region 6 with fail
  obtain ⟨A5, hA5⟩ : ∃ A5, A5 = W10.heap.size := ⟨_, rfl⟩
  obtain ⟨W11, hW⟩ : ∃ W0, W0 = W10.alloc (.cells #[.int .i64 3, .int .i64 0, .int .i64 0, .int .i64 0, .bool true] 72) := ⟨_, rfl⟩
  have hB : Below W10.heap.size W10 W11 := by rw [hW]; exact (Below.refl _ _).alloc (Nat.le_refl _) _
  have HA5 := Lib.hid (show Blk W11 A5 #[.int .i64 3, .int .i64 0, .int .i64 0, .int .i64 0, .bool true] 72 by rw [hW, hA5]; exact blk_new _ _ _)
  have HV1 := Lib.hid (HV1.out.below hB)
  have HA1 := Lib.hid (HA1.out.step hB)
  have HA2 := Lib.hid (HA2.out.step hB)
  have HB2 := Lib.hid (HB2.out.step hB)
  have HV2 := Lib.hid (HV2.out.below hB)
  have HA3 := Lib.hid (HA3.out.step hB)
  have HV3 := Lib.hid (HV3.out.below hB)
  have HA4 := Lib.hid (HA4.out.step hB)
  have HB := Lib.hid (HB.out.trans (hB.mono HB.out.size))
  rw [← hA5, ← hW]
  clear hW hA5 hB
  have P6 := Lib.hid (pget_any v3 [wT4] 3 W11 HV3.out)
  rw [wp6] at P6
  unfold ansV at P6
  obtain ⟨b1, o1, c1, rfl, u1, u2, u3, u4⟩ := tv_first HV1.out
  obtain ⟨b2, o2, c2, rfl, t1, t2, t3, t4⟩ := tv_first HV2.out
  obtain ⟨b3, o3, c3, rfl, s1, s2, s3, s4⟩ := tv_first HV3.out
  unfold wT1 at u4
  unfold wT3 at t4
  simp only at u4 t4
  unfold maxLen at u2 t2 s2
  clear s4
  have g0 : W11.cell? ⟨A1, 0, none⟩ = some (.int .i64 0) := cell_at HA1.out 0
  have g1 : A1 < W11.heap.size := HA1.out.lt
  have m0 : W11.cell? ⟨A2, 0, none⟩ = some (.int .i64 0) := cell_at HA2.out 0
  have m1 : W11.cell? ⟨A2, 1, none⟩ = some (.int .i64 1000) := cell_at HA2.out 1
  have m2 : W11.cell? ⟨A2, 2, none⟩ = some (.int .i64 500) := cell_at HA2.out 2
  have m3 : W11.cell? ⟨A2, 3, none⟩ = some (.int .i64 0) := cell_at HA2.out 3
  have m4 : W11.cell? ⟨A2, 4, none⟩ = some (.int .i64 0) := cell_at HA2.out 4
  have m9 : A2 < W11.heap.size := HA2.out.lt
  have h0 : W11.cell? ⟨A3, 0, none⟩ = some (.int .i64 0) := cell_at HA3.out 0
  have h9 : A3 < W11.heap.size := HA3.out.lt
  have k0 : W11.cell? ⟨A4, 0, none⟩ = some (.int .i64 0) := cell_at HA4.out 0
  have k9 : A4 < W11.heap.size := HA4.out.lt
  have l4 : W11.cell? ⟨A5, 4, none⟩ = some (.bool true) := cell_at HA5.out 4
  have l9 : A5 < W11.heap.size := HA5.out.lt
  have heq := an_eql 0 1000 500
  have hfld : ∀ W, (Instr.field 63 (.agg #[.int .i64 161, .int .i64 0, .int .i64 0, .int .i64 0, .int .i64 0]) 0).run Try.prog W = .ok (.int .i64 161) W := fun W => by kernel_rfl
  clear HV1 HV2 HV3 HA1 HA2 HA3 HA4 HA5 HB2
  go_wp2_with fail
  go_at_call 49
  refine Calls.mono P6.out ?_
  rintro e W12 ⟨rfl, hB⟩
  have HB := Lib.hid (HB.out.trans (hB.mono HB.out.size))
  clear hB
  go_wp2_with fail
  go_ret
  exact ⟨rfl, HB.out⟩
end Go.Proofs.Ytpgpcgpecpimlaa
