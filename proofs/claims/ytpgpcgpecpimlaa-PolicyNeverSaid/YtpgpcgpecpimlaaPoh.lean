/-
  PolicyPuts, walked.
-/
import Derived.Test.YtpgpcgpecpimlaaPog
import Derived.Test.YtpgpcgpecpimlaaPoe
import Derived.Test.YtpgpcgpecpimlaaPo2
import Derived.Deep.RegionLaw
namespace Go.Proofs.Ytpgpcgpecpimlaa
open Go.RowKit
set_option linter.unusedSimpArgs false
set_option linter.unusedVariables false

theorem putA_form (L : List TnE) (id rate burst : Int) : ∃ e r b, putA L id rate burst = .agg #[.int .i64 e, .int .i64 r, .int .i64 b, .int .i64 0, .int .i64 0] := by
  unfold putA
  split
  · exact ⟨_, _, _, rfl⟩
  · exact ⟨_, _, _, rfl⟩
set_option maxRecDepth 100000 in
set_option maxHeartbeats 1000000 in
theorem great_any (a : Option Addr) (n c : Nat) (w : World) (hn : n ≤ 9223372036854775807) : Calls Try.prog 40 #[.slice a n c] w fun e w' => e = .returned (.bool (decide (60 < n))) ∧ w = w' := by
  go_enter Try.func40, Try.ntmps40
  go_wp2_with fail
  go_ret
  exact ⟨ret_bool (by simp; omega), rfl⟩
set_option maxRecDepth 100000 in
set_option maxHeartbeats 8000000 in
theorem policyPuts_walk (v : Value) (L : List TnE) (id rate burst out : Int) (w : World) (h : TV w v L) (ho : out ≤ 9223372036854775807) : Calls Try.prog 10 #[v, .int .i64 id, .int .i64 rate, .int .i64 burst, .int .i64 out] w fun e w' => e = .returned (.bool true) ∧ Below w.heap.size w w' := by
  have HB : Hid (Below w.heap.size w w) := Lib.hid (Below.refl _ _)
  have HV := Lib.hid h
  have HGT : Hid (∀ W, Calls Try.prog 40 #[v] W fun e w' => e = .returned (.bool (decide (60 < L.length))) ∧ W = w') := Lib.hid (fun W => by
    obtain ⟨a, b, o, c, rfl, h2⟩ := h
    have q1 := h2.le
    have q2 := h2.max
    unfold maxLen at q2
    exact great_any a L.length c W (by omega))
  have HWK := Lib.hid pwakes_any
  clear h
  obtain ⟨Y, hY⟩ : ∃ Y, Y = putL L id rate burst out := ⟨_, rfl⟩
  obtain ⟨ae, ar, ab, ha⟩ := putA_form L id rate burst
  obtain ⟨C, hC⟩ : ∃ C, C = chk L := ⟨_, rfl⟩
  go_enter Try.func10, Try.ntmps10
  by_cases h60 : 60 < L.length
  · have d60 : decide (60 < L.length) = true := decide_eq_true h60
    rw [d60] at HGT
    go_wp2_with fail
    go_at_call 40
    refine Calls.mono (HGT.out _) ?_
    rintro e w' ⟨rfl, rfl⟩
    go_wp2_with fail
    go_at_call 41
    refine Calls.mono (HWK.out _) ?_
    rintro e W2 ⟨rfl, hB⟩
    have HB2 := Lib.hid hB
    clear hB
    go_wp2_with fail
    go_ret
    exact ⟨rfl, HB2.out⟩
  · have d60 : decide (60 < L.length) = false := decide_eq_false h60
    have hn5 : L.length ≤ 200 := by omega
    rw [d60] at HGT
    clear d60 h60
    go_wp2_with fail
    go_at_call 40
    refine Calls.mono (HGT.out _) ?_
    rintro e w' ⟨rfl, rfl⟩
    have P1 := Lib.hid (pput_any v L id rate burst out w HV.out hn5 ho)
    rw [← hY, ha] at P1
    go_wp2_with fail
    go_at_call 42
    refine Calls.mono P1.out ?_
    rintro e W1 ⟨v1, rfl, hv1, hB⟩
    have HV := Lib.hid (HV.out.below hB)
    have HB := Lib.hid (HB.out.trans (hB.mono HB.out.size))
    clear hB
    have HV1 := Lib.hid hv1
    clear hv1 P1
    go_upto_region 4 with fail
    obtain ⟨A1, hA1⟩ : ∃ A1, A1 = W1.heap.size := ⟨_, rfl⟩
    obtain ⟨W2, hW⟩ : ∃ W0, W0 = W1.alloc (.cells #[.int .i64 ae, .int .i64 ar, .int .i64 ab, .int .i64 0, .int .i64 0] 63) := ⟨_, rfl⟩
    have hB : Below W1.heap.size W1 W2 := by rw [hW]; exact (Below.refl _ _).alloc (Nat.le_refl _) _
    have HA1 := Lib.hid (show Blk W2 A1 #[.int .i64 ae, .int .i64 ar, .int .i64 ab, .int .i64 0, .int .i64 0] 63 by rw [hW, hA1]; exact blk_new _ _ _)
    have HV := Lib.hid (HV.out.below hB)
    have HV1 := Lib.hid (HV1.out.below hB)
    have HB := Lib.hid (HB.out.trans (hB.mono HB.out.size))
    rw [← hA1, ← hW]
    clear hW hA1 hB
    have P2 := Lib.hid (rput_any v L id rate burst out W2 HV.out hn5 ho)
    rw [← hY, ha] at P2
    go_wp2_with fail
    go_at_call 43
    refine Calls.mono P2.out ?_
    rintro e W3 ⟨v2, rfl, hv2, hB⟩
    have HV := Lib.hid (HV.out.below hB)
    have HV1 := Lib.hid (HV1.out.below hB)
    have HA1 := Lib.hid (HA1.out.step hB)
    have HB := Lib.hid (HB.out.trans (hB.mono HB.out.size))
    clear hB
    have HV2 := Lib.hid hv2
    clear hv2 P2
    go_upto_region 5 with fail
    obtain ⟨A2, hA2⟩ : ∃ A2, A2 = W3.heap.size := ⟨_, rfl⟩
    obtain ⟨W4, hW⟩ : ∃ W0, W0 = W3.alloc (.cells #[.int .i64 ae, .int .i64 ar, .int .i64 ab, .int .i64 0, .int .i64 0] 63) := ⟨_, rfl⟩
    have hB : Below W3.heap.size W3 W4 := by rw [hW]; exact (Below.refl _ _).alloc (Nat.le_refl _) _
    have HA2 := Lib.hid (show Blk W4 A2 #[.int .i64 ae, .int .i64 ar, .int .i64 ab, .int .i64 0, .int .i64 0] 63 by rw [hW, hA2]; exact blk_new _ _ _)
    have HV := Lib.hid (HV.out.below hB)
    have HV1 := Lib.hid (HV1.out.below hB)
    have HA1 := Lib.hid (HA1.out.step hB)
    have HV2 := Lib.hid (HV2.out.below hB)
    have HB := Lib.hid (HB.out.trans (hB.mono HB.out.size))
    rw [← hA2, ← hW]
    clear hW hA2 hB
    have P3 := Lib.hid (same_tv v1 v2 Y W4 HV1.out HV2.out)
    go_wp2_with fail
    go_at_call 44
    refine Calls.mono P3.out ?_
    rintro e W5 ⟨rfl, hB⟩
    have HV := Lib.hid (HV.out.below hB)
    have HV1 := Lib.hid (HV1.out.below hB)
    have HA1 := Lib.hid (HA1.out.step hB)
    have HV2 := Lib.hid (HV2.out.below hB)
    have HA2 := Lib.hid (HA2.out.step hB)
    have HB := Lib.hid (HB.out.trans (hB.mono HB.out.size))
    clear hB
    clear P3
    have g0 : W5.cell? ⟨A1, 0, none⟩ = some (.int .i64 ae) := cell_at HA1.out 0
    have g1 : W5.cell? ⟨A1, 1, none⟩ = some (.int .i64 ar) := cell_at HA1.out 1
    have g2 : W5.cell? ⟨A1, 2, none⟩ = some (.int .i64 ab) := cell_at HA1.out 2
    have g3 : W5.cell? ⟨A1, 3, none⟩ = some (.int .i64 0) := cell_at HA1.out 3
    have g4 : W5.cell? ⟨A1, 4, none⟩ = some (.int .i64 0) := cell_at HA1.out 4
    have g9 : A1 < W5.heap.size := HA1.out.lt
    have k0 : W5.cell? ⟨A2, 0, none⟩ = some (.int .i64 ae) := cell_at HA2.out 0
    have k1 : W5.cell? ⟨A2, 1, none⟩ = some (.int .i64 ar) := cell_at HA2.out 1
    have k2 : W5.cell? ⟨A2, 2, none⟩ = some (.int .i64 ab) := cell_at HA2.out 2
    have k3 : W5.cell? ⟨A2, 3, none⟩ = some (.int .i64 0) := cell_at HA2.out 3
    have k4 : W5.cell? ⟨A2, 4, none⟩ = some (.int .i64 0) := cell_at HA2.out 4
    have k9 : A2 < W5.heap.size := HA2.out.lt
    have heq := an_eql ae ar ab
    have P4 := Lib.hid (pcheck_any v L W5 HV.out)
    rw [← hC] at P4
    go_wp2_with fail
    go_at_call 45
    refine Calls.mono P4.out ?_
    rintro e W6 ⟨rfl, hB⟩
    have HV := Lib.hid (HV.out.below hB)
    have HV1 := Lib.hid (HV1.out.below hB)
    have HA1 := Lib.hid (HA1.out.step hB)
    have HV2 := Lib.hid (HV2.out.below hB)
    have HA2 := Lib.hid (HA2.out.step hB)
    have HB := Lib.hid (HB.out.trans (hB.mono HB.out.size))
    clear hB
    clear P4 g0 g1 g2 g3 g4 g9 k0 k1 k2 k3 k4 k9 heq
    have P5 := Lib.hid (rcheck_any v L W6 HV.out)
    rw [← hC] at P5
    go_wp2_with fail
    go_at_call 46
    refine Calls.mono P5.out ?_
    rintro e W7 ⟨rfl, hB⟩
    have HV := Lib.hid (HV.out.below hB)
    have HV1 := Lib.hid (HV1.out.below hB)
    have HA1 := Lib.hid (HA1.out.step hB)
    have HV2 := Lib.hid (HV2.out.below hB)
    have HA2 := Lib.hid (HA2.out.step hB)
    have HB := Lib.hid (HB.out.trans (hB.mono HB.out.size))
    clear hB
    have P6 := Lib.hid (HWK.out W7)
    go_wp2_with fail
    go_at_call 41
    refine Calls.mono P6.out ?_
    rintro e W8 ⟨rfl, hB⟩
    have HB := Lib.hid (HB.out.trans (hB.mono HB.out.size))
    clear hB
    go_wp2_with fail
    go_ret
    exact ⟨rfl, HB.out⟩
theorem policyPuts_dt (a : Option Addr) (len cap : Nat) (xs : List Dt) (id rate burst out : Int) (w : World) (h : SliceFits Try.prog w 72 a len cap xs) (ho : out ≤ 9223372036854775807) :
    Calls Try.prog 10 #[.slice a len cap, .int .i64 id, .int .i64 rate, .int .i64 burst, .int .i64 out] w fun e w' => e = .returned (.bool true) ∧ Below w.heap.size w w' := by
  obtain ⟨L, _, hL⟩ := tv_cells w h
  exact policyPuts_walk _ L id rate burst out w hL ho
end Go.Proofs.Ytpgpcgpecpimlaa
