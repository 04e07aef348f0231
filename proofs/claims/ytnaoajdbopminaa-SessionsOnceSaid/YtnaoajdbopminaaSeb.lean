/-
  The laws SessionsTell and SessionsKeep, walked.
-/
import Derived.Test.YtnaoajdbopminaaSea
namespace Go.Proofs.Ytnaoajdbopminaa
open Go.RowKit
set_option linter.unusedSimpArgs false
set_option linter.unusedVariables false

set_option maxRecDepth 100000 in
set_option maxHeartbeats 8000000 in
theorem sessionsKeep_any (x : SeE) (a : Option Addr) (n cap b o : Nat) (S : Nat → SeE) (w : World) (hs : SeIn w a n cap b o S) (hx : x.ok) :
    Calls Try.prog 11 #[.slice a n cap, .int .i64 x.client, .int .i64 x.number, .agg #[.int .i64 x.e, .int .i64 x.rate, .int .i64 x.burst, .int .i64 x.lease, .int .i64 x.size]] w fun e w' => e = .returned (.bool true) ∧ Below w.heap.size w w' := by
  have m1 := hs.le
  have m2 := hs.max
  unfold maxLen at m2
  obtain ⟨N, hN⟩ : ∃ N, N = w.heap.size := ⟨_, rfl⟩
  obtain ⟨W1, hW1⟩ : ∃ W1, W1 = w.alloc (.cells #[.int .i64 x.e, .int .i64 x.rate, .int .i64 x.burst, .int .i64 x.lease, .int .i64 x.size] 73) := ⟨_, rfl⟩
  have hB1 : Below w.heap.size w W1 := by rw [hW1]; exact (Below.refl _ _).alloc (Nat.le_refl _) _
  have hb1 : Blk W1 N #[.int .i64 x.e, .int .i64 x.rate, .int .i64 x.burst, .int .i64 x.lease, .int .i64 x.size] 73 := by rw [hW1, hN]; exact blk_new _ _ _
  have HS := Lib.hid hs
  have HB1 := Lib.hid hB1
  have HK1 := Lib.hid hb1
  by_cases hbig : 60 < n
  · clear hb1 hs
    go_enter Try.func11, Try.ntmps11
    go_upto_region 1 with fail
    rw [← hW1]
    clear hW1
    go_wp2_with (go_at_call 48; refine (wakes_any _).mono ?_; rintro e WK ⟨rfl, hWK⟩)
    go_ret
    exact ⟨rfl, HB1.out.trans (hWK.mono HB1.out.size)⟩
  · have a0 : W1.cell? ⟨N, 0, none⟩ = some (.int .i64 x.e) := cell_at hb1 0
    have a1 : W1.cell? ⟨N, 1, none⟩ = some (.int .i64 x.rate) := cell_at hb1 1
    have a2 : W1.cell? ⟨N, 2, none⟩ = some (.int .i64 x.burst) := cell_at hb1 2
    have a3 : W1.cell? ⟨N, 3, none⟩ = some (.int .i64 x.lease) := cell_at hb1 3
    have a4 : W1.cell? ⟨N, 4, none⟩ = some (.int .i64 x.size) := cell_at hb1 4
    have hl := hb1.lt
    have K1 := Lib.hid (keep_any x a n cap b o S W1 (hs.below hB1) (by omega))
    have K2 := Lib.hid (fun W (h : Below w.heap.size w W) => rkeep_any x a n cap b o S W (hs.below h) (by omega))
    obtain ⟨R, hR⟩ : ∃ R, R = keepE S n x.client x.number := ⟨_, rfl⟩
    rw [← hR] at K1 K2
    have HR := Lib.hid hR
    have HX := Lib.hid hx
    clear hB1 hb1 hs hR hx
    go_enter Try.func11, Try.ntmps11
    go_upto_region 1 with fail
    rw [← hN, ← hW1]
    clear hN hW1
    go_wp2_with fail
    go_at_call 55
    refine Calls.mono K1.out ?_
    rintro e W2 ⟨v, rfl, hk, hB2⟩
    have hk2 := HK1.out.step hB2
    have HB2 := Lib.hid (HB1.out.trans (hB2.mono HB1.out.size))
    have d0 : W2.cell? ⟨N, 0, none⟩ = some (.int .i64 x.e) := cell_at hk2 0
    have d1 : W2.cell? ⟨N, 1, none⟩ = some (.int .i64 x.rate) := cell_at hk2 1
    have d2 : W2.cell? ⟨N, 2, none⟩ = some (.int .i64 x.burst) := cell_at hk2 2
    have d3 : W2.cell? ⟨N, 3, none⟩ = some (.int .i64 x.lease) := cell_at hk2 3
    have d4 : W2.cell? ⟨N, 4, none⟩ = some (.int .i64 x.size) := cell_at hk2 4
    have hl2 := hk2.lt
    have HKA := Lib.hid hk
    clear hB2 hk hk2 a0 a1 a2 a3 a4 hl
    by_cases hr : R = 0
    · obtain ⟨av, cv, bv, rfl, hs2, _⟩ := keepP_in HKA.out (by rw [← HR.out]; exact hr) HS.out.bd HX.out
      have HS2 := Lib.hid hs2
      have HRR := Lib.hid hr
      clear hs2
      go_wp2_with fail
      go_at_call 56
      refine Calls.mono (K2.out _ HB2.out) ?_
      rintro e W3 ⟨v3, rfl, hk3, hB3⟩
      obtain ⟨av3, cv3, bv3, rfl, hs3, _⟩ := keepP_in hk3 (by rw [← HR.out]; exact HRR.out) HS.out.bd HX.out
      have HSM := Lib.hid (same_any _ _ _ _ _ _ _ _ _ _ W3 (HS2.out.below hB3) hs3)
      have HB3 := Lib.hid (HB2.out.trans (hB3.mono HB2.out.size))
      obtain ⟨m, hm⟩ : ∃ m, m = mK S n x.client := ⟨_, rfl⟩
      rw [← hm] at HSM ⊢
      clear hk3 hs3 hB3 hm
      go_wp2_with (first
        | (go_at_call 57; refine Calls.mono HSM.out ?_; rintro e W4 ⟨rfl, hB4⟩; have HB4 := Lib.hid (HB3.out.trans (hB4.mono HB3.out.size)); clear hB4)
        | (go_at_call 48; refine (wakes_any _).mono ?_; rintro e WK ⟨rfl, hWK⟩)
        | fail)
      go_ret
      exact ⟨rfl, HB4.out.trans (hWK.mono HB4.out.size)⟩
    · obtain rfl := HKA.out.1 (by rw [← HR.out]; exact hr)
      have HRR := Lib.hid hr
      clear hr
      go_wp2_with fail
      go_at_call 56
      refine Calls.mono (K2.out _ HB2.out) ?_
      rintro e W3 ⟨v3, rfl, hk3, hB3⟩
      obtain rfl := hk3.1 (by rw [← HR.out]; exact HRR.out)
      have HSM := Lib.hid (same_any _ _ _ _ _ _ _ _ _ _ W3 (se_none W3 S) (se_none W3 S))
      have HB3 := Lib.hid (HB2.out.trans (hB3.mono HB2.out.size))
      clear hk3 hB3
      go_wp2_with (first
        | (go_at_call 57; refine Calls.mono HSM.out ?_; rintro e W4 ⟨rfl, hB4⟩; have HB4 := Lib.hid (HB3.out.trans (hB4.mono HB3.out.size)); clear hB4)
        | (go_at_call 48; refine (wakes_any _).mono ?_; rintro e WK ⟨rfl, hWK⟩)
        | fail)
      go_ret
      exact ⟨rfl, HB4.out.trans (hWK.mono HB4.out.size)⟩

set_option maxRecDepth 100000 in
set_option maxHeartbeats 8000000 in
theorem sessionsTell_any (c num : Int) (a : Option Addr) (n cap b o : Nat) (S : Nat → SeE) (w : World) (hs : SeIn w a n cap b o S) :
    Calls Try.prog 10 #[.slice a n cap, .int .i64 c, .int .i64 num] w fun e w' => e = .returned (.bool true) ∧ Below w.heap.size w w' := by
  have m1 := hs.le
  have m2 := hs.max
  unfold maxLen at m2
  by_cases hbig : 60 < n
  · clear hs
    go_enter Try.func10, Try.ntmps10
    go_wp2_with (go_at_call 48; refine (wakes_any _).mono ?_; rintro e WK ⟨rfl, hWK⟩)
    go_ret
    exact ⟨rfl, hWK⟩
  · have A1 := Lib.hid (ask_any c num a n cap b o S w hs)
    have A2 := Lib.hid (fun W (h : Below w.heap.size w W) => rask_any c num a n cap b o S W (hs.below h))
    have C1 := Lib.hid (fun W (h : Below w.heap.size w W) => check_any a n cap b o S W (hs.below h))
    have C2 := Lib.hid (fun W (h : Below w.heap.size w W) => rcheck_any a n cap b o S W (hs.below h))
    have L1 := Lib.hid (fun W (h : Below w.heap.size w W) => last_any c a n cap b o S W (hs.below h))
    have L2 := Lib.hid (fun W (h : Below w.heap.size w W) => rlast_any c a n cap b o S W (hs.below h))
    obtain ⟨q, hq⟩ : ∃ q, q = askX S n c num := ⟨_, rfl⟩
    rw [← hq] at A1 A2
    obtain ⟨C, hC⟩ : ∃ C, C = chkS S n := ⟨_, rfl⟩
    rw [← hC] at C1 C2
    obtain ⟨L, hL⟩ : ∃ L, L = lastN S c n := ⟨_, rfl⟩
    rw [← hL] at L1 L2
    obtain ⟨y, f, r⟩ := q
    unfold askV SeE.ans at A1 A2
    simp only at A1 A2
    have hae := ans_eql y.e y.rate y.burst y.lease y.size
    have hbe : ∀ (u : Bool) W, (binOp .eql 4 (.bool u) (.bool u)).run Try.prog W = .ok (.bool true) W := fun u W => by cases u <;> rfl
    clear hs hq hC hL
    go_enter Try.func10, Try.ntmps10
    go_wp2_with fail
    go_at_call 49
    refine Calls.mono A1.out ?_
    rintro e W2 ⟨rfl, hB2⟩
    obtain ⟨M, hM⟩ : ∃ M, M = W2.heap.size := ⟨_, rfl⟩
    obtain ⟨W3, hW3⟩ : ∃ W3, W3 = W2.alloc (.cells #[.int .i64 y.e, .int .i64 y.rate, .int .i64 y.burst, .int .i64 y.lease, .int .i64 y.size] 73) := ⟨_, rfl⟩
    have hB3 : Below W2.heap.size W2 W3 := by rw [hW3]; exact (Below.refl _ _).alloc (Nat.le_refl _) _
    have HM3 : Hid (Blk W3 M #[.int .i64 y.e, .int .i64 y.rate, .int .i64 y.burst, .int .i64 y.lease, .int .i64 y.size] 73) := Lib.hid (by rw [hW3, hM]; exact blk_new _ _ _)
    have HB3 := Lib.hid (hB2.trans (hB3.mono hB2.size))
    go_upto_region 4 with fail
    rw [← hW3, ← hM]
    clear hW3 hM hB2 hB3
    go_wp2_with fail
    go_at_call 50
    refine Calls.mono (A2.out _ HB3.out) ?_
    rintro e W4 ⟨rfl, hB4⟩
    obtain ⟨M2, hM2⟩ : ∃ M2, M2 = W4.heap.size := ⟨_, rfl⟩
    obtain ⟨W5, hW5⟩ : ∃ W5, W5 = W4.alloc (.cells #[.int .i64 y.e, .int .i64 y.rate, .int .i64 y.burst, .int .i64 y.lease, .int .i64 y.size] 73) := ⟨_, rfl⟩
    have hB5 : Below W4.heap.size W4 W5 := by rw [hW5]; exact (Below.refl _ _).alloc (Nat.le_refl _) _
    have hm5 : Blk W5 M2 #[.int .i64 y.e, .int .i64 y.rate, .int .i64 y.burst, .int .i64 y.lease, .int .i64 y.size] 73 := by rw [hW5, hM2]; exact blk_new _ _ _
    have hm3 := (HM3.out.step hB4).step hB5
    have HB5 := Lib.hid ((HB3.out.trans (hB4.mono HB3.out.size)).trans (hB5.mono (by have := HB3.out.size; have := hB4.size; omega)))
    have p0 : W5.cell? ⟨M, 0, none⟩ = some (.int .i64 y.e) := cell_at hm3 0
    have p1 : W5.cell? ⟨M, 1, none⟩ = some (.int .i64 y.rate) := cell_at hm3 1
    have p2 : W5.cell? ⟨M, 2, none⟩ = some (.int .i64 y.burst) := cell_at hm3 2
    have p3 : W5.cell? ⟨M, 3, none⟩ = some (.int .i64 y.lease) := cell_at hm3 3
    have p4 : W5.cell? ⟨M, 4, none⟩ = some (.int .i64 y.size) := cell_at hm3 4
    have q0 : W5.cell? ⟨M2, 0, none⟩ = some (.int .i64 y.e) := cell_at hm5 0
    have q1 : W5.cell? ⟨M2, 1, none⟩ = some (.int .i64 y.rate) := cell_at hm5 1
    have q2 : W5.cell? ⟨M2, 2, none⟩ = some (.int .i64 y.burst) := cell_at hm5 2
    have q3 : W5.cell? ⟨M2, 3, none⟩ = some (.int .i64 y.lease) := cell_at hm5 3
    have q4 : W5.cell? ⟨M2, 4, none⟩ = some (.int .i64 y.size) := cell_at hm5 4
    have lp := hm3.lt
    have lq := hm5.lt
    go_upto_region 5 with fail
    rw [← hW5, ← hM2]
    clear hW5 hM2 hB4 hB5 hm3 hm5
    go_wp2_with fail
    go_at_call 51
    refine Calls.mono (C1.out _ HB5.out) ?_
    rintro e W6 ⟨rfl, hB6⟩
    have HB6 := Lib.hid (HB5.out.trans (hB6.mono HB5.out.size))
    clear hB6
    go_wp2_with fail
    go_at_call 52
    refine Calls.mono (C2.out _ HB6.out) ?_
    rintro e W7 ⟨rfl, hB7⟩
    have HB7 := Lib.hid (HB6.out.trans (hB7.mono HB6.out.size))
    clear hB7
    go_wp2_with fail
    go_at_call 53
    refine Calls.mono (L1.out _ HB7.out) ?_
    rintro e W8 ⟨rfl, hB8⟩
    have HB8 := Lib.hid (HB7.out.trans (hB8.mono HB7.out.size))
    clear hB8
    go_wp2_with fail
    go_at_call 54
    refine Calls.mono (L2.out _ HB8.out) ?_
    rintro e W9 ⟨rfl, hB9⟩
    have HB9 := Lib.hid (HB8.out.trans (hB9.mono HB8.out.size))
    clear hB9
    go_wp2_with fail
    go_at_call 48
    refine (wakes_any _).mono ?_
    rintro e WK ⟨rfl, hWK⟩
    go_wp2_with fail
    go_ret
    exact ⟨rfl, HB9.out.trans (hWK.mono HB9.out.size)⟩
theorem ans_inv {W : World} {x : Dt} (h : Fits Try.prog W 73 x) : ∃ (v0_0 : Int) (v0_1 : Int) (v0_2 : Int) (v0_3 : Int) (v0_4 : Int), x.cells = [.int .i64 v0_0, .int .i64 v0_1, .int .i64 v0_2, .int .i64 v0_3, .int .i64 v0_4] ∧ (-9223372036854775808 ≤ v0_0 ∧ v0_0 ≤ 9223372036854775807) ∧ (-9223372036854775808 ≤ v0_1 ∧ v0_1 ≤ 9223372036854775807) ∧ (-9223372036854775808 ≤ v0_2 ∧ v0_2 ≤ 9223372036854775807) ∧ (-9223372036854775808 ≤ v0_3 ∧ v0_3 ≤ 9223372036854775807) ∧ (-9223372036854775808 ≤ v0_4 ∧ v0_4 ≤ 9223372036854775807) := by
  obtain ⟨l0, rfl, hl0, hf0⟩ := h.agg_inv Try.underlying73
  obtain ⟨y0_0, e0_0, f0_0⟩ := hf0 0 _ rfl
  obtain ⟨y0_1, e0_1, f0_1⟩ := hf0 1 _ rfl
  obtain ⟨y0_2, e0_2, f0_2⟩ := hf0 2 _ rfl
  obtain ⟨y0_3, e0_3, f0_3⟩ := hf0 3 _ rfl
  obtain ⟨y0_4, e0_4, f0_4⟩ := hf0 4 _ rfl
  obtain ⟨v0_0, rfl, gv0_0⟩ := f0_0.int_inv Try.underlying25
  obtain ⟨v0_1, rfl, gv0_1⟩ := f0_1.int_inv Try.underlying3
  obtain ⟨v0_2, rfl, gv0_2⟩ := f0_2.int_inv Try.underlying3
  obtain ⟨v0_3, rfl, gv0_3⟩ := f0_3.int_inv Try.underlying3
  obtain ⟨v0_4, rfl, gv0_4⟩ := f0_4.int_inv Try.underlying3
  match l0, hl0 with
  | [z0_0, z0_1, z0_2, z0_3, z0_4], _ =>
    obtain rfl : z0_0 = _ := by simpa using e0_0
    obtain rfl : z0_1 = _ := by simpa using e0_1
    obtain rfl : z0_2 = _ := by simpa using e0_2
    obtain rfl : z0_3 = _ := by simpa using e0_3
    obtain rfl : z0_4 = _ := by simpa using e0_4
    exact ⟨v0_0, v0_1, v0_2, v0_3, v0_4, rfl, gv0_0, gv0_1, gv0_2, gv0_3, gv0_4⟩

theorem sessionsTell_dt (c num : Int) (a : Option Addr) (n cap : Nat) (xs : List Dt) (w : World) (h : SliceFits Try.prog w 113 a n cap xs) :
    Calls Try.prog 10 #[.slice a n cap, .int .i64 c, .int .i64 num] w fun e w' => e = .returned (.bool true) ∧ Below w.heap.size w w' := by
  obtain ⟨b, o, S, hS⟩ := se_cells w h
  exact sessionsTell_any c num a n cap b o S w hS
theorem sessionsKeep_dt (c num : Int) (hc : -9223372036854775808 ≤ c ∧ c ≤ 9223372036854775807) (hn : -9223372036854775808 ≤ num ∧ num ≤ 9223372036854775807) (a : Option Addr) (n cap : Nat) (xs : List Dt) (x : Dt) (w : World) (h : SliceFits Try.prog w 113 a n cap xs) (hx : Fits Try.prog w 73 x) :
    Calls Try.prog 11 #[.slice a n cap, .int .i64 c, .int .i64 num, .agg x.cells.toArray] w fun e w' => e = .returned (.bool true) ∧ Below w.heap.size w w' := by
  obtain ⟨b, o, S, hS⟩ := se_cells w h
  obtain ⟨v0, v1, v2, v3, v4, e, g0, g1, g2, g3, g4⟩ := ans_inv hx
  rw [e]
  exact sessionsKeep_any ⟨c, num, v0, v1, v2, v3, v4⟩ a n cap b o S w hS ⟨hc, hn, g0, g1, g2, g3, g4⟩
end Go.Proofs.Ytnaoajdbopminaa
