/-
  Package stamp: wakes; credits and waits; the law StampCredits.
-/
import Derived.Test.YtdmgmicnfoebmaaSt
namespace Go.Proofs.Ytdmgmicnfoebmaa
open Go.RowKit

set_option maxRecDepth 100000 in
set_option maxHeartbeats 2000000 in
theorem swakes_any (w : World) : Calls Try.prog 27 #[] w fun e w' => e = .returned (.bool true) ∧ Below w.heap.size w w' := by
  have a1 : atS 5000 100 0 6099 = 0 := by decide
  have a2 : atS 5000 100 0 6100 = 1 := by decide
  have a3 : atS 5000 100 1 7200 = 2 := by decide
  have a4 : atS 5000 100 2 7000 = 2 := by decide
  have A1 := Lib.hid a1
  have A2 := Lib.hid a2
  have A3 := Lib.hid a3
  have A4 := Lib.hid a4
  have hok : StOk 100 5000 := by unfold StOk; omega
  clear a1 a2 a3 a4
  go_enter Try.func27, Try.ntmps27
  go_wp2_with (first
    | (go_at_call 28; refine (snew_ok 100 5000 hok _).mono ?_; rintro e w' ⟨rfl, rfl⟩)
    | (go_at_call_of 30 (Value.int .i64 6099); refine (at_good w.heap.size 5000 100 0 6099 _ (heap_alloc_new _ _) (by omega) (by omega) (by omega)).mono ?_; rw [A1.out]; rintro e w1 ⟨rfl, hf1, k1⟩)
    | (go_at_call_of 30 (Value.int .i64 6100); refine (at_good w.heap.size 5000 100 0 6100 _ k1 (by omega) (by omega) (by omega)).mono ?_; rw [A2.out]; rintro e w2 ⟨rfl, hf2, k2⟩)
    | (go_at_call_of 30 (Value.int .i64 7200); refine (at_good w.heap.size 5000 100 1 7200 _ k2 (by omega) (by omega) (by omega)).mono ?_; rw [A3.out]; rintro e w3 ⟨rfl, hf3, k3⟩)
    | (go_at_call_of 30 (Value.int .i64 7000); refine (at_good w.heap.size 5000 100 2 7000 _ k3 (by omega) (by omega) (by omega)).mono ?_; rw [A4.out]; rintro e w4 ⟨rfl, hf4, k4⟩)
    | (go_at_call_of 30 (Value.int .i64 4999); refine (at_bad w.heap.size 5000 100 2 4999 _ k4 (.inl (by omega))).mono ?_; rintro e w' ⟨rfl, rfl⟩)
    | (go_at_call 32; refine (slast_any w.heap.size 5000 100 2 _ k4).mono ?_; rintro e w' ⟨rfl, rfl⟩))
  go_ret
  have f0 : Fr [w.heap.size] w (w.alloc (.cells #[.int .i64 5000, .int .i64 100, .int .i64 0] 87)) := (Fr.refl _ _).alloc _
  have f4 := (((f0.trans hf1 (by simp)).trans hf2 (by simp)).trans hf3 (by simp)).trans hf4 (by simp)
  exact ⟨rfl, f4.below (Nat.le_refl _) (by simp)⟩

/-- for how many ticks an entry makes tokens -/
def creditE (term stamp t s : Int) : Int := if t = term ∧ stamp ≤ s then wrap64 (s - stamp) else 0

theorem sret_int {a b : Int} (h : a = b) : Ending.returned (.int .i64 a) = .returned (.int .i64 b) := by rw [h]

set_option maxRecDepth 100000 in
set_option maxHeartbeats 1000000 in
theorem scredit_any (term stamp t k s st : Int) (da : Option Addr) (dl dc : Nat) (w : World) (b0 : -9223372036854775808 ≤ s) (b1 : s ≤ 9223372036854775807) (b2 : -9223372036854775808 ≤ stamp) (b3 : stamp ≤ 9223372036854775807) :
    Calls Try.prog 33 #[.int .i64 term, .int .i64 stamp, .agg #[.int .i64 t, .int .i8 k, .int .i64 s, .int .u8 st, .slice da dl dc]] w fun e w' => e = .returned (.int .i64 (creditE term stamp t s)) ∧ Below w.heap.size w w' := by
  unfold creditE
  by_cases h1 : t = term
  · subst h1
    by_cases h2 : stamp ≤ s
    · rw [if_pos ⟨rfl, h2⟩]
      go_enter Try.func33, Try.ntmps33
      go_wp2_with fail
      go_ret
      refine ⟨sret_int ?_, (Below.refl _ _).alloc (Nat.le_refl _) _⟩
      simp only [wrap64, IntKind.wrap_i64, IntKind.wrap_u64]
      omega
    · rw [if_neg (fun h => h2 h.2)]
      go_enter Try.func33, Try.ntmps33
      go_wp2_with fail
      go_ret
      exact ⟨rfl, (Below.refl _ _).alloc (Nat.le_refl _) _⟩
  · rw [if_neg (fun h => h1 h.1)]
    have e1 : (t == term) = false := by rw [beq_eq_false_iff_ne]; exact h1
    have e2 : (t != term) = true := by rw [bne_iff_ne]; exact h1
    go_enter Try.func33, Try.ntmps33
    go_wp2_with fail
    go_ret
    exact ⟨rfl, (Below.refl _ _).alloc (Nat.le_refl _) _⟩

set_option maxRecDepth 100000 in
set_option maxHeartbeats 1000000 in
theorem rcredit_any (term stamp t k s st : Int) (da : Option Addr) (dl dc : Nat) (w : World) :
    Calls Try.prog 34 #[.int .i64 term, .int .i64 stamp, .agg #[.int .i64 t, .int .i8 k, .int .i64 s, .int .u8 st, .slice da dl dc]] w fun e w' => e = .returned (.int .i64 (creditE term stamp t s)) ∧ Below w.heap.size w w' := by
  unfold creditE
  by_cases h1 : t = term
  · subst h1
    by_cases h2 : stamp ≤ s
    · rw [if_pos ⟨rfl, h2⟩]
      go_enter Try.func34, Try.ntmps34
      go_wp2_with fail
      go_ret
      exact ⟨rfl, (Below.refl _ _).alloc (Nat.le_refl _) _⟩
    · rw [if_neg (fun h => h2 h.2)]
      go_enter Try.func34, Try.ntmps34
      go_wp2_with fail
      go_ret
      exact ⟨rfl, (Below.refl _ _).alloc (Nat.le_refl _) _⟩
  · rw [if_neg (fun h => h1 h.1)]
    have e1 : (t == term) = false := by rw [beq_eq_false_iff_ne]; exact h1
    have e2 : (t != term) = true := by rw [bne_iff_ne]; exact h1
    go_enter Try.func34, Try.ntmps34
    go_wp2_with fail
    go_ret
    exact ⟨rfl, (Below.refl _ _).alloc (Nat.le_refl _) _⟩

theorem overS_bd (t rho : Int) : 0 ≤ overS t rho ∧ overS t rho ≤ 1320000000000000000 := by
  obtain ⟨h1, h2⟩ := driftS_bd rho
  obtain ⟨h3, h4⟩ := cwithin_bd t 1099511627776 (by omega)
  unfold overS upS
  have k1 : 0 ≤ cwithin t 0 1099511627776 * (1000 * (1000 + driftS rho)) := Int.mul_nonneg h3 (by omega)
  have k2 : cwithin t 0 1099511627776 * (1000 * (1000 + driftS rho)) ≤ 1099511627776 * 1200000 := Int.mul_le_mul h4 (by omega) (by omega) (by omega)
  constructor
  · exact Int.ediv_nonneg (by omega) (by omega)
  · have := Int.ediv_le_self (a := cwithin t 0 1099511627776 * (1000 * (1000 + driftS rho)) + (1000 - driftS rho) - 1) (1000 - driftS rho) (by omega)
    omega

/-- how long there is to wait -/
def waitE (all began now : Int) : Int := if now ≤ began then all else if all ≤ now - began then 0 else all - (now - began)

set_option maxRecDepth 100000 in
set_option maxHeartbeats 1000000 in
theorem swait_any (t rho began now : Int) (w : World) (b0 : -9223372036854775808 ≤ now) (b1 : now ≤ 9223372036854775807) (b2 : -9223372036854775808 ≤ began) (b3 : began ≤ 9223372036854775807) :
    Calls Try.prog 35 #[.int .i64 t, .int .i64 rho, .int .i64 began, .int .i64 now] w fun e w' => e = .returned (.int .i64 (waitE (overS t rho) began now)) ∧ Below w.heap.size w w' := by
  obtain ⟨k0, k1⟩ := overS_bd t rho
  obtain ⟨A, hA⟩ : ∃ A, A = overS t rho := ⟨_, rfl⟩
  rw [← hA] at k0 k1 ⊢
  have hov : ∀ w, Calls Try.prog 25 #[.int .i64 t, .int .i64 rho] w fun e w' => e = .returned (.int .i64 A) ∧ Below w.heap.size w w' := fun w => by rw [hA]; exact over_any _ _ _
  clear hA
  unfold waitE
  by_cases h1 : now ≤ began
  · rw [if_pos h1]
    go_enter Try.func35, Try.ntmps35
    go_wp2_with (refine (hov _).mono ?_; rintro e w1 ⟨rfl, hb1⟩)
    go_ret
    exact ⟨rfl, hb1⟩
  · rw [if_neg h1]
    have s1 : IntKind.u64.wrap (IntKind.u64.wrap now - IntKind.u64.wrap began) = now - began := by simp only [IntKind.wrap_u64]; omega
    have s2 : IntKind.u64.wrap A = A := by simp only [IntKind.wrap_u64]; omega
    by_cases h2 : A ≤ now - began
    · rw [if_pos h2]
      go_enter Try.func35, Try.ntmps35
      go_wp2_with (refine (hov _).mono ?_; rintro e w1 ⟨rfl, hb1⟩)
      go_ret
      exact ⟨rfl, hb1⟩
    · rw [if_neg h2]
      have s3 : IntKind.i64.wrap (now - began) = now - began := IntWalk.i64_in _ (by omega)
      go_enter Try.func35, Try.ntmps35
      go_wp2_with (refine (hov _).mono ?_; rintro e w1 ⟨rfl, hb1⟩)
      go_ret
      exact ⟨sret_int (by omega), hb1⟩

set_option maxRecDepth 100000 in
set_option maxHeartbeats 1000000 in
theorem rwait_any (t rho began now : Int) (w : World) (b0 : -9223372036854775808 ≤ now) (b1 : now ≤ 9223372036854775807) (b2 : -9223372036854775808 ≤ began) (b3 : began ≤ 9223372036854775807) :
    Calls Try.prog 36 #[.int .i64 t, .int .i64 rho, .int .i64 began, .int .i64 now] w fun e w' => e = .returned (.int .i64 (waitE (overS t rho) began now)) ∧ w = w' := by
  obtain ⟨k0, k1⟩ := overS_bd t rho
  obtain ⟨A, hA⟩ : ∃ A, A = overS t rho := ⟨_, rfl⟩
  rw [← hA] at k0 k1 ⊢
  have hov : ∀ w, Calls Try.prog 26 #[.int .i64 t, .int .i64 rho] w fun e w' => e = .returned (.int .i64 A) ∧ w = w' := fun w => by rw [hA]; exact rover_any _ _ _
  clear hA
  unfold waitE
  by_cases h1 : now ≤ began
  · rw [if_pos h1]
    go_enter Try.func36, Try.ntmps36
    go_wp2_with (refine (hov _).mono ?_; rintro e w1 ⟨rfl, rfl⟩)
    go_ret
    exact ⟨rfl, rfl⟩
  · rw [if_neg h1]
    have s1 : IntKind.u64.wrap (IntKind.u64.wrap now - IntKind.u64.wrap began) = now - began := by simp only [IntKind.wrap_u64]; omega
    have s2 : IntKind.u64.wrap A = A := by simp only [IntKind.wrap_u64]; omega
    by_cases h2 : A ≤ now - began
    · rw [if_pos h2]
      go_enter Try.func36, Try.ntmps36
      go_wp2_with (refine (hov _).mono ?_; rintro e w1 ⟨rfl, rfl⟩)
      go_ret
      exact ⟨rfl, rfl⟩
    · rw [if_neg h2]
      have s3 : IntKind.i64.wrap (now - began) = now - began := IntWalk.i64_in _ (by omega)
      go_enter Try.func36, Try.ntmps36
      go_wp2_with (refine (hov _).mono ?_; rintro e w1 ⟨rfl, rfl⟩)
      go_ret
      exact ⟨sret_int (by omega), rfl⟩
end Go.Proofs.Ytdmgmicnfoebmaa
