/-
  Package stamp: wakes; credits and waits; the law StampCredits.
-/
import Derived.Test.YtnaoajdbopminaaSt
namespace Go.Proofs.Ytnaoajdbopminaa
open Go.RowKit
set_option linter.unusedSimpArgs false
set_option linter.unusedVariables false

set_option maxRecDepth 100000 in
set_option maxHeartbeats 2000000 in
theorem swakes_any (w : World) : Calls Try.prog 23 #[] w fun e w' => e = .returned (.bool true) ∧ Below w.heap.size w w' := by
  have a1 : atS 5000 100 0 6099 = 0 := by decide
  have a2 : atS 5000 100 0 6100 = 1 := by decide
  have a3 : atS 5000 100 1 7200 = 2 := by decide
  have a4 : atS 5000 100 2 7000 = 2 := by decide
  have A1 := Lib.hid a1
  have A2 := Lib.hid a2
  have A3 := Lib.hid a3
  have A4 := Lib.hid a4
  have hok : StOk 100 5000 := by unfold StOk; omega
  clear a1 a2 a3 a4
  go_enter Try.func23, Try.ntmps23
  go_wp2_with (first
    | (go_at_call 24; refine (snew_ok 100 5000 hok _).mono ?_; rintro e w' ⟨rfl, rfl⟩)
    | (go_at_call_of 25 (Value.int .i64 6099); refine (at_good w.heap.size 5000 100 0 6099 _ (heap_alloc_new _ _) (by omega) (by omega) (by omega)).mono ?_; rw [A1.out]; rintro e w1 ⟨rfl, hf1, k1⟩)
    | (go_at_call_of 25 (Value.int .i64 6100); refine (at_good w.heap.size 5000 100 0 6100 _ k1 (by omega) (by omega) (by omega)).mono ?_; rw [A2.out]; rintro e w2 ⟨rfl, hf2, k2⟩)
    | (go_at_call_of 25 (Value.int .i64 7200); refine (at_good w.heap.size 5000 100 1 7200 _ k2 (by omega) (by omega) (by omega)).mono ?_; rw [A3.out]; rintro e w3 ⟨rfl, hf3, k3⟩)
    | (go_at_call_of 25 (Value.int .i64 7000); refine (at_good w.heap.size 5000 100 2 7000 _ k3 (by omega) (by omega) (by omega)).mono ?_; rw [A4.out]; rintro e w4 ⟨rfl, hf4, k4⟩)
    | (go_at_call_of 25 (Value.int .i64 4999); refine (at_bad w.heap.size 5000 100 2 4999 _ k4 (.inl (by omega))).mono ?_; rintro e w' ⟨rfl, rfl⟩)
    | (go_at_call 64; refine (slast_any w.heap.size 5000 100 2 _ k4).mono ?_; rintro e w' ⟨rfl, rfl⟩))
  go_ret
  have f0 : Fr [w.heap.size] w (w.alloc (.cells #[.int .i64 5000, .int .i64 100, .int .i64 0] 100)) := (Fr.refl _ _).alloc _
  have f4 := (((f0.trans hf1 (by simp)).trans hf2 (by simp)).trans hf3 (by simp)).trans hf4 (by simp)
  exact ⟨rfl, f4.below (Nat.le_refl _) (by simp)⟩

/-- for how many ticks an entry makes tokens -/
def creditE (term stamp t s : Int) : Int := if t = term ∧ stamp ≤ s then wrap64 (s - stamp) else 0

theorem sret_int {a b : Int} (h : a = b) : Ending.returned (.int .i64 a) = .returned (.int .i64 b) := by rw [h]

set_option maxRecDepth 100000 in
set_option maxHeartbeats 1000000 in
theorem scredit_any (term stamp t k s st : Int) (da : Option Addr) (dl dc : Nat) (w : World) (b0 : -9223372036854775808 ≤ s) (b1 : s ≤ 9223372036854775807) (b2 : -9223372036854775808 ≤ stamp) (b3 : stamp ≤ 9223372036854775807) :
    Calls Try.prog 26 #[.int .i64 term, .int .i64 stamp, .agg #[.int .i64 t, .int .i8 k, .int .i64 s, .int .u8 st, .slice da dl dc]] w fun e w' => e = .returned (.int .i64 (creditE term stamp t s)) ∧ Below w.heap.size w w' := by
  unfold creditE
  by_cases h1 : t = term
  · subst h1
    by_cases h2 : stamp ≤ s
    · rw [if_pos ⟨rfl, h2⟩]
      go_enter Try.func26, Try.ntmps26
      go_wp2_with fail
      go_ret
      refine ⟨sret_int ?_, (Below.refl _ _).alloc (Nat.le_refl _) _⟩
      simp only [wrap64, IntKind.wrap_i64, IntKind.wrap_u64]
      omega
    · rw [if_neg (fun h => h2 h.2)]
      go_enter Try.func26, Try.ntmps26
      go_wp2_with fail
      go_ret
      exact ⟨rfl, (Below.refl _ _).alloc (Nat.le_refl _) _⟩
  · rw [if_neg (fun h => h1 h.1)]
    have e1 : (t == term) = false := by rw [beq_eq_false_iff_ne]; exact h1
    have e2 : (t != term) = true := by rw [bne_iff_ne]; exact h1
    go_enter Try.func26, Try.ntmps26
    go_wp2_with fail
    go_ret
    exact ⟨rfl, (Below.refl _ _).alloc (Nat.le_refl _) _⟩

theorem overS_bd (t rho : Int) : 0 ≤ overS t rho ∧ overS t rho ≤ 1320000000000000000 := by
  obtain ⟨h1, h2⟩ := driftS_bd rho
  obtain ⟨h3, h4⟩ := cwithin_bd t 1099511627776 (by omega)
  unfold overS upS
  have k1 : 0 ≤ cwithin t 0 1099511627776 * (1000 * (1000 + driftS rho)) := Int.mul_nonneg h3 (by omega)
  have k2 : cwithin t 0 1099511627776 * (1000 * (1000 + driftS rho)) ≤ 1099511627776 * 1200000 := Int.mul_le_mul h4 (by omega) (by omega) (by omega)
  constructor
  · exact Int.ediv_nonneg (by omega) (by omega)
  · have := Int.ediv_le_self (a := cwithin t 0 1099511627776 * (1000 * (1000 + driftS rho)) + (1000 - driftS rho) - 1) (1000 - driftS rho) (by omega)
    omega

/-- how long there is to wait -/
def waitE (all began now : Int) : Int := if now ≤ began then all else if all ≤ now - began then 0 else all - (now - began)

end Go.Proofs.Ytnaoajdbopminaa
