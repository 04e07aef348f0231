/-
  Package vote: timeouts and rising terms.
-/
import Derived.Test.YtidheicmaodfgaaVt
namespace Go.Proofs.Ytidheicmaodfgaa
open Go.RowKit
set_option linter.unusedVariables false

def baseS (base : Int) : Int := min (max base 1) 1099511627776
def timeoutS (base draw : Int) : Int := baseS base + draw % baseS base

theorem tmod_facts (draw b : Int) (hb : 0 < b) : -b < draw.tmod b ∧ draw.tmod b < b ∧ ((draw.tmod b < 0 ∧ draw % b = draw.tmod b + b) ∨ (0 ≤ draw.tmod b ∧ draw % b = draw.tmod b)) := by
  have h1 := Int.tmod_lt_of_pos draw hb
  have h2 : -b < draw.tmod b := by
    have := Int.tmod_lt_of_pos (-draw) hb
    rw [Int.neg_tmod] at this
    omega
  have h3 : draw % b = draw.tmod b % b := by
    have := Int.mul_tdiv_add_tmod draw b
    conv => lhs; rw [← this]
    rw [Int.add_comm, Int.add_mul_emod_self_left]
  refine ⟨h2, h1, ?_⟩
  by_cases h : draw.tmod b < 0
  · refine .inl ⟨h, ?_⟩
    have h4 : draw.tmod b % b = (draw.tmod b + b * 1) % b := (Int.add_mul_emod_self_left _ _ _).symm
    rw [h3, h4, Int.mul_one]
    exact Int.emod_eq_of_lt (by omega) (by omega)
  · exact .inr ⟨by omega, by rw [h3]; exact Int.emod_eq_of_lt (by omega) h1⟩

set_option maxHeartbeats 1000000 in
theorem timeout_any (base draw : Int) (w : World) (h0 : -9223372036854775808 ≤ draw) (h1 : draw ≤ 9223372036854775807) : Calls Try.prog 22 #[.int .i64 base, .int .i64 draw] w fun e w' => e = .returned (.int .i64 (timeoutS base draw)) ∧ w = w' := by
  obtain ⟨R, hR⟩ : ∃ R, R = timeoutS base draw := ⟨_, rfl⟩
  rw [← hR]
  unfold timeoutS baseS at hR
  obtain ⟨b, hb⟩ : ∃ b, min (max base 1) 1099511627776 = b := ⟨_, rfl⟩
  rw [hb] at hR
  have hb0 : 1 ≤ b ∧ b ≤ 1099511627776 := by omega
  obtain ⟨b0, b1⟩ := hb0
  obtain ⟨f1, f2, f3⟩ := tmod_facts draw b (by omega)
  obtain ⟨k1, k2, k3⟩ := tmod_facts (draw.tmod b + b) b (by omega)
  have z1 : (b == 0) = false := by rw [beq_eq_false_iff_ne]; omega
  obtain ⟨D, hD⟩ : ∃ D, draw.tmod b = D := ⟨_, rfl⟩
  rw [hD] at f1 f2 f3 k1 k2 k3
  obtain ⟨E, hE⟩ : ∃ E, (D + b).tmod b = E := ⟨_, rfl⟩
  rw [hE] at k1 k2 k3
  have hE0 : 0 ≤ E := by rw [← hE]; exact Int.tmod_nonneg b (by omega)
  have hE2 : (D < 0 ∧ E = D + b) ∨ (0 ≤ D ∧ E = D) := by
    have e1 : (D + b) % b = D % b := by have := Int.add_mul_emod_self_left D b 1; rwa [Int.mul_one] at this
    have e2 : draw % b = D % b := by
      have := Int.mul_tdiv_add_tmod draw b
      rw [hD, Int.add_comm] at this
      rw [← this, Int.add_mul_emod_self_left]
    omega
  clear k3 hE0
  rcases f3 with ⟨g1, g2⟩ | ⟨g1, g2⟩
  all_goals
    rw [g2] at hR
    have HR := Lib.hid hR
    have HE2 := Lib.hid hE2
    clear hR g2 hE2
    go_enter Try.func22, Try.ntmps22
    go_wp2_with fail
    go_ret
    refine ⟨congrArg (fun n => Ending.returned (.int .i64 n)) ?_, rfl⟩
    have := HR.out
    have := HE2.out
    first | rfl | omega
set_option maxHeartbeats 1000000 in
theorem rtimeout_any (base draw : Int) (w : World) (h0 : -9223372036854775808 ≤ draw) (h1 : draw ≤ 9223372036854775807) : Calls Try.prog 23 #[.int .i64 base, .int .i64 draw] w fun e w' => e = .returned (.int .i64 (timeoutS base draw)) ∧ w = w' := by
  obtain ⟨R, hR⟩ : ∃ R, R = timeoutS base draw := ⟨_, rfl⟩
  rw [← hR]
  unfold timeoutS baseS at hR
  obtain ⟨b, hb⟩ : ∃ b, min (max base 1) 1099511627776 = b := ⟨_, rfl⟩
  rw [hb] at hR
  have hb0 : 1 ≤ b ∧ b ≤ 1099511627776 := by omega
  obtain ⟨b0, b1⟩ := hb0
  obtain ⟨f1, f2, f3⟩ := tmod_facts draw b (by omega)
  obtain ⟨k1, k2, k3⟩ := tmod_facts (draw.tmod b + b) b (by omega)
  have z1 : (b == 0) = false := by rw [beq_eq_false_iff_ne]; omega
  obtain ⟨D, hD⟩ : ∃ D, draw.tmod b = D := ⟨_, rfl⟩
  rw [hD] at f1 f2 f3 k1 k2 k3
  obtain ⟨E, hE⟩ : ∃ E, (D + b).tmod b = E := ⟨_, rfl⟩
  rw [hE] at k1 k2 k3
  have hE0 : 0 ≤ E := by rw [← hE]; exact Int.tmod_nonneg b (by omega)
  have hE2 : (D < 0 ∧ E = D + b) ∨ (0 ≤ D ∧ E = D) := by
    have e1 : (D + b) % b = D % b := by have := Int.add_mul_emod_self_left D b 1; rwa [Int.mul_one] at this
    have e2 : draw % b = D % b := by
      have := Int.mul_tdiv_add_tmod draw b
      rw [hD, Int.add_comm] at this
      rw [← this, Int.add_mul_emod_self_left]
    omega
  clear k3 hE0
  rcases f3 with ⟨g1, g2⟩ | ⟨g1, g2⟩
  all_goals
    rw [g2] at hR
    have HR := Lib.hid hR
    have HE2 := Lib.hid hE2
    clear hR g2 hE2
    go_enter Try.func23, Try.ntmps23
    go_wp2_with fail
    go_ret
    refine ⟨congrArg (fun n => Ending.returned (.int .i64 n)) ?_, rfl⟩
    have := HR.out
    have := HE2.out
    first | rfl | omega
end Go.Proofs.Ytidheicmaodfgaa
