/-
  Small questions of histories.
-/
import Derived.Test.YthmjlomlceljkaaHiP
import Derived.Deep.DeepFit
import Derived.Lib.AppendZeros
import Derived.Deep.RegionLaw
import Derived.Deep.RegionWith
import Derived.Lib.EndianBits
namespace Go.Proofs.Ythmjlomlceljkaa
open Go.RowKit
set_option linter.unusedSimpArgs false
set_option linter.unusedVariables false

theorem ret_bool {a b : Bool} (h : a = b) : Ending.returned (.bool a) = .returned (.bool b) := by rw [h]
set_option maxRecDepth 100000 in
set_option maxHeartbeats 2000000 in
theorem isTen_any (n : Int) (w : World) : Calls Try.prog 67 #[.int .i64 n] w fun e w' => e = .returned (.bool (tenB n)) ∧ w = w' := by
  go_enter Try.func67, Try.ntmps67
  go_wp2_with fail
  all_goals
    go_ret
    exact ⟨ret_bool (by unfold tenB; first | (simp [*]; done) | (simp; omega) | (simp [*]; omega)), rfl⟩
set_option maxRecDepth 100000 in
set_option maxHeartbeats 2000000 in
theorem rmay_any (n m : Int) (w : World) : Calls Try.prog 51 #[.int .i64 n, .int .i64 m] w fun e w' => e = .returned (.bool (mayR n m)) ∧ w = w' := by
  go_enter Try.func51, Try.ntmps51
  go_wp2_with fail
  all_goals
    go_ret
    exact ⟨ret_bool (by unfold mayR; first | (simp [*]; done) | (simp; omega) | (simp [*]; omega)), rfl⟩
set_option maxRecDepth 100000 in
set_option maxHeartbeats 2000000 in
theorem pmay_any (n m : Int) (w : World) : Calls Try.prog 45 #[.int .i64 n, .int .i64 m] w fun e w' => e = .returned (.bool (mayR n m)) ∧ w = w' := by
  go_enter Try.func45, Try.ntmps45
  go_wp2_with fail
  all_goals
    go_ret
    exact ⟨ret_bool (by unfold mayR; first | (simp [*]; done) | (simp; omega) | (simp [*]; omega)), rfl⟩
set_option maxRecDepth 100000 in
set_option maxHeartbeats 2000000 in
theorem mayAsk_any (c : CaE) (w : World) : Calls Try.prog 42 #[.agg #[.int .i8 c.kind, .int .i64 c.client, .int .i64 c.number, .int .i64 c.tenant, .int .i64 c.crate, .int .i64 c.cburst, .int .i64 c.shaper, .int .i64 c.epoch, .int .i64 c.clease, .int .i64 c.csize, .int .i64 c.spent, .bool c.closed, .slice c.lsa c.lsn c.lsc]] w fun e w' => e = .returned (.bool (cmdB c.kind c.tenant)) ∧ Below w.heap.size w w' := by
  obtain ⟨kind, client, number, tenant, crate, cburst, shaper, epoch, clease, csize, spent, closed, lsa, lsn, lsc, fr, til, e, rate, burst, lease, size⟩ := c
  simp only
  have hcs : kind < 1 ∨ (1 ≤ kind ∧ 3 < kind) ∨ (1 ≤ kind ∧ kind ≤ 3 ∧ tenant < 1) ∨ (1 ≤ kind ∧ kind ≤ 3 ∧ 1 ≤ tenant ∧ 16 < tenant) ∨ (1 ≤ kind ∧ kind ≤ 3 ∧ 1 ≤ tenant ∧ tenant ≤ 16) := by omega
  rcases hcs with h1 | ⟨h1, h2⟩ | ⟨h1, h2, h3⟩ | ⟨h1, h2, h3, h4⟩ | ⟨h1, h2, h3, h4⟩
  all_goals
    go_enter Try.func42, Try.ntmps42
    go_wp2_with (refine Calls.mono (isTen_any _ _) ?_; rintro e w' ⟨rfl, rfl⟩)
    go_ret
    exact ⟨ret_bool (by unfold cmdB tenB; first | (simp; done) | (simp; omega) | (simp [*]; done) | (simp [*]; omega) | trace_state), by first | exact (Below.refl _ _).alloc (Nat.le_refl _) _ | exact ((Below.refl _ _).alloc (Nat.le_refl _) _).drew⟩
set_option maxRecDepth 100000 in
set_option maxHeartbeats 2000000 in
theorem rcmd_any (c : CaE) (w : World) : Calls Try.prog 49 #[.agg #[.int .i8 c.kind, .int .i64 c.client, .int .i64 c.number, .int .i64 c.tenant, .int .i64 c.crate, .int .i64 c.cburst, .int .i64 c.shaper, .int .i64 c.epoch, .int .i64 c.clease, .int .i64 c.csize, .int .i64 c.spent, .bool c.closed, .slice c.lsa c.lsn c.lsc]] w fun e w' => e = .returned (.bool (cmdB c.kind c.tenant)) ∧ Below w.heap.size w w' := by
  obtain ⟨kind, client, number, tenant, crate, cburst, shaper, epoch, clease, csize, spent, closed, lsa, lsn, lsc, fr, til, e, rate, burst, lease, size⟩ := c
  simp only
  have hcs : kind < 1 ∨ (1 ≤ kind ∧ 3 < kind) ∨ (1 ≤ kind ∧ kind ≤ 3 ∧ tenant < 1) ∨ (1 ≤ kind ∧ kind ≤ 3 ∧ 1 ≤ tenant ∧ 16 < tenant) ∨ (1 ≤ kind ∧ kind ≤ 3 ∧ 1 ≤ tenant ∧ tenant ≤ 16) := by omega
  rcases hcs with h1 | ⟨h1, h2⟩ | ⟨h1, h2, h3⟩ | ⟨h1, h2, h3, h4⟩ | ⟨h1, h2, h3, h4⟩
  all_goals
    go_enter Try.func49, Try.ntmps49
    go_wp2_with (refine Calls.mono (isTen_any _ _) ?_; rintro e w' ⟨rfl, rfl⟩)
    go_ret
    exact ⟨ret_bool (by unfold cmdB tenB; first | (simp; done) | (simp; omega) | (simp [*]; done) | (simp [*]; omega) | trace_state), by first | exact (Below.refl _ _).alloc (Nat.le_refl _) _ | exact ((Below.refl _ _).alloc (Nat.le_refl _) _).drew⟩
set_option maxRecDepth 100000 in
set_option maxHeartbeats 2000000 in
theorem cmpF_any (f : FcE) (n : Int) (w : World) (h : -9223372036854775808 ≤ f.tenant - n ∧ f.tenant - n ≤ 9223372036854775807) : Calls Try.prog 44 #[.agg #[.int .i64 f.tick, .int .i64 f.tenant, .int .i64 f.rate, .int .i64 f.burst], .int .i64 n] w fun e w' => e = .returned (.int .i64 (f.tenant - n)) ∧ Below w.heap.size w w' := by
  have ww1 : IntKind.i64.wrap (f.tenant - n) = f.tenant - n := IntWalk.i64_in _ (by omega)
  obtain ⟨tick, tenant, rate, burst⟩ := f
  simp only at ww1 ⊢
  clear h
  go_enter Try.func44, Try.ntmps44
  go_wp2_with fail
  go_ret
  exact ⟨rfl, (Below.refl _ _).alloc (Nat.le_refl _) _⟩
theorem bit_has (D k : Nat) (hD : D < 4096) : (bits .and .u64 ((D : Int) / 2 ^ k) 1 == 1) = D.testBit k := by
  have e : ((D : Int) / 2 ^ k) = ((D / 2 ^ k : Nat) : Int) := by rw [Int.natCast_ediv, Int.natCast_pow]; rfl
  have hl : D / 2 ^ k < 2 ^ 64 := Nat.lt_of_le_of_lt (Nat.div_le_self _ _) (by omega)
  have h := (bits_nat .u64 64 (by decide) wraps_u64 (D / 2 ^ k) 1 hl (by decide)).1
  rw [e]
  have h' : bits .and .u64 ((D / 2 ^ k : Nat) : Int) 1 = ((D / 2 ^ k &&& 1 : Nat) : Int) := h
  rw [h', Nat.and_one_is_mod, Nat.testBit_eq_decide_div_mod_eq]
  by_cases hc : D / 2 ^ k % 2 = 1
  · rw [hc]; rfl
  · rw [show D / 2 ^ k % 2 = 0 by omega]; rfl
theorem bit_put (D k : Nat) (hD : D < 4096) (hk : k < 12) : bits .or .u64 (D : Int) ((2 ^ k : Nat) : Int) = ((D ||| 2 ^ k : Nat) : Int) := by
  have hp : 2 ^ k < 2 ^ 64 := Nat.pow_lt_pow_right (by decide) (by omega)
  exact (bits_nat .u64 64 (by decide) wraps_u64 D (2 ^ k) (by omega) hp).2
theorem bit_lt {D k : Nat} (hD : D < 4096) (hk : k < 12) : D ||| 2 ^ k < 4096 := Nat.or_lt_two_pow (n := 12) hD (Nat.pow_lt_pow_right (by decide) hk)
theorem bit_gt {D k : Nat} (hb : D.testBit k = false) : D < D ||| 2 ^ k := by
  rcases Nat.lt_or_ge D (D ||| 2 ^ k) with h | h
  · exact h
  · have h2 : D ≤ D ||| 2 ^ k := Nat.left_le_or
    have e : D ||| 2 ^ k = D := by omega
    have := bit_or D k k
    rw [e, hb] at this
    simp at this
set_option maxRecDepth 100000 in
set_option maxHeartbeats 2000000 in
theorem has_any (D k : Nat) (w : World) (hD : D < 4096) (hk : k < 12) : Calls Try.prog 52 #[.int .u64 (D : Nat), .int .i64 (k : Nat)] w fun e w' => e = .returned (.bool (D.testBit k)) ∧ w = w' := by
  go_enter Try.func52, Try.ntmps52
  go_wp2_with fail
  go_ret
  exact ⟨ret_bool (bit_has D k hD), rfl⟩
end Go.Proofs.Ythmjlomlceljkaa
