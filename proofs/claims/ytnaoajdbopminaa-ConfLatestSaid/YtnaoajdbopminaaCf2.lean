/-
  Package conf: majorities, and one node more or less.
-/
import Derived.Test.YtnaoajdbopminaaCf
namespace Go.Proofs.Ytnaoajdbopminaa
open Go.RowKit
set_option linter.unusedSimpArgs false
set_option linter.unusedVariables false

set_option maxHeartbeats 1000000 in
theorem most_any (s y : Int) (w : World) : Calls Try.prog 34 #[.int .u8 s, .int .u8 y] w fun e w' => e = .returned (.bool (mostI s y)) ∧ w = w' := by
  obtain ⟨m, hm⟩ : ∃ m, m = moI s := ⟨_, rfl⟩
  obtain ⟨x, hx⟩ : ∃ x, bits .and .u8 s y = x := ⟨_, rfl⟩
  obtain ⟨z, hz⟩ : ∃ z, z = szI x := ⟨_, rfl⟩
  obtain ⟨u, hu⟩ : ∃ u, u = szI s := ⟨_, rfl⟩
  have c1 : ∀ w, Calls Try.prog 71 #[.int .u8 s] w fun e w' => e = .returned (.int .i64 m) ∧ w = w' := fun w => by rw [hm]; exact mostof_any s w
  have c2 : ∀ w, Calls Try.prog 70 #[.int .u8 x] w fun e w' => e = .returned (.int .i64 z) ∧ w = w' := fun w => by rw [hz]; exact size_any _ w
  have c3 : ∀ w, Calls Try.prog 70 #[.int .u8 s] w fun e w' => e = .returned (.int .i64 u) ∧ w = w' := fun w => by rw [hu]; exact size_any _ w
  obtain ⟨C, hC⟩ : ∃ C, C = mostI s y := ⟨_, rfl⟩
  have HM : Hid (C = (decide (m ≤ z) && decide (0 < u))) := Lib.hid (by rw [hC, hm, hz, hu, ← hx, mostI, andI])
  rw [← hC]
  clear hC
  clear hm hz hu
  rcases (show z < m ∨ m ≤ z by omega) with h | h
  · have HM2 : Hid (C = false) := Lib.hid (by rw [HM.out]; simp; omega)
    go_enter Try.func34, Try.ntmps34
    go_wp2_with (first
      | (go_at_call 71; refine (c1 _).mono ?_; rintro e w' ⟨rfl, rfl⟩)
      | (go_at_call_of 70 (Value.int .u8 s); refine (c3 _).mono ?_; rintro e w' ⟨rfl, rfl⟩)
      | (go_at_call_of 70 (Value.int .u8 x); refine (c2 _).mono ?_; rintro e w' ⟨rfl, rfl⟩))
    go_ret
    exact ⟨by first | (rw [HM2.out]; rfl) | rw [HM2.out], rfl⟩
  · have HM2 : Hid (C = decide (0 < u)) := Lib.hid (by rw [HM.out]; simp; omega)
    go_enter Try.func34, Try.ntmps34
    go_wp2_with (first
      | (go_at_call 71; refine (c1 _).mono ?_; rintro e w' ⟨rfl, rfl⟩)
      | (go_at_call_of 70 (Value.int .u8 s); refine (c3 _).mono ?_; rintro e w' ⟨rfl, rfl⟩)
      | (go_at_call_of 70 (Value.int .u8 x); refine (c2 _).mono ?_; rintro e w' ⟨rfl, rfl⟩))
    go_ret
    exact ⟨by first | (rw [HM2.out]; rfl) | rw [HM2.out], rfl⟩

set_option maxHeartbeats 1000000 in
theorem meets_any (a b : Int) (w : World) : Calls Try.prog 36 #[.int .u8 a, .int .u8 b] w fun e w' => e = .returned (.bool (meetsI a b)) ∧ w = w' := by
  obtain ⟨p, hp⟩ : ∃ p, p = mayI a := ⟨_, rfl⟩
  obtain ⟨q, hq⟩ : ∃ q, q = mayI b := ⟨_, rfl⟩
  obtain ⟨x, hx⟩ : ∃ x, bits .and .u8 a b = x := ⟨_, rfl⟩
  obtain ⟨n, hn⟩ : ∃ n, n = neI a x := ⟨_, rfl⟩
  obtain ⟨m, hm⟩ : ∃ m, m = neI b x := ⟨_, rfl⟩
  obtain ⟨z, hz⟩ : ∃ z, z = szI x := ⟨_, rfl⟩
  have k1 : 0 ≤ n ∧ n ≤ 5 := by have := mo_bd a; have := sz_bd (outI a x); rw [hn]; unfold neI; omega
  have k2 : 0 ≤ m ∧ m ≤ 5 := by have := mo_bd b; have := sz_bd (outI b x); rw [hm]; unfold neI; omega
  obtain ⟨k3, k4⟩ := k1
  obtain ⟨k5, k6⟩ := k2
  have c1 : ∀ w, Calls Try.prog 69 #[.int .u8 a] w fun e w' => e = .returned (.bool p) ∧ w = w' := fun w => by rw [hp]; exact cmay_any _ w
  have c2 : ∀ w, Calls Try.prog 69 #[.int .u8 b] w fun e w' => e = .returned (.bool q) ∧ w = w' := fun w => by rw [hq]; exact cmay_any _ w
  have c3 : ∀ w, Calls Try.prog 72 #[.int .u8 a, .int .u8 x] w fun e w' => e = .returned (.int .i64 n) ∧ w = w' := fun w => by rw [hn]; exact needs_any _ _ w
  have c4 : ∀ w, Calls Try.prog 72 #[.int .u8 b, .int .u8 x] w fun e w' => e = .returned (.int .i64 m) ∧ w = w' := fun w => by rw [hm]; exact needs_any _ _ w
  have c5 : ∀ w, Calls Try.prog 70 #[.int .u8 x] w fun e w' => e = .returned (.int .i64 z) ∧ w = w' := fun w => by rw [hz]; exact size_any _ w
  obtain ⟨C, hC⟩ : ∃ C, C = meetsI a b := ⟨_, rfl⟩
  have HM : Hid (C = (p && q && decide (z < n + m))) := Lib.hid (by rw [hC, hz, hn, hm, ← hx, hp, hq, meetsI, andI])
  rw [← hC]
  clear hC
  clear hp hq hn hm hz
  cases p <;> cases q
  all_goals
    go_enter Try.func36, Try.ntmps36
    go_wp2_with (first
      | (go_at_call_of 69 (Value.int .u8 a); with_reducible refine Calls.mono (c1 _) ?_; rintro e w' ⟨rfl, rfl⟩)
      | (go_at_call_of 69 (Value.int .u8 b); with_reducible refine Calls.mono (c2 _) ?_; rintro e w' ⟨rfl, rfl⟩)
      | (go_at_call_of 72 (Value.int .u8 a); with_reducible refine Calls.mono (c3 _) ?_; rintro e w' ⟨rfl, rfl⟩)
      | (go_at_call_of 72 (Value.int .u8 b); with_reducible refine Calls.mono (c4 _) ?_; rintro e w' ⟨rfl, rfl⟩)
      | (go_at_call 70; with_reducible refine Calls.mono (c5 _) ?_; rintro e w' ⟨rfl, rfl⟩))
    go_ret
    exact ⟨by rw [HM.out]; simp, rfl⟩

/-- what becomes of a set by one node more: set, error -/
def addI (s node : Int) : Int × Int := if mayI s = false ∨ oneI node = 0 then (0, 2) else if hasI s node = true then (0, 101) else (orI s (oneI node), 0)
def remI (s node : Int) : Int × Int := if mayI s = false ∨ oneI node = 0 then (0, 2) else if hasI s node = false then (0, 4) else if s = oneI node then (0, 100) else (outI s (oneI node), 0)

set_option maxRecDepth 100000 in
set_option maxHeartbeats 2000000 in
theorem add_any (s node : Int) (w : World) : Calls Try.prog 39 #[.int .u8 s, .int .i64 node] w fun e w' => e = .returned (.tuple #[.int .u8 (addI s node).1, .int .i64 (addI s node).2]) ∧ w = w' := by
  obtain ⟨r, hr⟩ : ∃ r, r = addI s node := ⟨_, rfl⟩
  rw [← hr]
  unfold addI at hr
  obtain ⟨o, ho⟩ : ∃ o, o = oneI node := ⟨_, rfl⟩
  rw [← ho] at hr
  obtain ⟨m, hm⟩ : ∃ m, m = mayI s := ⟨_, rfl⟩
  rw [← hm] at hr
  obtain ⟨q, hq⟩ : ∃ q, q = hasI s node := ⟨_, rfl⟩
  rw [← hq] at hr
  have c1 : ∀ w, Calls Try.prog 73 #[.int .i64 node] w fun e w' => e = .returned (.int .u8 o) ∧ w = w' := fun w => by rw [ho]; exact one_any _ w
  have c2 : ∀ w, Calls Try.prog 69 #[.int .u8 s] w fun e w' => e = .returned (.bool m) ∧ w = w' := fun w => by rw [hm]; exact cmay_any _ w
  have c3 : ∀ w, Calls Try.prog 68 #[.int .u8 s, .int .i64 node] w fun e w' => e = .returned (.bool q) ∧ w = w' := fun w => by rw [hq]; exact has_any _ _ w
  clear ho hm hq
  by_cases h0 : o = 0
  · subst h0
    have HR : Hid (r = (0, 2)) := Lib.hid (by rw [hr, if_pos (.inr rfl)])
    clear hr
    cases m
    all_goals
      go_enter Try.func39, Try.ntmps39
      go_wp2_with (first
        | (go_at_call 73; with_reducible refine Calls.mono (c1 _) ?_; rintro e w' ⟨rfl, rfl⟩)
        | (go_at_call 69; with_reducible refine Calls.mono (c2 _) ?_; rintro e w' ⟨rfl, rfl⟩))
      go_ret2
      exact ⟨by first | (rw [HR.out]; rfl) | rw [HR.out], rfl⟩
  · have b1 : (o == 0) = false := by rw [beq_eq_false_iff_ne]; exact h0
    have HR := Lib.hid hr
    clear hr
    have H0 := Lib.hid h0
    clear h0
    cases m <;> cases q
    all_goals
      go_enter Try.func39, Try.ntmps39
      go_wp2_with (first
        | (go_at_call 73; with_reducible refine Calls.mono (c1 _) ?_; rintro e w' ⟨rfl, rfl⟩)
        | (go_at_call 69; with_reducible refine Calls.mono (c2 _) ?_; rintro e w' ⟨rfl, rfl⟩)
        | (go_at_call 68; with_reducible refine Calls.mono (c3 _) ?_; rintro e w' ⟨rfl, rfl⟩))
      go_ret2
      exact ⟨by rw [HR.out]; simp [H0.out] <;> rfl, rfl⟩

set_option maxRecDepth 100000 in
set_option maxHeartbeats 2000000 in
theorem rem_any (s node : Int) (w : World) : Calls Try.prog 41 #[.int .u8 s, .int .i64 node] w fun e w' => e = .returned (.tuple #[.int .u8 (remI s node).1, .int .i64 (remI s node).2]) ∧ w = w' := by
  obtain ⟨r, hr⟩ : ∃ r, r = remI s node := ⟨_, rfl⟩
  rw [← hr]
  unfold remI at hr
  obtain ⟨o, ho⟩ : ∃ o, o = oneI node := ⟨_, rfl⟩
  rw [← ho] at hr
  obtain ⟨m, hm⟩ : ∃ m, m = mayI s := ⟨_, rfl⟩
  rw [← hm] at hr
  obtain ⟨q, hq⟩ : ∃ q, q = hasI s node := ⟨_, rfl⟩
  rw [← hq] at hr
  have c1 : ∀ w, Calls Try.prog 73 #[.int .i64 node] w fun e w' => e = .returned (.int .u8 o) ∧ w = w' := fun w => by rw [ho]; exact one_any _ w
  have c2 : ∀ w, Calls Try.prog 69 #[.int .u8 s] w fun e w' => e = .returned (.bool m) ∧ w = w' := fun w => by rw [hm]; exact cmay_any _ w
  have c3 : ∀ w, Calls Try.prog 68 #[.int .u8 s, .int .i64 node] w fun e w' => e = .returned (.bool q) ∧ w = w' := fun w => by rw [hq]; exact has_any _ _ w
  clear ho hm hq
  by_cases h0 : o = 0
  · subst h0
    have HR : Hid (r = (0, 2)) := Lib.hid (by rw [hr, if_pos (.inr rfl)])
    clear hr
    cases m
    all_goals
      go_enter Try.func41, Try.ntmps41
      go_wp2_with (first
        | (go_at_call 73; with_reducible refine Calls.mono (c1 _) ?_; rintro e w' ⟨rfl, rfl⟩)
        | (go_at_call 69; with_reducible refine Calls.mono (c2 _) ?_; rintro e w' ⟨rfl, rfl⟩))
      go_ret2
      exact ⟨by first | (rw [HR.out]; rfl) | rw [HR.out], rfl⟩
  · have b1 : (o == 0) = false := by rw [beq_eq_false_iff_ne]; exact h0
    by_cases h1 : s = o
    · have b2 : (s == o) = true := by rw [beq_iff_eq]; exact h1
      have HR : Hid (r = if m = false then (0, 2) else if q = false then (0, 4) else (0, 100)) := Lib.hid (by rw [hr]; simp [h0, h1])
      clear hr h0 h1
      cases m <;> cases q
      all_goals
        go_enter Try.func41, Try.ntmps41
        go_wp2_with (first
          | (go_at_call 73; with_reducible refine Calls.mono (c1 _) ?_; rintro e w' ⟨rfl, rfl⟩)
          | (go_at_call 69; with_reducible refine Calls.mono (c2 _) ?_; rintro e w' ⟨rfl, rfl⟩)
          | (go_at_call 68; with_reducible refine Calls.mono (c3 _) ?_; rintro e w' ⟨rfl, rfl⟩))
        go_ret2
        exact ⟨by first | (rw [HR.out]; rfl) | rw [HR.out], rfl⟩
    · have b2 : (s == o) = false := by rw [beq_eq_false_iff_ne]; exact h1
      have HR : Hid (r = if m = false then (0, 2) else if q = false then (0, 4) else (bits .andNot .u8 s o, 0)) := Lib.hid (by rw [hr]; simp [h0, h1]; rfl)
      clear hr h0 h1
      cases m <;> cases q
      all_goals
        go_enter Try.func41, Try.ntmps41
        go_wp2_with (first
          | (go_at_call 73; with_reducible refine Calls.mono (c1 _) ?_; rintro e w' ⟨rfl, rfl⟩)
          | (go_at_call 69; with_reducible refine Calls.mono (c2 _) ?_; rintro e w' ⟨rfl, rfl⟩)
          | (go_at_call 68; with_reducible refine Calls.mono (c3 _) ?_; rintro e w' ⟨rfl, rfl⟩))
        go_ret2
        exact ⟨by first | (rw [HR.out]; rfl) | rw [HR.out], rfl⟩
end Go.Proofs.Ytnaoajdbopminaa
