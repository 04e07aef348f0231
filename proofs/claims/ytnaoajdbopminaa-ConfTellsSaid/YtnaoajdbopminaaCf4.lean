/-
  Package conf: one node more or less, as the document has it.
-/
import Derived.Test.YtnaoajdbopminaaCf3
namespace Go.Proofs.Ytnaoajdbopminaa
open Go.RowKit
set_option linter.unusedSimpArgs false
set_option linter.unusedVariables false

theorem one_of : ∀ n : Fin 256, ∀ k : Fin 7, mayI (n.val : Int) = true → hasI (n.val : Int) ((k.val + 1 : Nat) : Int) = true → ((szI (n.val : Int) == 1) = ((n.val : Int) == oneI ((k.val + 1 : Nat) : Int))) := by decide +kernel
theorem one_of' (s node : Int) (h0 : 0 ≤ s) (h1 : s ≤ 255) (n0 : 1 ≤ node) (n1 : node ≤ 7) (hm : mayI s = true) (hh : hasI s node = true) : (szI s == 1) = (s == oneI node) := by
  have h := one_of ⟨s.toNat, by omega⟩ ⟨(node - 1).toNat, by omega⟩
  simp only at h
  rw [show ((s.toNat : Nat) : Int) = s by omega, show (((node - 1).toNat + 1 : Nat) : Int) = node by omega] at h
  exact h hm hh
theorem one_out (node : Int) (h : node < 1 ∨ 7 < node) : oneI node = 0 := by unfold oneI; omega

set_option maxRecDepth 100000 in
set_option maxHeartbeats 4000000 in
theorem radd_any (s node : Int) (w : World) (h0 : 0 ≤ s) (h1 : s ≤ 255) : Calls Try.prog 40 #[.int .u8 s, .int .i64 node] w fun e w' => e = .returned (.tuple #[.int .u8 (addI s node).1, .int .i64 (addI s node).2]) ∧ w = w' := by
  obtain ⟨r, hr⟩ : ∃ r, r = addI s node := ⟨_, rfl⟩
  rw [← hr]
  unfold addI at hr
  obtain ⟨m, hm⟩ : ∃ m, m = mayI s := ⟨_, rfl⟩
  rw [← hm] at hr
  obtain ⟨q, hq⟩ : ∃ q, q = hasI s node := ⟨_, rfl⟩
  rw [← hq] at hr
  have c2 : ∀ w, Calls Try.prog 31 #[.int .u8 s] w fun e w' => e = .returned (.bool m) ∧ w = w' := fun w => by rw [hm]; exact rmay_any _ w h0 h1
  have c3 : ∀ w, Calls Try.prog 28 #[.int .u8 s, .int .i64 node] w fun e w' => e = .returned (.bool q) ∧ w = w' := fun w => by rw [hq]; exact rhas_any _ _ w h0 h1
  clear hm hq
  rcases node_cases node with h | h | rfl | rfl | rfl | rfl | rfl | rfl | rfl
  · have HR : Hid (r = (0, 2)) := Lib.hid (by rw [hr, if_pos (.inr (one_out _ (.inl h)))])
    clear hr c3
    cases m
    all_goals
      go_enter Try.func40, Try.ntmps40
      go_wp2_with (go_at_call 31; with_reducible refine Calls.mono (c2 _) ?_; rintro e w' ⟨rfl, rfl⟩)
      go_ret2
      exact ⟨by first | (rw [HR.out]; rfl) | rw [HR.out], rfl⟩
  · have HR : Hid (r = (0, 2)) := Lib.hid (by rw [hr, if_pos (.inr (one_out _ (.inr h)))])
    clear hr c3
    cases m
    all_goals
      go_enter Try.func40, Try.ntmps40
      go_wp2_with (go_at_call 31; with_reducible refine Calls.mono (c2 _) ?_; rintro e w' ⟨rfl, rfl⟩)
      go_ret2
      exact ⟨by first | (rw [HR.out]; rfl) | rw [HR.out], rfl⟩
  all_goals
    have HR := Lib.hid hr
    clear hr
    cases m <;> cases q
    all_goals
      go_enter Try.func40, Try.ntmps40
      go_wp2_with (first
        | (go_at_call 31; with_reducible refine Calls.mono (c2 _) ?_; rintro e w' ⟨rfl, rfl⟩)
        | (go_at_call 28; with_reducible refine Calls.mono (c3 _) ?_; rintro e w' ⟨rfl, rfl⟩))
      go_ret2
      exact ⟨by rw [HR.out]; simp [oneI] <;> rfl, rfl⟩

set_option maxRecDepth 100000 in
set_option maxHeartbeats 4000000 in
theorem rrem_any (s node : Int) (w : World) (h0 : 0 ≤ s) (h1 : s ≤ 255) : Calls Try.prog 42 #[.int .u8 s, .int .i64 node] w fun e w' => e = .returned (.tuple #[.int .u8 (remI s node).1, .int .i64 (remI s node).2]) ∧ w = w' := by
  obtain ⟨r, hr⟩ : ∃ r, r = remI s node := ⟨_, rfl⟩
  rw [← hr]
  unfold remI at hr
  have HO := fun n0 n1 => one_of' s node h0 h1 n0 n1
  obtain ⟨m, hm⟩ : ∃ m, m = mayI s := ⟨_, rfl⟩
  rw [← hm] at hr HO
  obtain ⟨q, hq⟩ : ∃ q, q = hasI s node := ⟨_, rfl⟩
  rw [← hq] at hr HO
  obtain ⟨z, hz⟩ : ∃ z, z = szI s := ⟨_, rfl⟩
  rw [← hz] at HO
  have c2 : ∀ w, Calls Try.prog 31 #[.int .u8 s] w fun e w' => e = .returned (.bool m) ∧ w = w' := fun w => by rw [hm]; exact rmay_any _ w h0 h1
  have c3 : ∀ w, Calls Try.prog 28 #[.int .u8 s, .int .i64 node] w fun e w' => e = .returned (.bool q) ∧ w = w' := fun w => by rw [hq]; exact rhas_any _ _ w h0 h1
  have c4 : ∀ w, Calls Try.prog 29 #[.int .u8 s] w fun e w' => e = .returned (.int .i64 z) ∧ w = w' := fun w => by rw [hz]; exact rsize_any _ w h0 h1
  clear hm hq hz
  rcases node_cases node with h | h | h | h | h | h | h | h | h
  · have HR : Hid (r = (0, 2)) := Lib.hid (by rw [hr, if_pos (.inr (one_out _ (.inl h)))])
    clear hr c3 HO c4
    cases m
    all_goals
      go_enter Try.func42, Try.ntmps42
      go_wp2_with (go_at_call 31; with_reducible refine Calls.mono (c2 _) ?_; rintro e w' ⟨rfl, rfl⟩)
      go_ret2
      exact ⟨by first | (rw [HR.out]; rfl) | rw [HR.out], rfl⟩
  · have HR : Hid (r = (0, 2)) := Lib.hid (by rw [hr, if_pos (.inr (one_out _ (.inr h)))])
    clear hr c3 HO c4
    cases m
    all_goals
      go_enter Try.func42, Try.ntmps42
      go_wp2_with (go_at_call 31; with_reducible refine Calls.mono (c2 _) ?_; rintro e w' ⟨rfl, rfl⟩)
      go_ret2
      exact ⟨by first | (rw [HR.out]; rfl) | rw [HR.out], rfl⟩
  all_goals
    subst h
    have HO := HO (by decide) (by decide)
    cases m
    · have HR : Hid (r = (0, 2)) := Lib.hid (by rw [hr, if_pos (.inl rfl)])
      clear hr HO c3 c4
      go_enter Try.func42, Try.ntmps42
      go_wp2_with (go_at_call 31; with_reducible refine Calls.mono (c2 _) ?_; rintro e w' ⟨rfl, rfl⟩)
      go_ret2
      exact ⟨by first | (rw [HR.out]; rfl) | rw [HR.out], rfl⟩
    · cases q
      · have HR : Hid (r = (0, 4)) := Lib.hid (by rw [hr]; simp [oneI])
        clear hr HO c4
        go_enter Try.func42, Try.ntmps42
        go_wp2_with (first
          | (go_at_call 31; with_reducible refine Calls.mono (c2 _) ?_; rintro e w' ⟨rfl, rfl⟩)
          | (go_at_call 28; with_reducible refine Calls.mono (c3 _) ?_; rintro e w' ⟨rfl, rfl⟩))
        go_ret2
        exact ⟨by first | (rw [HR.out]; rfl) | rw [HR.out], rfl⟩
      · have HO := HO rfl rfl
        cases hz : (z == 1)
        · rw [hz] at HO
          have HR : Hid (r = (outI s (oneI _), 0)) := Lib.hid (by rw [hr, if_neg (by simp [oneI]), if_neg (by simp), if_neg (by intro e; rw [e] at HO; simp at HO)])
          clear hr HO
          go_enter Try.func42, Try.ntmps42
          go_wp2_with (first
            | (go_at_call 31; with_reducible refine Calls.mono (c2 _) ?_; rintro e w' ⟨rfl, rfl⟩)
            | (go_at_call 29; with_reducible refine Calls.mono (c4 _) ?_; rintro e w' ⟨rfl, rfl⟩)
            | (go_at_call 28; with_reducible refine Calls.mono (c3 _) ?_; rintro e w' ⟨rfl, rfl⟩))
          go_ret2
          exact ⟨by rw [HR.out]; rfl, rfl⟩
        · rw [hz] at HO
          have HR : Hid (r = (0, 100)) := Lib.hid (by rw [hr, if_neg (by simp [oneI]), if_neg (by simp), if_pos (by simpa using HO.symm)])
          clear hr HO
          go_enter Try.func42, Try.ntmps42
          go_wp2_with (first
            | (go_at_call 31; with_reducible refine Calls.mono (c2 _) ?_; rintro e w' ⟨rfl, rfl⟩)
            | (go_at_call 29; with_reducible refine Calls.mono (c4 _) ?_; rintro e w' ⟨rfl, rfl⟩)
            | (go_at_call 28; with_reducible refine Calls.mono (c3 _) ?_; rintro e w' ⟨rfl, rfl⟩))
          go_ret2
          exact ⟨by first | (rw [HR.out]; rfl) | rw [HR.out], rfl⟩
end Go.Proofs.Ytnaoajdbopminaa
