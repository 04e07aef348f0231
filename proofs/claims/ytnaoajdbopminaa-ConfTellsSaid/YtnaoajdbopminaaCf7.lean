/-
  ConfChanges and ConfSizes, walked.
-/
import Derived.Test.YtnaoajdbopminaaCf6
namespace Go.Proofs.Ytnaoajdbopminaa
open Go.RowKit
set_option linter.unusedSimpArgs false
set_option linter.unusedVariables false

set_option maxRecDepth 100000 in
set_option maxHeartbeats 1000000 in
theorem confChanges_walk (s node : Int) (h : 0 ≤ s ∧ s ≤ 255) (w : World) : Calls Try.prog 6 #[.int .u8 s, .int .i64 node] w fun e w' => e = .returned (.bool true) ∧ Below w.heap.size w w' := by
  obtain ⟨h0, h1⟩ := h
  obtain ⟨p, hp⟩ : ∃ p, p = addI s node := ⟨_, rfl⟩
  obtain ⟨q, hq⟩ : ∃ q, q = remI s node := ⟨_, rfl⟩
  have C1 : Hid (∀ w, Calls Try.prog 39 #[.int .u8 s, .int .i64 node] w fun e w' => e = .returned (.tuple #[.int .u8 p.1, .int .i64 p.2]) ∧ w = w') := Lib.hid (fun w => by rw [hp]; exact add_any s node w)
  have C2 : Hid (∀ w, Calls Try.prog 40 #[.int .u8 s, .int .i64 node] w fun e w' => e = .returned (.tuple #[.int .u8 p.1, .int .i64 p.2]) ∧ w = w') := Lib.hid (fun w => by rw [hp]; exact radd_any s node w h0 h1)
  have C3 : Hid (∀ w, Calls Try.prog 41 #[.int .u8 s, .int .i64 node] w fun e w' => e = .returned (.tuple #[.int .u8 q.1, .int .i64 q.2]) ∧ w = w') := Lib.hid (fun w => by rw [hq]; exact rem_any s node w)
  have C4 : Hid (∀ w, Calls Try.prog 42 #[.int .u8 s, .int .i64 node] w fun e w' => e = .returned (.tuple #[.int .u8 q.1, .int .i64 q.2]) ∧ w = w') := Lib.hid (fun w => by rw [hq]; exact rrem_any s node w h0 h1)
  clear hp hq h0 h1
  obtain ⟨p1, p2⟩ := p
  obtain ⟨q1, q2⟩ := q
  go_enter Try.func6, Try.ntmps6
  go_wp2_with (first
    | (go_at_call 39; refine (C1.out _).mono ?_; rintro e w' ⟨rfl, rfl⟩)
    | (go_at_call 40; refine (C2.out _).mono ?_; rintro e w' ⟨rfl, rfl⟩)
    | (go_at_call 41; refine (C3.out _).mono ?_; rintro e w' ⟨rfl, rfl⟩)
    | (go_at_call 42; refine (C4.out _).mono ?_; rintro e w' ⟨rfl, rfl⟩)
    | (go_at_call 38; refine (cwakes_any _).mono ?_; rintro e WK ⟨rfl, hWK⟩))
  go_ret
  exact ⟨rfl, hWK⟩

def addOk (n k : Int) : Bool := (addI n k).2 != 0 || (remI (addI n k).1 k == (n, 0) && szI (addI n k).1 == szI n + 1 && hasI (addI n k).1 k && !hasI n k)
def remOk (n k : Int) : Bool := (remI n k).2 != 0 || (addI (remI n k).1 k == (n, 0) && szI (remI n k).1 == szI n - 1 && !hasI (remI n k).1 k && hasI n k)
theorem addOk_all : ∀ n : Fin 256, ∀ k : Fin 7, addOk (n.val : Int) ((k.val + 1 : Nat) : Int) = true := by decide +kernel
theorem remOk_all : ∀ n : Fin 256, ∀ k : Fin 7, remOk (n.val : Int) ((k.val + 1 : Nat) : Int) = true := by decide +kernel
theorem add_facts (s node : Int) (h0 : 0 ≤ s) (h1 : s ≤ 255) (h : (addI s node).2 = 0) : remI (addI s node).1 node = (s, 0) ∧ szI (addI s node).1 = szI s + 1 ∧ hasI (addI s node).1 node = true ∧ hasI s node = false := by
  by_cases hn : 1 ≤ node ∧ node ≤ 7
  · have k := addOk_all ⟨s.toNat, by omega⟩ ⟨(node - 1).toNat, by omega⟩
    simp only at k
    rw [show ((s.toNat : Nat) : Int) = s by omega, show (((node - 1).toNat + 1 : Nat) : Int) = node by omega] at k
    unfold addOk at k
    simp [h] at k
    exact ⟨k.1.1.1, k.1.1.2, k.1.2, k.2⟩
  · exfalso
    have ho := one_out node (by omega)
    unfold addI at h
    rw [if_pos (.inr ho)] at h
    simp at h
theorem rem_facts (s node : Int) (h0 : 0 ≤ s) (h1 : s ≤ 255) (h : (remI s node).2 = 0) : addI (remI s node).1 node = (s, 0) ∧ szI (remI s node).1 = szI s - 1 ∧ hasI (remI s node).1 node = false ∧ hasI s node = true := by
  by_cases hn : 1 ≤ node ∧ node ≤ 7
  · have k := remOk_all ⟨s.toNat, by omega⟩ ⟨(node - 1).toNat, by omega⟩
    simp only at k
    rw [show ((s.toNat : Nat) : Int) = s by omega, show (((node - 1).toNat + 1 : Nat) : Int) = node by omega] at k
    unfold remOk at k
    simp [h] at k
    exact ⟨k.1.1.1, k.1.1.2, k.1.2, k.2⟩
  · exfalso
    have ho := one_out node (by omega)
    unfold remI at h
    rw [if_pos (.inr ho)] at h
    simp at h

set_option maxRecDepth 100000 in
set_option maxHeartbeats 4000000 in
theorem confSizes_walk (s node : Int) (h : 0 ≤ s ∧ s ≤ 255) (w : World) : Calls Try.prog 9 #[.int .u8 s, .int .i64 node] w fun e w' => e = .returned (.bool true) ∧ Below w.heap.size w w' := by
  obtain ⟨h0, h1⟩ := h
  have f1 := add_facts s node h0 h1
  have f2 := rem_facts s node h0 h1
  obtain ⟨p, hp⟩ : ∃ p, p = addI s node := ⟨_, rfl⟩
  obtain ⟨q, hq⟩ : ∃ q, q = remI s node := ⟨_, rfl⟩
  obtain ⟨z, hz⟩ : ∃ z, z = szI s := ⟨_, rfl⟩
  obtain ⟨b, hb⟩ : ∃ b, b = hasI s node := ⟨_, rfl⟩
  have zb := sz_bd s
  rw [← hz] at zb
  have C1 : Hid (∀ w, Calls Try.prog 39 #[.int .u8 s, .int .i64 node] w fun e w' => e = .returned (.tuple #[.int .u8 p.1, .int .i64 p.2]) ∧ w = w') := Lib.hid (fun w => by rw [hp]; exact add_any s node w)
  have C3 : Hid (∀ w, Calls Try.prog 41 #[.int .u8 s, .int .i64 node] w fun e w' => e = .returned (.tuple #[.int .u8 q.1, .int .i64 q.2]) ∧ w = w') := Lib.hid (fun w => by rw [hq]; exact rem_any s node w)
  have C5 : Hid (∀ w, Calls Try.prog 33 #[.int .u8 s] w fun e w' => e = .returned (.int .i64 z) ∧ w = w') := Lib.hid (fun w => by rw [hz]; exact sizeP_any s w)
  have C6 : Hid (∀ w, Calls Try.prog 32 #[.int .u8 s, .int .i64 node] w fun e w' => e = .returned (.bool b) ∧ w = w') := Lib.hid (fun w => by rw [hb]; exact hasP_any s node w)
  rw [← hp, ← hz, ← hb] at f1
  rw [← hq, ← hz, ← hb] at f2
  obtain ⟨p1, p2⟩ := p
  obtain ⟨q1, q2⟩ := q
  simp only at f1 f2
  obtain ⟨zb0, zb1⟩ := zb
  clear hp hq hz hb h0 h1
  have ha : (p2 = 0 ∧ b = false ∧ Hid (∀ w, Calls Try.prog 41 #[.int .u8 p1, .int .i64 node] w fun e w' => e = .returned (.tuple #[.int .u8 s, .int .i64 0]) ∧ w = w') ∧ Hid (∀ w, Calls Try.prog 33 #[.int .u8 p1] w fun e w' => e = .returned (.int .i64 (z + 1)) ∧ w = w') ∧ Hid (∀ w, Calls Try.prog 32 #[.int .u8 p1, .int .i64 node] w fun e w' => e = .returned (.bool true) ∧ w = w')) ∨ (p2 == 0) = false := by
    by_cases h : p2 = 0
    · obtain ⟨k1, k2, k3, k4⟩ := f1 h
      refine .inl ⟨h, k4, Lib.hid (fun w => ?_), Lib.hid (fun w => ?_), Lib.hid (fun w => ?_)⟩
      · have := rem_any p1 node w; rw [k1] at this; exact this
      · rw [← k2]; exact sizeP_any p1 w
      · rw [← k3]; exact hasP_any p1 node w
    · exact .inr (by rw [beq_eq_false_iff_ne]; exact h)
  have hr : (q2 = 0 ∧ b = true ∧ Hid (∀ w, Calls Try.prog 39 #[.int .u8 q1, .int .i64 node] w fun e w' => e = .returned (.tuple #[.int .u8 s, .int .i64 0]) ∧ w = w') ∧ Hid (∀ w, Calls Try.prog 33 #[.int .u8 q1] w fun e w' => e = .returned (.int .i64 (z - 1)) ∧ w = w') ∧ Hid (∀ w, Calls Try.prog 32 #[.int .u8 q1, .int .i64 node] w fun e w' => e = .returned (.bool false) ∧ w = w')) ∨ (q2 == 0) = false := by
    by_cases h : q2 = 0
    · obtain ⟨k1, k2, k3, k4⟩ := f2 h
      refine .inl ⟨h, k4, Lib.hid (fun w => ?_), Lib.hid (fun w => ?_), Lib.hid (fun w => ?_)⟩
      · have := add_any q1 node w; rw [k1] at this; exact this
      · rw [← k2]; exact sizeP_any q1 w
      · rw [← k3]; exact hasP_any q1 node w
    · exact .inr (by rw [beq_eq_false_iff_ne]; exact h)
  clear f1 f2
  rcases ha with ⟨rfl, rfl, D1, D2, D3⟩ | ha
  · rcases hr with ⟨_, hb, _⟩ | hr
    · cases hb
    · go_enter Try.func9, Try.ntmps9
      go_wp2_with (first
        | (go_at_call 39; with_reducible refine Calls.mono (C1.out _) ?_; rintro e w' ⟨rfl, rfl⟩)
        | (go_at_call_of 41 (Value.int .u8 p1); with_reducible refine Calls.mono (D1.out _) ?_; rintro e w' ⟨rfl, rfl⟩)
        | (go_at_call 41; with_reducible refine Calls.mono (C3.out _) ?_; rintro e w' ⟨rfl, rfl⟩)
        | (go_at_call_of 33 (Value.int .u8 p1); with_reducible refine Calls.mono (D2.out _) ?_; rintro e w' ⟨rfl, rfl⟩)
        | (go_at_call 33; with_reducible refine Calls.mono (C5.out _) ?_; rintro e w' ⟨rfl, rfl⟩)
        | (go_at_call_of 32 (Value.int .u8 p1); with_reducible refine Calls.mono (D3.out _) ?_; rintro e w' ⟨rfl, rfl⟩)
        | (go_at_call 32; with_reducible refine Calls.mono (C6.out _) ?_; rintro e w' ⟨rfl, rfl⟩)
        | (go_at_call 38; refine (cwakes_any _).mono ?_; rintro e WK ⟨rfl, hWK⟩))
      go_ret
      exact ⟨rfl, hWK⟩
  · rcases hr with ⟨rfl, rfl, D1, D2, D3⟩ | hr
    · go_enter Try.func9, Try.ntmps9
      go_wp2_with (first
        | (go_at_call_of 39 (Value.int .u8 q1); with_reducible refine Calls.mono (D1.out _) ?_; rintro e w' ⟨rfl, rfl⟩)
        | (go_at_call 39; with_reducible refine Calls.mono (C1.out _) ?_; rintro e w' ⟨rfl, rfl⟩)
        | (go_at_call 41; with_reducible refine Calls.mono (C3.out _) ?_; rintro e w' ⟨rfl, rfl⟩)
        | (go_at_call_of 33 (Value.int .u8 q1); with_reducible refine Calls.mono (D2.out _) ?_; rintro e w' ⟨rfl, rfl⟩)
        | (go_at_call 33; with_reducible refine Calls.mono (C5.out _) ?_; rintro e w' ⟨rfl, rfl⟩)
        | (go_at_call_of 32 (Value.int .u8 q1); with_reducible refine Calls.mono (D3.out _) ?_; rintro e w' ⟨rfl, rfl⟩)
        | (go_at_call 32; with_reducible refine Calls.mono (C6.out _) ?_; rintro e w' ⟨rfl, rfl⟩)
        | (go_at_call 38; refine (cwakes_any _).mono ?_; rintro e WK ⟨rfl, hWK⟩))
      go_ret
      exact ⟨rfl, hWK⟩
    · go_enter Try.func9, Try.ntmps9
      go_wp2_with (first
        | (go_at_call 39; with_reducible refine Calls.mono (C1.out _) ?_; rintro e w' ⟨rfl, rfl⟩)
        | (go_at_call 41; with_reducible refine Calls.mono (C3.out _) ?_; rintro e w' ⟨rfl, rfl⟩)
        | (go_at_call 38; refine (cwakes_any _).mono ?_; rintro e WK ⟨rfl, hWK⟩))
      go_ret
      exact ⟨rfl, hWK⟩
end Go.Proofs.Ytnaoajdbopminaa
