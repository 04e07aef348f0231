/-
  ConfOne, walked.
-/
import Derived.Test.YtnaoajdbopminaaCf8
namespace Go.Proofs.Ytnaoajdbopminaa
open Go.RowKit

set_option maxRecDepth 100000 in
set_option maxHeartbeats 4000000 in
theorem confOne_walk (s node one other : Int) (h : 0 ≤ s ∧ s ≤ 255) (ho : 0 ≤ one ∧ one ≤ 255) (hp : 0 ≤ other ∧ other ≤ 255) (w : World) : Calls Try.prog 8 #[.int .u8 s, .int .i64 node, .int .u8 one, .int .u8 other] w fun e w' => e = .returned (.bool true) ∧ Below w.heap.size w w' := by
  obtain ⟨h0, h1⟩ := h
  obtain ⟨k1, k2⟩ := oneOk_any s node h0 h1
  have FA := one_math s one other _ h0 h1 ho.1 ho.2 hp.1 hp.2 k1
  have FR := one_math s one other _ h0 h1 ho.1 ho.2 hp.1 hp.2 k2
  obtain ⟨a, ha⟩ : ∃ a, a = addI s node := ⟨_, rfl⟩
  obtain ⟨r, hr⟩ : ∃ r, r = remI s node := ⟨_, rfl⟩
  have CA : Hid (∀ w, Calls Try.prog 39 #[.int .u8 s, .int .i64 node] w fun e w' => e = .returned (.tuple #[.int .u8 a.1, .int .i64 a.2]) ∧ w = w') := Lib.hid (fun w => by rw [ha]; exact add_any s node w)
  have CR : Hid (∀ w, Calls Try.prog 41 #[.int .u8 s, .int .i64 node] w fun e w' => e = .returned (.tuple #[.int .u8 r.1, .int .i64 r.2]) ∧ w = w') := Lib.hid (fun w => by rw [hr]; exact rem_any s node w)
  rw [← ha] at FA
  rw [← hr] at FR
  obtain ⟨a1, a2⟩ := a
  obtain ⟨r1, r2⟩ := r
  simp only at FA FR
  have i0 : ∀ w, (Instr.index 69 (.agg #[.bool true, .bool false]) (.int .i64 0)).run Try.prog w = .ok (.bool true) w := fun _ => by kernel_rfl
  have i1 : ∀ w, (Instr.index 69 (.agg #[.bool true, .bool false]) (.int .i64 1)).run Try.prog w = .ok (.bool false) w := fun _ => by kernel_rfl
  clear ha hr k1 k2 h0 h1 ho hp
  go_enter Try.func8, Try.ntmps8
  go_wp2_with fail
  go_loop [14] (fun i => i = .int .i64 0 ∨ i = .int .i64 1 ∨ i = .int .i64 2) (fun i => 2 - (intOf i).toNat)
  case atStart => exact .inl rfl
  case round =>
    rcases hrel with rfl | rfl | rfl
    · have I0 := i0
      rcases FA with hr | ⟨m1, m2, m3⟩
      · have b1 : (a2 != 0) = true := by rw [bne_iff_ne]; exact hr
        clear hr
        go_wp2_with (first
          | (go_at_call 39; with_reducible refine Calls.mono (CA.out _) ?_; rintro e w' ⟨rfl, rfl⟩)
          | (go_at_call 41; with_reducible refine Calls.mono (CR.out _) ?_; rintro e w' ⟨rfl, rfl⟩))
        go_round
        case rel => exact .inr (.inl rfl)
        case measure => simp [intOf]
      · by_cases hr : a2 = 0
        · subst hr
          obtain ⟨x1, hx1⟩ : ∃ x, bits .and .u8 one other = x := ⟨_, rfl⟩
          obtain ⟨x2, hx2⟩ : ∃ x, bits .and .u8 x1 s = x := ⟨_, rfl⟩
          obtain ⟨x3, hx3⟩ : ∃ x, bits .and .u8 x2 a1 = x := ⟨_, rfl⟩
          obtain ⟨p, hp⟩ : ∃ p, p = mostI s one := ⟨_, rfl⟩
          obtain ⟨q, hq⟩ : ∃ q, q = mostI a1 other := ⟨_, rfl⟩
          obtain ⟨z, hz⟩ : ∃ z, (x3 == 0) = z := ⟨_, rfl⟩
          have m4 : ¬ (p = true ∧ q = true ∧ z = true) := fun h => m3 ⟨by rw [← hp]; exact h.1, by rw [← hq]; exact h.2.1, by rw [← h.2.2, ← hz, ← hx3, ← hx2, ← hx1]; rfl⟩
          have M1 : Hid (∀ w, Calls Try.prog 30 #[.int .u8 a1] w fun e w' => e = .returned (.bool true) ∧ w = w') := Lib.hid (fun w => by rw [← m1]; exact mayP_any _ w)
          have M2 : Hid (∀ w, Calls Try.prog 36 #[.int .u8 s, .int .u8 a1] w fun e w' => e = .returned (.bool true) ∧ w = w') := Lib.hid (fun w => by rw [← m2]; exact meets_any _ _ w)
          have M3 : Hid (∀ w, Calls Try.prog 34 #[.int .u8 s, .int .u8 one] w fun e w' => e = .returned (.bool p) ∧ w = w') := Lib.hid (fun w => by rw [hp]; exact most_any _ _ w)
          have M4 : Hid (∀ w, Calls Try.prog 34 #[.int .u8 a1, .int .u8 other] w fun e w' => e = .returned (.bool q) ∧ w = w') := Lib.hid (fun w => by rw [hq]; exact most_any _ _ w)
          have hcs : p = false ∨ (p = true ∧ q = false) ∨ (p = true ∧ q = true ∧ z = false) := by cases p <;> cases q <;> cases z <;> simp at m4 ⊢
          clear m1 m2 m3 m4 hp hq
          rcases hcs with rfl | ⟨rfl, rfl⟩ | ⟨rfl, rfl, rfl⟩
          all_goals
            go_wp2_with (first
              | (go_at_call 39; with_reducible refine Calls.mono (CA.out _) ?_; rintro e w' ⟨rfl, rfl⟩)
              | (go_at_call 41; with_reducible refine Calls.mono (CR.out _) ?_; rintro e w' ⟨rfl, rfl⟩)
              | (go_at_call 30; with_reducible refine Calls.mono (M1.out _) ?_; rintro e w' ⟨rfl, rfl⟩)
              | (go_at_call 36; with_reducible refine Calls.mono (M2.out _) ?_; rintro e w' ⟨rfl, rfl⟩)
              | (go_at_call_of 34 (Value.int .u8 one); with_reducible refine Calls.mono (M3.out _) ?_; rintro e w' ⟨rfl, rfl⟩)
              | (go_at_call 34; with_reducible refine Calls.mono (M4.out _) ?_; rintro e w' ⟨rfl, rfl⟩))
            go_round
            case rel => exact .inr (.inl rfl)
            case measure => simp [intOf]
        · have b1 : (a2 != 0) = true := by rw [bne_iff_ne]; exact hr
          clear hr m1 m2 m3
          go_wp2_with (first
            | (go_at_call 39; with_reducible refine Calls.mono (CA.out _) ?_; rintro e w' ⟨rfl, rfl⟩)
            | (go_at_call 41; with_reducible refine Calls.mono (CR.out _) ?_; rintro e w' ⟨rfl, rfl⟩))
          go_round
          case rel => exact .inr (.inl rfl)
          case measure => simp [intOf]
    · have I0 := i1
      rcases FR with hr | ⟨m1, m2, m3⟩
      · have b1 : (r2 != 0) = true := by rw [bne_iff_ne]; exact hr
        clear hr
        go_wp2_with (first
          | (go_at_call 39; with_reducible refine Calls.mono (CA.out _) ?_; rintro e w' ⟨rfl, rfl⟩)
          | (go_at_call 41; with_reducible refine Calls.mono (CR.out _) ?_; rintro e w' ⟨rfl, rfl⟩))
        go_round
        case rel => exact .inr (.inr rfl)
        case measure => simp [intOf]
      · by_cases hr : r2 = 0
        · subst hr
          obtain ⟨x1, hx1⟩ : ∃ x, bits .and .u8 one other = x := ⟨_, rfl⟩
          obtain ⟨x2, hx2⟩ : ∃ x, bits .and .u8 x1 s = x := ⟨_, rfl⟩
          obtain ⟨x3, hx3⟩ : ∃ x, bits .and .u8 x2 r1 = x := ⟨_, rfl⟩
          obtain ⟨p, hp⟩ : ∃ p, p = mostI s one := ⟨_, rfl⟩
          obtain ⟨q, hq⟩ : ∃ q, q = mostI r1 other := ⟨_, rfl⟩
          obtain ⟨z, hz⟩ : ∃ z, (x3 == 0) = z := ⟨_, rfl⟩
          have m4 : ¬ (p = true ∧ q = true ∧ z = true) := fun h => m3 ⟨by rw [← hp]; exact h.1, by rw [← hq]; exact h.2.1, by rw [← h.2.2, ← hz, ← hx3, ← hx2, ← hx1]; rfl⟩
          have M1 : Hid (∀ w, Calls Try.prog 30 #[.int .u8 r1] w fun e w' => e = .returned (.bool true) ∧ w = w') := Lib.hid (fun w => by rw [← m1]; exact mayP_any _ w)
          have M2 : Hid (∀ w, Calls Try.prog 36 #[.int .u8 s, .int .u8 r1] w fun e w' => e = .returned (.bool true) ∧ w = w') := Lib.hid (fun w => by rw [← m2]; exact meets_any _ _ w)
          have M3 : Hid (∀ w, Calls Try.prog 34 #[.int .u8 s, .int .u8 one] w fun e w' => e = .returned (.bool p) ∧ w = w') := Lib.hid (fun w => by rw [hp]; exact most_any _ _ w)
          have M4 : Hid (∀ w, Calls Try.prog 34 #[.int .u8 r1, .int .u8 other] w fun e w' => e = .returned (.bool q) ∧ w = w') := Lib.hid (fun w => by rw [hq]; exact most_any _ _ w)
          have hcs : p = false ∨ (p = true ∧ q = false) ∨ (p = true ∧ q = true ∧ z = false) := by cases p <;> cases q <;> cases z <;> simp at m4 ⊢
          clear m1 m2 m3 m4 hp hq
          rcases hcs with rfl | ⟨rfl, rfl⟩ | ⟨rfl, rfl, rfl⟩
          all_goals
            go_wp2_with (first
              | (go_at_call 39; with_reducible refine Calls.mono (CA.out _) ?_; rintro e w' ⟨rfl, rfl⟩)
              | (go_at_call 41; with_reducible refine Calls.mono (CR.out _) ?_; rintro e w' ⟨rfl, rfl⟩)
              | (go_at_call 30; with_reducible refine Calls.mono (M1.out _) ?_; rintro e w' ⟨rfl, rfl⟩)
              | (go_at_call 36; with_reducible refine Calls.mono (M2.out _) ?_; rintro e w' ⟨rfl, rfl⟩)
              | (go_at_call_of 34 (Value.int .u8 one); with_reducible refine Calls.mono (M3.out _) ?_; rintro e w' ⟨rfl, rfl⟩)
              | (go_at_call 34; with_reducible refine Calls.mono (M4.out _) ?_; rintro e w' ⟨rfl, rfl⟩))
            go_round
            case rel => exact .inr (.inr rfl)
            case measure => simp [intOf]
        · have b1 : (r2 != 0) = true := by rw [bne_iff_ne]; exact hr
          clear hr m1 m2 m3
          go_wp2_with (first
            | (go_at_call 39; with_reducible refine Calls.mono (CA.out _) ?_; rintro e w' ⟨rfl, rfl⟩)
            | (go_at_call 41; with_reducible refine Calls.mono (CR.out _) ?_; rintro e w' ⟨rfl, rfl⟩))
          go_round
          case rel => exact .inr (.inr rfl)
          case measure => simp [intOf]
    · clear FA FR
      go_wp2_with (go_at_call 38; refine (cwakes_any _).mono ?_; rintro e WK ⟨rfl, hWK⟩)
      go_ret
      exact ⟨rfl, hWK⟩
end Go.Proofs.Ytnaoajdbopminaa
