/-
  VoteTimeout and VoteOne, walked (what the document says of three asks comes in as a hypothesis).
-/
import Derived.Test.YtidheicmaodfgaaVa
namespace Go.Proofs.Ytidheicmaodfgaa
open Go.RowKit

theorem cntN_apart (p x y : Nat) : ∀ m : Nat, (∀ i, i < m → (x.testBit i = true → p.testBit i = true) ∧ (y.testBit i = true → p.testBit i = true) ∧ ¬ (x.testBit i = true ∧ y.testBit i = true)) → cntN x m + cntN y m ≤ cntN p m
  | 0, _ => by simp [cntN]
  | m + 1, h => by
    have ih := cntN_apart p x y m fun i hi => h i (by omega)
    have hm := h m (by omega)
    simp only [cntN]
    cases hx : x.testBit m <;> cases hy : y.testBit m <;> cases hp : p.testBit m <;> simp [hx, hy, hp] at hm ⊢ <;> omega
theorem one_math (s a b : Nat) (hs : s < 256) (ha : a < 256) (hb : b < 256) (h1 : countB s a = true) (h2 : countB s b = true) : s &&& a &&& b &&& 127 ≠ 0 ∧ countB s s = true := by
  rw [cnt_count s a hs ha] at h1
  rw [cnt_count s b hs hb] at h2
  rw [cnt_count s s hs hs, Nat.and_self]
  simp only [decide_eq_true_eq] at h1 h2 ⊢
  refine ⟨fun h0 => ?_, ?_⟩
  · have := cntN_apart s (s &&& a) (s &&& b) 7 fun i hi => by
      have hbit : (s &&& a &&& b &&& 127).testBit i = false := by rw [h0]; simp
      have h127 : Nat.testBit 127 i = true := by rcases (show i = 0 ∨ i = 1 ∨ i = 2 ∨ i = 3 ∨ i = 4 ∨ i = 5 ∨ i = 6 by omega) with rfl | rfl | rfl | rfl | rfl | rfl | rfl <;> rfl
      simp only [Nat.testBit_and, h127, Bool.and_true] at hbit ⊢
      revert hbit
      cases s.testBit i <;> cases a.testBit i <;> cases b.testBit i <;> simp
    omega
  · have := cntN_apart s (s &&& a) 0 7 fun i hi => by
      simp only [Nat.testBit_and, Nat.zero_testBit]
      cases s.testBit i <;> cases a.testBit i <;> simp
    omega

set_option maxRecDepth 100000 in
set_option maxHeartbeats 1000000 in
theorem voteOne_any (s a b : Nat) (hs : s < 256) (ha : a < 256) (hb : b < 256) (w : World) (hwk : ∀ w, Calls Try.prog 11 #[] w fun e w' => e = .returned (.bool true) ∧ Below w.heap.size w w') :
    Calls Try.prog 7 #[.int .u8 s, .int .u8 a, .int .u8 b] w fun e w' => e = .returned (.bool true) ∧ Below w.heap.size w w' := by
  have HWK := Lib.hid hwk
  obtain ⟨S, hS⟩ : ∃ S : Int, S = (s : Int) := ⟨_, rfl⟩
  obtain ⟨A, hA⟩ : ∃ A : Int, A = (a : Int) := ⟨_, rfl⟩
  obtain ⟨B, hB⟩ : ∃ B : Int, B = (b : Int) := ⟨_, rfl⟩
  have hm := one_math s a b hs ha hb
  obtain ⟨p, hp⟩ : ∃ p, p = countB s a := ⟨_, rfl⟩
  obtain ⟨q, hq⟩ : ∃ q, q = countB s b := ⟨_, rfl⟩
  obtain ⟨r, hr⟩ : ∃ r, r = countB s s := ⟨_, rfl⟩
  have C1 : Hid (∀ w, Calls Try.prog 20 #[.int .u8 S, .int .u8 A] w fun e w' => e = .returned (.bool p) ∧ w = w') := Lib.hid (fun w => by rw [hp, hS, hA]; exact count_any s a w hs ha)
  have C2 : Hid (∀ w, Calls Try.prog 20 #[.int .u8 S, .int .u8 B] w fun e w' => e = .returned (.bool q) ∧ w = w') := Lib.hid (fun w => by rw [hq, hS, hB]; exact count_any s b w hs hb)
  have C3 : Hid (∀ w, Calls Try.prog 20 #[.int .u8 S, .int .u8 S] w fun e w' => e = .returned (.bool r) ∧ w = w') := Lib.hid (fun w => by rw [hr, hS]; exact count_any s s w hs hs)
  have l1 : s &&& a < 256 := Nat.and_lt_two_pow (n := 8) _ ha
  have l2 : s &&& a &&& b < 256 := Nat.and_lt_two_pow (n := 8) _ hb
  have e1 : bits .and .u8 S A = ((s &&& a : Nat) : Int) := by rw [hS, hA]; exact and_u8 s a hs ha
  have e2 : bits .and .u8 ((s &&& a : Nat) : Int) B = ((s &&& a &&& b : Nat) : Int) := by rw [hB]; exact and_u8 (s &&& a) b l1 hb
  have e3 : bits .and .u8 ((s &&& a &&& b : Nat) : Int) 127 = ((s &&& a &&& b &&& 127 : Nat) : Int) := and_u8 (s &&& a &&& b) 127 l2 (by omega)
  rw [← hp, ← hq, ← hr] at hm
  obtain ⟨x, hx⟩ : ∃ x : Int, x = ((s &&& a : Nat) : Int) := ⟨_, rfl⟩
  obtain ⟨y, hy⟩ : ∃ y : Int, y = ((s &&& a &&& b : Nat) : Int) := ⟨_, rfl⟩
  obtain ⟨z, hz⟩ : ∃ z : Int, z = ((s &&& a &&& b &&& 127 : Nat) : Int) := ⟨_, rfl⟩
  have hzn : p = true → q = true → (z != 0) = true ∧ r = true := fun h1 h2 => by
    obtain ⟨k1, k2⟩ := hm h1 h2
    exact ⟨by rw [bne_iff_ne, hz]; omega, k2⟩
  rw [← hx] at e1 e2
  rw [← hy] at e2 e3
  rw [← hz] at e3
  rw [← hS, ← hA, ← hB]
  clear hS hA hB hp hq hr l1 l2 hm hx hy hz hs ha hb hwk
  cases p
  · clear hzn
    go_enter Try.func7, Try.ntmps7
    go_wp2_with (first
      | (go_at_call_of 20 (Value.int .u8 A); with_reducible refine Calls.mono (C1.out _) ?_; rintro e w' ⟨rfl, rfl⟩)
      | (go_at_call 11; refine (HWK.out _).mono ?_; rintro e WK ⟨rfl, hWK⟩))
    go_ret
    exact ⟨rfl, hWK⟩
  · cases q
    · clear hzn
      go_enter Try.func7, Try.ntmps7
      go_wp2_with (first
        | (go_at_call_of 20 (Value.int .u8 A); with_reducible refine Calls.mono (C1.out _) ?_; rintro e w' ⟨rfl, rfl⟩)
        | (go_at_call_of 20 (Value.int .u8 B); with_reducible refine Calls.mono (C2.out _) ?_; rintro e w' ⟨rfl, rfl⟩)
        | (go_at_call 11; refine (HWK.out _).mono ?_; rintro e WK ⟨rfl, hWK⟩))
      go_ret
      exact ⟨rfl, hWK⟩
    · obtain ⟨z1, rfl⟩ := hzn rfl rfl
      clear hzn
      go_enter Try.func7, Try.ntmps7
      go_wp2_with (first
        | (go_at_call_of 20 (Value.int .u8 A); with_reducible refine Calls.mono (C1.out _) ?_; rintro e w' ⟨rfl, rfl⟩)
        | (go_at_call_of 20 (Value.int .u8 B); with_reducible refine Calls.mono (C2.out _) ?_; rintro e w' ⟨rfl, rfl⟩)
        | (go_at_call 20; with_reducible refine Calls.mono (C3.out _) ?_; rintro e w' ⟨rfl, rfl⟩)
        | (go_at_call 11; refine (HWK.out _).mono ?_; rintro e WK ⟨rfl, hWK⟩))
      go_ret
      exact ⟨rfl, hWK⟩

theorem base_bd (base : Int) : 1 ≤ baseS base ∧ baseS base ≤ 1099511627776 := by unfold baseS; omega
theorem timeout_math (base draw : Int) : baseS base ≤ timeoutS base draw ∧ timeoutS base draw < 2 * baseS base ∧ timeoutS base 0 = baseS base ∧ timeoutS (baseS base) draw = timeoutS base draw ∧ timeoutS base (draw + baseS base) = timeoutS base draw := by
  have hb := base_bd base
  have h1 := Int.emod_nonneg draw (show baseS base ≠ 0 by omega)
  have h2 := Int.emod_lt_of_pos draw (show 0 < baseS base by omega)
  have h3 : baseS (baseS base) = baseS base := by unfold baseS; omega
  refine ⟨by unfold timeoutS; omega, by unfold timeoutS; omega, by unfold timeoutS; simp, by unfold timeoutS; rw [h3], by unfold timeoutS; rw [Int.add_emod_right]⟩

set_option maxRecDepth 100000 in
set_option maxHeartbeats 1000000 in
theorem voteTimeout_any (base draw : Int) (d0 : -9223372036854775808 ≤ draw) (d1 : draw ≤ 9223372036854775807) (w : World) (hwk : ∀ w, Calls Try.prog 11 #[] w fun e w' => e = .returned (.bool true) ∧ Below w.heap.size w w') :
    Calls Try.prog 9 #[.int .i64 base, .int .i64 draw] w fun e w' => e = .returned (.bool true) ∧ Below w.heap.size w w' := by
  have HWK := Lib.hid hwk
  obtain ⟨b0, b1⟩ := base_bd base
  obtain ⟨m1, m2, m3, m4, m5⟩ := timeout_math base draw
  have hbe : min (max base 1) 1099511627776 = baseS base := rfl
  obtain ⟨b, hb⟩ : ∃ b, b = baseS base := ⟨_, rfl⟩
  obtain ⟨n, hn⟩ : ∃ n, n = timeoutS base draw := ⟨_, rfl⟩
  rw [← hb] at b0 b1 m1 m2 m3 m4 m5 hbe
  rw [← hn] at m1 m2 m4 m5
  have C1 : Hid (∀ w, Calls Try.prog 22 #[.int .i64 base, .int .i64 draw] w fun e w' => e = .returned (.int .i64 n) ∧ w = w') := Lib.hid (fun w => by rw [hn]; exact timeout_any base draw w d0 d1)
  have C2 : Hid (∀ w, Calls Try.prog 22 #[.int .i64 base, .int .i64 0] w fun e w' => e = .returned (.int .i64 b) ∧ w = w') := Lib.hid (fun w => by rw [← m3]; exact timeout_any base 0 w (by omega) (by omega))
  have C3 : Hid (∀ w, Calls Try.prog 22 #[.int .i64 b, .int .i64 draw] w fun e w' => e = .returned (.int .i64 n) ∧ w = w') := Lib.hid (fun w => by rw [← m4]; exact timeout_any b draw w d0 d1)
  clear hb hn m3 m4 hwk
  by_cases hd : 4611686018427387904 < draw
  · clear m5
    go_enter Try.func9, Try.ntmps9
    go_wp2_with (first
      | (go_at_call_of 22 (Value.int .i64 b); with_reducible refine Calls.mono (C3.out _) ?_; rintro e w' ⟨rfl, rfl⟩)
      | (go_at_call_of 22 (Value.int .i64 0); with_reducible refine Calls.mono (C2.out _) ?_; rintro e w' ⟨rfl, rfl⟩)
      | (go_at_call 22; with_reducible refine Calls.mono (C1.out _) ?_; rintro e w' ⟨rfl, rfl⟩)
      | (go_at_call 11; refine (HWK.out _).mono ?_; rintro e WK ⟨rfl, hWK⟩))
    go_ret
    exact ⟨rfl, hWK⟩
  · have C4 : Hid (∀ w, Calls Try.prog 22 #[.int .i64 base, .int .i64 (draw + b)] w fun e w' => e = .returned (.int .i64 n) ∧ w = w') := Lib.hid (fun w => by rw [← m5]; exact timeout_any base (draw + b) w (by omega) (by omega))
    clear m5
    go_enter Try.func9, Try.ntmps9
    go_wp2_with (first
      | (go_at_call_of 22 (Value.int .i64 b); with_reducible refine Calls.mono (C3.out _) ?_; rintro e w' ⟨rfl, rfl⟩)
      | (go_at_call_of 22 (Value.int .i64 0); with_reducible refine Calls.mono (C2.out _) ?_; rintro e w' ⟨rfl, rfl⟩)
      | (go_at_call_of 22 (Value.int .i64 draw); with_reducible refine Calls.mono (C1.out _) ?_; rintro e w' ⟨rfl, rfl⟩)
      | (go_at_call 22; with_reducible refine Calls.mono (C4.out _) ?_; rintro e w' ⟨rfl, rfl⟩)
      | (go_at_call 11; refine (HWK.out _).mono ?_; rintro e WK ⟨rfl, hWK⟩))
    go_ret
    exact ⟨rfl, hWK⟩
end Go.Proofs.Ytidheicmaodfgaa
