/-
  Package conf: the document's answers (but for sets that meet).
-/
import Derived.Test.YtnaoajdbopminaaCf2
namespace Go.Proofs.Ytnaoajdbopminaa
open Go.RowKit
set_option linter.unusedSimpArgs false
set_option linter.unusedVariables false

theorem all_u8 {P : Int → Prop} (h : ∀ n : Fin 256, P (n.val : Int)) (s : Int) (h0 : 0 ≤ s) (h1 : s ≤ 255) : P s := by
  have := h ⟨s.toNat, by omega⟩
  rwa [show ((s.toNat : Nat) : Int) = s by omega] at this
theorem rhas1 : ∀ n : Fin 256, (bits .and .u8 ((n.val : Int) / 1) 1 == 1) = hasI (n.val : Int) 1 := by decide +kernel
theorem rhas2 : ∀ n : Fin 256, (bits .and .u8 ((n.val : Int) / 2) 1 == 1) = hasI (n.val : Int) 2 := by decide +kernel
theorem rhas3 : ∀ n : Fin 256, (bits .and .u8 ((n.val : Int) / 4) 1 == 1) = hasI (n.val : Int) 3 := by decide +kernel
theorem rhas4 : ∀ n : Fin 256, (bits .and .u8 ((n.val : Int) / 8) 1 == 1) = hasI (n.val : Int) 4 := by decide +kernel
theorem rhas5 : ∀ n : Fin 256, (bits .and .u8 ((n.val : Int) / 16) 1 == 1) = hasI (n.val : Int) 5 := by decide +kernel
theorem rhas6 : ∀ n : Fin 256, (bits .and .u8 ((n.val : Int) / 32) 1 == 1) = hasI (n.val : Int) 6 := by decide +kernel
theorem rhas7 : ∀ n : Fin 256, (bits .and .u8 ((n.val : Int) / 64) 1 == 1) = hasI (n.val : Int) 7 := by decide +kernel
theorem has_out (s node : Int) (h : node < 1 ∨ 7 < node) : hasI s node = false := by
  have : oneI node = 0 := by unfold oneI; omega
  unfold hasI andI
  rw [this]
  simp [bits]
  rfl
set_option maxHeartbeats 1000000 in
theorem rhas_any (s node : Int) (w : World) (h0 : 0 ≤ s) (h1 : s ≤ 255) : Calls Try.prog 28 #[.int .u8 s, .int .i64 node] w fun e w' => e = .returned (.bool (hasI s node)) ∧ w = w' := by
  rcases node_cases node with h | h | rfl | rfl | rfl | rfl | rfl | rfl | rfl
  · rw [has_out s node (.inl h)]
    go_enter Try.func28, Try.ntmps28
    go_wp2_with fail
    go_ret
    exact ⟨rfl, rfl⟩
  · rw [has_out s node (.inr h)]
    go_enter Try.func28, Try.ntmps28
    go_wp2_with fail
    go_ret
    exact ⟨rfl, rfl⟩
  · have K := all_u8 (P := fun s => (bits .and .u8 (s / 1) 1 == 1) = hasI s 1) rhas1 s h0 h1
    rw [← K]; clear K
    go_enter Try.func28, Try.ntmps28
    go_wp2_with fail
    go_ret
    exact ⟨by rw [Int.ediv_one]; rfl, rfl⟩
  · have K := all_u8 (P := fun s => (bits .and .u8 (s / 2) 1 == 1) = hasI s 2) rhas2 s h0 h1
    rw [← K]; clear K
    go_enter Try.func28, Try.ntmps28
    go_wp2_with fail
    go_ret
    exact ⟨rfl, rfl⟩
  · have K := all_u8 (P := fun s => (bits .and .u8 (s / 4) 1 == 1) = hasI s 3) rhas3 s h0 h1
    rw [← K]; clear K
    go_enter Try.func28, Try.ntmps28
    go_wp2_with fail
    go_ret
    exact ⟨rfl, rfl⟩
  · have K := all_u8 (P := fun s => (bits .and .u8 (s / 8) 1 == 1) = hasI s 4) rhas4 s h0 h1
    rw [← K]; clear K
    go_enter Try.func28, Try.ntmps28
    go_wp2_with fail
    go_ret
    exact ⟨rfl, rfl⟩
  · have K := all_u8 (P := fun s => (bits .and .u8 (s / 16) 1 == 1) = hasI s 5) rhas5 s h0 h1
    rw [← K]; clear K
    go_enter Try.func28, Try.ntmps28
    go_wp2_with fail
    go_ret
    exact ⟨rfl, rfl⟩
  · have K := all_u8 (P := fun s => (bits .and .u8 (s / 32) 1 == 1) = hasI s 6) rhas6 s h0 h1
    rw [← K]; clear K
    go_enter Try.func28, Try.ntmps28
    go_wp2_with fail
    go_ret
    exact ⟨rfl, rfl⟩
  · have K := all_u8 (P := fun s => (bits .and .u8 (s / 64) 1 == 1) = hasI s 7) rhas7 s h0 h1
    rw [← K]; clear K
    go_enter Try.func28, Try.ntmps28
    go_wp2_with fail
    go_ret
    exact ⟨rfl, rfl⟩

theorem rmay_eq : ∀ n : Fin 256, mayI (n.val : Int) = ((n.val : Int) != 0 && (n.val : Int) / 128 == 0) := by decide +kernel
set_option maxHeartbeats 1000000 in
theorem rmay_any (s : Int) (w : World) (h0 : 0 ≤ s) (h1 : s ≤ 255) : Calls Try.prog 31 #[.int .u8 s] w fun e w' => e = .returned (.bool (mayI s)) ∧ w = w' := by
  have K := all_u8 (P := fun s => mayI s = (s != 0 && s / 128 == 0)) rmay_eq s h0 h1
  rw [K]; clear K
  by_cases h : s = 0
  · subst h
    go_enter Try.func31, Try.ntmps31
    go_wp2_with fail
    go_ret
    exact ⟨rfl, rfl⟩
  · have b1 : (s != 0) = true := by rw [bne_iff_ne]; exact h
    rw [b1, Bool.true_and]
    go_enter Try.func31, Try.ntmps31
    go_wp2_with fail
    go_ret
    exact ⟨rfl, rfl⟩

/-- how many of the first nodes are in the set -/
def cntI (s : Int) : Nat → Int
  | 0 => 0
  | k + 1 => cntI s k + if hasI s ((k + 1 : Nat) : Int) then 1 else 0
theorem cnt_bd (s : Int) : ∀ k : Nat, 0 ≤ cntI s k ∧ cntI s k ≤ k
  | 0 => by simp [cntI]
  | k + 1 => by have := cnt_bd s k; simp only [cntI]; split <;> omega
theorem cnt_sz : ∀ n : Fin 256, cntI (n.val : Int) 7 = szI (n.val : Int) := by decide +kernel
set_option maxHeartbeats 1000000 in
theorem rsize_any (s : Int) (w : World) (h0 : 0 ≤ s) (h1 : s ≤ 255) : Calls Try.prog 29 #[.int .u8 s] w fun e w' => e = .returned (.int .i64 (szI s)) ∧ w = w' := by
  have K := all_u8 (P := fun s => cntI s 7 = szI s) cnt_sz s h0 h1
  rw [← K]; clear K
  go_enter Try.func29, Try.ntmps29
  go_wp2_with fail
  go_loop [3, 4] (fun n i => ∃ k : Nat, k ≤ 7 ∧ i = .int .i64 ((k + 1 : Nat) : Int) ∧ n = .int .i64 (cntI s k)) (fun _ i => 9 - (intOf i).toNat)
  case atStart => exact ⟨0, by omega, rfl, rfl⟩
  case round =>
    obtain ⟨k, hk, rfl, rfl⟩ := hrel
    have hb := cnt_bd s k
    by_cases hlt : k < 7
    · have HS : Hid (cntI s (k + 1) = cntI s k + if hasI s ((k + 1 : Nat) : Int) then 1 else 0) := Lib.hid rfl
      obtain ⟨q, hq⟩ : ∃ q, q = hasI s ((k + 1 : Nat) : Int) := ⟨_, rfl⟩
      rw [← hq] at HS
      have c1 : ∀ w, Calls Try.prog 28 #[.int .u8 s, .int .i64 ((k + 1 : Nat) : Int)] w fun e w' => e = .returned (.bool q) ∧ w = w' := fun w => by rw [hq]; exact rhas_any _ _ w h0 h1
      have C1 := Lib.hid c1
      clear hq c1
      cases q
      all_goals
        go_wp2_with (refine (C1.out _).mono ?_; rintro e w' ⟨rfl, rfl⟩)
        go_round
        case rel => exact ⟨k + 1, by omega, by go_num, by rw [HS.out]; first | rfl | go_num | (simp)⟩
        case measure => simp [intOf]; omega
    · obtain rfl : k = 7 := by omega
      go_wp2_with fail
      go_ret
      exact ⟨rfl, rfl⟩

theorem and_zero : ∀ n : Fin 256, szI (andI 0 (n.val : Int)) = 0 ∧ szI (andI 128 (n.val : Int)) = 0 := by decide +kernel
theorem sz_zero : ∀ n : Fin 256, szI (n.val : Int) = 0 → (n.val = 0 ∨ n.val = 128) := by decide +kernel
theorem most_eq (s y : Int) (h0 : 0 ≤ s) (h1 : s ≤ 255) (k0 : 0 ≤ y) (k1 : y ≤ 255) : mostI s y = decide (szI s < 2 * szI (andI s y)) := by
  have b1 := sz_bd s
  have b2 := sz_bd (andI s y)
  have z : szI s = 0 → szI (andI s y) = 0 := fun hz => by
    have h := all_u8 (P := fun s => szI s = 0 → (s = 0 ∨ s = 128)) (fun n hn => by have := sz_zero n hn; omega) s h0 h1 hz
    have h2 := all_u8 (P := fun y => szI (andI 0 y) = 0 ∧ szI (andI 128 y) = 0) and_zero y k0 k1
    rcases h with rfl | rfl
    · exact h2.1
    · exact h2.2
  unfold mostI moI
  rw [Bool.eq_iff_iff]
  simp
  omega
set_option maxHeartbeats 1000000 in
theorem rmost_any (s y : Int) (w : World) (h0 : 0 ≤ s) (h1 : s ≤ 255) (k0 : 0 ≤ y) (k1 : y ≤ 255) : Calls Try.prog 35 #[.int .u8 s, .int .u8 y] w fun e w' => e = .returned (.bool (mostI s y)) ∧ w = w' := by
  rw [most_eq s y h0 h1 k0 k1]
  obtain ⟨b1, b2⟩ := sz_bd s
  obtain ⟨b3, b4⟩ := sz_bd (andI s y)
  obtain ⟨x0, x1⟩ := and_bd s y
  obtain ⟨x, hx2⟩ : ∃ x, x = andI s y := ⟨_, rfl⟩
  have hx : bits .and .u8 s y = x := hx2.symm
  rw [← hx2] at b3 b4 x0 x1 ⊢
  clear hx2
  obtain ⟨z, hz⟩ : ∃ z, z = szI x := ⟨_, rfl⟩
  obtain ⟨u, hu⟩ : ∃ u, u = szI s := ⟨_, rfl⟩
  have c2 : ∀ w, Calls Try.prog 29 #[.int .u8 x] w fun e w' => e = .returned (.int .i64 z) ∧ w = w' := fun w => by rw [hz]; exact rsize_any _ w x0 x1
  have c3 : ∀ w, Calls Try.prog 29 #[.int .u8 s] w fun e w' => e = .returned (.int .i64 u) ∧ w = w' := fun w => by rw [hu]; exact rsize_any _ w h0 h1
  rw [← hz] at b3 b4 ⊢
  rw [← hu] at b1 b2 ⊢
  clear hz hu
  go_enter Try.func35, Try.ntmps35
  go_wp2_with (first
    | (go_at_call_of 29 (Value.int .u8 s); refine (c3 _).mono ?_; rintro e w' ⟨rfl, rfl⟩)
    | (go_at_call_of 29 (Value.int .u8 x); refine (c2 _).mono ?_; rintro e w' ⟨rfl, rfl⟩))
  go_ret
  exact ⟨rfl, rfl⟩
end Go.Proofs.Ytnaoajdbopminaa
