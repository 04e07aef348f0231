/-
  Package vote: what only reckons, and the document's answers beside it.
-/
import Derived.Test.YtidheicmaodfgaaRw6
import Derived.Lib.Strings
import Derived.Lib.Slices
import Derived.Lib.Walk
import Derived.Lib.BitFns
import Derived.Lib.Small
import Derived.Laws.BitsLemmas
namespace Go.Proofs.Ytidheicmaodfgaa
open Go.RowKit

theorem ones_int (x : Int) (w : World) (h0 : 0 ≤ x) (h1 : x ≤ 255) : Calls Try.prog 42 #[.int .u8 x] w fun e w' => e = .returned (.int .i64 (Lib.onesCount x.toNat)) ∧ w = w' := by
  rw [← Lib.pop8_int x h0 h1]
  go_enter Try.func42, Try.ntmps42
  go_wp2
  go_ret
  obtain ⟨b, hb⟩ : ∃ b, b = Lib.pop8 x := ⟨_, rfl⟩
  rw [← hb]
  exact ⟨congrArg (fun n => Ending.returned (.int .i64 n)) (show wrap64 b = (b + 9223372036854775808) % 18446744073709551616 - 9223372036854775808 by simp only [wrap64, IntKind.wrap_i64]), rfl⟩
theorem ones_any (x : Nat) (w : World) (h : x < 256) : Calls Try.prog 42 #[.int .u8 x] w fun e w' => e = .returned (.int .i64 (Lib.onesCount x)) ∧ w = w' := by
  have e := ones_int x w (by omega) (by omega)
  rwa [Int.toNat_natCast] at e

theorem ones_le (x : Nat) (h : x < 256) : Lib.onesCount x ≤ 8 := Lib.onesCount_le8 ⟨x, h⟩
theorem and_u8 (a b : Nat) (ha : a < 256) (hb : b < 256) : bits .and .u8 (a : Int) (b : Int) = ((a &&& b : Nat) : Int) := (bits_nat .u8 8 (by decide) wraps_u8 a b ha hb).1

/-- does a set's majority say yes? -/
def countB (s y : Nat) : Bool := decide (Lib.onesCount (s &&& 127) < 2 * Lib.onesCount ((s &&& 127) &&& y))

set_option maxHeartbeats 400000 in
theorem count_any (s y : Nat) (w : World) (hs : s < 256) (hy : y < 256) : Calls Try.prog 20 #[.int .u8 s, .int .u8 y] w fun e w' => e = .returned (.bool (countB s y)) ∧ w = w' := by
  have l1 : s &&& 127 < 256 := Nat.and_lt_two_pow (n := 8) _ (by omega)
  have l2 : (s &&& 127) &&& y < 256 := Nat.and_lt_two_pow (n := 8) _ hy
  have e1 : bits .and .u8 (s : Int) 127 = ((s &&& 127 : Nat) : Int) := and_u8 s 127 hs (by omega)
  have e2 := and_u8 (s &&& 127) y l1 hy
  have k1 := ones_le _ l1
  have k2 := ones_le _ l2
  have E3 : Hid (countB s y = decide (Lib.onesCount (s &&& 127) < 2 * Lib.onesCount ((s &&& 127) &&& y))) := Lib.hid rfl
  obtain ⟨p, hp⟩ : ∃ p, p = s &&& 127 := ⟨_, rfl⟩
  obtain ⟨q, hq⟩ : ∃ q, q = (s &&& 127) &&& y := ⟨_, rfl⟩
  rw [← hp] at e1 l1 k1
  rw [← hq] at l2 k2 e2
  rw [← hp] at e2
  rw [← hq, ← hp] at E3
  obtain ⟨m, hm⟩ : ∃ m, m = Lib.onesCount p := ⟨_, rfl⟩
  obtain ⟨n, hn⟩ : ∃ n, n = Lib.onesCount q := ⟨_, rfl⟩
  have c1 : ∀ w, Calls Try.prog 42 #[.int .u8 p] w fun e w' => e = .returned (.int .i64 m) ∧ w = w' := fun w => by rw [hm]; exact ones_any p w l1
  have c2 : ∀ w, Calls Try.prog 42 #[.int .u8 q] w fun e w' => e = .returned (.int .i64 n) ∧ w = w' := fun w => by rw [hn]; exact ones_any q w l2
  rw [← hm, ← hn] at E3
  rw [← hm] at k1
  rw [← hn] at k2
  clear hm hn hp hq
  go_enter Try.func20, Try.ntmps20
  go_wp2_with (first
    | (go_at_call_of 42 (Value.int .u8 (q : Int)); refine (c2 _).mono ?_; rintro e w' ⟨rfl, rfl⟩)
    | (go_at_call_of 42 (Value.int .u8 (p : Int)); refine (c1 _).mono ?_; rintro e w' ⟨rfl, rfl⟩))
  go_ret
  refine ⟨congrArg (fun b => Ending.returned (.bool b)) ?_, rfl⟩
  rw [E3.out, Bool.eq_iff_iff]
  simp
  omega

set_option maxHeartbeats 400000 in
theorem rhas_any (s i : Nat) (w : World) (hs : s < 256) (h1 : 1 ≤ i) (h2 : i ≤ 7) : Calls Try.prog 33 #[.int .u8 s, .int .i64 i] w fun e w' => e = .returned (.bool (s.testBit (i - 1))) ∧ w = w' := by
  have e0 : ((s / 2 ^ (i - 1) : Nat) : Int) = (s : Int) / 2 ^ (i - 1) := by simp
  have e1 := and_u8 (s / 2 ^ (i - 1)) 1 (Nat.lt_of_le_of_lt (Nat.div_le_self _ _) hs) (by omega)
  have e2 : s.testBit (i - 1) = (((s / 2 ^ (i - 1) &&& 1 : Nat) : Int) == 1) := by
    rw [Nat.testBit_eq_decide_div_mod_eq, Nat.and_one_is_mod, Bool.eq_iff_iff]
    simp
    omega
  rw [e2, ← e1, e0]
  clear e0 e1 e2
  go_enter Try.func33, Try.ntmps33
  go_wp2
  go_ret
  exact ⟨rfl, rfl⟩

/-- of the first m nodes so many are in the set -/
def cntN (s : Nat) : Nat → Nat
  | 0 => 0
  | m + 1 => cntN s m + (s.testBit m).toNat
theorem cntN_le (s m : Nat) : cntN s m ≤ m := by
  induction m with
  | zero => exact Nat.le_refl _
  | succ m ih => have : (s.testBit m).toNat ≤ 1 := Bool.toNat_le _; simp only [cntN]; omega
theorem cnt_ones : ∀ n : Fin 256, cntN n.val 7 = Lib.onesCount (n.val &&& 127) := by decide +kernel
theorem cnt_count (s y : Nat) (hs : s < 256) (hy : y < 256) : countB s y = decide (cntN s 7 < 2 * cntN (s &&& y) 7) := by
  have l : s &&& y < 256 := Nat.and_lt_two_pow (n := 8) _ hy
  have h1 := cnt_ones ⟨s, hs⟩
  have h2 := cnt_ones ⟨s &&& y, l⟩
  have h3 : s &&& y &&& 127 = (s &&& 127) &&& y := by rw [Nat.and_assoc, Nat.and_comm y 127, ← Nat.and_assoc]
  simp only at h1 h2
  rw [h3] at h2
  unfold countB
  rw [h1, h2]

set_option maxRecDepth 100000 in
set_option maxHeartbeats 1000000 in
theorem rcount_any (s y : Nat) (w : World) (hs : s < 256) (hy : y < 256) : Calls Try.prog 21 #[.int .u8 s, .int .u8 y] w fun e w' => e = .returned (.bool (countB s y)) ∧ w = w' := by
  have hC := cnt_count s y hs hy
  obtain ⟨C, hC2⟩ : ∃ C, C = countB s y := ⟨_, rfl⟩
  rw [← hC2] at hC ⊢
  have HC := Lib.hid hC
  clear hC hC2
  go_enter Try.func21, Try.ntmps21
  go_wp2_with fail
  go_loop [5, 6, 7] (fun vn vk vi => ∃ m : Nat, m ≤ 7 ∧ vi = .int .i64 ((m + 1 : Nat) : Int) ∧ vn = .int .i64 (cntN s m : Nat) ∧ vk = .int .i64 (cntN (s &&& y) m : Nat)) (fun _ _ vi => 9 - (intOf vi).toNat)
  case atStart => exact ⟨0, by omega, rfl, rfl, rfl⟩
  case round =>
    obtain ⟨m, hm, rfl, rfl, rfl⟩ := hrel
    have k1 := cntN_le s m
    have k2 := cntN_le (s &&& y) m
    by_cases hlt : m < 7
    · have hb : (s &&& y).testBit m = (s.testBit m && y.testBit m) := Nat.testBit_and _ _ _
      have HN : Hid (cntN s (m + 1) = cntN s m + (s.testBit m).toNat) := Lib.hid rfl
      have HK : Hid (cntN (s &&& y) (m + 1) = cntN (s &&& y) m + (s.testBit m && y.testBit m).toNat) := Lib.hid (by rw [← hb]; rfl)
      clear hb
      obtain ⟨b1, hb1⟩ : ∃ b1, b1 = s.testBit m := ⟨_, rfl⟩
      obtain ⟨b2, hb2⟩ : ∃ b2, b2 = y.testBit m := ⟨_, rfl⟩
      obtain ⟨i, hi⟩ : ∃ i, i = m + 1 := ⟨_, rfl⟩
      obtain ⟨S, hS⟩ : ∃ S : Int, S = (s : Int) := ⟨_, rfl⟩
      obtain ⟨Y, hY⟩ : ∃ Y : Int, Y = (y : Int) := ⟨_, rfl⟩
      have c1 : ∀ w, Calls Try.prog 33 #[.int .u8 S, .int .i64 i] w fun e w' => e = .returned (.bool b1) ∧ w = w' := fun w => by rw [hb1, hi, hS]; exact rhas_any s (m + 1) w hs (by omega) (by omega)
      have c2 : ∀ w, Calls Try.prog 33 #[.int .u8 Y, .int .i64 i] w fun e w' => e = .returned (.bool b2) ∧ w = w' := fun w => by rw [hb2, hi, hY]; exact rhas_any y (m + 1) w hy (by omega) (by omega)
      rw [← hb1] at HN HK
      rw [← hb2] at HK
      rw [← hi] at HN HK
      have hi1 : i ≤ 7 := by omega
      have hi2 : Hid (i = m + 1) := Lib.hid hi
      obtain ⟨N, hN⟩ : ∃ N, N = cntN s m := ⟨_, rfl⟩
      obtain ⟨K, hK⟩ : ∃ K, K = cntN (s &&& y) m := ⟨_, rfl⟩
      rw [← hN] at HN k1
      rw [← hK] at HK k2
      have k1' : N ≤ 7 := by omega
      have k2' : K ≤ 7 := by omega
      rw [← hi, ← hS, ← hY, ← hN, ← hK]
      clear hb1 hb2 hi hS hY hN hK k1 k2 hm hlt hs hy
      cases b1 <;> cases b2
      all_goals
        go_wp2_with (first
          | (go_at_call 33; with_reducible refine Calls.mono (c1 _) ?_; rintro e w' ⟨rfl, rfl⟩)
          | (go_at_call 33; with_reducible refine Calls.mono (c2 _) ?_; rintro e w' ⟨rfl, rfl⟩))
        go_round
        case rel => exact ⟨i, hi1, by go_num, by first | (rw [HN.out]; go_num) | (rw [HN.out]; rfl), by first | (rw [HK.out]; go_num) | (rw [HK.out]; rfl)⟩
        case measure => simp [intOf]; omega
    · obtain rfl : m = 7 := by omega
      go_wp2_with fail
      go_ret
      refine ⟨congrArg (fun b => Ending.returned (.bool b)) ?_, rfl⟩
      rw [HC.out, Bool.eq_iff_iff]
      simp
      omega
end Go.Proofs.Ytidheicmaodfgaa
