/-
  The law BucketReturns, walked.
-/
import Derived.Test.YtdmgmicnfoebmaaBk5
namespace Go.Proofs.Ytdmgmicnfoebmaa
open Go.RowKit

theorem ret_poor {b size : Int} (h : poorB b size = true) : takeV b size = 0 ∧ takeE b size = 170 := by unfold takeV takeE; rw [h]; exact ⟨rfl, rfl⟩
theorem ret_rich {b size : Int} (h : poorB b size = false) : takeV b size = b - 1000 * size ∧ takeE b size = 0 := by unfold takeV takeE; rw [h]; exact ⟨rfl, rfl⟩
theorem rich_of {b size : Int} (h : poorB b size = false) : 0 ≤ size ∧ size ≤ wholeS b := by
  unfold poorB at h
  simp at h
  omega
theorem poor_of {b size : Int} (h : poorB b size = true) : size < 0 ∨ wholeS b < size := by
  unfold poorB at h
  simpa using h

theorem mayB_of {r m : Int} (h : mayB r m = true) : 0 ≤ r ∧ r ≤ 1000000 ∧ 0 ≤ m ∧ m ≤ 1000000 := by unfold mayB at h; simpa using h

theorem back_take {b burst out size : Int} (hb : b = cut b burst out) (h0 : 0 ≤ size) (h1 : size ≤ wholeS b) : backS (b - 1000 * size) burst out size = b ∧ wholeS (b - 1000 * size) = wholeS b - size ∧ 0 ≤ b ∧ b ≤ 1000000000 ∧ size ≤ 1000000 := by
  have h2 := room_bd burst out
  have h3 : b = min (max b 0) (room burst out) := hb
  have h4 : wholeS b = max b 0 / 1000 := rfl
  refine ⟨?_, by unfold wholeS; omega, by omega, by omega, by omega⟩
  show within (max (b - 1000 * size) 0 + 1000 * within size 1000000) (room burst out) = b
  unfold within
  omega

def guardB (b burst out : Int) : Bool := mayB 0 burst && decide (0 ≤ out) && decide (b = cut b burst out)

set_option maxHeartbeats 2000000 in
theorem returns_out (b burst out size : Int) (hb0 : -9223372036854775808 ≤ b) (hb : b ≤ 9223372036854775807) (ho : out ≤ 9223372036854775807) (w : World) (hg : mayB 0 burst = false ∨ (mayB 0 burst = true ∧ out < 0) ∨ (mayB 0 burst = true ∧ 0 ≤ out ∧ (b != cut b burst out) = true)) :
    Calls Try.prog 14 #[.int .i64 b, .int .i64 burst, .int .i64 out, .int .i64 size] w fun e w' => e = .returned (.bool true) ∧ Below w.heap.size w w' := by
  rcases hg with h1 | ⟨h1, h2⟩ | ⟨h1, h2, h3⟩
  all_goals
    go_enter Try.func14, Try.ntmps14
    go_wp2_with (first
      | (go_at_call 37; refine (may_any _ _ _).mono ?_; rintro e w' ⟨rfl, rfl⟩)
      | (go_at_call 41; refine (cut_any _ _ _ ho _).mono ?_; rintro e w' ⟨rfl, rfl⟩)
      | (go_at_call 45; refine (wakes_any _).mono ?_; rintro e w1 ⟨rfl, hB1⟩))
    go_ret
    exact ⟨rfl, hB1⟩

theorem cut_self (b burst out : Int) (ho : out ≤ 9223372036854775807) (h : b = cut b burst out) (w : World) :
    Calls Try.prog 41 #[.int .i64 b, .int .i64 burst, .int .i64 out] w fun e w' => e = .returned (.int .i64 b) ∧ w = w' :=
  (cut_any b burst out ho w).mono fun _ _ ⟨he, hw⟩ => ⟨he.trans (ret_int h.symm), hw⟩

set_option maxRecDepth 100000 in
set_option maxHeartbeats 2000000 in
theorem returns_in (b burst out size : Int) (hb0 : -9223372036854775808 ≤ b) (hb : b ≤ 9223372036854775807) (ho : out ≤ 9223372036854775807) (w : World) (h1 : mayB 0 burst = true) (h2 : 0 ≤ out) (H3 : Hid (b = cut b burst out)) :
    Calls Try.prog 14 #[.int .i64 b, .int .i64 burst, .int .i64 out, .int .i64 size] w fun e w' => e = .returned (.bool true) ∧ Below w.heap.size w w' := by
  cases hp : poorB b size
  · obtain ⟨e1, e2⟩ := ret_rich hp
    obtain ⟨s1, s2⟩ := rich_of hp
    obtain ⟨k1, k2, k3, k4, k5⟩ := back_take H3.out s1 s2
    obtain ⟨k6, k7⟩ : 0 ≤ wholeS b ∧ wholeS b ≤ 1000000 := by unfold wholeS; omega
    have k8 : -9223372036854775808 ≤ wholeS b - size := by omega
    have K1 := Lib.hid k1
    have K2 := Lib.hid k2
    clear hp k1 k2
    go_enter Try.func14, Try.ntmps14
    go_wp2_with (first
      | (go_at_call 37; refine (may_any _ _ _).mono ?_; rintro e w' ⟨rfl, rfl⟩)
      | (go_at_call 41; refine (cut_self _ _ _ ho H3.out _).mono ?_; rintro e w' ⟨rfl, rfl⟩)
      | (go_at_call 46; refine (take_any _ _ hb0 hb _).mono ?_; rintro e w' ⟨rfl, rfl⟩))
    refine (whole_any _ (by omega) _).mono ?_
    rintro e w' ⟨rfl, rfl⟩
    rw [K2.out]
    go_wp2_with fail
    refine (whole_any _ (by omega) _).mono ?_
    rintro e w' ⟨rfl, rfl⟩
    go_wp2_with fail
    refine (back_any _ _ _ _ (by omega) ho _).mono ?_
    rintro e w2 ⟨rfl, hB2⟩
    rw [K1.out]
    go_wp2_with (go_at_call 45; refine (wakes_any _).mono ?_; rintro e w1 ⟨rfl, hB1⟩)
    go_ret
    exact ⟨rfl, hB2.trans (hB1.mono hB2.size)⟩
  · obtain ⟨e1, e2⟩ := ret_poor hp
    have s1 := poor_of hp
    clear hp
    rcases s1 with s1 | s1
    all_goals
      go_enter Try.func14, Try.ntmps14
      go_wp2_with (first
        | (go_at_call 37; refine (may_any _ _ _).mono ?_; rintro e w' ⟨rfl, rfl⟩)
        | (go_at_call 41; refine (cut_self _ _ _ ho H3.out _).mono ?_; rintro e w' ⟨rfl, rfl⟩)
        | (go_at_call 46; refine (take_any _ _ hb0 hb _).mono ?_; rintro e w' ⟨rfl, rfl⟩)
        | (go_at_call 43; refine (whole_any _ (by omega) _).mono ?_; rintro e w' ⟨rfl, rfl⟩)
        | (go_at_call 45; refine (wakes_any _).mono ?_; rintro e w1 ⟨rfl, hB1⟩))
      all_goals
        go_ret
        exact ⟨rfl, hB1⟩

theorem bucketReturns_walk (b burst out size : Int) (hb0 : -9223372036854775808 ≤ b) (hb : b ≤ 9223372036854775807) (ho : out ≤ 9223372036854775807) (w : World) :
    Calls Try.prog 14 #[.int .i64 b, .int .i64 burst, .int .i64 out, .int .i64 size] w fun e w' => e = .returned (.bool true) ∧ Below w.heap.size w w' := by
  cases h1 : mayB 0 burst
  · exact returns_out b burst out size hb0 hb ho w (.inl h1)
  · by_cases h2 : out < 0
    · exact returns_out b burst out size hb0 hb ho w (.inr (.inl ⟨h1, h2⟩))
    · by_cases h3 : b = cut b burst out
      · exact returns_in b burst out size hb0 hb ho w h1 (by omega) (Lib.hid h3)
      · exact returns_out b burst out size hb0 hb ho w (.inr (.inr ⟨h1, by omega, by simpa using h3⟩))
end Go.Proofs.Ytdmgmicnfoebmaa
