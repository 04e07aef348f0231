/-
  All methods of no disk.
-/
import Derived.Test.YtgbbbjddooiaeaaWakes
namespace Go.Proofs.Ytgbbbjddooiaeaa
open Go.RowKit

theorem fst0_one (l : List Int) : fst0 (1 :: l) = 1 := by simp [fst0]
theorem lacks_zero (w : World) : Calls Try.prog 50 #[.pointer none, .pointer none] w fun r w' => r = .returned (.int .i64 1) ∧ Below w.heap.size w w' :=
  lacks_none none none w (fun _ => rfl) (fun b hb => by cases hb)

set_option maxHeartbeats 1000000 in
theorem make_nil (s : ByteArray) (w : World) (hs : s.size ≤ maxLen) : Calls Try.prog 23 #[.pointer none, .string s] w fun r w' => r = .returned (.int .i64 1) ∧ Below w.heap.size w w' := by
  go_enter Try.func23, Try.ntmps23
  go_wp2_with (first
    | (go_at_call 46; refine (lost_nil _).mono ?_; rintro e w1 ⟨rfl, hB⟩)
    | (go_at_call 49; refine (find_nil _ _).mono ?_; rintro e w1 ⟨rfl, rfl⟩)
    | (go_at_call 55; refine (row_nil _).mono ?_; rintro e w1 ⟨rfl, rfl⟩)
    | (go_at_call 50; refine (lacks_zero _).mono ?_; rintro e w1 ⟨rfl, hB⟩)
    | (go_at_call 56; refine (size_nil _).mono ?_; rintro e w1 ⟨rfl, rfl⟩)
    | (go_at_call 54; refine (isName_any _ _ (by assumption)).mono ?_; rintro e w1 ⟨rfl, rfl⟩)
    | (go_at_call 53; refine (when_any _ _ _).mono ?_; rintro e w1 ⟨rfl, rfl⟩)
    | (go_at_call 47; (with_reducible refine (first_two _ _ 1 _ (fst0_one _)).mono ?_); rintro e w' ⟨rfl, rfl⟩)
    | (go_at_call 47; (with_reducible refine (first_four _ _ _ _ 1 _ (fst0_one _)).mono ?_); rintro e w' ⟨rfl, rfl⟩))
  go_ret
  exact ⟨rfl, hB.alloc hB.size _⟩

set_option maxHeartbeats 1000000 in
theorem append_nil (s : ByteArray) (n : Nat) (a : Option Addr) (cap : Nat) (w : World) (hn : n ≤ 140737488355328) : Calls Try.prog 26 #[.pointer none, .string s, .slice a n cap] w fun r w' => r = .returned (.int .i64 1) ∧ Below w.heap.size w w' := by
  go_enter Try.func26, Try.ntmps26
  go_wp2_with (first
    | (go_at_call 46; refine (lost_nil _).mono ?_; rintro e w1 ⟨rfl, hB⟩)
    | (go_at_call 49; refine (find_nil _ _).mono ?_; rintro e w1 ⟨rfl, rfl⟩)
    | (go_at_call 55; refine (row_nil _).mono ?_; rintro e w1 ⟨rfl, rfl⟩)
    | (go_at_call 50; refine (lacks_zero _).mono ?_; rintro e w1 ⟨rfl, hB⟩)
    | (go_at_call 56; refine (size_nil _).mono ?_; rintro e w1 ⟨rfl, rfl⟩)
    | (go_at_call 54; refine (isName_any _ _ (by assumption)).mono ?_; rintro e w1 ⟨rfl, rfl⟩)
    | (go_at_call 53; refine (when_any _ _ _).mono ?_; rintro e w1 ⟨rfl, rfl⟩)
    | (go_at_call 47; (with_reducible refine (first_two _ _ 1 _ (fst0_one _)).mono ?_); rintro e w' ⟨rfl, rfl⟩)
    | (go_at_call 47; (with_reducible refine (first_four _ _ _ _ 1 _ (fst0_one _)).mono ?_); rintro e w' ⟨rfl, rfl⟩))
  go_ret
  exact ⟨rfl, hB.alloc hB.size _⟩

set_option maxHeartbeats 1000000 in
theorem sync_nil (s : ByteArray) (w : World) : Calls Try.prog 27 #[.pointer none, .string s] w fun r w' => r = .returned (.int .i64 1) ∧ Below w.heap.size w w' := by
  go_enter Try.func27, Try.ntmps27
  go_wp2_with (first
    | (go_at_call 46; refine (lost_nil _).mono ?_; rintro e w1 ⟨rfl, hB⟩)
    | (go_at_call 49; refine (find_nil _ _).mono ?_; rintro e w1 ⟨rfl, rfl⟩)
    | (go_at_call 55; refine (row_nil _).mono ?_; rintro e w1 ⟨rfl, rfl⟩)
    | (go_at_call 50; refine (lacks_zero _).mono ?_; rintro e w1 ⟨rfl, hB⟩)
    | (go_at_call 56; refine (size_nil _).mono ?_; rintro e w1 ⟨rfl, rfl⟩)
    | (go_at_call 54; refine (isName_any _ _ (by assumption)).mono ?_; rintro e w1 ⟨rfl, rfl⟩)
    | (go_at_call 53; refine (when_any _ _ _).mono ?_; rintro e w1 ⟨rfl, rfl⟩)
    | (go_at_call 47; (with_reducible refine (first_two _ _ 1 _ (fst0_one _)).mono ?_); rintro e w' ⟨rfl, rfl⟩)
    | (go_at_call 47; (with_reducible refine (first_four _ _ _ _ 1 _ (fst0_one _)).mono ?_); rintro e w' ⟨rfl, rfl⟩))
  go_ret
  exact ⟨rfl, hB⟩

set_option maxHeartbeats 1000000 in
theorem cut_nil (s : ByteArray) (n : Int) (w : World) : Calls Try.prog 32 #[.pointer none, .string s, .int .i64 n] w fun r w' => r = .returned (.int .i64 1) ∧ Below w.heap.size w w' := by
  go_enter Try.func32, Try.ntmps32
  go_wp2_with (first
    | (go_at_call 46; refine (lost_nil _).mono ?_; rintro e w1 ⟨rfl, hB⟩)
    | (go_at_call 49; refine (find_nil _ _).mono ?_; rintro e w1 ⟨rfl, rfl⟩)
    | (go_at_call 55; refine (row_nil _).mono ?_; rintro e w1 ⟨rfl, rfl⟩)
    | (go_at_call 50; refine (lacks_zero _).mono ?_; rintro e w1 ⟨rfl, hB⟩)
    | (go_at_call 56; refine (size_nil _).mono ?_; rintro e w1 ⟨rfl, rfl⟩)
    | (go_at_call 54; refine (isName_any _ _ (by assumption)).mono ?_; rintro e w1 ⟨rfl, rfl⟩)
    | (go_at_call 53; refine (when_any _ _ _).mono ?_; rintro e w1 ⟨rfl, rfl⟩)
    | (go_at_call 47; (with_reducible refine (first_two _ _ 1 _ (fst0_one _)).mono ?_); rintro e w' ⟨rfl, rfl⟩)
    | (go_at_call 47; (with_reducible refine (first_four _ _ _ _ 1 _ (fst0_one _)).mono ?_); rintro e w' ⟨rfl, rfl⟩))
  all_goals go_ret
  all_goals exact ⟨rfl, hB.alloc hB.size _⟩

set_option maxHeartbeats 1000000 in
theorem remove_nil (s : ByteArray) (w : World) : Calls Try.prog 33 #[.pointer none, .string s] w fun r w' => r = .returned (.int .i64 1) ∧ Below w.heap.size w w' := by
  go_enter Try.func33, Try.ntmps33
  go_wp2_with (first
    | (go_at_call 46; refine (lost_nil _).mono ?_; rintro e w1 ⟨rfl, hB⟩)
    | (go_at_call 49; refine (find_nil _ _).mono ?_; rintro e w1 ⟨rfl, rfl⟩)
    | (go_at_call 55; refine (row_nil _).mono ?_; rintro e w1 ⟨rfl, rfl⟩)
    | (go_at_call 50; refine (lacks_zero _).mono ?_; rintro e w1 ⟨rfl, hB⟩)
    | (go_at_call 56; refine (size_nil _).mono ?_; rintro e w1 ⟨rfl, rfl⟩)
    | (go_at_call 54; refine (isName_any _ _ (by assumption)).mono ?_; rintro e w1 ⟨rfl, rfl⟩)
    | (go_at_call 53; refine (when_any _ _ _).mono ?_; rintro e w1 ⟨rfl, rfl⟩)
    | (go_at_call 47; (with_reducible refine (first_two _ _ 1 _ (fst0_one _)).mono ?_); rintro e w' ⟨rfl, rfl⟩)
    | (go_at_call 47; (with_reducible refine (first_four _ _ _ _ 1 _ (fst0_one _)).mono ?_); rintro e w' ⟨rfl, rfl⟩))
  go_ret
  exact ⟨rfl, hB⟩

set_option maxHeartbeats 1000000 in
theorem rename_nil (s t : ByteArray) (w : World) (ht : t.size ≤ maxLen) : Calls Try.prog 28 #[.pointer none, .string s, .string t] w fun r w' => r = .returned (.int .i64 1) ∧ Below w.heap.size w w' := by
  go_enter Try.func28, Try.ntmps28
  go_wp2_with (first
    | (go_at_call 46; refine (lost_nil _).mono ?_; rintro e w1 ⟨rfl, hB⟩)
    | (go_at_call 49; refine (find_nil _ _).mono ?_; rintro e w1 ⟨rfl, rfl⟩)
    | (go_at_call 55; refine (row_nil _).mono ?_; rintro e w1 ⟨rfl, rfl⟩)
    | (go_at_call 50; refine (lacks_zero _).mono ?_; rintro e w1 ⟨rfl, hB⟩)
    | (go_at_call 56; refine (size_nil _).mono ?_; rintro e w1 ⟨rfl, rfl⟩)
    | (go_at_call 54; refine (isName_any _ _ (by assumption)).mono ?_; rintro e w1 ⟨rfl, rfl⟩)
    | (go_at_call 53; refine (when_any _ _ _).mono ?_; rintro e w1 ⟨rfl, rfl⟩)
    | (go_at_call 47; (with_reducible refine (first_two _ _ 1 _ (fst0_one _)).mono ?_); rintro e w' ⟨rfl, rfl⟩)
    | (go_at_call 47; (with_reducible refine (first_four _ _ _ _ 1 _ (fst0_one _)).mono ?_); rintro e w' ⟨rfl, rfl⟩))
  go_ret
  exact ⟨rfl, hB.alloc hB.size _⟩

set_option maxHeartbeats 1000000 in
theorem crash_nil (v : Value) (w : World) : Calls Try.prog 22 #[.pointer none, v] w fun r w' => r = .returned (.int .i64 1) ∧ Below w.heap.size w w' := by
  go_enter Try.func22, Try.ntmps22
  go_wp2_with (first
    | (go_at_call 46; refine (lost_nil _).mono ?_; rintro e w1 ⟨rfl, hB⟩)
    | (go_at_call 49; refine (find_nil _ _).mono ?_; rintro e w1 ⟨rfl, rfl⟩)
    | (go_at_call 55; refine (row_nil _).mono ?_; rintro e w1 ⟨rfl, rfl⟩)
    | (go_at_call 50; refine (lacks_zero _).mono ?_; rintro e w1 ⟨rfl, hB⟩)
    | (go_at_call 56; refine (size_nil _).mono ?_; rintro e w1 ⟨rfl, rfl⟩)
    | (go_at_call 54; refine (isName_any _ _ (by assumption)).mono ?_; rintro e w1 ⟨rfl, rfl⟩)
    | (go_at_call 53; refine (when_any _ _ _).mono ?_; rintro e w1 ⟨rfl, rfl⟩)
    | (go_at_call 47; (with_reducible refine (first_two _ _ 1 _ (fst0_one _)).mono ?_); rintro e w' ⟨rfl, rfl⟩)
    | (go_at_call 47; (with_reducible refine (first_four _ _ _ _ 1 _ (fst0_one _)).mono ?_); rintro e w' ⟨rfl, rfl⟩))
  go_ret
  exact ⟨rfl, hB⟩

set_option maxHeartbeats 1000000 in
theorem open_nil (w : World) : Calls Try.prog 17 #[.pointer none] w fun r w' => r = .returned (.int .i64 1) ∧ Below w.heap.size w w' := by
  go_enter Try.func17, Try.ntmps17
  go_wp2_with (first
    | (go_at_call 46; refine (lost_nil _).mono ?_; rintro e w1 ⟨rfl, hB⟩)
    | (go_at_call 49; refine (find_nil _ _).mono ?_; rintro e w1 ⟨rfl, rfl⟩)
    | (go_at_call 55; refine (row_nil _).mono ?_; rintro e w1 ⟨rfl, rfl⟩)
    | (go_at_call 50; refine (lacks_zero _).mono ?_; rintro e w1 ⟨rfl, hB⟩)
    | (go_at_call 56; refine (size_nil _).mono ?_; rintro e w1 ⟨rfl, rfl⟩)
    | (go_at_call 54; refine (isName_any _ _ (by assumption)).mono ?_; rintro e w1 ⟨rfl, rfl⟩)
    | (go_at_call 53; refine (when_any _ _ _).mono ?_; rintro e w1 ⟨rfl, rfl⟩)
    | (go_at_call 47; (with_reducible refine (first_two _ _ 1 _ (fst0_one _)).mono ?_); rintro e w' ⟨rfl, rfl⟩)
    | (go_at_call 47; (with_reducible refine (first_four _ _ _ _ 1 _ (fst0_one _)).mono ?_); rintro e w' ⟨rfl, rfl⟩))
  go_ret
  exact ⟨rfl, hB.alloc hB.size _⟩

set_option maxHeartbeats 1000000 in
theorem arm_nil (n : Int) (v : Value) (w : World) : Calls Try.prog 24 #[.pointer none, .int .i64 n, v] w fun r w' => r = .returned (.int .i64 1) ∧ Below w.heap.size w w' := by
  go_enter Try.func24, Try.ntmps24
  go_wp2_with (first
    | (go_at_call 46; refine (lost_nil _).mono ?_; rintro e w1 ⟨rfl, hB⟩)
    | (go_at_call 49; refine (find_nil _ _).mono ?_; rintro e w1 ⟨rfl, rfl⟩)
    | (go_at_call 55; refine (row_nil _).mono ?_; rintro e w1 ⟨rfl, rfl⟩)
    | (go_at_call 50; refine (lacks_zero _).mono ?_; rintro e w1 ⟨rfl, hB⟩)
    | (go_at_call 56; refine (size_nil _).mono ?_; rintro e w1 ⟨rfl, rfl⟩)
    | (go_at_call 54; refine (isName_any _ _ (by assumption)).mono ?_; rintro e w1 ⟨rfl, rfl⟩)
    | (go_at_call 53; refine (when_any _ _ _).mono ?_; rintro e w1 ⟨rfl, rfl⟩)
    | (go_at_call 47; (with_reducible refine (first_two _ _ 1 _ (fst0_one _)).mono ?_); rintro e w' ⟨rfl, rfl⟩)
    | (go_at_call 47; (with_reducible refine (first_four _ _ _ _ 1 _ (fst0_one _)).mono ?_); rintro e w' ⟨rfl, rfl⟩))
  go_ret
  exact ⟨rfl, hB.alloc hB.size _⟩

set_option maxHeartbeats 1000000 in
theorem read_nil (s : ByteArray) (w : World) : Calls Try.prog 19 #[.pointer none, .string s] w fun r w' => r = .returned (.tuple #[.slice none 0 0, .int .i64 1]) ∧ Below w.heap.size w w' := by
  go_enter Try.func19, Try.ntmps19
  go_wp2_with (first
    | (go_at_call 46; refine (lost_nil _).mono ?_; rintro e w1 ⟨rfl, hB⟩)
    | (go_at_call 49; refine (find_nil _ _).mono ?_; rintro e w1 ⟨rfl, rfl⟩)
    | (go_at_call 55; refine (row_nil _).mono ?_; rintro e w1 ⟨rfl, rfl⟩)
    | (go_at_call 50; refine (lacks_zero _).mono ?_; rintro e w1 ⟨rfl, hB⟩)
    | (go_at_call 56; refine (size_nil _).mono ?_; rintro e w1 ⟨rfl, rfl⟩)
    | (go_at_call 54; refine (isName_any _ _ (by assumption)).mono ?_; rintro e w1 ⟨rfl, rfl⟩)
    | (go_at_call 53; refine (when_any _ _ _).mono ?_; rintro e w1 ⟨rfl, rfl⟩)
    | (go_at_call 47; (with_reducible refine (first_two _ _ 1 _ (fst0_one _)).mono ?_); rintro e w' ⟨rfl, rfl⟩)
    | (go_at_call 47; (with_reducible refine (first_four _ _ _ _ 1 _ (fst0_one _)).mono ?_); rintro e w' ⟨rfl, rfl⟩))
  go_ret2
  exact ⟨rfl, hB⟩

set_option maxHeartbeats 1000000 in
theorem sure_nil (s : ByteArray) (w : World) : Calls Try.prog 20 #[.pointer none, .string s] w fun r w' => r = .returned (.tuple #[.int .i64 0, .int .i64 1]) ∧ Below w.heap.size w w' := by
  go_enter Try.func20, Try.ntmps20
  go_wp2_with (first
    | (go_at_call 46; refine (lost_nil _).mono ?_; rintro e w1 ⟨rfl, hB⟩)
    | (go_at_call 49; refine (find_nil _ _).mono ?_; rintro e w1 ⟨rfl, rfl⟩)
    | (go_at_call 55; refine (row_nil _).mono ?_; rintro e w1 ⟨rfl, rfl⟩)
    | (go_at_call 50; refine (lacks_zero _).mono ?_; rintro e w1 ⟨rfl, hB⟩)
    | (go_at_call 56; refine (size_nil _).mono ?_; rintro e w1 ⟨rfl, rfl⟩)
    | (go_at_call 54; refine (isName_any _ _ (by assumption)).mono ?_; rintro e w1 ⟨rfl, rfl⟩)
    | (go_at_call 53; refine (when_any _ _ _).mono ?_; rintro e w1 ⟨rfl, rfl⟩)
    | (go_at_call 47; (with_reducible refine (first_two _ _ 1 _ (fst0_one _)).mono ?_); rintro e w' ⟨rfl, rfl⟩)
    | (go_at_call 47; (with_reducible refine (first_four _ _ _ _ 1 _ (fst0_one _)).mono ?_); rintro e w' ⟨rfl, rfl⟩))
  go_ret2
  exact ⟨rfl, hB⟩

set_option maxHeartbeats 1000000 in
theorem names_nil (w : World) : Calls Try.prog 18 #[.pointer none] w fun r w' => r = .returned (.slice none 0 0) ∧ Below w.heap.size w w' := by
  go_enter Try.func18, Try.ntmps18
  go_wp2_with (first
    | (go_at_call 46; refine (lost_nil _).mono ?_; rintro e w1 ⟨rfl, hB⟩)
    | (go_at_call 49; refine (find_nil _ _).mono ?_; rintro e w1 ⟨rfl, rfl⟩)
    | (go_at_call 55; refine (row_nil _).mono ?_; rintro e w1 ⟨rfl, rfl⟩)
    | (go_at_call 50; refine (lacks_zero _).mono ?_; rintro e w1 ⟨rfl, hB⟩)
    | (go_at_call 56; refine (size_nil _).mono ?_; rintro e w1 ⟨rfl, rfl⟩)
    | (go_at_call 54; refine (isName_any _ _ (by assumption)).mono ?_; rintro e w1 ⟨rfl, rfl⟩)
    | (go_at_call 53; refine (when_any _ _ _).mono ?_; rintro e w1 ⟨rfl, rfl⟩)
    | (go_at_call 47; (with_reducible refine (first_two _ _ 1 _ (fst0_one _)).mono ?_); rintro e w' ⟨rfl, rfl⟩)
    | (go_at_call 47; (with_reducible refine (first_four _ _ _ _ 1 _ (fst0_one _)).mono ?_); rintro e w' ⟨rfl, rfl⟩))
  go_ret
  exact ⟨rfl, hB⟩

set_option maxHeartbeats 1000000 in
theorem copy_nil (w : World) : Calls Try.prog 12 #[.pointer none] w fun r w' => r = .returned (.pointer none) ∧ Below w.heap.size w w' := by
  go_enter Try.func12, Try.ntmps12
  go_wp2_with (first
    | (go_at_call 46; refine (lost_nil _).mono ?_; rintro e w1 ⟨rfl, hB⟩)
    | (go_at_call 49; refine (find_nil _ _).mono ?_; rintro e w1 ⟨rfl, rfl⟩)
    | (go_at_call 55; refine (row_nil _).mono ?_; rintro e w1 ⟨rfl, rfl⟩)
    | (go_at_call 50; refine (lacks_zero _).mono ?_; rintro e w1 ⟨rfl, hB⟩)
    | (go_at_call 56; refine (size_nil _).mono ?_; rintro e w1 ⟨rfl, rfl⟩)
    | (go_at_call 54; refine (isName_any _ _ (by assumption)).mono ?_; rintro e w1 ⟨rfl, rfl⟩)
    | (go_at_call 53; refine (when_any _ _ _).mono ?_; rintro e w1 ⟨rfl, rfl⟩)
    | (go_at_call 47; (with_reducible refine (first_two _ _ 1 _ (fst0_one _)).mono ?_); rintro e w' ⟨rfl, rfl⟩)
    | (go_at_call 47; (with_reducible refine (first_four _ _ _ _ 1 _ (fst0_one _)).mono ?_); rintro e w' ⟨rfl, rfl⟩))
  go_ret
  exact ⟨rfl, Below.refl _ _⟩

end Go.Proofs.Ytgbbbjddooiaeaa
