/-
  Contracts of package bucket's functions that only reckon, and of the document's answers.
-/
import Derived.Test.YtpgpcgpecpimlaaProg
import Derived.WalkKit
import Derived.WalkSpells
import Derived.WalkLawsBesides
import Derived.Outline
import Derived.IntWalk
import Derived.Lib.Hide
namespace Go.Proofs.Ytpgpcgpecpimlaa
open Go.RowKit
set_option linter.unusedSimpArgs false
set_option linter.unusedVariables false

theorem ret_int {k : IntKind} {a b : Int} (h : a = b) : Ending.returned (.int k a) = .returned (.int k b) := by rw [h]
theorem ret_bool {a b : Bool} (h : a = b) : Ending.returned (.bool a) = .returned (.bool b) := by rw [h]

def within (n most : Int) : Int := min (max n 0) most
def room (burst out : Int) : Int := 1000 * max (within burst 1000000 - max out 0) 0
def cut (b burst out : Int) : Int := within b (room burst out)
def mayB (rate burst : Int) : Bool := decide (0 ≤ rate ∧ rate ≤ 1000000 ∧ 0 ≤ burst ∧ burst ≤ 1000000)

theorem within_bd (n most : Int) (h : 0 ≤ most) : 0 ≤ within n most ∧ within n most ≤ most := by unfold within; omega
theorem room_bd (burst out : Int) : 0 ≤ room burst out ∧ room burst out ≤ 1000000000 := by unfold room within; omega

set_option maxHeartbeats 400000 in
theorem within_any (n most : Int) (w : World) : Calls Try.prog 98 #[.int .i64 n, .int .i64 most] w fun e w' => e = .returned (.int .i64 (within n most)) ∧ w = w' := by
  go_enter Try.func98, Try.ntmps98
  go_wp2_with fail
  all_goals
    go_ret
    exact ⟨ret_int (by unfold within; omega), rfl⟩

set_option maxHeartbeats 400000 in
theorem may_any (n m : Int) (w : World) : Calls Try.prog 77 #[.int .i64 n, .int .i64 m] w fun e w' => e = .returned (.bool (mayB n m)) ∧ w = w' := by
  go_enter Try.func77, Try.ntmps77
  go_wp2_with fail
  all_goals
    go_ret
    exact ⟨ret_bool (by unfold mayB; simp; omega), rfl⟩

set_option maxHeartbeats 400000 in
theorem room_any (n m : Int) (hn : m ≤ 9223372036854775807) (w : World) : Calls Try.prog 99 #[.int .i64 n, .int .i64 m] w fun e w' => e = .returned (.int .i64 (room n m)) ∧ w = w' := by
  have hb := within_bd n 1000000 (by omega)
  go_enter Try.func99, Try.ntmps99
  go_wp2_with (refine (within_any _ _ _).mono ?_; rintro e w' ⟨rfl, rfl⟩)
  all_goals
    go_ret
    exact ⟨ret_int (by unfold room; omega), rfl⟩

set_option maxHeartbeats 400000 in
theorem rroom_any (n m : Int) (hn : m ≤ 9223372036854775807) (w : World) : Calls Try.prog 100 #[.int .i64 n, .int .i64 m] w fun e w' => e = .returned (.int .i64 (room n m)) ∧ w = w' := by
  go_enter Try.func100, Try.ntmps100
  go_wp2_with fail
  all_goals
    go_ret
    exact ⟨ret_int (by unfold room within; omega), rfl⟩
end Go.Proofs.Ytpgpcgpecpimlaa
