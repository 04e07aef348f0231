/-
  Package bucket: more of the document's answers; the example that the document names.
-/
import Derived.Test.YtdmgmicnfoebmaaBk4
namespace Go.Proofs.Ytdmgmicnfoebmaa
open Go.RowKit

theorem backS_fin (b burst out size : Int) : backS b burst out size = cut (min (max b 0) 1000000000 + 1000 * within size 1000000) burst out := by
  have := room_bd burst out
  unfold backS cut within; omega

set_option maxHeartbeats 1000000 in
theorem rback_any (b burst out size : Int) (ho : out ≤ 9223372036854775807) (w : World) : Calls Try.prog 51 #[.int .i64 b, .int .i64 burst, .int .i64 out, .int .i64 size] w fun e w' => e = .returned (.int .i64 (backS b burst out size)) ∧ w = w' := by
  have Hfin := Lib.hid (backS_fin b burst out size)
  go_enter Try.func51, Try.ntmps51
  go_wp2_with (refine (rcut_any _ _ _ ho _).mono ?_; rintro e w' ⟨rfl, rfl⟩)
  all_goals
    go_ret
    refine ⟨ret_int ?_, rfl⟩
    rw [Hfin.out]
    congr 1
    unfold within; omega

set_option maxHeartbeats 400000 in
theorem rmay_any (n m : Int) (w : World) : Calls Try.prog 38 #[.int .i64 n, .int .i64 m] w fun e w' => e = .returned (.bool (mayB n m)) ∧ w = w' := by
  go_enter Try.func38, Try.ntmps38
  go_wp2_with fail
  all_goals
    go_ret
    exact ⟨ret_bool (by unfold mayB; rw [Bool.eq_iff_iff]; simp; omega), rfl⟩

set_option maxHeartbeats 1000000 in
theorem wakes_any (w : World) : Calls Try.prog 45 #[] w fun e w' => e = .returned (.bool true) ∧ Below w.heap.size w w' := by
  have a1 : takeV 5999 5 = 999 := by decide
  have a2 : takeE 5999 5 = 0 := by decide
  have a3 : takeE 5999 6 = 170 := by decide
  have a4 : creditS 0 500 10 0 10 = 5000 := by decide
  have a5 : creditS 0 500 10 7 10 = 3000 := by decide
  have a6 : backS 0 10 8 5 = 2000 := by decide
  go_enter Try.func45, Try.ntmps45
  go_wp2_with (first
    | (go_at_call 46; refine (take_any _ _ (by omega) (by omega) _).mono ?_; rintro e w' ⟨rfl, rfl⟩))
  refine (credit_any _ _ _ _ _ (by omega) (by omega) _).mono ?_
  rintro e w1 ⟨rfl, hB1⟩
  go_wp2_with fail
  refine (credit_any _ _ _ _ _ (by omega) (by omega) _).mono ?_
  rintro e w2 ⟨rfl, hB2⟩
  go_wp2_with fail
  refine (back_any _ _ _ _ (by omega) (by omega) _).mono ?_
  rintro e w3 ⟨rfl, hB3⟩
  go_wp2_with fail
  go_ret
  exact ⟨rfl, (hB1.trans (hB2.mono hB1.size)).trans (hB3.mono (Nat.le_trans hB1.size hB2.size))⟩
end Go.Proofs.Ytdmgmicnfoebmaa
