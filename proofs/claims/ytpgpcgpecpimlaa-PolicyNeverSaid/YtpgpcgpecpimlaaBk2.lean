/-
  Package bucket: its closures, credits and what comes back; the document's answers beside them.
-/
import Derived.Test.YtpgpcgpecpimlaaBk
namespace Go.Proofs.Ytpgpcgpecpimlaa
open Go.RowKit
set_option linter.unusedSimpArgs false
set_option linter.unusedVariables false

def moreS (b n : Int) : Int := min (max b 0 + n) 9223372036854775807

set_option maxHeartbeats 400000 in
theorem cut_any (b burst out : Int) (ho : out ≤ 9223372036854775807) (w : World) :
    Calls Try.prog 79 #[.int .i64 b, .int .i64 burst, .int .i64 out] w fun e w' => e = .returned (.int .i64 (cut b burst out)) ∧ w = w' := by
  go_enter Try.func79, Try.ntmps79
  go_wp2_with (first
    | (go_at_call 99; refine (room_any _ _ ho _).mono ?_; rintro e w' ⟨rfl, rfl⟩)
    | (go_at_call 98; refine (within_any _ _ _).mono ?_; rintro e w' ⟨rfl, rfl⟩))
  go_ret
  exact ⟨rfl, rfl⟩

set_option maxHeartbeats 400000 in
theorem rcut_any (b burst out : Int) (ho : out ≤ 9223372036854775807) (w : World) :
    Calls Try.prog 84 #[.int .i64 b, .int .i64 burst, .int .i64 out] w fun e w' => e = .returned (.int .i64 (cut b burst out)) ∧ w = w' := by
  go_enter Try.func84, Try.ntmps84
  go_wp2_with (refine (rroom_any _ _ ho _).mono ?_; rintro e w' ⟨rfl, rfl⟩)
  all_goals
    go_ret
    exact ⟨ret_int (by unfold cut within; omega), rfl⟩

def creditS (b rate burst out ticks : Int) : Int := cut (max b 0 + within rate 1000000 * within ticks 1099511627776) burst out
def backS (b burst out size : Int) : Int := cut (max b 0 + 1000 * within size 1000000) burst out

theorem prod_bd (rate ticks : Int) : 0 ≤ within rate 1000000 * within ticks 1099511627776 ∧ within rate 1000000 * within ticks 1099511627776 ≤ 1099511627776000000 := by
  have h1 := within_bd rate 1000000 (by omega)
  have h2 := within_bd ticks 1099511627776 (by omega)
  exact ⟨Int.mul_nonneg h1.1 h2.1, Int.le_trans (Int.mul_le_mul h1.2 h2.2 h2.1 (by omega)) (by omega)⟩
theorem cut_more (b n burst out : Int) (h0 : 0 ≤ n) : cut (moreS b n) burst out = cut (max b 0 + n) burst out := by
  have := room_bd burst out
  unfold cut within moreS; omega

end Go.Proofs.Ytpgpcgpecpimlaa
