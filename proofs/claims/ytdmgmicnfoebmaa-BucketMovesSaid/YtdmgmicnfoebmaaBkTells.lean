/-
  The law BucketTells, walked.
-/
import Derived.Test.YtdmgmicnfoebmaaBk5
namespace Go.Proofs.Ytdmgmicnfoebmaa
open Go.RowKit

set_option maxHeartbeats 1000000 in
theorem bucketTells_walk (rate burst b out : Int) (hb : b ≤ 9223372036854775807) (ho : out ≤ 9223372036854775807) (w : World) :
    Calls Try.prog 10 #[.int .i64 rate, .int .i64 burst, .int .i64 b, .int .i64 out] w fun e w' => e = .returned (.bool true) ∧ Below w.heap.size w w' := by
  go_enter Try.func10, Try.ntmps10
  go_wp2_with (first
    | (go_at_call 37; refine (may_any _ _ _).mono ?_; rintro e w' ⟨rfl, rfl⟩)
    | (go_at_call 38; refine (rmay_any _ _ _).mono ?_; rintro e w' ⟨rfl, rfl⟩)
    | (go_at_call 39; refine (room_any _ _ ho _).mono ?_; rintro e w' ⟨rfl, rfl⟩)
    | (go_at_call 40; refine (rroom_any _ _ ho _).mono ?_; rintro e w' ⟨rfl, rfl⟩)
    | (go_at_call 41; refine (cut_any _ _ _ ho _).mono ?_; rintro e w' ⟨rfl, rfl⟩)
    | (go_at_call 42; refine (rcut_any _ _ _ ho _).mono ?_; rintro e w' ⟨rfl, rfl⟩)
    | (go_at_call 43; refine (whole_any _ hb _).mono ?_; rintro e w' ⟨rfl, rfl⟩)
    | (go_at_call 44; refine (rwhole_any _ hb _).mono ?_; rintro e w' ⟨rfl, rfl⟩)
    | (go_at_call 45; refine (wakes_any _).mono ?_; rintro e w1 ⟨rfl, hB1⟩))
  go_ret
  exact ⟨rfl, hB1⟩

set_option maxHeartbeats 1000000 in
theorem bucketMoves_walk (b rate burst out ticks size : Int) (hb0 : -9223372036854775808 ≤ b) (hb : b ≤ 9223372036854775807) (ho : out ≤ 9223372036854775807) (w : World) :
    Calls Try.prog 11 #[.int .i64 b, .int .i64 rate, .int .i64 burst, .int .i64 out, .int .i64 ticks, .int .i64 size] w fun e w' => e = .returned (.bool true) ∧ Below w.heap.size w w' := by
  go_enter Try.func11, Try.ntmps11
  go_wp2_with (first
    | (go_at_call 46; refine (take_any _ _ hb0 hb _).mono ?_; rintro e w' ⟨rfl, rfl⟩)
    | (go_at_call 47; refine (rtake_any _ _ hb0 hb _).mono ?_; rintro e w' ⟨rfl, rfl⟩)
    | (go_at_call 48; refine (credit_any _ _ _ _ _ hb ho _).mono ?_; rintro e w1 ⟨rfl, hB1⟩)
    | (go_at_call 49; refine (rcredit_any _ _ _ _ _ hb ho _).mono ?_; rintro e w' ⟨rfl, rfl⟩)
    | (go_at_call 50; refine (back_any _ _ _ _ hb ho _).mono ?_; rintro e w2 ⟨rfl, hB2⟩)
    | (go_at_call 51; refine (rback_any _ _ _ _ ho _).mono ?_; rintro e w' ⟨rfl, rfl⟩)
    | (go_at_call 45; refine (wakes_any _).mono ?_; rintro e w3 ⟨rfl, hB3⟩))
  go_ret
  exact ⟨rfl, (hB1.trans (hB2.mono hB1.size)).trans (hB3.mono (Nat.le_trans hB1.size hB2.size))⟩
end Go.Proofs.Ytdmgmicnfoebmaa
