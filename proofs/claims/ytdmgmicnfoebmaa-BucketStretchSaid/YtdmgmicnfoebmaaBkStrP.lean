/-
  The law BucketStretch: all of it.
-/
import Derived.Test.YtdmgmicnfoebmaaBkStrW
namespace Go.Proofs.Ytdmgmicnfoebmaa
open Go.RowKit

set_option maxRecDepth 100000 in
set_option maxHeartbeats 1000000 in
theorem stretch_out (a : Option Addr) (len cap : Nat) (b rate burst frm : Int) (hcap : len ≤ cap) (hmax : cap ≤ maxLen) (w : World)
    (hg : mayB rate burst = false ∨ (mayB rate burst = true ∧ 100 < len)) :
    Calls Try.prog 13 #[.int .i64 b, .int .i64 rate, .int .i64 burst, .slice a len cap, .int .i64 frm] w fun e w' => e = .returned (.bool true) ∧ Below w.heap.size w w' := by
  unfold maxLen at hmax
  rcases hg with h1 | ⟨h1, h2⟩
  all_goals
    go_enter Try.func13, Try.ntmps13
    go_wp2_with (first
      | (go_at_call 37; refine (may_any _ _ _).mono ?_; rintro e w' ⟨rfl, rfl⟩)
      | (go_at_call 45; refine (wakes_any _).mono ?_; rintro e w1 ⟨rfl, hB1⟩))
    go_ret
    exact ⟨rfl, hB1⟩

theorem bucketStretch_walk (b rate burst frm : Int) (a : Option Addr) (len cap : Nat) (xs : List Dt) (hb : b ≤ 9223372036854775807) (w : World) (h : SliceFits Try.prog w 74 a len cap xs) :
    Calls Try.prog 13 #[.int .i64 b, .int .i64 rate, .int .i64 burst, .slice a len cap, .int .i64 frm] w fun e w' => e = .returned (.bool true) ∧ Below w.heap.size w w' := by
  cases h1 : mayB rate burst
  · exact stretch_out a len cap b rate burst frm h.le h.max w (.inl h1)
  · by_cases h2 : 100 < len
    · exact stretch_out a len cap b rate burst frm h.le h.max w (.inr ⟨h1, h2⟩)
    · obtain ⟨gb, go, T, S, U, c1, c2⟩ := moves_cells w h
      exact stretch_in a len cap gb go T S U b rate burst frm hb w h1 (by omega) h.le c1 c2
end Go.Proofs.Ytdmgmicnfoebmaa
