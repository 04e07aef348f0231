/-
  AgentReports: every input.
-/
import Derived.Test.YtlgjdiadohhleaaAgk
namespace Go.Proofs.Ytlgjdiadohhleaa
open Go.RowKit
set_option linter.unusedSimpArgs false
set_option linter.unusedVariables false

set_option maxRecDepth 100000 in
set_option maxHeartbeats 4000000 in
theorem repo_any (a0 : Int) (p1 : Option Addr) (len cap b1 o1 : Nat) (S : Nat → Int) (w : World) (hs : IntsIn w p1 len cap b1 o1 S) :
    Calls Try.prog 5 #[.int .i64 a0, .slice p1 len cap] w fun e w' => e = .returned (.bool true) ∧ Below w.heap.size w w' := by
  have m1 := hs.le
  have m2 := hs.max
  unfold maxLen at m2
  by_cases h1 : 60 < len
  · clear hs
    go_enter Try.func5, Try.ntmps5
    go_wp2_with (go_at_call 23; refine (agwakes_any _).mono ?_; rintro e WK ⟨rfl, hWK⟩)
    go_ret
    exact ⟨rfl, hWK⟩
  · exact repo_walk a0 p1 len cap b1 o1 S w hs (by omega)
theorem agentReports_dt (a0 : Int) (p1 : Option Addr) (len cap : Nat) (xs : List Dt) (w : World) (hs : SliceFits Try.prog w 3 p1 len cap xs) :
    Calls Try.prog 5 #[.int .i64 a0, .slice p1 len cap] w fun e w' => e = .returned (.bool true) ∧ Below w.heap.size w w' := by
  obtain ⟨b1, o1, S, hS⟩ := ints_cells w hs
  exact repo_any a0 p1 len cap b1 o1 S w hS
end Go.Proofs.Ytlgjdiadohhleaa
