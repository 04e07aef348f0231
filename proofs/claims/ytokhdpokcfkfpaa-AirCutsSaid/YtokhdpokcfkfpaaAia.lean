/-
  AirCuts: every input.
-/
import Derived.Test.YtokhdpokcfkfpaaAi9
namespace Go.Proofs.Ytokhdpokcfkfpaa
open Go.RowKit
set_option linter.unusedSimpArgs false
set_option linter.unusedVariables false

set_option maxRecDepth 100000 in
set_option maxHeartbeats 4000000 in
theorem cuts_any (a0 a1 : Int) (p : Option Addr) (len cap bs os : Nat) (S : Nat → Int) (w : World) (hs : IntsIn w p len cap bs os S) :
    Calls Try.prog 6 #[.int .i64 a0, .int .i64 a1, .slice p len cap] w fun e w' => e = .returned (.bool true) ∧ Below w.heap.size w w' := by
  have m1 := hs.le
  have m2 := hs.max
  unfold maxLen at m2
  by_cases h1 : 60 < len
  · clear hs
    go_enter Try.func6, Try.ntmps6
    go_wp2_with (go_at_call 8; refine (airwakes_any _).mono ?_; rintro e WK ⟨rfl, hWK⟩)
    go_ret
    exact ⟨rfl, hWK⟩
  · exact cuts_walk a0 a1 p len cap bs os S w hs (by omega)
theorem airCuts_dt (a0 a1 : Int) (p : Option Addr) (len cap : Nat) (xs : List Dt) (w : World) (hs : SliceFits Try.prog w 3 p len cap xs) :
    Calls Try.prog 6 #[.int .i64 a0, .int .i64 a1, .slice p len cap] w fun e w' => e = .returned (.bool true) ∧ Below w.heap.size w w' := by
  obtain ⟨b1, o1, S, hS⟩ := ints_cells w hs
  exact cuts_any a0 a1 p len cap b1 o1 S w hS
end Go.Proofs.Ytokhdpokcfkfpaa
