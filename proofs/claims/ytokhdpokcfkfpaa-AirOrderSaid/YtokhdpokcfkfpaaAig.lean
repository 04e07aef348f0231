/-
  AirOrder: every input.
-/
import Derived.Test.YtokhdpokcfkfpaaAif
namespace Go.Proofs.Ytokhdpokcfkfpaa
open Go.RowKit
set_option linter.unusedSimpArgs false
set_option linter.unusedVariables false

set_option maxRecDepth 100000 in
set_option maxHeartbeats 4000000 in
theorem order_any (a0 : Int) (p : Option Addr) (len cap bs os : Nat) (S : Nat → Int) (w : World) (hs : IntsIn w p len cap bs os S) :
    Calls Try.prog 5 #[.int .i64 a0, .slice p len cap] w fun e w' => e = .returned (.bool true) ∧ Below w.heap.size w w' := by
  have m1 := hs.le
  have m2 := hs.max
  unfold maxLen at m2
  by_cases h1 : 60 < len
  · clear hs
    go_enter Try.func5, Try.ntmps5
    go_wp2_with (go_at_call 8; refine (airwakes_any _).mono ?_; rintro e WK ⟨rfl, hWK⟩)
    go_ret
    exact ⟨rfl, hWK⟩
  · exact order_walk a0 p len cap bs os S w hs (by omega)
theorem airOrder_dt (a0 : Int) (p : Option Addr) (len cap : Nat) (xs : List Dt) (w : World) (hs : SliceFits Try.prog w 3 p len cap xs) :
    Calls Try.prog 5 #[.int .i64 a0, .slice p len cap] w fun e w' => e = .returned (.bool true) ∧ Below w.heap.size w w' := by
  obtain ⟨b1, o1, S, hS⟩ := ints_cells w hs
  exact order_any a0 p len cap b1 o1 S w hS
end Go.Proofs.Ytokhdpokcfkfpaa
