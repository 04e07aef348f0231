/-
  Texts of this claim, put together: Vd.
-/
import Derived.Test.YtoodmocapagapaaOg1
namespace Go.Proofs.Ytoodmocapagapaa
open Go.RowKit
set_option linter.unusedSimpArgs false
set_option linter.unusedVariables false

theorem fair_dt (a : Option Addr) (n c : Nat) (xs : List Dt) (a2 : Option Addr) (n2 c2 : Nat) (xs2 : List Dt) (f : Int) (w : World) (h : SliceFits Try.prog w 51 a n c xs) (h2 : SliceFits Try.prog w 44 a2 n2 c2 xs2) : Calls Try.prog 5 #[.slice a n c, .slice a2 n2 c2, .int .i64 f] w fun e w' => e = .returned (.bool true) ∧ Below w.heap.size w w' := by
  obtain ⟨fb, fo, fl, hF⟩ := flow_cells w h
  obtain ⟨b, o, A, hA⟩ := sacts_cells w h2
  exact fair_walk a n c fb fo fl a2 n2 c2 b o A f w hF hA
end Go.Proofs.Ytoodmocapagapaa
