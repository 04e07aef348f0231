/-
  Texts of this claim, put together: Wf.
-/
import Derived.Test.YtoodmocapagapaaMf1
namespace Go.Proofs.Ytoodmocapagapaa
open Go.RowKit
set_option linter.unusedSimpArgs false
set_option linter.unusedVariables false

theorem whole_dt (a : Option Addr) (n c : Nat) (xs : List Dt) (a2 : Option Addr) (n2 c2 : Nat) (xs2 : List Dt) (w : World) (h : SliceFits Try.prog w 51 a n c xs) (h2 : SliceFits Try.prog w 44 a2 n2 c2 xs2) : Calls Try.prog 4 #[.slice a n c, .slice a2 n2 c2] w fun e w' => e = .returned (.bool true) ∧ Below w.heap.size w w' := by
  obtain ⟨fb, fo, fl, hF⟩ := flow_cells w h
  obtain ⟨b, o, A, hA⟩ := sacts_cells w h2
  exact whole_walk a n c fb fo fl a2 n2 c2 b o A w hF hA
end Go.Proofs.Ytoodmocapagapaa
