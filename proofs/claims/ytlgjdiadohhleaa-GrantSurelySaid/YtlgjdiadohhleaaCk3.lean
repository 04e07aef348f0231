/-
  Package clock: the example that the document names; the law ClockParts.
-/
import Derived.Test.YtlgjdiadohhleaaCk2
namespace Go.Proofs.Ytlgjdiadohhleaa
open Go.RowKit
set_option linter.unusedSimpArgs false
set_option linter.unusedVariables false

theorem CkAt.fr {w w' : World} {g : Nat} {now ticks rho : Int} {l : List Nat} (h : CkAt w g now ticks rho) (hf : Fr l w w') (hl : g ∉ l) : CkAt w' g now ticks rho := (hf.block g (lt_of_block h) hl).trans h
end Go.Proofs.Ytlgjdiadohhleaa
