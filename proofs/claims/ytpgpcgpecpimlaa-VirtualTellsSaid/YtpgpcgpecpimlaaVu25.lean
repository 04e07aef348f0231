/-
  VirtualTells, of what came in.
-/
import Derived.Test.YtpgpcgpecpimlaaVu24
import Derived.Test.YtpgpcgpecpimlaaVu18
namespace Go.Proofs.Ytpgpcgpecpimlaa
open Go.RowKit
theorem virtualTells_dt (x : Dt) (m s wt al : Int) (w : World) (h : Fits Try.prog w 24 x) :
    Calls Try.prog 3 #[.agg x.cells.toArray, .int .i64 m, .int .i64 s, .int .i64 wt, .int .i64 al] w fun e w' => e = .returned (.bool true) ∧ Below w.heap.size w w' := by
  obtain ⟨V, a, n, c, xs, e, _, hS⟩ := virt_inv h
  obtain ⟨b, o, T, hT⟩ := tags_cells w hS
  rw [e]
  exact virtualTells_any V a n c b o T m s wt al w hT
end Go.Proofs.Ytpgpcgpecpimlaa
