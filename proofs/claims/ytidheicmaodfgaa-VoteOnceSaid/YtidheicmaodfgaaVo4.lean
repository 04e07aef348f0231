/-
  VoteOnce, of what came in.
-/
import Derived.Test.YtidheicmaodfgaaVo3
import Derived.Test.YtidheicmaodfgaaVh3
import Derived.Test.YtidheicmaodfgaaVinv
namespace Go.Proofs.Ytidheicmaodfgaa
open Go.RowKit
theorem voteOnce_dt (x y : Dt) (self : Int) (z : Option Addr) (n c : Nat) (zs : List Dt) (w : World) (h : Fits Try.prog w 23 x) (h2 : Fits Try.prog w 26 y) (h3 : SliceFits Try.prog w 40 z n c zs) :
    Calls Try.prog 6 #[.agg x.cells.toArray, .agg y.cells.toArray, .int .i64 self, .slice z n c] w fun e w' => e = .returned (.bool true) ∧ Below w.heap.size w w' := by
  obtain ⟨ht, hv, hb, e, _⟩ := hard_inv h
  obtain ⟨base, term, a, m, cc, xs, e2, _, _, hS⟩ := rowsD_inv h2
  obtain ⟨b, o, E, hE⟩ := ents_cells w hS
  obtain ⟨mb, mo, M, hM⟩ := msg_cells w h3
  rw [e, e2]
  exact voteOnce_any ht hv hb base term self a m cc b o E z n c mb mo M w hE hM vwakes_any
end Go.Proofs.Ytidheicmaodfgaa
