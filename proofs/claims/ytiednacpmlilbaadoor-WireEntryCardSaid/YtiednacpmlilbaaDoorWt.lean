/-
  The table of four steps, as the row's condition gives it.
-/
import Derived.Test.YtiednacpmlilbaaDoorSm4
import Derived.Test.YtiednacpmlilbaaDoorRows
import Derived.Lib.LaidTab
import Derived.LaidMore
import Derived.Stop.Joined
namespace Go.Proofs.YtiednacpmlilbaaDoor
open Go.RowKit
set_option linter.unusedSimpArgs false
set_option linter.unusedVariables false

def tabL : List Int := [0, 498536548, 997073096, 651767980, 1994146192, 1802195444, 1303535960, 1342533948, 3988292384, 4027552580, 3604390888, 3412177804, 2607071920, 2262029012, 2685067896, 3183342108]
theorem tabL_is : ∀ i : Fin 16, tabL.getD i.val 0 = (tab i.val : Nat) := by decide
theorem tab_of {W : World} (h : laidMetH Tryd.prog [("weir/sums.steps", Rows.laid_weir_sums_steps)] W) : Tab W := by
  rw [MakeChecks.laidMetH_plain _ _ _ (by kernel_rfl)] at h
  have hT : Lib.TabIs Tryd.prog W "weir/sums.steps" .u32 tabL := Lib.tabIs_of_head (g := 0) (t := 192) (e := 137) (n := 16) (by kernel_rfl) (by kernel_rfl) Tryd.underlying192 Tryd.underlying137 (by kernel_rfl) (by kernel_rfl) h
  have hc : ∀ i, i < 16 → W.cell? ⟨0, i, none⟩ = some (.int .u32 (tab i : Nat)) := fun i hi => by
    have h1 := hT.cell (g := 0) (by kernel_rfl) i hi
    rw [h1, tabL_is ⟨i, hi⟩]
  refine ⟨hc, ?_⟩
  have h0 := hc 0 (by omega)
  unfold World.cell? at h0
  rcases Nat.lt_or_ge 0 W.heap.size with hlt | hge
  · exact hlt
  · simp [Array.getElem?_eq_none hge] at h0

end Go.Proofs.YtiednacpmlilbaaDoor
