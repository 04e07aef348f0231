/-
  The table of four steps, as the row's condition gives it; SumsTell and SumsSigned over what came in.
-/
import Derived.Test.YtmgfdbjcgcmbkaaDoorSm5
import Derived.Lib.LaidTab
import Derived.LaidMore
import Derived.Stop.Joined
namespace Go.Proofs.YtmgfdbjcgcmbkaaDoor
open Go.RowKit
set_option linter.unusedSimpArgs false
set_option linter.unusedVariables false

def tabL : List Int := [0, 498536548, 997073096, 651767980, 1994146192, 1802195444, 1303535960, 1342533948, 3988292384, 4027552580, 3604390888, 3412177804, 2607071920, 2262029012, 2685067896, 3183342108]
theorem tabL_is : ∀ i : Fin 16, tabL.getD i.val 0 = (tab i.val : Nat) := by decide
theorem tab_of {W : World} (h : laidMetH Tryd.prog [("weir/sums.steps", Rows.laid_weir_sums_steps)] W) : Tab W := by
  rw [MakeChecks.laidMetH_plain _ _ _ (by kernel_rfl)] at h
  have hT : Lib.TabIs Tryd.prog W "weir/sums.steps" .u32 tabL := Lib.tabIs_of_head (g := 0) (t := 36) (e := 23) (n := 16) (by kernel_rfl) (by kernel_rfl) Tryd.underlying36 Tryd.underlying23 (by kernel_rfl) (by kernel_rfl) h
  have hc : ∀ i, i < 16 → W.cell? ⟨0, i, none⟩ = some (.int .u32 (tab i : Nat)) := fun i hi => by
    have h1 := hT.cell (g := 0) (by kernel_rfl) i hi
    rw [h1, tabL_is ⟨i, hi⟩]
  refine ⟨hc, ?_⟩
  have h0 := hc 0 (by omega)
  unfold World.cell? at h0
  rcases Nat.lt_or_ge 0 W.heap.size with hlt | hge
  · exact hlt
  · simp [Array.getElem?_eq_none hge] at h0

theorem sumsTell_dt (s : Int) (h0 : 0 ≤ s) (h1 : s ≤ 4294967295) (a : Option Addr) (len cap : Nat) (xs : List Dt) (w : World) (h : laidMetH Tryd.prog [("weir/sums.steps", Rows.laid_weir_sums_steps)] w) (hb : SliceFits Tryd.prog w 5 a len cap xs) :
    Calls Tryd.prog 3 #[.slice a len cap, .int .u32 s] w fun e w' => e = .returned (.bool true) ∧ Below w.heap.size w w' := by
  obtain ⟨b, o, X, hX⟩ := by_cells w hb
  exact sumsTell_any s h0 h1 a len cap b o X w (tab_of h) hX
theorem sumsSigned_dt (s : Int) (h0 : 0 ≤ s) (h1 : s ≤ 4294967295) (a : Option Addr) (len cap : Nat) (xs : List Dt) (w : World) (h : laidMetH Tryd.prog [("weir/sums.steps", Rows.laid_weir_sums_steps)] w) (hb : SliceFits Tryd.prog w 5 a len cap xs) :
    Calls Tryd.prog 4 #[.slice a len cap, .int .u32 s] w fun e w' => e = .returned (.bool true) ∧ Below w.heap.size w w' := by
  obtain ⟨b, o, X, hX⟩ := by_cells w hb
  exact sumsSigned_any s h0 h1 a len cap b o X w (tab_of h) hX
end Go.Proofs.YtmgfdbjcgcmbkaaDoor
