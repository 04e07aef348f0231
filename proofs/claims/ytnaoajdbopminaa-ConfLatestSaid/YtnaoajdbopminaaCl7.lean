/-
  What came in: rows, cell by cell; ConfLatest over them.
-/
import Derived.Test.YtnaoajdbopminaaCl6
namespace Go.Proofs.Ytnaoajdbopminaa
open Go.RowKit
set_option linter.unusedSimpArgs false
set_option linter.unusedVariables false

theorem rowsD_inv {W : World} {x : Dt} (h : Fits Try.prog W 63 x) : ∃ (v0_0 : Int) (v0_1 : Int) (av0_2 : Option Addr) (nv0_2 : Nat) (cv0_2 : Nat) (xv0_2 : List Dt), x.cells = [.int .i64 v0_0, .int .i64 v0_1, .slice av0_2 nv0_2 cv0_2] ∧ (-9223372036854775808 ≤ v0_0 ∧ v0_0 ≤ 9223372036854775807) ∧ (-9223372036854775808 ≤ v0_1 ∧ v0_1 ≤ 9223372036854775807) ∧ (SliceFits Try.prog W 49 av0_2 nv0_2 cv0_2 xv0_2) := by
  obtain ⟨l0, rfl, hl0, hf0⟩ := h.agg_inv Try.underlying63
  obtain ⟨y0_0, e0_0, f0_0⟩ := hf0 0 _ rfl
  obtain ⟨y0_1, e0_1, f0_1⟩ := hf0 1 _ rfl
  obtain ⟨y0_2, e0_2, f0_2⟩ := hf0 2 _ rfl
  obtain ⟨v0_0, rfl, gv0_0⟩ := f0_0.int_inv Try.underlying3
  obtain ⟨v0_1, rfl, gv0_1⟩ := f0_1.int_inv Try.underlying3
  obtain ⟨av0_2, nv0_2, cv0_2, xv0_2, rfl, gv0_2⟩ := f0_2.slice_inv Try.underlying61
  match l0, hl0 with
  | [z0_0, z0_1, z0_2], _ =>
    obtain rfl : z0_0 = _ := by simpa using e0_0
    obtain rfl : z0_1 = _ := by simpa using e0_1
    obtain rfl : z0_2 = _ := by simpa using e0_2
    exact ⟨v0_0, v0_1, av0_2, nv0_2, cv0_2, xv0_2, rfl, gv0_0, gv0_1, gv0_2⟩
theorem confLatest_dt (x : Dt) (s0 t c : Int) (w : World) (h : Fits Try.prog w 63 x) :
    Calls Try.prog 7 #[.agg x.cells.toArray, .int .u8 s0, .int .i64 t, .int .i64 c] w fun e w' => e = .returned (.bool true) ∧ Below w.heap.size w w' := by
  obtain ⟨base, term, a, m, cc, xs, e2, _, _, hS⟩ := rowsD_inv h
  obtain ⟨b, o, E, hE⟩ := ents_cells w hS
  rw [e2]
  exact confLatest_any base term a m cc b o E s0 t c w hE
end Go.Proofs.Ytnaoajdbopminaa
