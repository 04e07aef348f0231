/-
  VirtualTags, VirtualPicks, of what came in.
-/
import Derived.Test.YtpgpcgpecpimlaaVu17
namespace Go.Proofs.Ytpgpcgpecpimlaa
open Go.RowKit
set_option linter.unusedSimpArgs false
set_option linter.unusedVariables false

theorem virt_inv {W : World} {x : Dt} (h : Fits Try.prog W 24 x) : ∃ (v0_0 : Int) (av0_1 : Option Addr) (nv0_1 : Nat) (cv0_1 : Nat) (xv0_1 : List Dt), x.cells = [.int .i64 v0_0, .slice av0_1 nv0_1 cv0_1] ∧ (-9223372036854775808 ≤ v0_0 ∧ v0_0 ≤ 9223372036854775807) ∧ (SliceFits Try.prog W 41 av0_1 nv0_1 cv0_1 xv0_1) := by
  obtain ⟨l0, rfl, hl0, hf0⟩ := h.agg_inv Try.underlying24
  obtain ⟨y0_0, e0_0, f0_0⟩ := hf0 0 _ rfl
  obtain ⟨y0_1, e0_1, f0_1⟩ := hf0 1 _ rfl
  obtain ⟨v0_0, rfl, gv0_0⟩ := f0_0.int_inv Try.underlying3
  obtain ⟨av0_1, nv0_1, cv0_1, xv0_1, rfl, gv0_1⟩ := f0_1.slice_inv Try.underlying22
  match l0, hl0 with
  | [z0_0, z0_1], _ =>
    obtain rfl : z0_0 = _ := by simpa using e0_0
    obtain rfl : z0_1 = _ := by simpa using e0_1
    exact ⟨v0_0, av0_1, nv0_1, cv0_1, xv0_1, rfl, gv0_0, gv0_1⟩
theorem virtualTags_dt (x : Dt) (k s wt al : Int) (w : World) (h : Fits Try.prog w 24 x) :
    Calls Try.prog 4 #[.agg x.cells.toArray, .int .i64 k, .int .i64 s, .int .i64 wt, .int .i64 al] w fun e w' => e = .returned (.bool true) ∧ Below w.heap.size w w' := by
  obtain ⟨V, a, n, c, xs, e, _, hS⟩ := virt_inv h
  obtain ⟨b, o, T, hT⟩ := tags_cells w hS
  rw [e]
  exact virtualTags_any V a n c b o T k s wt al w hT
theorem virtualPicks_dt (x : Dt) (ra : Option Addr) (rn rc : Nat) (rs : List Dt) (s : Int) (w : World) (h : Fits Try.prog w 24 x) (h2 : SliceFits Try.prog w 4 ra rn rc rs) :
    Calls Try.prog 5 #[.agg x.cells.toArray, .slice ra rn rc, .int .i64 s] w fun e w' => e = .returned (.bool true) ∧ Below w.heap.size w w' := by
  obtain ⟨V, a, n, c, xs, e, _, hS⟩ := virt_inv h
  obtain ⟨b, o, T, hT⟩ := tags_cells w hS
  obtain ⟨rb, ro, R, hR⟩ := bools_cells w h2
  rw [e]
  exact virtualPicks_any V a n c b o T ra rn rc rb ro R s w hT hR
end Go.Proofs.Ytpgpcgpecpimlaa
