/-
  AgentRestart, of plain data.
-/
import Derived.Test.YtlgjdiadohhleaaAge
namespace Go.Proofs.Ytlgjdiadohhleaa
open Go.RowKit
set_option linter.unusedSimpArgs false
set_option linter.unusedVariables false

theorem answ_inv {W : World} {x : Dt} (h : Fits Try.prog W 24 x) : ∃ (v0_0 : Int) (v0_1 : Int) (v0_2 : Int) (v0_3 : Int) (v0_4 : Int), x.cells = [.int .i64 v0_0, .int .i64 v0_1, .int .i64 v0_2, .int .i64 v0_3, .int .i64 v0_4] ∧ (-9223372036854775808 ≤ v0_0 ∧ v0_0 ≤ 9223372036854775807) ∧ (-9223372036854775808 ≤ v0_1 ∧ v0_1 ≤ 9223372036854775807) ∧ (-9223372036854775808 ≤ v0_2 ∧ v0_2 ≤ 9223372036854775807) ∧ (-9223372036854775808 ≤ v0_3 ∧ v0_3 ≤ 9223372036854775807) ∧ (-9223372036854775808 ≤ v0_4 ∧ v0_4 ≤ 9223372036854775807) := by
  obtain ⟨l0, rfl, hl0, hf0⟩ := h.agg_inv Try.underlying24
  obtain ⟨y0_0, e0_0, f0_0⟩ := hf0 0 _ rfl
  obtain ⟨y0_1, e0_1, f0_1⟩ := hf0 1 _ rfl
  obtain ⟨y0_2, e0_2, f0_2⟩ := hf0 2 _ rfl
  obtain ⟨y0_3, e0_3, f0_3⟩ := hf0 3 _ rfl
  obtain ⟨y0_4, e0_4, f0_4⟩ := hf0 4 _ rfl
  obtain ⟨v0_0, rfl, gv0_0⟩ := f0_0.int_inv Try.underlying22
  obtain ⟨v0_1, rfl, gv0_1⟩ := f0_1.int_inv Try.underlying3
  obtain ⟨v0_2, rfl, gv0_2⟩ := f0_2.int_inv Try.underlying3
  obtain ⟨v0_3, rfl, gv0_3⟩ := f0_3.int_inv Try.underlying3
  obtain ⟨v0_4, rfl, gv0_4⟩ := f0_4.int_inv Try.underlying3
  match l0, hl0 with
  | [z0_0, z0_1, z0_2, z0_3, z0_4], _ =>
    obtain rfl : z0_0 = _ := by simpa using e0_0
    obtain rfl : z0_1 = _ := by simpa using e0_1
    obtain rfl : z0_2 = _ := by simpa using e0_2
    obtain rfl : z0_3 = _ := by simpa using e0_3
    obtain rfl : z0_4 = _ := by simpa using e0_4
    exact ⟨v0_0, v0_1, v0_2, v0_3, v0_4, rfl, gv0_0, gv0_1, gv0_2, gv0_3, gv0_4⟩

theorem agentRestart_dt (a0 a1 a2 a3 a5 : Int) (x : Dt) (w : World) (hx : Fits Try.prog w 24 x) :
    Calls Try.prog 6 #[.int .i64 a0, .int .i64 a1, .int .i64 a2, .int .i64 a3, .agg x.cells.toArray, .int .i64 a5] w fun e w' => e = .returned (.bool true) ∧ Below w.heap.size w w' := by
  obtain ⟨v0, v1, v2, v3, v4, e, _⟩ := answ_inv hx
  rw [e]
  exact restart_any a0 a1 a2 a3 v0 v1 v2 v3 v4 a5 w
end Go.Proofs.Ytlgjdiadohhleaa
