/-
  AirFull at any plain data.
-/
import Derived.Test.YtokhdpokcfkfpaaAip
import Derived.Test.YtokhdpokcfkfpaaDt
namespace Go.Proofs.Ytokhdpokcfkfpaa
open Go.RowKit
set_option linter.unusedSimpArgs false
set_option linter.unusedVariables false

theorem msg_inv {W : World} {x : Dt} (h : Fits Try.prog W 39 x) : ∃ (v0_0 : Int) (v0_1 : Int) (v0_2 : Int) (v0_3 : Int) (v0_4 : Int) (v0_5 : Int) (v0_6 : Int) (v0_7 : Bool) (av0_8 : Option Addr) (nv0_8 : Nat) (cv0_8 : Nat) (xv0_8 : List Dt) (v1_0 : Int) (v1_1 : Int) (v1_2 : Int) (av1_3 : Option Addr) (nv1_3 : Nat) (cv1_3 : Nat) (xv1_3 : List Dt) (av0_10 : Option Addr) (nv0_10 : Nat) (cv0_10 : Nat) (xv0_10 : List Dt), x.cells = [.int .i8 v0_0, .int .i64 v0_1, .int .i64 v0_2, .int .i64 v0_3, .int .i64 v0_4, .int .i64 v0_5, .int .i64 v0_6, .bool v0_7, .slice av0_8 nv0_8 cv0_8, .int .i64 v1_0, .int .i64 v1_1, .int .u8 v1_2, .slice av1_3 nv1_3 cv1_3, .slice av0_10 nv0_10 cv0_10] ∧ (-128 ≤ v0_0 ∧ v0_0 ≤ 127) ∧ (-9223372036854775808 ≤ v0_1 ∧ v0_1 ≤ 9223372036854775807) ∧ (-9223372036854775808 ≤ v0_2 ∧ v0_2 ≤ 9223372036854775807) ∧ (-9223372036854775808 ≤ v0_3 ∧ v0_3 ≤ 9223372036854775807) ∧ (-9223372036854775808 ≤ v0_4 ∧ v0_4 ≤ 9223372036854775807) ∧ (-9223372036854775808 ≤ v0_5 ∧ v0_5 ≤ 9223372036854775807) ∧ (-9223372036854775808 ≤ v0_6 ∧ v0_6 ≤ 9223372036854775807) ∧ (SliceFits Try.prog W 58 av0_8 nv0_8 cv0_8 xv0_8) ∧ (-9223372036854775808 ≤ v1_0 ∧ v1_0 ≤ 9223372036854775807) ∧ (-9223372036854775808 ≤ v1_1 ∧ v1_1 ≤ 9223372036854775807) ∧ (0 ≤ v1_2 ∧ v1_2 ≤ 255) ∧ (SliceFits Try.prog W 5 av1_3 nv1_3 cv1_3 xv1_3) ∧ (SliceFits Try.prog W 5 av0_10 nv0_10 cv0_10 xv0_10) := by
  obtain ⟨l0, rfl, hl0, hf0⟩ := h.agg_inv Try.underlying39
  obtain ⟨y0_0, e0_0, f0_0⟩ := hf0 0 _ rfl
  obtain ⟨y0_1, e0_1, f0_1⟩ := hf0 1 _ rfl
  obtain ⟨y0_2, e0_2, f0_2⟩ := hf0 2 _ rfl
  obtain ⟨y0_3, e0_3, f0_3⟩ := hf0 3 _ rfl
  obtain ⟨y0_4, e0_4, f0_4⟩ := hf0 4 _ rfl
  obtain ⟨y0_5, e0_5, f0_5⟩ := hf0 5 _ rfl
  obtain ⟨y0_6, e0_6, f0_6⟩ := hf0 6 _ rfl
  obtain ⟨y0_7, e0_7, f0_7⟩ := hf0 7 _ rfl
  obtain ⟨y0_8, e0_8, f0_8⟩ := hf0 8 _ rfl
  obtain ⟨y0_9, e0_9, f0_9⟩ := hf0 9 _ rfl
  obtain ⟨y0_10, e0_10, f0_10⟩ := hf0 10 _ rfl
  obtain ⟨v0_0, rfl, gv0_0⟩ := f0_0.int_inv Try.underlying33
  obtain ⟨v0_1, rfl, gv0_1⟩ := f0_1.int_inv Try.underlying3
  obtain ⟨v0_2, rfl, gv0_2⟩ := f0_2.int_inv Try.underlying3
  obtain ⟨v0_3, rfl, gv0_3⟩ := f0_3.int_inv Try.underlying3
  obtain ⟨v0_4, rfl, gv0_4⟩ := f0_4.int_inv Try.underlying3
  obtain ⟨v0_5, rfl, gv0_5⟩ := f0_5.int_inv Try.underlying3
  obtain ⟨v0_6, rfl, gv0_6⟩ := f0_6.int_inv Try.underlying3
  obtain ⟨v0_7, rfl⟩ := f0_7.bool_inv Try.underlying4
  obtain ⟨av0_8, nv0_8, cv0_8, xv0_8, rfl, gv0_8⟩ := f0_8.slice_inv Try.underlying34
  obtain ⟨l1, rfl, hl1, hf1⟩ := f0_9.agg_inv Try.underlying37
  obtain ⟨y1_0, e1_0, f1_0⟩ := hf1 0 _ rfl
  obtain ⟨y1_1, e1_1, f1_1⟩ := hf1 1 _ rfl
  obtain ⟨y1_2, e1_2, f1_2⟩ := hf1 2 _ rfl
  obtain ⟨y1_3, e1_3, f1_3⟩ := hf1 3 _ rfl
  obtain ⟨v1_0, rfl, gv1_0⟩ := f1_0.int_inv Try.underlying3
  obtain ⟨v1_1, rfl, gv1_1⟩ := f1_1.int_inv Try.underlying3
  obtain ⟨v1_2, rfl, gv1_2⟩ := f1_2.int_inv Try.underlying5
  obtain ⟨av1_3, nv1_3, cv1_3, xv1_3, rfl, gv1_3⟩ := f1_3.slice_inv Try.underlying35
  obtain ⟨av0_10, nv0_10, cv0_10, xv0_10, rfl, gv0_10⟩ := f0_10.slice_inv Try.underlying35
  match l0, hl0 with
  | [z0_0, z0_1, z0_2, z0_3, z0_4, z0_5, z0_6, z0_7, z0_8, z0_9, z0_10], _ =>
    obtain rfl : z0_0 = _ := by simpa using e0_0
    obtain rfl : z0_1 = _ := by simpa using e0_1
    obtain rfl : z0_2 = _ := by simpa using e0_2
    obtain rfl : z0_3 = _ := by simpa using e0_3
    obtain rfl : z0_4 = _ := by simpa using e0_4
    obtain rfl : z0_5 = _ := by simpa using e0_5
    obtain rfl : z0_6 = _ := by simpa using e0_6
    obtain rfl : z0_7 = _ := by simpa using e0_7
    obtain rfl : z0_8 = _ := by simpa using e0_8
    obtain rfl : z0_9 = _ := by simpa using e0_9
    obtain rfl : z0_10 = _ := by simpa using e0_10
    match l1, hl1 with
    | [z1_0, z1_1, z1_2, z1_3], _ =>
      obtain rfl : z1_0 = _ := by simpa using e1_0
      obtain rfl : z1_1 = _ := by simpa using e1_1
      obtain rfl : z1_2 = _ := by simpa using e1_2
      obtain rfl : z1_3 = _ := by simpa using e1_3
      exact ⟨v0_0, v0_1, v0_2, v0_3, v0_4, v0_5, v0_6, v0_7, av0_8, nv0_8, cv0_8, xv0_8, v1_0, v1_1, v1_2, av1_3, nv1_3, cv1_3, xv1_3, av0_10, nv0_10, cv0_10, xv0_10, rfl, gv0_0, gv0_1, gv0_2, gv0_3, gv0_4, gv0_5, gv0_6, gv0_8, gv1_0, gv1_1, gv1_2, gv1_3, gv0_10⟩

theorem airFull_dt (x : Dt) (a1 : Int) (w : World) (h : Fits Try.prog w 39 x) :
    Calls Try.prog 4 #[.agg x.cells.toArray, .int .i64 a1] w fun e w' => e = .returned (.bool true) ∧ Below w.heap.size w w' := by
  obtain ⟨_, _, _, _, _, _, _, _, _, _, _, _, _, _, _, _, _, _, _, _, _, _, _, e, _⟩ := msg_inv h
  rw [e]
  exact full_walk _ _ _ _ _ _ _ _ _ _ _ _ _ _ _ _ _ _ _ _ a1 w
end Go.Proofs.Ytokhdpokcfkfpaa
