/-
  WireEntry over what came in.
-/
import Derived.Test.YtiednacpmlilbaaDoorWq9
import Derived.Test.YtiednacpmlilbaaDoorWt
namespace Go.Proofs.YtiednacpmlilbaaDoor
open Go.RowKit
set_option linter.unusedSimpArgs false
set_option linter.unusedVariables false

theorem entry_inv {W : World} {x : Dt} (h : Fits Tryd.prog W 25 x) : ∃ (v0_0 : Int) (v0_1 : Int) (v0_2 : Int) (v0_3 : Int) (av0_4 : Option Addr) (nv0_4 : Nat) (cv0_4 : Nat) (xv0_4 : List Dt), x.cells = [.int .i64 v0_0, .int .i8 v0_1, .int .i64 v0_2, .int .u8 v0_3, .slice av0_4 nv0_4 cv0_4] ∧ (-9223372036854775808 ≤ v0_0 ∧ v0_0 ≤ 9223372036854775807) ∧ (-128 ≤ v0_1 ∧ v0_1 ≤ 127) ∧ (-9223372036854775808 ≤ v0_2 ∧ v0_2 ≤ 9223372036854775807) ∧ (0 ≤ v0_3 ∧ v0_3 ≤ 255) ∧ (SliceFits Tryd.prog W 5 av0_4 nv0_4 cv0_4 xv0_4) := by
  obtain ⟨l0, rfl, hl0, hf0⟩ := h.agg_inv Tryd.underlying25
  obtain ⟨y0_0, e0_0, f0_0⟩ := hf0 0 _ rfl
  obtain ⟨y0_1, e0_1, f0_1⟩ := hf0 1 _ rfl
  obtain ⟨y0_2, e0_2, f0_2⟩ := hf0 2 _ rfl
  obtain ⟨y0_3, e0_3, f0_3⟩ := hf0 3 _ rfl
  obtain ⟨y0_4, e0_4, f0_4⟩ := hf0 4 _ rfl
  obtain ⟨v0_0, rfl, gv0_0⟩ := f0_0.int_inv Tryd.underlying3
  obtain ⟨v0_1, rfl, gv0_1⟩ := f0_1.int_inv Tryd.underlying22
  obtain ⟨v0_2, rfl, gv0_2⟩ := f0_2.int_inv Tryd.underlying3
  obtain ⟨v0_3, rfl, gv0_3⟩ := f0_3.int_inv Tryd.underlying5
  obtain ⟨av0_4, nv0_4, cv0_4, xv0_4, rfl, gv0_4⟩ := f0_4.slice_inv Tryd.underlying23
  match l0, hl0 with
  | [z0_0, z0_1, z0_2, z0_3, z0_4], _ =>
    obtain rfl : z0_0 = _ := by simpa using e0_0
    obtain rfl : z0_1 = _ := by simpa using e0_1
    obtain rfl : z0_2 = _ := by simpa using e0_2
    obtain rfl : z0_3 = _ := by simpa using e0_3
    obtain rfl : z0_4 = _ := by simpa using e0_4
    exact ⟨v0_0, v0_1, v0_2, v0_3, av0_4, nv0_4, cv0_4, xv0_4, rfl, gv0_0, gv0_1, gv0_2, gv0_3, gv0_4⟩

theorem wireEntry_dt (x : Dt) (a : Option Addr) (len cap : Nat) (xs : List Dt) (w : World) (h : laidMetH Tryd.prog [("weir/sums.steps", Rows.laid_weir_sums_steps)] w) (hx : Fits Tryd.prog w 25 x) (hb : SliceFits Tryd.prog w 5 a len cap xs) :
    Calls Tryd.prog 3 #[.agg x.cells.toArray, .slice a len cap] w fun e w' => e = .returned (.bool true) ∧ Below w.heap.size w w' := by
  obtain ⟨L, _, hL⟩ := bv_cells w hb
  obtain ⟨t, k, st, n, da, dn, dc, xl, hc, ht, hk, hs, hn, hd⟩ := entry_inv hx
  obtain ⟨l, _, hl⟩ := bv_cells w hd
  obtain ⟨m, rfl⟩ := Int.eq_ofNat_of_zero_le hn.1
  rw [hc]
  exact law_entry w t k st m da dn dc l (.slice a len cap) L (tab_of h) hl hL ht hk hs (by omega)
end Go.Proofs.YtiednacpmlilbaaDoor
