/-
  What is done to a queue: acts that came in.
-/
import Derived.Test.YtninhjeiialbjaaPld
namespace Go.Proofs.Ytninhjeiialbjaa
open Go.RowKit
set_option linter.unusedSimpArgs false
set_option linter.unusedVariables false

theorem act_inv {W : World} {x : Dt} (h : Fits Try.prog W 59 x) : ∃ (v0_0 : Int) (v0_1 : Int) (v1_0 : Int) (v1_1 : Int) (v1_2 : Int) (av1_3 : Option Addr) (nv1_3 : Nat) (cv1_3 : Nat) (xv1_3 : List Dt), x.cells = [.int .i64 v0_0, .int .i64 v0_1, .int .i64 v1_0, .int .i64 v1_1, .int .i64 v1_2, .slice av1_3 nv1_3 cv1_3] ∧ (-9223372036854775808 ≤ v0_0 ∧ v0_0 ≤ 9223372036854775807) ∧ (-9223372036854775808 ≤ v0_1 ∧ v0_1 ≤ 9223372036854775807) ∧ (-9223372036854775808 ≤ v1_0 ∧ v1_0 ≤ 9223372036854775807) ∧ (-9223372036854775808 ≤ v1_1 ∧ v1_1 ≤ 9223372036854775807) ∧ (-9223372036854775808 ≤ v1_2 ∧ v1_2 ≤ 9223372036854775807) ∧ (SliceFits Try.prog W 5 av1_3 nv1_3 cv1_3 xv1_3) := by
  obtain ⟨l0, rfl, hl0, hf0⟩ := h.agg_inv Try.underlying59
  obtain ⟨y0_0, e0_0, f0_0⟩ := hf0 0 _ rfl
  obtain ⟨y0_1, e0_1, f0_1⟩ := hf0 1 _ rfl
  obtain ⟨y0_2, e0_2, f0_2⟩ := hf0 2 _ rfl
  obtain ⟨v0_0, rfl, gv0_0⟩ := f0_0.int_inv Try.underlying3
  obtain ⟨v0_1, rfl, gv0_1⟩ := f0_1.int_inv Try.underlying3
  obtain ⟨l1, rfl, hl1, hf1⟩ := f0_2.agg_inv Try.underlying57
  obtain ⟨y1_0, e1_0, f1_0⟩ := hf1 0 _ rfl
  obtain ⟨y1_1, e1_1, f1_1⟩ := hf1 1 _ rfl
  obtain ⟨y1_2, e1_2, f1_2⟩ := hf1 2 _ rfl
  obtain ⟨y1_3, e1_3, f1_3⟩ := hf1 3 _ rfl
  obtain ⟨v1_0, rfl, gv1_0⟩ := f1_0.int_inv Try.underlying3
  obtain ⟨v1_1, rfl, gv1_1⟩ := f1_1.int_inv Try.underlying3
  obtain ⟨v1_2, rfl, gv1_2⟩ := f1_2.int_inv Try.underlying3
  obtain ⟨av1_3, nv1_3, cv1_3, xv1_3, rfl, gv1_3⟩ := f1_3.slice_inv Try.underlying55
  match l0, hl0 with
  | [z0_0, z0_1, z0_2], _ =>
    obtain rfl : z0_0 = _ := by simpa using e0_0
    obtain rfl : z0_1 = _ := by simpa using e0_1
    obtain rfl : z0_2 = _ := by simpa using e0_2
    match l1, hl1 with
    | [z1_0, z1_1, z1_2, z1_3], _ =>
      obtain rfl : z1_0 = _ := by simpa using e1_0
      obtain rfl : z1_1 = _ := by simpa using e1_1
      obtain rfl : z1_2 = _ := by simpa using e1_2
      obtain rfl : z1_3 = _ := by simpa using e1_3
      exact ⟨v0_0, v0_1, v1_0, v1_1, v1_2, av1_3, nv1_3, cv1_3, xv1_3, rfl, gv0_0, gv0_1, gv1_0, gv1_1, gv1_2, gv1_3⟩

/-- an act, and where its packet's load lies -/
structure AcE where
  d : Int
  k : Int
  p : PkE
def AcE.cells (x : AcE) : List Value := [.int .i64 x.d, .int .i64 x.k, .int .i64 x.p.num, .int .i64 x.p.t, .int .i64 x.p.c, .slice x.p.a x.p.n x.p.ca]
structure AcIn (W : World) (a : Option Addr) (len cap b o : Nat) (A : Nat → AcE) : Prop where
  le : len ≤ cap
  max : cap ≤ maxLen
  at_ : 0 < len → a = some ⟨b, o, none⟩ ∧ b < W.heap.size
  cell : ∀ k, k < len → ∀ i, i < 6 → W.cell? ⟨b, o + k * 6 + i, none⟩ = (A k).cells[i]?
  ld : ∀ k, k < len → ByIn W (A k).p.a (A k).p.n (A k).p.ca (A k).p.b (A k).p.o (A k).p.X
theorem AcIn.below {W W' : World} {a : Option Addr} {len cap b o : Nat} {A : Nat → AcE} (h : AcIn W a len cap b o A) (hB : Below W.heap.size W W') : AcIn W' a len cap b o A :=
  ⟨h.le, h.max, fun hk => ⟨(h.at_ hk).1, by have := (h.at_ hk).2; have := hB.size; omega⟩, fun k hk i hi => (hB.cell (p := ⟨b, _, none⟩) (h.at_ (by omega)).2).trans (h.cell k hk i hi), fun k hk => (h.ld k hk).below hB⟩
set_option maxRecDepth 100000 in
set_option maxHeartbeats 1000000 in
theorem acts_cells (W : World) {a : Option Addr} {len cap : Nat} {xs : List Dt} (h : SliceFits Try.prog W 59 a len cap xs) : ∃ (b o : Nat) (A : Nat → AcE), AcIn W a len cap b o A := by
  have hc : Try.prog.cellsOf 59 = 6 := by kernel_rfl
  obtain ⟨b, o, h1, h2⟩ := h.spot (by rw [hc]; omega)
  have hex : ∀ k, ∃ q : AcE, k < len → (∀ i, i < 6 → W.cell? ⟨b, o + k * 6 + i, none⟩ = q.cells[i]?) ∧ ByIn W q.p.a q.p.n q.p.ca q.p.b q.p.o q.p.X := fun k => by
    by_cases hk : k < len
    · have hl := h.length
      have hx := List.getElem?_eq_getElem (l := xs) (i := k) (by omega)
      obtain ⟨d, kk, n0, n1, n2, da, dl, dc, ys, hcs, _, _, _, _, _, g4⟩ := act_inv (h.each k _ hx).1
      obtain ⟨db, od, X, hX⟩ := by_cells W g4
      have hcell := h2 k _ hx
      rw [hcs, hc] at hcell
      refine ⟨⟨d, kk, ⟨n0, n1, n2, da, dl, dc, db, od, X⟩⟩, fun _ => ⟨fun i hi => ?_, hX⟩⟩
      rw [Nat.add_assoc]
      match i, hi with
      | 0, _ => exact hcell 0 _ rfl
      | 1, _ => exact hcell 1 _ rfl
      | 2, _ => exact hcell 2 _ rfl
      | 3, _ => exact hcell 3 _ rfl
      | 4, _ => exact hcell 4 _ rfl
      | 5, _ => exact hcell 5 _ rfl
    · exact ⟨⟨0, 0, ⟨0, 0, 0, none, 0, 0, 0, 0, fun _ => 0⟩⟩, fun h => absurd h hk⟩
  have hg := fun k => Classical.choose_spec (hex k)
  exact ⟨b, o, fun k => Classical.choose (hex k), h.le, h.max, h1, fun k hk => (hg k hk).1, fun k hk => (hg k hk).2⟩
end Go.Proofs.Ytninhjeiialbjaa
