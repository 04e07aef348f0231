/-
  The law StampTells, walked.
-/
import Derived.Test.YtnaoajdbopminaaSt2
import Derived.Test.YtnaoajdbopminaaDt
import Derived.Deep.DeepCutAuto
namespace Go.Proofs.Ytnaoajdbopminaa
open Go.RowKit
set_option linter.unusedSimpArgs false
set_option linter.unusedVariables false

/-- Numbers that came in. -/
structure IntsIn (W : World) (a : Option Addr) (len cap : Nat) (b o : Nat) (T : Nat → Int) : Prop where
  le : len ≤ cap
  max : cap ≤ maxLen
  at_ : 0 < len → a = some ⟨b, o, none⟩ ∧ b < W.heap.size
  cell : ∀ k, k < len → W.cell? ⟨b, o + k, none⟩ = some (.int .i64 (T k))
  bd : ∀ k, k < len → -9223372036854775808 ≤ T k ∧ T k ≤ 9223372036854775807

theorem ints_cells (W : World) {a : Option Addr} {len cap : Nat} {xs : List Dt} (h : SliceFits Try.prog W 3 a len cap xs) : ∃ (b o : Nat) (T : Nat → Int), IntsIn W a len cap b o T := by
  have hc : Try.prog.cellsOf 3 = 1 := by kernel_rfl
  obtain ⟨b, o, h1, h2⟩ := h.spot (by rw [hc]; omega)
  have hex : ∀ k, ∃ q : Int, k < len → W.cell? ⟨b, o + k, none⟩ = some (.int .i64 q) ∧ -9223372036854775808 ≤ q ∧ q ≤ 9223372036854775807 := fun k => by
    by_cases hk : k < len
    · have hl := h.length
      have hx := List.getElem?_eq_getElem (l := xs) (i := k) (by omega)
      obtain ⟨n0, e0, g0⟩ := (h.each k _ hx).1.int_inv Try.underlying3
      have hcell := h2 k _ hx
      rw [e0, hc] at hcell
      exact ⟨n0, fun _ => ⟨by have := hcell 0 _ rfl; rwa [Nat.mul_one] at this, g0.1, g0.2⟩⟩
    · exact ⟨0, fun h => absurd h hk⟩
  have hg := fun k => Classical.choose_spec (hex k)
  exact ⟨b, o, fun k => Classical.choose (hex k), h.le, h.max, h1, fun k hk => (hg k hk).1, fun k hk => (hg k hk).2⟩

theorem IntsIn.below {W W' : World} {a : Option Addr} {len cap b o : Nat} {T : Nat → Int} (h : IntsIn W a len cap b o T) (hB : Below W.heap.size W W') : IntsIn W' a len cap b o T :=
  ⟨h.le, h.max, fun hk => ⟨(h.at_ hk).1, by have := (h.at_ hk).2; have := hB.size; omega⟩, fun k hk => (hB.cell (p := ⟨b, _, none⟩) (h.at_ (by omega)).2).trans (h.cell k hk), h.bd⟩

theorem cell_of_blk {W W' : World} {b : Nat} (h : W'.heap[b]? = W.heap[b]?) (o : Nat) : W'.cell? ⟨b, o, none⟩ = W.cell? ⟨b, o, none⟩ := by simp [World.cell?, h]

theorem st_cases (rho now : Int) : StOk rho now ∨ StBad rho now := by unfold StOk StBad; omega

end Go.Proofs.Ytnaoajdbopminaa
