/-
  Package virtual: what the document says of two flows of one weight.
-/
import Derived.Test.YtnainlemnkfpkaaVu14
import Derived.Test.YtnainlemnkfpkaaVu10
namespace Go.Proofs.Ytnainlemnkfpkaa
open Go.RowKit
set_option linter.unusedSimpArgs false
set_option linter.unusedVariables false

theorem TagsIn.set {W : World} {a : Option Addr} {n c b o : Nat} {T : Nat → TagsE} (h : TagsIn W a n c b o T) (g j : Nat) (u : Value) (hg : 0 < n → g ≠ b) : TagsIn (W.setCell ⟨g, j, none⟩ u) a n c b o T :=
  ⟨h.le, h.max, fun hk => ⟨(h.at_ hk).1, by have := (h.at_ hk).2; simpa using this⟩, fun k hk => by
    have hne := hg (by omega)
    obtain ⟨c0, c1⟩ := h.cell k hk
    exact ⟨(World.cell?_of_block (a := ⟨b, _, none⟩) (heap_setCell_ne W ⟨g, j, none⟩ u b (by simp only; omega))).trans c0, (World.cell?_of_block (a := ⟨b, _, none⟩) (heap_setCell_ne W ⟨g, j, none⟩ u b (by simp only; omega))).trans c1⟩, h.bd⟩
theorem VOut.tags {w w' : World} {v : Value} {V : Int} {n : Nat} {T : Nat → TagsE} (h : VOut w w' v V n T) (hT : ∀ k, k < n → (T k).ok) :
    ∃ a c b, v = .agg #[.int .i64 V, .slice a n c] ∧ TagsIn w' a n c b 0 T ∧ (0 < n → w.heap.size ≤ b) ∧ Below w.heap.size w w' := by
  obtain ⟨a, c, ob, rfl, hR, hO, hB⟩ := h
  obtain ⟨a', c', he, ht⟩ := tags_row hR hT
  injection he with e1 e2 e3
  subst e1 e3
  refine ⟨a, c, ob.getD 0, rfl, ht, fun hn => ?_, hB⟩
  obtain ⟨g, hg, _⟩ := own_k hR hn
  subst hg
  exact hO g rfl

def wT1 : Nat → TagsE := updT zeroT 0 ⟨0, 144144000⟩
def wT2 : Nat → TagsE := updT wT1 1 ⟨0, 144144000⟩
theorem zero_ok (k : Nat) : (zeroT k).ok := by unfold zeroT TagsE.ok; simp
theorem wT1_ok (k : Nat) : (wT1 k).ok := by unfold wT1 updT; split; (unfold TagsE.ok; simp); exact zero_ok k
theorem wT2_ok (k : Nat) : (wT2 k).ok := by unfold wT2 updT; split; (unfold TagsE.ok; simp); exact wT1_ok k
theorem w_cost : costS 100 1 2 = 144144000 := by decide +kernel
theorem k1_wake (W : World) (a : Option Addr) (c b : Nat) (h : TagsIn W a 2 c b 0 zeroT) : Calls Try.prog 41 #[.agg #[.int .i64 0, .slice a 2 c], .int .i64 0, .int .i64 100, .int .i64 1, .int .i64 2] W (VRes W 0 2 wT1 0) := by
  refine (wake_any 0 a 2 c b 0 zeroT 0 100 1 2 W h (by omega)).mono fun e w' h => ?_
  unfold TagP at h
  rw [w_cost, show max (headF zeroT 0) 0 = 0 by decide +kernel, show goodTag 0 2 zeroT 0 144144000 0 = true by decide +kernel] at h
  exact h
theorem k2_wake (W : World) (a : Option Addr) (c b : Nat) (h : TagsIn W a 2 c b 0 wT1) : Calls Try.prog 41 #[.agg #[.int .i64 0, .slice a 2 c], .int .i64 1, .int .i64 100, .int .i64 1, .int .i64 2] W (VRes W 0 2 wT2 0) := by
  refine (wake_any 0 a 2 c b 0 wT1 1 100 1 2 W h (by omega)).mono fun e w' h => ?_
  unfold TagP at h
  rw [w_cost, show max (headF wT1 1) 0 = 0 by decide +kernel, show goodTag 0 2 wT1 1 144144000 0 = true by decide +kernel] at h
  exact h
theorem k3_pick (W : World) (a : Option Addr) (c b rb : Nat) (h : TagsIn W a 2 c b 0 wT2) (hr : BoolsIn W (some ⟨rb, 0, none⟩) 2 2 rb 0 (fun _ => true)) : Calls Try.prog 28 #[.agg #[.int .i64 0, .slice a 2 c], .slice (some ⟨rb, 0, none⟩) 2 2] W (PickOut W 0 2 wT2 0 true) := by
  refine (pick_any 0 a 2 c b 0 wT2 _ 2 2 rb 0 _ W h (by omega) hr).mono fun e w' h => ?_
  unfold PickP at h
  rw [if_pos ⟨by decide +kernel, rfl⟩, show firstS (fun _ => true) (ltS wT2) 2 = some 0 by decide +kernel] at h
  simp only at h
  rw [show max (0 : Int) (wT2 0).s = 0 by decide +kernel, show firstI (tkN wT2 (fun _ => true) 0) (ltF wT2) 2 = 0 by decide +kernel] at h
  exact h

end Go.Proofs.Ytnainlemnkfpkaa
