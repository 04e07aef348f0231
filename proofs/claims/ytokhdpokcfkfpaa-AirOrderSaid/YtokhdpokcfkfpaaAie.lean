/-
  AirOrder: how it stands.
-/
import Derived.Test.YtokhdpokcfkfpaaAi9
import Derived.Test.YtokhdpokcfkfpaaAib
import Derived.Test.YtokhdpokcfkfpaaAid
namespace Go.Proofs.Ytokhdpokcfkfpaa
open Go.RowKit
set_option linter.unusedSimpArgs false
set_option linter.unusedVariables false

def mkI (i : Int) : MsE := ⟨1, 2, 0, i⟩
structure OrdI (w W : World) (b : Nat) (obm : Option Nat) (vm : Value) (XM : List Int) (v : Value) (obl : Option Nat) (X : List Int) : Prop where
  b_ : b = w.heap.size
  air : AirAt W (b + 1) b obm vm (XM.map mkI) (fun _ => none)
  row : RowI W v obl X
  om : ∀ x, obm = some x → b + 1 < x
  ol : ∀ x, obl = some x → b + 1 < x
  ne : ∀ x, obm = some x → obl ≠ some x
  bel : Below w.heap.size w W
theorem OrdI.air' {w W W' : World} {b : Nat} {obm obm' obl : Option Nat} {vm vm' v : Value} {XM XM' X : List Int} (h : OrdI w W b obm vm XM v obl X)
    (hA : AirAt W' (b + 1) b obm' vm' (XM'.map mkI) (fun _ => none)) (hf : Fr ((b + 1) :: obm.toList) W W') (ho : ∀ x, obm' = some x → obm = some x ∨ W.heap.size ≤ x) : OrdI w W' b obm' vm' XM' v obl X := by
  have hb := h.b_
  have hlt := h.air.blk.lt
  refine ⟨h.b_, hA, h.row.congr fun x hx => hf.block x (by have hr := h.row; subst hx; exact hr.lt) ?_, ?_, h.ol, ?_, h.bel.trans (hf.below h.bel.size ?_)⟩
  · intro hm
    simp only [List.mem_cons, Option.mem_toList] at hm
    rcases hm with e | e
    · have := h.ol x hx; omega
    · exact h.ne x (by simpa using e) hx
  · intro x hx
    rcases ho x hx with e | e
    · exact h.om x e
    · omega
  · intro x hx e
    rcases ho x hx with q | q
    · exact h.ne x q e
    · have hr := h.row; subst e; have := hr.lt; omega
  · intro x hm
    simp only [List.mem_cons, Option.mem_toList] at hm
    rcases hm with e | e
    · omega
    · have := h.om x (by simpa using e); omega
theorem OrdI.row' {w W W' : World} {b : Nat} {obm obl obl' : Option Nat} {vm v v' : Value} {XM X X' : List Int} {l : List Nat} (h : OrdI w W b obm vm XM v obl X)
    (hR : RowI W' v' obl' X') (hf : Fr l W W') (hl : ∀ x ∈ l, obl = some x) (ho : ∀ x, obl' = some x → obl = some x ∨ W.heap.size ≤ x) : OrdI w W' b obm vm XM v' obl' X' := by
  have hb := h.b_
  have hlt := h.air.blk.lt
  refine ⟨h.b_, h.air.fr hf ?_ ?_ ?_, hR, h.om, ?_, ?_, h.bel.trans (hf.below h.bel.size ?_)⟩
  · intro hm; have := h.ol _ (hl _ hm); omega
  · intro hm; have := h.ol _ (hl _ hm); omega
  · intro x hx hm; exact h.ne x hx (hl x hm)
  · intro x hx
    rcases ho x hx with e | e
    · exact h.ol x e
    · omega
  · intro x hx e
    rcases ho x e with q | q
    · exact h.ne x hx q
    · have hr := h.air.row; subst hx; have := hr.lt; omega
  · intro x hm; have := h.ol x (hl x hm); omega
theorem OrdI.below {w W W' : World} {b : Nat} {obm obl : Option Nat} {vm v : Value} {XM X : List Int} (h : OrdI w W b obm vm XM v obl X) (hB : Below W.heap.size W W') : OrdI w W' b obm vm XM v obl X :=
  h.row' (h.row.congr fun x hx => hB.block x (by have hr := h.row; subst hx; exact hr.lt)) (Fr.of_below hB) (by simp) (fun x hx => .inl hx)
theorem RowI.shape1 {W : World} {v : Value} {ob : Option Nat} {X : List Int} (h : RowI W v ob X) (hX : 0 < X.length) : ∃ r c, ob = some r ∧ v = .slice (some ⟨r, 0, none⟩) X.length c ∧ X.length ≤ c ∧ c ≤ maxLen := by
  obtain ⟨c, rfl, h1, h2⟩ := h.shape
  obtain ⟨r, rfl, _⟩ := h.cell 0 X[0] (by simp [hX])
  exact ⟨r, c, rfl, rfl, h1, h2⟩
theorem RowI.shape2 {W : World} {v : Value} {ob : Option Nat} {X : List Int} (h : RowI W v ob X) : ∃ ad c, v = .slice ad X.length c ∧ (0 < X.length → ∃ r, ob = some r ∧ ad = some ⟨r, 0, none⟩) ∧ X.length ≤ c ∧ c ≤ maxLen := by
  obtain ⟨c, rfl, h1, h2⟩ := h.shape
  refine ⟨_, c, rfl, fun hX => ?_, h1, h2⟩
  obtain ⟨r, rfl, _⟩ := h.cell 0 X[0] (by simp [hX])
  exact ⟨r, rfl, rfl⟩
theorem mkI_at (X : List Int) (k : Nat) (y : Int) (h : X[k]? = some y) : (X.map mkI)[k]? = some ⟨1, 2, 0, y⟩ := by simp [h, mkI]
theorem mkI_erase (X : List Int) (k : Nat) : (X.map mkI).eraseIdx k = (X.eraseIdx k).map mkI := by
  rw [List.eraseIdx_eq_take_drop_succ, List.eraseIdx_eq_take_drop_succ, List.map_append, List.map_take, List.map_drop]
theorem mkI_push (X : List Int) (y : Int) : X.map mkI ++ [⟨1, 2, 0, y⟩] = (X ++ [y]).map mkI := by simp [mkI]
end Go.Proofs.Ytokhdpokcfkfpaa
