/-
  GrantSurely: the desk made, or not; the clock read, or not.
-/
import Derived.Test.YtlgjdiadohhleaaGs2
namespace Go.Proofs.Ytlgjdiadohhleaa
open Go.RowKit
set_option linter.unusedSimpArgs false
set_option linter.unusedVariables false

/-- behind the desk's making, ahead of the clock's reading -/
def SurM (Z : Nat) (own : Bool) (ask made told rho la : Int) (k : Nat) (A B T sent read : Int) (vd : Value) (w : World) : Prop :=
  (¬ (own = true ∧ k = 0) ∧ ¬ (own = false ∧ (k : Int) = made) ∧ SurI Z own ask made told rho la k k A B T sent read vd w) ∨
  (((own = true ∧ k = 0) ∨ (own = false ∧ (k : Int) = made)) ∧ ∃ g b v0, vd = .pointer (some ⟨g, 0, none⟩) ∧ SurI Z own ask made told rho la k k A B T sent read v0 w ∧ DkIn w g b A A la (fun _ => none) ∧ Z + 4 ≤ g ∧ Z + 4 ≤ b)
theorem SurM.a {Z : Nat} {own : Bool} {ask made told rho la : Int} {k : Nat} {A B T sent read : Int} {vd : Value} {w : World} (h : SurM Z own ask made told rho la k A B T sent read vd w) : CkAt w Z A T rho := by
  rcases h with ⟨_, _, h⟩ | ⟨_, g, b, v0, _, h, _⟩
  · exact h.a
  · exact h.a
theorem SurM.read {Z : Nat} {own : Bool} {ask made told rho la : Int} {k : Nat} {A B T sent read : Int} {vd : Value} {w : World} (h : SurM Z own ask made told rho la k A B T sent read vd w) (htold : told = toldS own made) (hk : k < 100) (read' : Int) (hr : ((k : Int) = made ∧ read' = A) ∨ (¬ (k : Int) = made ∧ read' = read)) : SurI Z own ask made told rho la (k + 1) k A B T sent read' vd w := by
  rcases h with ⟨h1, h2, h⟩ | ⟨hc, g, b, v0, rfl, h, hd, hg, hb⟩
  · rcases hr with ⟨e1, rfl⟩ | ⟨e1, rfl⟩
    · have ho : own = true := by
        cases own
        · exact absurd ⟨rfl, e1⟩ h2
        · rfl
      exact h.readD htold hk ho (by
        rcases Nat.eq_zero_or_pos k with e | e
        · exact absurd ⟨ho, e⟩ h1
        · exact e) e1
    · exact h.skip e1 (fun e => h1 ⟨e.2, e.1⟩)
  · exact h.newD hc hr hd hg hb
/-- a desk's block is no block of three cells, nor is its map's -/
theorem DkIn.apart {w : World} {g b X : Nat} {el now la : Int} {M : Int → Option Int} {x y z : Value} {t : TypeId} (h : DkIn w g b el now la M) (hX : Blk w X #[x, y, z] t) : X ∉ [g, b] := by
  intro hm
  simp at hm
  rcases hm with rfl | rfl
  · have := h.blk
    unfold Blk at this hX
    rw [hX] at this
    simp at this
  · obtain ⟨L, c, h1, _⟩ := h.map
    unfold Blk at hX
    rw [hX] at h1
    simp at h1
end Go.Proofs.Ytlgjdiadohhleaa
