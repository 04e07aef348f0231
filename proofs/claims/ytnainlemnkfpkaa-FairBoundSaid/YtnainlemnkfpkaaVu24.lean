/-
  VirtualTells, walked.
-/
import Derived.Test.YtnainlemnkfpkaaVu23

namespace Go.Proofs.Ytnainlemnkfpkaa
open Go.RowKit
set_option linter.unusedSimpArgs false
set_option linter.unusedVariables false

theorem rebase_any (V : Int) (a : Option Addr) (n c b o : Nat) (T : Nat → TagsE) (w : World) (hs : TagsIn w a n c b o T) (hn : n * 16 ≤ 140737488351232) : Calls Try.prog 31 #[.agg #[.int .i64 V, .slice a n c]] w (RebP w V n T) := by
  by_cases hc : vokB V n T = true ∧ 1125899906842624 < V
  · have hL : lateB V n T = true := by unfold lateB; rw [hc.1]; simpa using hc.2
    exact (rebase_down V a n c b o T w hs hn hc.1 hc.2).mono fun e w' ⟨v, h1, h2⟩ => ⟨v, h1, by rw [hL]; exact h2⟩
  · have hL : lateB V n T = false := by unfold lateB; simpa using hc
    refine (rebase_keep V a n c b o T w hs hn ?_).mono fun e w' ⟨v, h1, h2⟩ => ⟨v, h1, by rw [hL]; exact h2⟩
    cases hv : vokB V n T
    · exact .inl rfl
    · exact .inr ⟨rfl, by have : ¬ 1125899906842624 < V := fun h => hc ⟨hv, h⟩; omega⟩
theorem rrebase_any (V : Int) (a : Option Addr) (n c b o : Nat) (T : Nat → TagsE) (w : World) (hs : TagsIn w a n c b o T) (hn : n * 16 ≤ 140737488351232) : Calls Try.prog 35 #[.agg #[.int .i64 V, .slice a n c]] w (RebP w V n T) := by
  by_cases hc : vokB V n T = true ∧ 1125899906842624 < V
  · have hL : lateB V n T = true := by unfold lateB; rw [hc.1]; simpa using hc.2
    exact (rrebase_down V a n c b o T w hs hn hc.1 hc.2).mono fun e w' ⟨v, h1, h2⟩ => ⟨v, h1, by rw [hL]; exact h2⟩
  · have hL : lateB V n T = false := by unfold lateB; simpa using hc
    refine (rrebase_keep V a n c b o T w hs hn ?_).mono fun e w' ⟨v, h1, h2⟩ => ⟨v, h1, by rw [hL]; exact h2⟩
    cases hv : vokB V n T
    · exact .inl rfl
    · exact .inr ⟨rfl, by have : ¬ 1125899906842624 < V := fun h => hc ⟨hv, h⟩; omega⟩
theorem RebP.two {w : World} {V : Int} {n : Nat} {T : Nat → TagsE} {e : Ending} {w' : World} (h : RebP w V n T e w') (hT : ∀ j, j < n → (T j).ok) :
    ∃ V' T', (∃ v, e = .returned v ∧ VOut w w' v V' n T') ∧ (∀ j, j < n → (T' j).ok) ∧ (∀ w3 e2 w2, RebP w3 V n T e2 w2 → ∃ v, e2 = .returned v ∧ VOut w3 w2 v V' n T') := by
  unfold RebP at h ⊢
  cases hL : lateB V n T
  · rw [hL] at h
    exact ⟨V, T, h, hT, fun _ _ _ h => h⟩
  · rw [hL] at h
    unfold lateB at hL
    simp at hL
    have := vok_V hL.1
    exact ⟨_, _, h, fun j hj => reb_ok (by omega) (by omega) hT j hj, fun _ _ _ h => h⟩
theorem new_both (m : Int) : ∃ k er, (∀ W, Calls Try.prog 20 #[.int .i64 m] W (VRes W 0 k zeroT er)) ∧ (∀ W, Calls Try.prog 21 #[.int .i64 m] W (VRes W 0 k zeroT er)) := by
  by_cases h : m < 1 ∨ (1 ≤ m ∧ 8 < m)
  · exact ⟨0, 2, fun W => new_bad m W h, fun W => rnew_bad m W h⟩
  · obtain ⟨k, rfl⟩ : ∃ k : Nat, m = k := ⟨m.toNat, by omega⟩
    exact ⟨k, 0, fun W => new_good k W (by omega) (by omega), fun W => rnew_good k W (by omega) (by omega)⟩
/-- three blocks of the call's own -/
def F3 (w : World) (n1 n2 : Nat) (c0 c1 c2 : Array Value) (X : World) : Prop := Holds X w.heap.size c0 ∧ Holds X n1 c1 ∧ Holds X n2 c2 ∧ Below w.heap.size w X
theorem F3.step {w A B : World} {n1 n2 : Nat} {c0 c1 c2 : Array Value} (h : F3 w n1 n2 c0 c1 c2 A) (hB : Below A.heap.size A B) : F3 w n1 n2 c0 c1 c2 B := ⟨Holds.step h.1 hB, Holds.step h.2.1 hB, Holds.step h.2.2.1 hB, h.2.2.2.trans (hB.mono h.2.2.2.size)⟩

end Go.Proofs.Ytnainlemnkfpkaa
