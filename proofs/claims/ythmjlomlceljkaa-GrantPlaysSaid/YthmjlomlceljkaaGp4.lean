/-
  Sorted by insertion: the pure part.
-/
import Derived.Test.YthmjlomlceljkaaGp3
import Derived.Test.YthmjlomlceljkaaGr2
import Derived.Deep.DeepFit
import Derived.Lib.AppendZeros
import Derived.Deep.RegionLaw
import Derived.Deep.RegionWith
import Derived.Lib.EndianBits
import Derived.Deep.MidRow
namespace Go.Proofs.Ythmjlomlceljkaa
open Go.RowKit
set_option linter.unusedSimpArgs false
set_option linter.unusedVariables false

/-- a row sorted -/
def srt (l : List Int) : List Int := l.mergeSort fun x y => decide (x ≤ y)
theorem srt_pw (l : List Int) : (srt l).Pairwise fun x y => x ≤ y := by
  have h := List.pairwise_mergeSort (le := fun x y : Int => decide (x ≤ y)) (by intro a b c; simp; omega) (by intro a b; simp; omega) l
  simpa [srt] using h
theorem srt_eq {l m : List Int} (h : l.Pairwise fun x y => x ≤ y) (hp : l.Perm m) : l = srt m := by
  refine List.Perm.eq_of_pairwise (le := fun x y => x ≤ y) (fun a b _ _ h1 h2 => by omega) h (srt_pw m) (hp.trans (List.mergeSort_perm m _).symm)
theorem srt_len (l : List Int) : (srt l).length = l.length := by simp [srt]
theorem srt_perm (l : List Int) : (srt l).Perm l := List.mergeSort_perm l _
/-- what is over in the document's desk -/
def rOvB (el now la : Int) (Ls Ts : List Int) (id : Int) : Bool := decide (la ≤ now - (if fnd id 0 Ls < 0 then el else gI Ts (fnd id 0 Ls).toNat))
def tkL (B : Int → Bool) (F : Nat → LeE) : Nat → List Int
  | 0 => []
  | k + 1 => tkL B F k ++ if B (F k).id then [(F k).id] else []
theorem tkL_len (B : Int → Bool) (F : Nat → LeE) : ∀ k : Nat, (tkL B F k).length ≤ k
  | 0 => Nat.le_refl _
  | k + 1 => by
    have := tkL_len B F k
    unfold tkL
    rw [List.length_append]
    split <;> simp <;> omega
/-- a row while its last one walks down to its place -/
structure Ins (R : List Int) (x : Int) (A B : List Int) : Prop where
  perm : (A ++ x :: B).Perm (R ++ [x])
  pw : (A ++ B).Pairwise fun x y => x ≤ y
  gt : ∀ b ∈ B, x < b
theorem ins_start {R : List Int} {x : Int} (h : R.Pairwise fun x y => x ≤ y) : Ins R x R [] := ⟨List.Perm.refl _, by simpa using h, fun b hb => by simp at hb⟩
theorem ins_step {R A B : List Int} {x y : Int} (h : Ins R x (A ++ [y]) B) (hxy : x < y) : Ins R x A (y :: B) := by
  refine ⟨?_, by simpa using h.pw, fun b hb => ?_⟩
  · refine List.Perm.trans ?_ h.perm
    simp only [List.append_assoc, List.singleton_append]
    exact (List.Perm.swap y x B).append_left A
  · rcases List.mem_cons.1 hb with rfl | hb
    · exact hxy
    · exact h.gt b hb
theorem ins_end {R A B : List Int} {x : Int} (h : Ins R x A B) (hx : ∀ y, A.getLast? = some y → y ≤ x) : A ++ x :: B = srt (R ++ [x]) := by
  refine srt_eq ?_ h.perm
  have hp := List.pairwise_append.1 h.pw
  refine List.pairwise_append.2 ⟨hp.1, List.pairwise_cons.2 ⟨fun b hb => by have := h.gt b hb; omega, hp.2.1⟩, fun a ha b hb => ?_⟩
  rcases List.mem_cons.1 hb with rfl | hb
  · cases hA : A.getLast? with
    | none => rw [List.getLast?_eq_none_iff] at hA; subst hA; simp at ha
    | some y =>
      have hy := hx y hA
      obtain ⟨A', rfl⟩ : ∃ A', A = A' ++ [y] := List.getLast?_eq_some_iff.1 hA
      rcases List.mem_append.1 ha with h1 | h1
      · have h2 := (List.pairwise_append.1 hp.1).2.2 a h1 y (by simp)
        omega
      · simp at h1; omega
  · exact hp.2.2 a ha b hb
theorem ins_end2 {l A B : List Int} {x : Int} (h : Ins (srt l) x A B) (hx : ∀ y, A.getLast? = some y → y ≤ x) : A ++ x :: B = srt (l ++ [x]) :=
  (ins_end h hx).trans (srt_eq (srt_pw _) ((srt_perm _).trans ((srt_perm l).append_right _)))
theorem InO.put {M : Nat} {W W' : World} {v : Value} {g : Nat} {L : List Int} {k : Nat} {y : Int} (h : InO M W v (some g) L) (hk : k < L.length) (hy : -9223372036854775808 ≤ y ∧ y ≤ 9223372036854775807) (hW : W' = W.setCell ⟨g, k, none⟩ (.int .i64 y)) : InO M W' v (some g) (L.set k y) := by
  have h1 := row_setCell h.1 k (.int .i64 y)
  rw [← hW] at h1
  have e : (inL L).set k (.int .i64 y) = inL (L.set k y) := by
    unfold inL
    rw [List.map_set]
  rw [e] at h1
  have hok := h.2.1
  refine ⟨by rw [List.length_set]; exact h1, fun z hz => ?_, h.2.2⟩
  rcases List.mem_or_eq_of_mem_set hz with h | h
  · exact hok z h
  · subst h; exact hy
end Go.Proofs.Ythmjlomlceljkaa
