/-
  Both queues: what a Pop leaves.
-/
import Derived.Test.YtninhjeiialbjaaPlb
namespace Go.Proofs.Ytninhjeiialbjaa
open Go.RowKit
set_option linter.unusedSimpArgs false
set_option linter.unusedVariables false

/-- the document's queue behind the program's own step -/
theorem JQ.mid {W W1 : World} {D R o room f n : Nat} {dr : Int} {D2 : Nat} {ob : Option Nat} {v : Value} {E F : Nat → PkE} (h : JQ W D R o room f n dr D2 ob v E F) (hF : Fr [D, R] W W1) : RQ W1 D2 room n dr ob v F :=
  h.r.fr hF (by simp [h.ne.1, h.ne.2]) (fun g hg => by have := h.neo g hg; simp [this.1, this.2]) (fun j hj hp => by have := h.fb j hj hp; simp [this.1, this.2])

theorem JQ.pop {W W1 W1' W2 : World} {D R o room f f' n : Nat} {dr : Int} {D2 : Nat} {ob : Option Nat} {v v' : Value} {E F : Nat → PkE} (h : JQ W D R o room f n dr D2 ob v E F) (hn : 0 < n)
    (hq1 : QIn W1 D R o room f' (n - 1) (((sumB E n : Nat) : Int) - (8 + ((E 0).n : Int))) dr (fun j => E (j + 1))) (hB : Below W1.heap.size W1 W1') (hr2 : RQ W2 D2 room (n - 1) dr ob v' (fun j => F (j + 1))) (hF2 : Fr [D2] W1' W2) :
    JQ W2 D R o room f' (n - 1) dr D2 ob v' (fun j => E (j + 1)) (fun j => F (j + 1)) := by
  obtain ⟨m, rfl⟩ : ∃ m, n = m + 1 := ⟨n - 1, by omega⟩
  have hs : ((sumB E (m + 1) : Nat) : Int) - (8 + ((E 0).n : Int)) = ((sumB (fun j => E (j + 1)) m : Nat) : Int) := by
    rw [sumB_cons]
    omega
  rw [hs] at hq1
  refine ⟨(hq1.below hB).fr hF2 (by simp [h.ne.1.symm]) (by simp [h.ne.2.symm]) (fun j hj hp => by have := h.eb (j + 1) (by omega) hp; simp [this.1]), hr2, fun j hj => h.sim (j + 1) (by omega), h.ne, h.neo, fun j hj => h.eb (j + 1) (by omega), fun j hj => h.fb (j + 1) (by omega)⟩

/-- a refused packet is counted on both sides -/
theorem JQ.full {W W1 W1' W2 : World} {D R o room f n : Nat} {dr : Int} {D2 : Nat} {ob : Option Nat} {v : Value} {E F : Nat → PkE} (h : JQ W D R o room f n dr D2 ob v E F)
    (hq1 : QIn W1 D R o room f n (sumB E n : Nat) (dr + 1) E) (hB : Below W1.heap.size W1 W1') (hr2 : RQ W2 D2 room n (dr + 1) ob v F) (hF2 : Fr [D2] W1' W2) : JQ W2 D R o room f n (dr + 1) D2 ob v E F :=
  ⟨(hq1.below hB).fr hF2 (by simp [h.ne.1.symm]) (by simp [h.ne.2.symm]) (fun j hj hp => by have := h.eb j hj hp; simp [this.1]), hr2, h.sim, h.ne, h.neo, h.eb, h.fb⟩

/-- one more on both sides -/
theorem JQ.push {W W1 W1' W2 : World} {D R o room f n : Nat} {dr : Int} {D2 : Nat} {ob : Option Nat} {v v' : Value} {ob' : Nat} {E F : Nat → PkE} {y z : PkE} (h : JQ W D R o room f n dr D2 ob v E F)
    (hq1 : QIn W1 D R o room f (n + 1) (((sumB E n : Nat) : Int) + (8 + (y.n : Int))) dr (putE E n y)) (hF1 : Fr [D, R] W W1) (hB : Below W1.heap.size W1 W1') (hr2 : RQ W2 D2 room (n + 1) dr (some ob') v' (putE F n z)) (hF2 : Fr (D2 :: ob.toList) W1' W2) (ho : ob = some ob' ∨ W1'.heap.size ≤ ob') (hs : y.sim z)
    (hy : 0 < y.n → W.heap.size ≤ y.b) (hz : 0 < z.n → W1'.heap.size ≤ z.b) : JQ W2 D R o room f (n + 1) dr D2 (some ob') v' (putE E n y) (putE F n z) := by
  have hsum : ((sumB E n : Nat) : Int) + (8 + (y.n : Int)) = ((sumB (putE E n y) (n + 1) : Nat) : Int) := by
    have e1 : sumB (putE E n y) n = sumB E n := sumB_congr fun k hk => by unfold putE; rw [if_neg (by omega)]
    have e2 : putE E n y n = y := by unfold putE; rw [if_pos rfl]
    have e3 : sumB (putE E n y) (n + 1) = sumB (putE E n y) n + (8 + (putE E n y n).n) := rfl
    rw [e3, e1, e2]
    omega
  rw [hsum] at hq1
  have hD := h.q.own.lt
  have hR : R < W.heap.size := by obtain ⟨_, h1, _⟩ := h.q.ring; exact h1.lt
  have hD2 := h.r.own.lt
  have hol : ∀ g, ob = some g → g < W.heap.size := fun g hg => by have hr := h.r.row; subst hg; exact hr.lt
  have s1 := hF1.size
  have s2 := hB.size
  have hat : ∀ (G : Nat → PkE) (u : PkE) (j : Nat), j < n + 1 → (putE G n u j = u ∧ j = n) ∨ (putE G n u j = G j ∧ j < n) := fun G u j hj => by
    unfold putE
    split
    · next e => exact .inl ⟨rfl, e⟩
    · exact .inr ⟨rfl, by omega⟩
  have hyb : 0 < y.n → y.b < W1.heap.size := fun hp => by
    have h1 := hq1.ld n (by omega)
    rcases hat E y n (by omega) with ⟨e, _⟩ | ⟨_, hh⟩
    · rw [e] at h1; exact (h1.by_.at_ hp).2
    · omega
  have hEb : ∀ j, j < n → 0 < (E j).n → (E j).b < W.heap.size := fun j hj hp => ((h.q.ld j hj).by_.at_ hp).2
  have hlist : ∀ b, b ≠ D2 → (∀ g, ob = some g → b ≠ g) → b ∉ D2 :: ob.toList := fun b h1 h2 hm => by
    rcases List.mem_cons.1 hm with h3 | h3
    · exact h1 h3
    · cases ob with
      | none => simp at h3
      | some g => simp at h3; exact h2 g rfl h3
  refine ⟨(hq1.below hB).fr hF2 (hlist D h.ne.1.symm (fun g hg => (h.neo g hg).1.symm)) (hlist R h.ne.2.symm (fun g hg => (h.neo g hg).2.symm)) (fun j hj hp => ?_), hr2, fun j hj => ?_, h.ne, fun g hg => ?_, fun j hj hp => ?_, fun j hj hp => ?_⟩
  · rcases hat E y j hj with ⟨e, _⟩ | ⟨e, hj'⟩
    · rw [e] at hp ⊢
      have := hy hp
      exact hlist _ (by omega) (fun g hg => by have := hol g hg; omega)
    · rw [e] at hp ⊢
      exact hlist _ (h.eb j hj' hp).1 (h.eb j hj' hp).2
  · rcases hat E y j hj with ⟨e, hjn⟩ | ⟨e, hj'⟩
    · rcases hat F z j hj with ⟨e2, _⟩ | ⟨_, hh⟩
      · rw [e, e2]; exact hs
      · omega
    · rcases hat F z j hj with ⟨_, hh⟩ | ⟨e2, _⟩
      · omega
      · rw [e, e2]; exact h.sim j hj'
  · obtain rfl := Option.some.inj hg
    rcases ho with h1 | h1
    · exact h.neo _ h1
    · exact ⟨by omega, by omega⟩
  · rcases hat E y j hj with ⟨e, _⟩ | ⟨e, hj'⟩
    · rw [e] at hp ⊢
      have h1 := hy hp
      have h2 := hyb hp
      refine ⟨by omega, fun g hg => ?_⟩
      obtain rfl := Option.some.inj hg
      rcases ho with h3 | h3
      · have := hol _ h3; omega
      · omega
    · rw [e] at hp ⊢
      refine ⟨(h.eb j hj' hp).1, fun g hg => ?_⟩
      obtain rfl := Option.some.inj hg
      rcases ho with h3 | h3
      · exact (h.eb j hj' hp).2 _ h3
      · have := hEb j hj' hp; omega
  · rcases hat F z j hj with ⟨e, _⟩ | ⟨e, hj'⟩
    · rw [e] at hp ⊢
      have h1 := hz hp
      exact ⟨by omega, by omega⟩
    · rw [e] at hp ⊢
      exact h.fb j hj' hp
end Go.Proofs.Ytninhjeiialbjaa
