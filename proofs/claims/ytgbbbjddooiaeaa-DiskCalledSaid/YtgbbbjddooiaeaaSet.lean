/-
  A disk of which one file has turned; find, lacks, of whatever name.
-/
import Derived.Test.YtgbbbjddooiaeaaBurn
namespace Go.Proofs.Ytgbbbjddooiaeaa
open Go.RowKit

theorem count_set (a : Nat) (q : Nat × Option Nat) : ∀ (ps : List (Nat × Option Nat)) (k : Nat) (hk : k < ps.length), ((ps.set k q).flatMap foot1).count a + (foot1 ps[k]).count a = (ps.flatMap foot1).count a + (foot1 q).count a
  | [], k, hk => by simp at hk
  | p :: ps, 0, _ => by simp only [List.set_cons_zero, List.flatMap_cons, List.count_append, List.getElem_cons_zero]; omega
  | p :: ps, k + 1, hk => by
    have := count_set a q ps k (by simpa using hk)
    simp only [List.set_cons_succ, List.flatMap_cons, List.count_append, List.getElem_cons_succ]
    omega

theorem mem_set {x : Nat} {q : Nat × Option Nat} {ps : List (Nat × Option Nat)} {k : Nat} (h : x ∈ (ps.set k q).flatMap foot1) : x ∈ ps.flatMap foot1 ∨ x ∈ foot1 q := by
  obtain ⟨p, hp, hx⟩ := List.mem_flatMap.1 h
  rcases List.mem_or_eq_of_mem_set hp with hp | rfl
  · exact .inl (List.mem_flatMap.2 ⟨p, hp, hx⟩)
  · exact .inr hx

/-- One file has turned, in its own blocks and in new ones. -/
theorem DRep.setFile {w w2 : World} {D : Nat} {p : Place} {d : PD} {fv pv : Value} (h : DRep w D p d fv pv) (k : Nat) (hk : k < p.files.length) (hkd : k < d.files.length) (g' : Option Nat) (f' : PF)
    (hF : FRep w2 (p.files[k].1, g') f') (hFr : Fr (foot1 p.files[k]) w w2) (hg : ∀ x, g' = some x → p.files[k].2 = some x ∨ w.heap.size ≤ x) (hn : (f'.name = d.files[k].name) ∨ ∀ j (hj : j < d.files.length), d.files[j].name ≠ f'.name) :
    DRep w2 D { p with files := p.files.set k (p.files[k].1, g') } { d with files := d.files.set k f' } fv pv ∧ Fr (p.foot D) w w2 ∧ ∀ x ∈ ({ p with files := p.files.set k (p.files[k].1, g') } : Place).foot D, x ∈ p.foot D ∨ w.heap.size ≤ x := by
  obtain ⟨n1, n2, n3⟩ := h.row_ne
  obtain ⟨l1, l2, l3, l4⟩ := h.lts
  have hlen := h.files.length
  have hnd := h.flat_nodup
  have hsub : ∀ x ∈ foot1 p.files[k], x ∈ p.files.flatMap foot1 := fun x hx => List.mem_flatMap.2 ⟨_, List.getElem_mem _, hx⟩
  have hq : ∀ x ∈ foot1 (p.files[k].1, g'), x ∈ p.files.flatMap foot1 ∨ w.heap.size ≤ x := by
    intro x hx
    simp only [foot1, List.mem_cons, Option.mem_toList] at hx
    rcases hx with rfl | hx
    · exact .inl (hsub _ (by simp [foot1]))
    · rcases hg x hx with e | e
      · exact .inl (hsub _ (by simp [foot1, e]))
      · exact .inr e
  refine ⟨⟨?_, ?_, ?_, ?_, ?_, by simpa using h.few, ?_, h.passes, h.keeps, h.short⟩, hFr.mono fun x hx => .inl ?_, fun x hx => ?_⟩
  · rw [hFr.block D l1 (fun hm => (n2 D (hsub D hm)).1 rfl)]; exact h.head
  · have := h.row.congr (w' := w2) fun g hg => hFr.block g (l2 g (by simp [hg])) (fun hm => (n2 g (hsub g hm)).2 hg)
    have e : ptrs (p.files.set k (p.files[k].1, g')) = ptrs p.files := by
      apply List.ext_getElem?
      intro j
      simp only [ptrs, List.getElem?_map, List.getElem?_set]
      by_cases hj : k = j
      · subst hj; simp [hk]
      · simp [hj]
    simp only [List.length_set, e]
    exact this
  · refine All2.of_get (by simpa using hlen) fun j h1 h2 => ?_
    simp only [List.length_set] at h1 h2
    by_cases hj : k = j
    · subst hj
      simpa using hF
    · simp only [List.getElem_set_ne hj]
      exact (h.files.get j h1 h2).congr fun x hx => hFr.block x (h.lt x (by simp only [Place.foot, List.mem_cons, List.mem_append]; exact .inr (.inr (.inl (List.mem_flatMap.2 ⟨_, List.getElem_mem _, hx⟩))))) (flat_disj p.files hnd j k h1 hk (fun e => hj e.symm) x hx)
  · exact h.plan.congr fun g hg => hFr.block g (l4 g (by simp [hg])) (fun hm => (n3 g (by simp [hg])).2.2 (hsub g hm))
  · rw [List.nodup_iff_count]
    intro a
    have hn := (List.nodup_iff_count.1 h.apart) a
    have hc := count_set a (p.files[k].1, g') p.files k hk
    simp only [Place.foot, List.count_cons, List.count_append] at hn ⊢
    by_cases ha : a < w.heap.size
    · have : (foot1 (p.files[k].1, g')).count a ≤ (foot1 p.files[k]).count a := by
        simp only [foot1, List.count_cons]
        cases g' with
        | none => simp
        | some x =>
          rcases hg x rfl with e | e
          · rw [e]; exact Nat.le_refl _
          · have hxa : (x == a) = false := by simp; omega
            simp [List.count_cons, hxa]
      omega
    · have c1 := count_zero (a := a) l2 ha
      have c2 := count_zero (a := a) l3 ha
      have c3 := count_zero (a := a) l4 ha
      have c4 : (D == a) = false := by simp; omega
      have c5 : (p.files[k].1 == a) = false := by
        have := l3 p.files[k].1 (hsub _ (by simp [foot1]))
        simp; omega
      have c6 : (foot1 (p.files[k].1, g')).count a ≤ 1 := by
        simp only [foot1, List.count_cons, c5]
        cases g' with
        | none => simp
        | some x => simp [List.count_cons]; split <;> omega
      rw [c1, c3, c4]
      simp only [Bool.false_eq_true, if_false]
      omega
  · rw [List.map_set]
    rcases hn with hn | hn
    · rw [hn]
      have : (d.files.map (·.name)).set k d.files[k].name = d.files.map (·.name) := by
        apply List.ext_getElem?
        intro j
        simp only [List.getElem?_set, List.getElem?_map]
        by_cases hj : k = j
        · subst hj; simp [hkd]
        · simp [hj]
      rw [this]; exact h.names
    · rw [List.nodup_iff_pairwise_ne, List.pairwise_iff_getElem]
      intro i j hi hj hij
      simp only [List.length_set, List.length_map] at hi hj
      have hp := List.pairwise_iff_getElem.1 (List.nodup_iff_pairwise_ne.1 h.names) i j (by simpa using hi) (by simpa using hj) hij
      simp only [List.getElem_map] at hp
      by_cases h1 : k = i
      · subst h1
        rw [List.getElem_set_self, List.getElem_set_ne (by omega)]
        simp only [List.getElem_map]
        exact fun e => hn j hj e.symm
      · by_cases h2 : k = j
        · subst h2
          rw [List.getElem_set_self, List.getElem_set_ne (by omega)]
          simp only [List.getElem_map]
          exact fun e => hn i hi e
        · rw [List.getElem_set_ne h1, List.getElem_set_ne h2]
          simpa using hp
  · simp only [Place.foot, List.mem_cons, List.mem_append]; exact .inr (.inr (.inl (hsub x hx)))
  · simp only [Place.foot, List.mem_cons, List.mem_append] at hx ⊢
    rcases hx with hx | hx | hx | hx
    · exact .inl (.inl hx)
    · exact .inl (.inr (.inl hx))
    · rcases mem_set hx with hx | hx
      · exact .inl (.inr (.inr (.inl hx)))
      · rcases hq x hx with e | e
        · exact .inl (.inr (.inr (.inl e)))
        · exact .inr e
    · exact .inl (.inr (.inr (.inr hx)))

end Go.Proofs.Ytgbbbjddooiaeaa
