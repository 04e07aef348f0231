/-
  A map whose keys are told once each, with its stamps: a store, a deletion, clearing, a copy, a range over it.
-/
import Derived.Test.YthmjlomlceljkaaGp5
import Derived.Maps.Range
namespace Go.Proofs.Ythmjlomlceljkaa
open Go.RowKit Go.ChangeMaps
set_option linter.unusedSimpArgs false
set_option linter.unusedVariables false

theorem findL_key {κ : Type} [DecidableEq κ] {x : κ} : ∀ (L : List (κ × Value × Nat)) (i : Nat), findL x L i = none → x ∉ L.map (·.1)
  | [], _, _ => by simp
  | e :: l, i, h => by
    simp only [findL] at h
    by_cases hx : x = e.1
    · rw [if_pos hx] at h; cases h
    · rw [if_neg hx] at h
      have := findL_key l (i + 1) h
      simp only [List.map_cons, List.mem_cons, not_or]
      exact ⟨hx, this⟩
theorem findL_out {κ : Type} [DecidableEq κ] {x : κ} : ∀ (L : List (κ × Value × Nat)) (i : Nat), x ∉ L.map (·.1) → findL x L i = none
  | [], _, _ => rfl
  | e :: l, i, h => by
    simp only [List.map_cons, List.mem_cons, not_or] at h
    simp only [findL, if_neg h.1]
    exact findL_out l (i + 1) h.2
theorem findL_mem {κ : Type} [DecidableEq κ] {x : κ} {v : Value} {r : Nat} : ∀ (L : List (κ × Value × Nat)) (i : Nat), (L.map (·.1)).Nodup → (x, v, r) ∈ L → (findL x L i).map (·.2) = some v
  | [], _, _, h => by cases h
  | e :: l, i, hn, h => by
    simp only [List.map_cons, List.nodup_cons] at hn
    simp only [findL]
    rcases List.mem_cons.1 h with h | h
    · subst h; simp
    · have : x ≠ e.1 := fun e' => hn.1 (e' ▸ List.mem_map.2 ⟨_, h, rfl⟩)
      rw [if_neg this]
      exact findL_mem l (i + 1) hn.2 h
theorem findL_erase (x y : Int) : ∀ (L : List (Int × Value × Nat)) (i j : Nat) (u : Value), findL x L i = some (j, u) → (L.map (·.1)).Nodup → ((findL y (L.eraseIdx (j - i)) i).map (·.2)) = if y = x then none else (findL y L i).map (·.2)
  | [], i, j, u, h, _ => by simp [findL] at h
  | e :: l, i, j, u, h, hn => by
    have hg := findL_ge _ _ h
    have hsh : ∀ (L : List (Int × Value × Nat)) (i j : Nat), (findL y L i).map (·.2) = (findL y L j).map (·.2) := by
      intro L
      induction L with
      | nil => intro i j; rfl
      | cons e l ih =>
        intro i j
        simp only [findL]
        by_cases hx : y = e.1
        · simp [hx]
        · simp only [if_neg hx]; exact ih _ _
    simp only [findL] at h
    simp only [List.map_cons, List.nodup_cons] at hn
    by_cases hx : x = e.1
    · rw [if_pos hx] at h
      obtain ⟨rfl, rfl⟩ : i = j ∧ e.2.1 = u := by simpa using h
      rw [Nat.sub_self, List.eraseIdx_cons_zero]
      simp only [findL]
      by_cases hy : y = x
      · rw [if_pos hy, findL_out l i (by rw [hy, hx]; exact hn.1)]; rfl
      · rw [if_neg hy, if_neg (by rw [← hx]; exact hy)]
        exact hsh l _ _
    · rw [if_neg hx] at h
      have hg2 := findL_ge _ _ h
      have ih := findL_erase x y l (i + 1) j u h hn.2
      obtain ⟨m, hm⟩ : ∃ m, j - i = m + 1 := ⟨j - i - 1, by omega⟩
      rw [show j - (i + 1) = m by omega] at ih
      rw [hm, List.eraseIdx_cons_succ]
      simp only [findL]
      by_cases hy : y = e.1
      · have : y ≠ x := fun e' => hx (e' ▸ hy)
        rw [if_pos hy, if_neg this, if_pos hy]
      · simp only [if_neg hy]
        exact ih
def MapS (w : World) (b : Nat) (M : Int → Option Value) : Prop :=
  ∃ (L : List (Int × Value × Nat)) (clock : Nat), w.heap[b]? = some (.map (ents encI L).toArray clock) ∧ (L.map (·.1)).Nodup ∧ (∀ x, (findL x L 0).map (·.2) = M x) ∧ (∀ e ∈ L, e.2.2 < clock) ∧ (L.map (·.2.2)).Nodup
theorem MapS.o {w : World} {b : Nat} {M : Int → Option Value} (h : MapS w b M) : MapO w b (fun x : Int => Value.int .i64 x) M := by
  obtain ⟨L, c, h1, _, h2, _⟩ := h
  exact ⟨L, c, h1, h2⟩
theorem MapS.congr {w w' : World} {b : Nat} {M : Int → Option Value} (h : MapS w b M) (hb : w'.heap[b]? = w.heap[b]?) : MapS w' b M := by
  obtain ⟨L, c, h1, h2⟩ := h
  exact ⟨L, c, hb.trans h1, h2⟩
theorem MapS.fun_eq {w : World} {b : Nat} {M M' : Int → Option Value} (h : MapS w b M) (he : ∀ x, M x = M' x) : MapS w b M' := by
  obtain ⟨L, c, h1, h2, h3, h4⟩ := h
  exact ⟨L, c, h1, h2, fun x => (h3 x).trans (he x), h4⟩
theorem MapS.lt {w : World} {b : Nat} {M : Int → Option Value} (h : MapS w b M) : b < w.heap.size := h.o.lt
theorem MapS.new (w : World) : MapS (w.alloc (.map #[] 0)) w.heap.size fun _ => none := ⟨[], 0, heap_alloc_new w _, by simp, fun _ => rfl, by simp, by simp⟩
theorem fr_block {w : World} {b : Nat} {es : Array MapEntry} {c : Nat} (h1 : w.heap[b]? = some (.map es c)) (o : Obj) : Fr [b] w (setBlock w b o) := ⟨rfl, rfl, rfl, by simp [setBlock], fun i _ hi => heap_setBlock_other h1 _ (by simpa using hi)⟩
theorem MapS.put {P : Program} {k : TypeId} {d : TypeDesc} {w : World} {b : Nat} {M : Int → Option Value} (h : MapS w b M) (K : KeyK P k d encI) {t e : TypeId} (ht : P.underlying t = some (.map k e)) (x : Int) (v : Value) :
    ∃ w', (Instr.mapUpdate t (.map (some b)) (encI x) v).run P w = .ok () w' ∧ MapS w' b (fun y => if y = x then some v else M y) ∧ Fr [b] w w' ∧ w'.heap.size = w.heap.size := by
  obtain ⟨L, c, h1, hnd, h2, h3, h4⟩ := h
  cases hf : findL x L 0 with
  | none =>
    refine ⟨setBlock w b (.map (ents encI (L ++ [(x, v, c)])).toArray (c + 1)), ?_, ⟨_, _, heap_setBlock_same h1 _, ?_, fun y => ?_, ?_, ?_⟩, fr_block h1 _, by simp [setBlock]⟩
    · have e0 : ents encI (L ++ [(x, v, c)]) = ents encI L ++ [⟨encI x, v, c⟩] := by simp [ents]
      rw [e0]
      simp only [Instr.mapUpdate, Sem.run_bind, run_underlying ht, Result.andThen_ok, MapKept.run_getObj_map h1, K.check, findKey_run K x w L, hf]
      rw [MapKept.run_setObj_map _ h1]
      simp [setBlock]
    · have hk := findL_key L 0 hf
      rw [List.map_append, List.nodup_append]
      refine ⟨hnd, by simp, fun a ha b' hb' => ?_⟩
      simp at hb'
      subst hb'
      exact fun e => hk (e ▸ ha)
    · rw [findL_push x y v c L 0 hf, h2 y]
    · intro z hz
      rcases List.mem_append.1 hz with hz | hz
      · have := h3 z hz; omega
      · simp at hz; subst hz; simp
    · rw [List.map_append, List.nodup_append]
      refine ⟨h4, by simp, fun a ha b' hb' => ?_⟩
      simp at hb'
      subst hb'
      obtain ⟨z, hz, rfl⟩ := List.mem_map.1 ha
      have := h3 z hz
      omega
  | some r =>
    obtain ⟨j, u⟩ := r
    obtain ⟨_, rr, hj⟩ := findL_ge _ _ hf
    rw [Nat.sub_zero] at hj
    have hj' : (ents encI L)[j]? = some ⟨encI x, u, rr⟩ := by simp [ents, hj]
    have hm1 : (L.modify j fun e => (x, v, e.2.2)).map (·.1) = L.map (·.1) := by
      apply List.ext_getElem?
      intro i
      simp only [List.getElem?_map, List.getElem?_modify]
      by_cases hij : j = i
      · subst hij; simp [hj]
      · simp [hij]
    have hm2 : (L.modify j fun e => (x, v, e.2.2)).map (·.2.2) = L.map (·.2.2) := by
      apply List.ext_getElem?
      intro i
      simp only [List.getElem?_map, List.getElem?_modify]
      by_cases hij : j = i
      · subst hij; simp [hj]
      · simp [hij]
    refine ⟨setBlock w b (.map (ents encI (L.modify j fun e => (x, v, e.2.2))).toArray c), ?_, ⟨_, _, heap_setBlock_same h1 _, by rw [hm1]; exact hnd, fun y => ?_, ?_, by rw [hm2]; exact h4⟩, fr_block h1 _, by simp [setBlock]⟩
    · have e1 : (ents encI L).toArray.modify j (fun e => ({ e with key := encI x, val := v } : MapEntry)) = (ents encI (L.modify j fun e => (x, v, e.2.2))).toArray := by
        rw [← Array.toList_inj]
        simp only [Array.toList_modify, ents]
        apply List.ext_getElem?
        intro i
        simp only [List.getElem?_modify, List.getElem?_map, Option.map_map]
        by_cases hij : j = i
        · simp [hij, Function.comp_def]
        · simp [hij]
      have e2 : ((ents encI L).toArray[j]?.map (·.key)).getD (encI x) = encI x := by
        rw [List.getElem?_toArray, hj']
        rfl
      have e3 : (Instr.keyThatStays (((ents encI L).toArray[j]?.map (·.key)).getD (encI x)) (encI x)).run P w = .ok (encI x) w := by
        rw [e2]
        unfold Instr.keyThatStays
        rw [if_pos (K.bits x)]
        rfl
      simp only [Instr.mapUpdate, Sem.run_bind, run_underlying ht, Result.andThen_ok, MapKept.run_getObj_map h1, K.check, findKey_run K x w L, hf, e3]
      rw [MapKept.run_setObj_map _ h1, ← e1]
      rfl
    · have := findL_set x y v L 0 j u hf
      rw [Nat.sub_zero] at this
      rw [this, h2 y]
    · intro z hz
      have hz2 : z.2.2 ∈ (L.modify j fun e => (x, v, e.2.2)).map (·.2.2) := List.mem_map.2 ⟨z, hz, rfl⟩
      rw [hm2] at hz2
      obtain ⟨q, hq, e⟩ := List.mem_map.1 hz2
      rw [← e]
      exact h3 q hq
theorem MapS.del {P : Program} {k : TypeId} {d : TypeDesc} {w : World} {b : Nat} {M : Int → Option Value} (h : MapS w b M) (K : KeyK P k d encI) {t e : TypeId} (ht : P.underlying t = some (.map k e)) (x : Int) (t2 ty : TypeId) :
    ∃ w', (Builtin.delete_ #[t, t2] ty #[.map (some b), encI x]).run P w = .ok (.tuple #[]) w' ∧ MapS w' b (fun y => if y = x then none else M y) ∧ Fr [b] w w' ∧ w'.heap.size = w.heap.size := by
  obtain ⟨L, c, h1, hnd, h2, h3, h4⟩ := h
  cases hf : findL x L 0 with
  | none =>
    refine ⟨setBlock w b (.map (ents encI L).toArray c), ?_, ⟨_, _, heap_setBlock_same h1 _, hnd, fun y => ?_, h3, h4⟩, fr_block h1 _, by simp [setBlock]⟩
    · simp [Builtin.delete_, run_underlying ht, MapKept.run_getObj_map h1, K.check, findKey_run K x w L, hf, MapKept.run_setObj_map _ h1, setBlock]
    · rw [h2 y]
      show M y = if y = x then none else M y
      by_cases hy : y = x
      · rw [if_pos hy, ← h2 y, hy, hf]; rfl
      · rw [if_neg hy]
  | some r =>
    obtain ⟨j, u⟩ := r
    have e1 : (ents encI L).toArray.eraseIdxIfInBounds j = (ents encI (L.eraseIdx j)).toArray := by
      rw [← Array.toList_inj]
      simp only [Array.toList_eraseIdxIfInBounds, ents]
      apply List.ext_getElem?
      intro i
      simp only [List.getElem?_eraseIdx, List.getElem?_map]
      split <;> rfl
    have hme : ∀ {α : Type} (f : Int × Value × Nat → α), (L.eraseIdx j).map f = (L.map f).eraseIdx j := fun f => by
      apply List.ext_getElem?
      intro i
      simp only [List.getElem?_map, List.getElem?_eraseIdx]
      split <;> rfl
    refine ⟨setBlock w b (.map (ents encI (L.eraseIdx j)).toArray c), ?_, ⟨_, _, heap_setBlock_same h1 _, ?_, fun y => ?_, ?_, ?_⟩, fr_block h1 _, by simp [setBlock]⟩
    · simp [Builtin.delete_, run_underlying ht, MapKept.run_getObj_map h1, K.check, findKey_run K x w L, hf, MapKept.run_setObj_map _ h1, setBlock, ← e1]
    · rw [hme]; exact hnd.sublist (List.eraseIdx_sublist _ _)
    · have := findL_erase x y L 0 j u hf hnd
      rw [Nat.sub_zero] at this
      rw [this, h2 y]
    · exact fun z hz => h3 z (List.mem_of_mem_eraseIdx hz)
    · rw [hme]; exact h4.sublist (List.eraseIdx_sublist _ _)
theorem MapS.clear {P : Program} {w : World} {b : Nat} {M : Int → Option Value} (h : MapS w b M) {t k e : TypeId} (ht : P.underlying t = some (.map k e)) (ty : TypeId) :
    ∃ w', (Builtin.clear_ #[t] ty #[.map (some b)]).run P w = .ok (.tuple #[]) w' ∧ MapS w' b (fun _ => none) ∧ Fr [b] w w' ∧ w'.heap.size = w.heap.size := by
  obtain ⟨L, c, h1, hnd, h2, h3, h4⟩ := h
  refine ⟨setBlock w b (.map #[] c), ?_, ⟨[], c, heap_setBlock_same h1 _, by simp, fun _ => rfl, by simp, by simp⟩, fr_block h1 _, by simp [setBlock]⟩
  simp [Builtin.clear_, run_underlying ht, MapKept.run_getObj_map h1, MapKept.run_setObj_map _ h1, setBlock]

/-- a range over a map under way -/
structure RngS (w : World) (b r : Nat) (L : List (Int × Value × Nat)) (seen : Array Nat) : Prop where
  it : ∃ clock c0, w.heap[b]? = some (.map (ents encI L).toArray clock) ∧ w.heap[r]? = some (.mapIter (some b) clock seen c0) ∧ clock ≤ c0 ∧ ∀ e ∈ L, e.2.2 < clock
  nd : (L.map (·.2.2)).Nodup
def lft (L : List (Int × Value × Nat)) (seen : Array Nat) : List (Int × Value × Nat) := L.filter fun e => !seen.contains e.2.2
theorem lft_of (L : List (Int × Value × Nat)) (seen : Array Nat) : (leftOf (ents encI L).toArray seen).toList = ents encI (lft L seen) := by
  simp only [leftOf, lft, ents, Array.toList_filter, List.filter_map]
  rfl
theorem RngS.left_eq {w : World} {b r : Nat} {L : List (Int × Value × Nat)} {seen : Array Nat} (h : RngS w b r L seen) : w.rangeLeft b r = (lft L seen).length := by
  obtain ⟨clock, c0, hb, hr, _⟩ := h.it
  simp only [World.rangeLeft, hb, hr]
  rw [← Array.length_toList, lft_of]
  simp [ents]
theorem RngS.congr {w w' : World} {b r : Nat} {L : List (Int × Value × Nat)} {seen : Array Nat} (h : RngS w b r L seen) (hb : w'.heap[b]? = w.heap[b]?) (hr : w'.heap[r]? = w.heap[r]?) : RngS w' b r L seen := by
  obtain ⟨⟨clock, c0, h1, h2, h3⟩, h4⟩ := h
  exact ⟨⟨clock, c0, hb.trans h1, hr.trans h2, h3⟩, h4⟩
theorem rng_start {P : Program} {w : World} {b : Nat} {M : Int → Option Value} (h : MapS w b M) {t k e : TypeId} (ht : P.underlying t = some (.map k e)) :
    ∃ (w' : World) (L : List (Int × Value × Nat)), (Instr.range t (.map (some b))).run P w = .ok (.pointer (some ⟨w.heap.size, 0, none⟩)) w' ∧ RngS w' b w.heap.size L #[] ∧ Below w.heap.size w w' ∧ w'.heap.size = w.heap.size + 1 ∧ (L.map (·.1)).Nodup ∧ (∀ x, (findL x L 0).map (·.2) = M x) ∧ lft L #[] = L := by
  have hlt := h.lt
  obtain ⟨L, c, h1, hnd, h2, h3, h4⟩ := h
  refine ⟨_, L, run_range_map w t k e b _ c ht h1, ⟨⟨c, c, ?_, heap_alloc_new w _, Nat.le_refl _, h3⟩, h4⟩, (Below.refl _ _).alloc (Nat.le_refl _) _, by simp, hnd, h2, by simp [lft]⟩
  rw [Below.heap_alloc _ _ _ hlt]
  exact h1
theorem rng_next {P : Program} {w : World} {b r : Nat} {L : List (Int × Value × Nat)} {seen : Array Nat} (h : RngS w b r L seen) (ty : TypeId) :
    (lft L seen = [] ∧ (Instr.next (.pointer (some ⟨r, 0, none⟩)) false ty).run P w = .ok (.tuple #[.bool false]) w) ∨
    ∃ (x : Int) (v : Value) (s : Nat) (w' : World), (x, v, s) ∈ lft L seen ∧ (Instr.next (.pointer (some ⟨r, 0, none⟩)) false ty).run P w = .ok (.tuple #[.bool true, encI x, v]) w' ∧ RngS w' b r L (seen.push s) ∧ Fr [r] w w' ∧ w'.heap.size = w.heap.size ∧ (Instr.entry (.pointer (some ⟨r, 0, none⟩))).run P w' = .ok (.tuple #[encI x, v]) w' := by
  obtain ⟨⟨clock, c0, hb, hr, hc, hs⟩, hn⟩ := h
  have hs' : ∀ x ∈ (ents encI L).toArray.toList, x.born < clock := by
    intro x hx
    simp only [ents, List.mem_map] at hx
    obtain ⟨e, he, rfl⟩ := hx
    exact hs e he
  have hrb : r ≠ b := by rintro rfl; rw [hb] at hr; cases hr
  rcases run_next_at (P := P) w ty r b clock c0 seen _ clock hr hb hs' hc with ⟨h0, hrun⟩ | ⟨e, he, w1, hw1, hrun⟩
  · refine .inl ⟨?_, hrun⟩
    rw [← Array.length_toList, lft_of] at h0
    simpa [ents] using h0
  · refine .inr ?_
    rw [lft_of] at he
    simp only [ents, List.mem_map] at he
    obtain ⟨q, hq, rfl⟩ := he
    have hqL : q ∈ L := (List.mem_filter.1 hq).1
    have hr1 : w1.heap[r]? = some (.mapIter (some b) clock seen c0) := by rcases hw1 with rfl | rfl <;> exact hr
    have hb1 : w1.heap[b]? = some (.map (ents encI L).toArray clock) := by rcases hw1 with rfl | rfl <;> exact hb
    have hrl : r < w1.heap.size := (Array.getElem?_eq_some_iff.1 hr1).1
    have hsame : (setBlock w1 r (.mapIter (some b) clock (seen.push q.2.2) clock)).heap[r]? = some (.mapIter (some b) clock (seen.push q.2.2) clock) := by simp [setBlock, hrl]
    have hoth : ∀ i, i ≠ r → (setBlock w1 r (.mapIter (some b) clock (seen.push q.2.2) clock)).heap[i]? = w1.heap[i]? := fun i hi => by
      simp only [setBlock, Array.getElem?_setIfInBounds]
      rw [if_neg (fun e => hi e.symm)]
    refine ⟨q.1, q.2.1, q.2.2, _, hq, hrun, ⟨⟨clock, clock, (hoth b (fun e => hrb e.symm)).trans hb1, hsame, Nat.le_refl _, hs⟩, hn⟩, ?_, ?_, ?_⟩
    · rcases hw1 with rfl | rfl
      · exact ⟨rfl, rfl, rfl, by simp [setBlock], fun i _ hi => hoth i (by simpa using hi)⟩
      · exact ⟨rfl, rfl, rfl, by simp [setBlock], fun i _ hi => hoth i (by simpa using hi)⟩
    · rcases hw1 with rfl | rfl <;> simp [setBlock]
    · refine run_entry_at (P := P) (e := ⟨encI q.1, q.2.1, q.2.2⟩) _ r b clock seen _ clock hsame ((hoth b (fun e => hrb e.symm)).trans hb1) ?_ ?_
      · simp only [ents, List.mem_map]; exact ⟨q, hqL, rfl⟩
      · simp only [ents, List.map_map]; exact hn
theorem nd_inj {α β : Type} {f : α → β} : ∀ {L : List α}, (L.map f).Nodup → ∀ {x y : α}, x ∈ L → y ∈ L → f x = f y → x = y
  | [], _, _, _, h, _, _ => by cases h
  | a :: l, hn, x, y, hx, hy, e => by
    simp only [List.map_cons, List.nodup_cons] at hn
    rcases List.mem_cons.1 hx with hx | hx
    · rcases List.mem_cons.1 hy with hy | hy
      · rw [hx, hy]
      · exact absurd (List.mem_map.2 ⟨y, hy, by rw [← e, hx]⟩) hn.1
    · rcases List.mem_cons.1 hy with hy | hy
      · exact absurd (List.mem_map.2 ⟨x, hx, by rw [e, hy]⟩) hn.1
      · exact nd_inj hn.2 hx hy e
theorem lft_mem_push {L : List (Int × Value × Nat)} (hn : (L.map (·.2.2)).Nodup) {seen : Array Nat} {x : Int} {v : Value} {s : Nat} (h : (x, v, s) ∈ lft L seen) (e : Int × Value × Nat) : e ∈ lft L (seen.push s) ↔ e ∈ lft L seen ∧ e ≠ (x, v, s) := by
  have hL := (List.mem_filter.1 h).1
  simp only [lft, List.mem_filter, Bool.not_eq_true', Array.contains_push, Bool.or_eq_false_iff]
  constructor
  · rintro ⟨h1, h2, h3⟩
    exact ⟨⟨h1, h2⟩, fun e' => by subst e'; simp at h3⟩
  · rintro ⟨⟨h1, h2⟩, h3⟩
    refine ⟨h1, h2, ?_⟩
    simp only [beq_eq_false_iff_ne, ne_eq]
    exact fun e2 => h3 (nd_inj hn h1 hL e2)
theorem lft_push {L : List (Int × Value × Nat)} {seen : Array Nat} {x : Int} {v : Value} {s : Nat} (h : (x, v, s) ∈ lft L seen) : (lft L (seen.push s)).length < (lft L seen).length := by
  have hsub : (lft L (seen.push s)) = (lft L seen).filter fun e => !(e.2.2 == s) := by
    simp only [lft, List.filter_filter]
    congr 1
    funext e
    simp only [Array.contains_push, Bool.not_or]
    rw [Bool.and_comm]
  rw [hsub]
  exact List.length_filter_lt_length_iff_exists.2 ⟨_, h, by simp⟩
end Go.Proofs.Ythmjlomlceljkaa
