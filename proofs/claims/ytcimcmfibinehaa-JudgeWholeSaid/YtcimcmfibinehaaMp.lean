/-
  A map in a block of the call's own, read as a function of its keys: what a look-up answers and what a store leaves. Nothing here speaks of one program.
-/
import Derived.Test.YtcimcmfibinehaaLib
import Derived.Laws.StructEq
import Derived.MapKept
import Derived.ChangeMaps5
import Derived.Carry
namespace Go.Proofs.Ytcimcmfibinehaa
open Go.RowKit Go.ChangeMaps
set_option linter.unusedSimpArgs false
set_option linter.unusedVariables false

/-- what a type of keys must bear -/
structure KeyK (P : Program) (k : TypeId) (d : TypeDesc) {κ : Type} [DecidableEq κ] (enc : κ → Value) : Prop where
  under : P.underlying k = some d
  check : ∀ em x w, (Instr.checkKey em 10000 k (enc x)).run P w = .ok () w
  eq : ∀ x y w, (Op.equal k (enc x) (enc y)).run P w = .ok (decide (x = y)) w
  now : (∀ x y, Instr.sameNow d (enc x) (enc y) = some (decide (x = y))) ∨ (∀ x y, Instr.sameNow d (enc x) (enc y) = none)
  bits : ∀ x, Instr.sameBits 10000 (enc x) (enc x) = true

def ents {κ : Type} (enc : κ → Value) (L : List (κ × Value × Nat)) : List MapEntry := L.map fun e => ⟨enc e.1, e.2.1, e.2.2⟩
def findL {κ : Type} [DecidableEq κ] (x : κ) : List (κ × Value × Nat) → Nat → Option (Nat × Value)
  | [], _ => none
  | e :: l, i => if x = e.1 then some (i, e.2.1) else findL x l (i + 1)

section
variable {P : Program} {k : TypeId} {d : TypeDesc} {κ : Type} [DecidableEq κ] {enc : κ → Value}

theorem findAsking_run (K : KeyK P k d enc) (x : κ) (w : World) : ∀ (L : List (κ × Value × Nat)) (i : Nat), (Instr.findAsking k (enc x) (ents enc L) i).run P w = .ok (findL x L i) w
  | [], i => rfl
  | e :: l, i => by
    have ih := findAsking_run K x w l (i + 1)
    show (Instr.findAsking k (enc x) (⟨enc e.1, e.2.1, e.2.2⟩ :: ents enc l) i).run P w = _
    simp only [Instr.findAsking, Sem.run_bind, K.eq, Result.andThen_ok, findL]
    by_cases h : x = e.1
    · simp [h]
    · simpa [h] using ih
theorem findNow_run (K : KeyK P k d enc) (x : κ) : ∀ (L : List (κ × Value × Nat)) (i : Nat), Instr.findNow d (enc x) (ents enc L) i = some (findL x L i) ∨ Instr.findNow d (enc x) (ents enc L) i = none := by
  intro L
  rcases K.now with h | h
  · induction L with
    | nil => intro i; exact .inl rfl
    | cons e l ih =>
      intro i
      have e1 : ents enc (e :: l) = ⟨enc e.1, e.2.1, e.2.2⟩ :: ents enc l := rfl
      rw [e1]
      simp only [Instr.findNow, h, findL]
      by_cases hx : x = e.1
      · simp [hx]
      · simpa [hx] using ih (i + 1)
  · intro i
    cases L with
    | nil => exact .inl rfl
    | cons e l =>
      have e1 : ents enc (e :: l) = ⟨enc e.1, e.2.1, e.2.2⟩ :: ents enc l := rfl
      rw [e1]
      simp only [Instr.findNow, h]
      exact .inr trivial
theorem findKey_run (K : KeyK P k d enc) (x : κ) (w : World) (L : List (κ × Value × Nat)) : (Instr.findKey k (enc x) (ents enc L)).run P w = .ok (findL x L 0) w := by
  simp only [Instr.findKey, Sem.run_bind, run_underlying K.under, Result.andThen_ok]
  rcases findNow_run K x L 0 with h | h
  · simp [h]
  · simp only [h]
    exact findAsking_run K x w L 0

/-- the map in block b answers M -/
def MapO (w : World) (b : Nat) (enc : κ → Value) (M : κ → Option Value) : Prop :=
  ∃ (L : List (κ × Value × Nat)) (clock : Nat), w.heap[b]? = some (.map (ents enc L).toArray clock) ∧ ∀ x, (findL x L 0).map (·.2) = M x

theorem MapO.congr {w w' : World} {b : Nat} {M : κ → Option Value} (h : MapO w b enc M) (hb : w'.heap[b]? = w.heap[b]?) : MapO w' b enc M := by
  obtain ⟨L, c, h1, h2⟩ := h
  exact ⟨L, c, hb.trans h1, h2⟩
theorem MapO.lt {w : World} {b : Nat} {M : κ → Option Value} (h : MapO w b enc M) : b < w.heap.size := by
  obtain ⟨L, c, h1, h2⟩ := h
  exact (Array.getElem?_eq_some_iff.1 h1).1
theorem MapO.step {w w' : World} {b : Nat} {M : κ → Option Value} (h : MapO w b enc M) (hB : Below w.heap.size w w') : MapO w' b enc M := h.congr (hB.block b h.lt)
theorem MapO.new (w : World) : MapO (κ := κ) (w.alloc (.map #[] 0)) w.heap.size enc fun _ => none := ⟨[], 0, heap_alloc_new w _, fun _ => rfl⟩
theorem MapO.fun_eq {w : World} {b : Nat} {M M' : κ → Option Value} (h : MapO w b enc M) (he : ∀ x, M x = M' x) : MapO w b enc M' := by
  obtain ⟨L, c, h1, h2⟩ := h
  exact ⟨L, c, h1, fun x => (h2 x).trans (he x)⟩

theorem MapO.look {w : World} {b : Nat} {M : κ → Option Value} (h : MapO w b enc M) (K : KeyK P k d enc) {t e : TypeId} (ht : P.underlying t = some (.map k e)) {z : Value} (hz : (zeroValue e).run P w = .ok z w) (x : κ) :
    (Instr.lookup t (.map (some b)) (enc x) false).run P w = .ok ((M x).getD z) w := by
  obtain ⟨L, c, h1, h2⟩ := h
  rw [← h2 x]
  simp only [Instr.lookup, Sem.run_bind, run_underlying ht, Result.andThen_ok, MapKept.run_getObj_map h1, Sem.run_pure, K.check, findKey_run K x w L]
  cases hf : findL x L 0 with
  | none => simp [hz]
  | some r => simp
theorem MapO.look_ok {w : World} {b : Nat} {M : κ → Option Value} (h : MapO w b enc M) (K : KeyK P k d enc) {t e : TypeId} (ht : P.underlying t = some (.map k e)) {z : Value} (hz : (zeroValue e).run P w = .ok z w) (x : κ) :
    (Instr.lookup t (.map (some b)) (enc x) true).run P w = .ok (.tuple #[(M x).getD z, .bool (M x).isSome]) w := by
  obtain ⟨L, c, h1, h2⟩ := h
  rw [← h2 x]
  simp only [Instr.lookup, Sem.run_bind, run_underlying ht, Result.andThen_ok, MapKept.run_getObj_map h1, Sem.run_pure, K.check, findKey_run K x w L]
  cases hf : findL x L 0 with
  | none => simp [hz]
  | some r => simp

theorem findL_ge {x : κ} : ∀ (L : List (κ × Value × Nat)) (i : Nat) {j : Nat} {v : Value}, findL x L i = some (j, v) → i ≤ j ∧ ∃ r, L[j - i]? = some (x, v, r)
  | [], i, j, v, h => by simp [findL] at h
  | e :: l, i, j, v, h => by
    simp only [findL] at h
    by_cases hx : x = e.1
    · rw [if_pos hx] at h
      simp only [Option.some.injEq, Prod.mk.injEq] at h
      obtain ⟨rfl, rfl⟩ := h
      exact ⟨Nat.le_refl _, e.2.2, by simp [hx]⟩
    · rw [if_neg hx] at h
      obtain ⟨h1, r, h2⟩ := findL_ge l (i + 1) h
      refine ⟨by omega, r, ?_⟩
      rw [show j - i = (j - (i + 1)) + 1 by omega, List.getElem?_cons_succ]
      exact h2
theorem findL_push (x y : κ) (v : Value) (r : Nat) : ∀ (L : List (κ × Value × Nat)) (i : Nat), findL x L i = none → ((findL y (L ++ [(x, v, r)]) i).map (·.2)) = if y = x then some v else (findL y L i).map (·.2)
  | [], i, _ => by
    by_cases h : y = x <;> simp [findL, h]
  | e :: l, i, h => by
    simp only [findL] at h
    by_cases hx : x = e.1
    · rw [if_pos hx] at h; cases h
    · rw [if_neg hx] at h
      have ih := findL_push x y v r l (i + 1) h
      simp only [List.cons_append, findL]
      by_cases hy : y = e.1
      · have : y ≠ x := fun e' => hx (e' ▸ hy)
        simp [hy, this]
        intro e'; exact absurd e'.symm hx
      · simp only [if_neg hy]
        exact ih
theorem findL_set (x y : κ) (v : Value) : ∀ (L : List (κ × Value × Nat)) (i j : Nat) (u : Value), findL x L i = some (j, u) → ((findL y (L.modify (j - i) fun e => (x, v, e.2.2)) i).map (·.2)) = if y = x then some v else (findL y L i).map (·.2)
  | [], i, j, u, h => by simp [findL] at h
  | e :: l, i, j, u, h => by
    have hg := findL_ge _ _ h
    simp only [findL] at h
    by_cases hx : x = e.1
    · rw [if_pos hx] at h
      simp only [Option.some.injEq, Prod.mk.injEq] at h
      obtain ⟨rfl, rfl⟩ := h
      simp only [Nat.sub_self, List.modify_zero_cons, findL]
      by_cases hy : y = x
      · simp [hy]
      · have : y ≠ e.1 := fun e' => hy (e'.trans hx.symm)
        simp [hy, this]
    · rw [if_neg hx] at h
      obtain ⟨h1, _⟩ := findL_ge _ _ h
      have ih := findL_set x y v l (i + 1) j u h
      rw [show j - i = (j - (i + 1)) + 1 by omega]
      simp only [List.modify_succ_cons, findL]
      by_cases hy : y = e.1
      · have : y ≠ x := fun e' => hx (e' ▸ hy)
        simp [hy]
        intro e'; exact absurd e'.symm hx
      · simp only [if_neg hy]
        exact ih

theorem MapO.put {w : World} {b : Nat} {M : κ → Option Value} (h : MapO w b enc M) (K : KeyK P k d enc) {t e : TypeId} (ht : P.underlying t = some (.map k e)) (x : κ) (v : Value) :
    ∃ w', (Instr.mapUpdate t (.map (some b)) (enc x) v).run P w = .ok () w' ∧ MapO w' b enc (fun y => if y = x then some v else M y) ∧ Fr [b] w w' ∧ w'.heap.size = w.heap.size := by
  obtain ⟨L, c, h1, h2⟩ := h
  have hfr : ∀ o, Fr [b] w (setBlock w b o) := fun o => ⟨rfl, rfl, rfl, by simp [setBlock], fun i _ hi => heap_setBlock_other h1 _ (by simpa using hi)⟩
  cases hf : findL x L 0 with
  | none =>
    refine ⟨setBlock w b (.map (ents enc (L ++ [(x, v, c)])).toArray (c + 1)), ?_, ⟨_, _, heap_setBlock_same h1 _, fun y => ?_⟩, hfr _, by simp [setBlock]⟩
    · have e0 : ents enc (L ++ [(x, v, c)]) = ents enc L ++ [⟨enc x, v, c⟩] := by simp [ents]
      rw [e0]
      simp only [Instr.mapUpdate, Sem.run_bind, run_underlying ht, Result.andThen_ok, MapKept.run_getObj_map h1, K.check, findKey_run K x w L, hf]
      rw [MapKept.run_setObj_map _ h1]
      simp [setBlock]
    · rw [findL_push x y v c L 0 hf, h2 y]
  | some r =>
    obtain ⟨j, u⟩ := r
    obtain ⟨_, rr, hj⟩ := findL_ge _ _ hf
    rw [Nat.sub_zero] at hj
    have hj' : (ents enc L)[j]? = some ⟨enc x, u, rr⟩ := by simp [ents, hj]
    refine ⟨setBlock w b (.map (ents enc (L.modify j fun e => (x, v, e.2.2))).toArray c), ?_, ⟨_, _, heap_setBlock_same h1 _, fun y => ?_⟩, hfr _, by simp [setBlock]⟩
    · have e1 : (ents enc L).toArray.modify j (fun e => ({ e with key := enc x, val := v } : MapEntry)) = (ents enc (L.modify j fun e => (x, v, e.2.2))).toArray := by
        rw [← Array.toList_inj]
        simp only [Array.toList_modify, ents]
        apply List.ext_getElem?
        intro i
        simp only [List.getElem?_modify, List.getElem?_map, Option.map_map]
        by_cases hij : j = i
        · simp [hij, Function.comp_def]
        · simp [hij]
      have e2 : ((ents enc L).toArray[j]?.map (·.key)).getD (enc x) = enc x := by
        rw [List.getElem?_toArray, hj']
        rfl
      have e3 : (Instr.keyThatStays (((ents enc L).toArray[j]?.map (·.key)).getD (enc x)) (enc x)).run P w = .ok (enc x) w := by
        rw [e2]
        unfold Instr.keyThatStays
        rw [if_pos (K.bits x)]
        rfl
      simp only [Instr.mapUpdate, Sem.run_bind, run_underlying ht, Result.andThen_ok, MapKept.run_getObj_map h1, K.check, findKey_run K x w L, hf, e3]
      rw [MapKept.run_setObj_map _ h1, ← e1]
      rfl
    · have := findL_set x y v L 0 j u hf
      rw [Nat.sub_zero] at this
      rw [this, h2 y]
end

/-- keys that are ints -/
theorem key_int {P : Program} {k : TypeId} (hk : P.underlying k = some (.int .i64)) : KeyK P k (.int .i64) fun x : Int => Value.int .i64 x where
  under := hk
  check em x w := by
    show (Instr.checkKey em (9999 + 1) k _).run P w = _
    unfold Instr.checkKey
    simp [Sem.run_bind, run_underlying hk, Result.andThen]
  eq x y w := by
    show (Op.equalIn (9999 + 1) k _ _).run P w = _
    rw [run_equalIn_int w 9999 k .i64 .i64 x y hk]
    congr 1
  now := .inl fun x y => by simp [Instr.sameNow]; rfl
  bits x := by simp [Instr.sameBits]
end Go.Proofs.Ytcimcmfibinehaa
