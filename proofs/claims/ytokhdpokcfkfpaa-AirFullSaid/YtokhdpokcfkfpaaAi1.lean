/-
  A map whose keys are told once each: a store, a deletion, a look-up; ways as keys.
-/
import Derived.Test.YtokhdpokcfkfpaaMp
import Derived.Test.YtokhdpokcfkfpaaLib2
import Derived.Test.YtokhdpokcfkfpaaDt
import Derived.Test.YtokhdpokcfkfpaaBl
import Derived.Test.YtokhdpokcfkfpaaProg
import Derived.OwnWalk
import Derived.IntWalk
import Derived.Outline
import Derived.Deep.QuietTactic
import Derived.BigQuiet
import Derived.BigRegion
import Derived.RegionTactic
import Derived.Lib.Small
import Derived.Lib.Hide
import Derived.Deep.DeepCutAuto
import Derived.Deep.RegionHeld3
import Derived.OrdersHeld
import Derived.WalkMore
import Derived.WalkSpells
import Derived.Laws.OwnMore
namespace Go.Proofs.Ytokhdpokcfkfpaa
open Go.RowKit Go.ChangeMaps
set_option linter.unusedSimpArgs false
set_option linter.unusedVariables false

section
variable {P : Program} {k : TypeId} {d : TypeDesc} {κ : Type} [DecidableEq κ] {enc : κ → Value}

def MapU (w : World) (b : Nat) (enc : κ → Value) (M : κ → Option Value) : Prop :=
  ∃ (L : List (κ × Value × Nat)) (clock : Nat), w.heap[b]? = some (.map (ents enc L).toArray clock) ∧ (L.map (·.1)).Nodup ∧ ∀ x, (findL x L 0).map (·.2) = M x
theorem MapU.o {w : World} {b : Nat} {M : κ → Option Value} (h : MapU w b enc M) : MapO w b enc M := by
  obtain ⟨L, c, h1, _, h2⟩ := h
  exact ⟨L, c, h1, h2⟩
theorem MapU.congr {w w' : World} {b : Nat} {M : κ → Option Value} (h : MapU w b enc M) (hb : w'.heap[b]? = w.heap[b]?) : MapU w' b enc M := by
  obtain ⟨L, c, h1, h2⟩ := h
  exact ⟨L, c, hb.trans h1, h2⟩
theorem MapU.lt {w : World} {b : Nat} {M : κ → Option Value} (h : MapU w b enc M) : b < w.heap.size := h.o.lt
theorem MapU.new (w : World) : MapU (κ := κ) (w.alloc (.map #[] 0)) w.heap.size enc fun _ => none := ⟨[], 0, heap_alloc_new w _, by simp, fun _ => rfl⟩
theorem findL_key {x : κ} : ∀ (L : List (κ × Value × Nat)) (i : Nat), findL x L i = none → x ∉ L.map (·.1)
  | [], _, _ => by simp
  | e :: l, i, h => by
    simp only [findL] at h
    by_cases hx : x = e.1
    · rw [if_pos hx] at h; cases h
    · rw [if_neg hx] at h
      have := findL_key l (i + 1) h
      simp only [List.map_cons, List.mem_cons, not_or]
      exact ⟨hx, this⟩
theorem findL_out {x : κ} : ∀ (L : List (κ × Value × Nat)) (i : Nat), x ∉ L.map (·.1) → findL x L i = none
  | [], _, _ => rfl
  | e :: l, i, h => by
    simp only [List.map_cons, List.mem_cons, not_or] at h
    simp only [findL, if_neg h.1]
    exact findL_out l (i + 1) h.2
theorem findL_shift {x : κ} : ∀ (L : List (κ × Value × Nat)) (i j : Nat), (findL x L i).map (·.2) = (findL x L j).map (·.2)
  | [], _, _ => rfl
  | e :: l, i, j => by
    simp only [findL]
    by_cases hx : x = e.1
    · simp [hx]
    · simp only [if_neg hx]
      exact findL_shift l _ _
theorem findL_erase (x y : κ) : ∀ (L : List (κ × Value × Nat)) (i j : Nat) (u : Value), findL x L i = some (j, u) → (L.map (·.1)).Nodup → ((findL y (L.eraseIdx (j - i)) i).map (·.2)) = if y = x then none else (findL y L i).map (·.2)
  | [], i, j, u, h, _ => by simp [findL] at h
  | e :: l, i, j, u, h, hn => by
    have hg := findL_ge _ _ h
    simp only [findL] at h
    simp only [List.map_cons, List.nodup_cons] at hn
    by_cases hx : x = e.1
    · rw [if_pos hx] at h
      simp only [Option.some.injEq, Prod.mk.injEq] at h
      obtain ⟨rfl, rfl⟩ := h
      simp only [Nat.sub_self, List.eraseIdx_cons_zero, findL]
      by_cases hy : y = x
      · rw [if_pos hy, findL_out l i (by rw [hy, hx]; exact hn.1)]
        rfl
      · have : y ≠ e.1 := fun e' => hy (e'.trans hx.symm)
        rw [if_neg hy, if_neg this]
        exact findL_shift l _ _
    · rw [if_neg hx] at h
      obtain ⟨h1, _⟩ := findL_ge _ _ h
      have ih := findL_erase x y l (i + 1) j u h hn.2
      rw [show j - i = (j - (i + 1)) + 1 by omega]
      simp only [List.eraseIdx_cons_succ, findL]
      by_cases hy : y = e.1
      · have : y ≠ x := fun e' => hx (e' ▸ hy)
        rw [if_pos hy, if_neg this, if_pos hy]
      · simp only [if_neg hy]
        exact ih
theorem MapU.put {w : World} {b : Nat} {M : κ → Option Value} (h : MapU w b enc M) (K : KeyK P k d enc) {t e : TypeId} (ht : P.underlying t = some (.map k e)) (x : κ) (v : Value) :
    ∃ w', (Instr.mapUpdate t (.map (some b)) (enc x) v).run P w = .ok () w' ∧ MapU w' b enc (fun y => if y = x then some v else M y) ∧ Fr [b] w w' ∧ w'.heap.size = w.heap.size := by
  obtain ⟨L, c, h1, hnd, h2⟩ := h
  have hfr : ∀ o, Fr [b] w (setBlock w b o) := fun o => ⟨rfl, rfl, rfl, by simp [setBlock], fun i _ hi => heap_setBlock_other h1 _ (by simpa using hi)⟩
  cases hf : findL x L 0 with
  | none =>
    refine ⟨setBlock w b (.map (ents enc (L ++ [(x, v, c)])).toArray (c + 1)), ?_, ⟨_, _, heap_setBlock_same h1 _, ?_, fun y => ?_⟩, hfr _, by simp [setBlock]⟩
    · have e0 : ents enc (L ++ [(x, v, c)]) = ents enc L ++ [⟨enc x, v, c⟩] := by simp [ents]
      rw [e0]
      simp only [Instr.mapUpdate, Sem.run_bind, run_underlying ht, Result.andThen_ok, MapKept.run_getObj_map h1, K.check, findKey_run K x w L, hf]
      rw [MapKept.run_setObj_map _ h1]
      simp [setBlock]
    · have hk := findL_key L 0 hf
      rw [List.map_append, List.nodup_append]
      refine ⟨hnd, by simp, fun a ha b' hb' => ?_⟩
      simp at hb'
      subst hb'
      exact fun e => hk (e ▸ ha)
    · rw [findL_push x y v c L 0 hf, h2 y]
  | some r =>
    obtain ⟨j, u⟩ := r
    obtain ⟨_, rr, hj⟩ := findL_ge _ _ hf
    rw [Nat.sub_zero] at hj
    have hj' : (ents enc L)[j]? = some ⟨enc x, u, rr⟩ := by simp [ents, hj]
    refine ⟨setBlock w b (.map (ents enc (L.modify j fun e => (x, v, e.2.2))).toArray c), ?_, ⟨_, _, heap_setBlock_same h1 _, ?_, fun y => ?_⟩, hfr _, by simp [setBlock]⟩
    · have e1 : (ents enc L).toArray.modify j (fun e => ({ e with key := enc x, val := v } : MapEntry)) = (ents enc (L.modify j fun e => (x, v, e.2.2))).toArray := by
        rw [← Array.toList_inj]
        simp only [Array.toList_modify, ents]
        apply List.ext_getElem?
        intro i
        simp only [List.getElem?_modify, List.getElem?_map, Option.map_map]
        by_cases hij : j = i
        · simp [hij, Function.comp_def]
        · simp [hij]
      have e2 : ((ents enc L).toArray[j]?.map (·.key)).getD (enc x) = enc x := by
        rw [List.getElem?_toArray, hj']
        rfl
      have e3 : (Instr.keyThatStays (((ents enc L).toArray[j]?.map (·.key)).getD (enc x)) (enc x)).run P w = .ok (enc x) w := by
        rw [e2]
        unfold Instr.keyThatStays
        rw [if_pos (K.bits x)]
        rfl
      simp only [Instr.mapUpdate, Sem.run_bind, run_underlying ht, Result.andThen_ok, MapKept.run_getObj_map h1, K.check, findKey_run K x w L, hf, e3]
      rw [MapKept.run_setObj_map _ h1, ← e1]
      rfl
    · have : (L.modify j fun e => (x, v, e.2.2)).map (·.1) = L.map (·.1) := by
        apply List.ext_getElem?
        intro i
        simp only [List.getElem?_map, List.getElem?_modify]
        by_cases hij : j = i
        · subst hij; simp [hj]
        · simp [hij]
      rw [this]
      exact hnd
    · have := findL_set x y v L 0 j u hf
      rw [Nat.sub_zero] at this
      rw [this, h2 y]
theorem MapU.del {w : World} {b : Nat} {M : κ → Option Value} (h : MapU w b enc M) (K : KeyK P k d enc) {t e : TypeId} (ht : P.underlying t = some (.map k e)) (x : κ) (t2 ty : TypeId) :
    ∃ w', (Builtin.delete_ #[t, t2] ty #[.map (some b), enc x]).run P w = .ok (.tuple #[]) w' ∧ MapU w' b enc (fun y => if y = x then none else M y) ∧ Fr [b] w w' ∧ w'.heap.size = w.heap.size := by
  obtain ⟨L, c, h1, hnd, h2⟩ := h
  have hfr : ∀ o, Fr [b] w (setBlock w b o) := fun o => ⟨rfl, rfl, rfl, by simp [setBlock], fun i _ hi => heap_setBlock_other h1 _ (by simpa using hi)⟩
  cases hf : findL x L 0 with
  | none =>
    refine ⟨setBlock w b (.map (ents enc L).toArray c), ?_, ⟨_, _, heap_setBlock_same h1 _, hnd, fun y => ?_⟩, hfr _, by simp [setBlock]⟩
    · simp [Builtin.delete_, run_underlying ht, MapKept.run_getObj_map h1, K.check, findKey_run K x w L, hf, MapKept.run_setObj_map _ h1, setBlock]
    · rw [h2 y]
      show M y = if y = x then none else M y
      by_cases hy : y = x
      · rw [if_pos hy, ← h2 y, hy, hf]; rfl
      · rw [if_neg hy]
  | some r =>
    obtain ⟨j, u⟩ := r
    have e1 : (ents enc L).toArray.eraseIdxIfInBounds j = (ents enc (L.eraseIdx j)).toArray := by
      rw [← Array.toList_inj]
      simp only [Array.toList_eraseIdxIfInBounds, ents]
      apply List.ext_getElem?
      intro i
      simp only [List.getElem?_eraseIdx, List.getElem?_map]
      split <;> rfl
    refine ⟨setBlock w b (.map (ents enc (L.eraseIdx j)).toArray c), ?_, ⟨_, _, heap_setBlock_same h1 _, ?_, fun y => ?_⟩, hfr _, by simp [setBlock]⟩
    · simp [Builtin.delete_, run_underlying ht, MapKept.run_getObj_map h1, K.check, findKey_run K x w L, hf, MapKept.run_setObj_map _ h1, setBlock, ← e1]
    · have : (L.eraseIdx j).map (·.1) = (L.map (·.1)).eraseIdx j := by
        apply List.ext_getElem?
        intro i
        simp only [List.getElem?_map, List.getElem?_eraseIdx]
        split <;> rfl
      rw [this]
      exact hnd.sublist (List.eraseIdx_sublist _ _)
    · have := findL_erase x y L 0 j u hf hnd
      rw [Nat.sub_zero] at this
      rw [this, h2 y]
end

theorem key_way : KeyK Try.prog 71 (.struct #[⟨"from", 3, 0, false, "", "weir/air", 0⟩, ⟨"to", 3, 1, false, "", "weir/air", 8⟩]) fun p : Int × Int => Value.agg #[.int .i64 p.1, .int .i64 p.2] where
  under := by kernel_rfl
  check em x w := by
    show (Instr.checkKey em (9998 + 1 + 1) _ _).run _ w = _
    have hu : Try.prog.underlying 71 = some (.struct #[⟨"from", 3, 0, false, "", "weir/air", 0⟩, ⟨"to", 3, 1, false, "", "weir/air", 8⟩]) := by kernel_rfl
    have hi : Try.prog.underlying 3 = some (.int .i64) := by kernel_rfl
    have h1 : ∀ (a : Int) w, (Instr.checkKey em (9998 + 1) 3 (.int .i64 a)).run Try.prog w = .ok () w := fun a w => by
      unfold Instr.checkKey
      simp [Sem.run_bind, run_underlying hi, Result.andThen]
    have h2 : ∀ w, (part 3 #[.int .i64 x.1, .int .i64 x.2] 0).run Try.prog w = .ok (.int .i64 x.1) w := fun w => by simp [part, go_sem]
    have h3 : ∀ w, (part 3 #[.int .i64 x.1, .int .i64 x.2] 1).run Try.prog w = .ok (.int .i64 x.2) w := fun w => by simp [part, go_sem]
    unfold Instr.checkKey
    simp only [Sem.run_bind, run_underlying hu, Result.andThen_ok]
    simp [h1, h2, h3, Result.andThen]
  eq x y w := by
    show (Op.equalIn (9998 + 1 + 1) _ _ _).run _ w = _
    have hf : Try.prog.fieldsOf 71 = #[⟨"from", 3, 0, false, "", "weir/air", 0⟩, ⟨"to", 3, 1, false, "", "weir/air", 8⟩] := by kernel_rfl
    rw [run_equalIn_struct w _ _ _ _ (by kernel_rfl) (by kernel_rfl), hf]
    have e1 : ∀ a b : Int, (Op.equalIn (9998 + 1) 3 (.int .i64 a) (.int .i64 b)).run Try.prog w = .ok (a == b) w := fun a b => run_equalIn_int w 9998 _ .i64 .i64 a b (by kernel_rfl)
    obtain ⟨x1, x2⟩ := x
    obtain ⟨y1, y2⟩ := y
    cases h1 : x1 == y1 <;> cases h2 : x2 == y2
    all_goals
      simp only [beq_iff_eq, beq_eq_false_iff_ne] at h1 h2
      simp [Op.eqFields, part, e1, h1, h2, go_sem, Prod.ext_iff]
  now := .inr fun _ _ => rfl
  bits x := by
    show Instr.sameBits (9998 + 1 + 1) _ _ = true
    simp [Instr.sameBits]
end Go.Proofs.Ytokhdpokcfkfpaa
