/-
  What a search keeps.
-/
import Derived.Test.YthmjlomlceljkaaHi7
import Derived.Test.YthmjlomlceljkaaHi4
import Derived.Test.YthmjlomlceljkaaMp
import Derived.Deep.DeepFit
import Derived.Lib.AppendZeros
import Derived.Deep.RegionLaw
import Derived.Deep.RegionWith
import Derived.Lib.EndianBits
import Derived.Deep.MidRow
namespace Go.Proofs.Ythmjlomlceljkaa
open Go.RowKit
set_option linter.unusedSimpArgs false
set_option linter.unusedVariables false

/-- a place of a search, as a key -/
def encP (x : Nat × List UInt8) : Value := .agg #[.int .u64 (x.1 : Nat), .string ⟨x.2.toArray⟩]
set_option maxRecDepth 100000 in
theorem key_place : KeyK Try.prog 104 (.struct #[⟨"done", 95, 0, false, "", "weir/history", 0⟩, ⟨"table", 9, 1, false, "", "weir/history", 8⟩]) encP where
  under := by kernel_rfl
  check em x w := by
    show (Instr.checkKey em (9998 + 1 + 1) _ _).run _ w = _
    have hu : Try.prog.underlying 104 = some (.struct #[⟨"done", 95, 0, false, "", "weir/history", 0⟩, ⟨"table", 9, 1, false, "", "weir/history", 8⟩]) := by kernel_rfl
    have hi : Try.prog.underlying 95 = some (.int .u64) := by kernel_rfl
    have hs : Try.prog.underlying 9 = some .string := by kernel_rfl
    have h1 : ∀ w, (Instr.checkKey em (9998 + 1) 95 (.int .u64 (x.1 : Nat))).run Try.prog w = .ok () w := fun w => by
      unfold Instr.checkKey
      simp [Sem.run_bind, run_underlying hi, Result.andThen]
    have h1s : ∀ w, (Instr.checkKey em (9998 + 1) 9 (.string ⟨x.2.toArray⟩)).run Try.prog w = .ok () w := fun w => by
      unfold Instr.checkKey
      simp [Sem.run_bind, run_underlying hs, Result.andThen]
    have h2 : ∀ w, (part 95 #[.int .u64 (x.1 : Nat), .string ⟨x.2.toArray⟩] 0).run Try.prog w = .ok (.int .u64 (x.1 : Nat)) w := fun w => by simp [part, go_sem]
    have h3 : ∀ w, (part 9 #[.int .u64 (x.1 : Nat), .string ⟨x.2.toArray⟩] 1).run Try.prog w = .ok (.string ⟨x.2.toArray⟩) w := fun w => by simp [part, go_sem]
    unfold Instr.checkKey encP
    simp only [Sem.run_bind, run_underlying hu, Result.andThen_ok]
    simp [h1, h1s, h2, h3, Result.andThen]
  eq x y w := by
    show (Op.equalIn (9998 + 1 + 1) _ _ _).run _ w = _
    have hf : Try.prog.fieldsOf 104 = #[⟨"done", 95, 0, false, "", "weir/history", 0⟩, ⟨"table", 9, 1, false, "", "weir/history", 8⟩] := by kernel_rfl
    unfold encP
    rw [run_equalIn_struct w _ _ _ _ (by kernel_rfl) (by kernel_rfl), hf]
    have e1 : ∀ a b : Nat, (Op.equalIn (9998 + 1) 95 (.int .u64 (a : Nat)) (.int .u64 (b : Nat))).run Try.prog w = .ok (decide (a = b)) w := fun a b => by
      rw [run_equalIn_int w 9998 _ .u64 .u64 a b (by kernel_rfl)]
      congr 1
      rw [Bool.eq_iff_iff]
      simp
      omega
    have e2 : ∀ a b : List UInt8, (Op.equalIn (9998 + 1) 9 (.string ⟨a.toArray⟩) (.string ⟨b.toArray⟩)).run Try.prog w = .ok (a == b) w := fun a b => by
      rw [run_equalIn_string w 9998 _ _ _ (by kernel_rfl), ByteArray.toList_eq, ByteArray.toList_eq]
    obtain ⟨a, b⟩ := x
    obtain ⟨a', b'⟩ := y
    by_cases h1 : a = a' <;> by_cases h2 : b = b' <;> first | (simp [Op.eqFields, part, e1, e2, go_sem, h1, h2]; done) | (simp [Op.eqFields, part, e1, e2, go_sem, h1, h2]; omega)
  now := .inr fun _ _ => rfl
  bits x := by
    show Instr.sameBits (9998 + 1 + 1) _ _ = true
    unfold encP
    simp [Instr.sameBits]
    rw [beq_toListBytes]
    exact beq_self_eq_true _
/-- the map of what was seen -/
def seenM (S : Nat × List UInt8 → Bool) (x : Nat × List UInt8) : Option Value := if S x = true then some (.agg #[]) else none
theorem seen_look {W : World} {b : Nat} {S : Nat × List UInt8 → Bool} (h : MapO W b encP (seenM S)) (D : Nat) (s : List UInt8) :
    (Instr.lookup 100 (.map (some b)) (.agg #[.int .u64 (D : Nat), .string ⟨s.toArray⟩]) true).run Try.prog W = .ok (.tuple #[.agg #[], .bool (S (D, s))]) W := by
  have hz : (zeroValue 105).run Try.prog W = .ok (.agg #[]) W := by kernel_rfl
  have := h.look_ok key_place Try.underlying100 hz (D, s)
  have e : ((seenM S (D, s)).getD (.agg #[])) = .agg #[] ∧ (seenM S (D, s)).isSome = S (D, s) := by
    unfold seenM
    cases S (D, s) <;> simp
  rw [e.1, e.2] at this
  exact this
theorem seen_put {W : World} {b : Nat} {S : Nat × List UInt8 → Bool} (h : MapO W b encP (seenM S)) (D : Nat) (s : List UInt8) :
    ∃ w', (Instr.mapUpdate 100 (.map (some b)) (.agg #[.int .u64 (D : Nat), .string ⟨s.toArray⟩]) (.agg #[])).run Try.prog W = .ok () w' ∧ MapO w' b encP (seenM fun y => decide (y = (D, s)) || S y) ∧ Fr [b] W w' := by
  obtain ⟨w', h1, h2, h3, h4⟩ := h.put key_place Try.underlying100 (D, s) (.agg #[])
  refine ⟨w', h1, h2.fun_eq fun x => ?_, h3⟩
  unfold seenM
  by_cases hx : x = (D, s)
  · simp [hx]
  · simp [hx]
/-- what a search leaves as it was: all below M, and all rows and boxes but those of ints and of rows of ints -/
structure SF (M : Nat) (w w' : World) : Prop where
  lo : Below M w w'
  keep : ∀ (k : Nat) (cs : Array Value) (ty : TypeId) (fr : Nat × Nat), w.heap[k]? = some (Obj.cells cs ty fr) → ty ≠ 3 → ty ≠ 33 → w'.heap[k]? = w.heap[k]?
theorem SF.refl (M : Nat) (w : World) : SF M w w := ⟨Below.refl _ _, fun _ _ _ _ _ _ _ => rfl⟩
theorem SF.trans {M : Nat} {a b c : World} (h : SF M a b) (k : SF M b c) : SF M a c :=
  ⟨h.lo.trans k.lo, fun i cs ty fr hi h1 h2 => (k.keep i cs ty fr ((h.keep i cs ty fr hi h1 h2).trans hi) h1 h2).trans (h.keep i cs ty fr hi h1 h2)⟩
theorem SF.of_below {M : Nat} {a b : World} (h : Below a.heap.size a b) (hM : M ≤ a.heap.size) : SF M a b := ⟨h.mono hM, fun i cs ty fr hi _ _ => h.block i (Array.getElem?_eq_some_iff.1 hi).1⟩
theorem SF.of_map {M b : Nat} {w w' : World} {S : Nat × List UInt8 → Option Value} (hm : MapO w b encP S) (h : Fr [b] w w') (hM : M ≤ b) : SF M w w' := by
  obtain ⟨Lm, clk, h1, _⟩ := hm
  have hb := (Array.getElem?_eq_some_iff.1 h1).1
  refine ⟨h.below (by omega) (by simp; exact hM), fun i cs ty fr hi _ _ => h.block i (Array.getElem?_eq_some_iff.1 hi).1 ?_⟩
  simp only [List.mem_singleton]
  rintro rfl
  rw [h1] at hi
  cases hi
theorem SF.of_box {M b : Nat} {w w' : World} {cs : Array Value} (hb : Blk w b cs 33) (h : Fr [b] w w') (hM : M ≤ b) : SF M w w' := by
  refine ⟨h.below (by have := hb.lt; omega) (by simp; exact hM), fun i cs' ty fr hi _ h2 => h.block i (Array.getElem?_eq_some_iff.1 hi).1 ?_⟩
  simp only [List.mem_singleton]
  rintro rfl
  have : some (Obj.cells cs' ty fr) = some (Obj.cells cs 33 (0, 0)) := hi.symm.trans hb
  injection this with e
  injection e with e1 e2
  exact h2 e2
theorem SF.blk {M : Nat} {w w' : World} {b : Nat} {cs : Array Value} {ty : TypeId} (h : SF M w w') (hb : Blk w b cs ty) (h1 : ty ≠ 3) (h2 : ty ≠ 33) : Blk w' b cs ty := (h.keep b cs ty (0, 0) hb h1 h2).trans hb
theorem SF.fco {M : Nat} {w w' : World} {m : Nat} {v : Value} {ob : Option Nat} {t : List FcE} (h : SF M w w') (ht : FcO m w v ob t) : FcO m w' v ob t := by
  refine ⟨ht.1.congr fun g e => ?_, ht.2⟩
  rcases ht.1.cases with ⟨e1, _⟩ | ⟨g', cap, cur, e1, _, h4, _⟩
  · rw [e1] at e; cases e
  · rw [e1] at e
    obtain rfl := Option.some.inj e
    exact h.keep g' cur 87 (0, 0) h4 (by decide) (by decide)
theorem FcO.frT {w w' : World} {m Q : Nat} {cs : Array Value} {ty : TypeId} {v : Value} {ob : Option Nat} {t : List FcE} (h : FcO m w v ob t) (hb : Blk w Q cs ty) (hf : Fr [Q] w w') (hty : ty ≠ 87) : FcO m w' v ob t := by
  refine ⟨h.1.congr fun g e => ?_, h.2⟩
  rcases h.1.cases with ⟨e1, _⟩ | ⟨g', cap, cur, e1, _, h4, _⟩
  · rw [e1] at e; cases e
  · rw [e1] at e
    obtain rfl := Option.some.inj e
    refine hf.block g' (Array.getElem?_eq_some_iff.1 h4).1 ?_
    simp only [List.mem_singleton]
    rintro rfl
    have := h4.symm.trans hb
    injection this with e'
    injection e' with e1 e2
    exact hty e2.symm
/-- an int put behind a row of ints -/
theorem in_push {W : World} {M b : Nat} {ty : TypeId} {v : Value} {ob : Option Nat} {L : List Int} {x : Int} (h : InO M W v ob L) (hb : Blk W b #[.int .i64 x] 3) (ho : -9223372036854775808 ≤ x ∧ x ≤ 9223372036854775807) (hM : M ≤ W.heap.size) (hn : L.length ≤ 10000) :
    ∃ v' ob' w', (Builtin.append_ #[33, 33] ty #[v, .slice (some ⟨b, 0, none⟩) 1 1]).run Try.prog W = .ok v' w' ∧ InO M w' v' ob' (L ++ [x]) ∧ SF M W w' ∧ W.heap.size ≤ w'.heap.size ∧ (∀ (n : Nat) (cs : Array Value) (ty : TypeId) (fr : Nat × Nat), W.heap[n]? = some (Obj.cells cs ty fr) → ty = 33 → w'.heap[n]? = W.heap[n]?) ∧ (∀ (n : Nat) (Lm : Array MapEntry) (clk : Nat), W.heap[n]? = some (Obj.map Lm clk) → w'.heap[n]? = W.heap[n]?) := by
  obtain ⟨r1, r4, r5⟩ := h
  obtain ⟨i0, hi, hz0, hz1, hz2⟩ := info_parts inZero
  obtain ⟨v', ob', w', hrun, s1, s2, s3⟩ := run_append_row (P := Try.prog) W 33 ty 3 i0 _ 1 8 Try.underlying33 hi hz0 hz1 hz2 rfl (by decide) v ob L.length (inL L) r1 ⟨b, 0, none⟩ 1 1 (inL [x]) (by decide) rfl (fun j u hu => by
    rw [addr_add, cell_at hb]
    have hj : j < 1 := (List.getElem?_eq_some_iff.1 hu).1
    obtain rfl : j = 0 := by omega
    simpa [inL] using hu) (inL_ones _) (by unfold maxLen; omega) (by omega)
  have hty : ∀ (i : Nat) (o : Obj), W.heap[i]? = some o → (∀ cs fr, o ≠ Obj.cells cs 3 fr) → w'.heap[i]? = W.heap[i]? := fun i o hi hne => by
    refine s2.block i (Array.getElem?_eq_some_iff.1 hi).1 fun e => ?_
    rcases r1.cases with ⟨e1, _⟩ | ⟨g', cap, cur, e1, _, h4, _⟩
    · rw [e1] at e; cases e
    · rw [e1] at e
      obtain rfl := Option.some.inj e
      exact hne cur (0, 0) (Option.some.inj (hi.symm.trans h4))
  refine ⟨v', some ob', w', hrun, ⟨by rw [List.length_append, inL_append]; exact s1, fun y hy => ?_, fun g e => ?_⟩, ⟨(Below.refl M W).grown s2 hM r5, fun i cs ty fr hi h1 h2 => hty i _ hi fun cs' fr' e => ?_⟩, s2.size, fun n cs ty fr hi h1 => hty n _ hi fun cs' fr' e => ?_, fun n Lm clk hi => hty n _ hi fun cs' fr' e => by cases e⟩
  · rcases List.mem_append.1 hy with h | h
    · exact r4 y h
    · simp at h; subst h; exact ho
  · obtain rfl := Option.some.inj e
    rcases s3 with h | h
    · exact r5 _ h
    · omega
  · injection e with e1 e2; exact h1 e2
  · injection e with e1 e2; rw [h1] at e2; exact absurd e2 (by decide)
/-- the last one cut off -/
theorem InO.cut {W : World} {M : Nat} {a : Option Addr} {n c : Nat} {ob : Option Nat} {L : List Int} {x : Int} (h : InO M W (.slice a n c) ob (L ++ [x])) : InO M W (.slice a (n - 1) c) ob L := by
  obtain ⟨h1, h2, h3⟩ := h
  refine ⟨?_, fun y hy => h2 y (List.mem_append_left _ hy), h3⟩
  rcases h1.cases with ⟨e1, e2, e3, e4⟩ | ⟨g, cap, cur, rfl, e2, h4, h5, h6, h7, h8⟩
  · simp at e3
  · injection e2 with q1 q2 q3
    subst q1
    subst q2
    subst q3
    rw [show (L ++ [x]).length - 1 = L.length by simp]
    have hl : (L ++ [x]).length = L.length + 1 := by simp
    refine Row.mk h4 (by omega) h6 h7 ?_
    rw [inL_append, hl] at h8
    have h9 : (cur.toList.take ((L.length + 1) * 1)).take (L.length * 1) = (inL L ++ inL [x]).take (L.length * 1) := by rw [h8]
    rw [List.take_take, Nat.min_eq_left (by omega)] at h9
    rw [h9, List.take_append_of_le_length (by rw [inL_len]; exact Nat.le_refl _)]
    exact List.take_of_length_le (by rw [inL_len]; exact Nat.le_refl _)
def Good (L : List CaE) (S : Nat × List UInt8 → Bool) (D : Nat) : Prop := ∀ d s, tblB 0 s = true → S (d, encB s) = true → sr L d s = none ∨ d < D
/-- what was seen besides leads nowhere -/
def New (L : List CaE) (S S' : Nat × List UInt8 → Bool) : Prop := ∀ d s, tblB 0 s = true → S' (d, encB s) = true → sr L d s = none ∨ S (d, encB s) = true
def New2 (L : List CaE) (S S' : Nat × List UInt8 → Bool) (D : Nat) (t : List FcE) : Prop := ∀ d s, tblB 0 s = true → S' (d, encB s) = true → sr L d s = none ∨ S (d, encB s) = true ∨ (d = D ∧ s = t)
theorem New.refl (L : List CaE) (S : Nat × List UInt8 → Bool) : New L S S := fun d s _ h => .inr h
theorem new2_add {L : List CaE} {S : Nat × List UInt8 → Bool} {D : Nat} {t : List FcE} (ht : tblB 0 t = true) : New2 L S (fun y => decide (y = (D, encB t)) || S y) D t := by
  intro d s hs hy
  simp only [Bool.or_eq_true, decide_eq_true_eq] at hy
  rcases hy with hy | hy
  · injection hy with e1 e2
    exact .inr (.inr ⟨e1, enc_inj hs ht e2⟩)
  · exact .inr (.inl hy)
theorem New2.up {L : List CaE} {S S' : Nat × List UInt8 → Bool} {D D' : Nat} {t : List FcE} (h : New2 L S S' D t) (hg : Good L S D) (hD : D < D') : Good L S' D' := by
  intro d s hs hy
  rcases h d s hs hy with h | h | ⟨h, _⟩
  · exact .inl h
  · rcases hg d s hs h with h | h
    · exact .inl h
    · exact .inr (by omega)
  · exact .inr (by omega)
theorem New2.step {L : List CaE} {S S' S2 : Nat × List UInt8 → Bool} {D : Nat} {t : List FcE} (h : New2 L S S' D t) (hn : New L S' S2) : New2 L S S2 D t := by
  intro d s hs hy
  rcases hn d s hs hy with h1 | h1
  · exact .inl h1
  · exact h d s hs h1
theorem New2.done {L : List CaE} {S S' : Nat × List UInt8 → Bool} {D : Nat} {t : List FcE} (h : New2 L S S' D t) (hn : sr L D t = none) : New L S S' := by
  intro d s hs hy
  rcases h d s hs hy with h | h | ⟨h1, h2⟩
  · exact .inl h
  · exact .inr h
  · rw [h1, h2]; exact .inl hn
theorem srL_step {f : Nat → List FcE → Option (List Int)} {L : List CaE} {D : Nat} {t : List FcE} {k : Nat} (h : k < L.length) : srL f L D t k (L.drop k) = if (D.testBit k || !stB D (gCa L k).fr 0 L) = true then srL f L D t (k + 1) (L.drop (k + 1)) else if neA (gCa L k) (doC t (gCa L k)) = true then srL f L D t (k + 1) (L.drop (k + 1)) else match f (D ||| 2 ^ k) (doC t (gCa L k)).l with | some r => some ((k : Int) :: r) | none => srL f L D t (k + 1) (L.drop (k + 1)) := by
  conv => lhs; rw [List.drop_eq_getElem_cons h]
  rw [show gCa L k = L[k] from gCa_of (List.getElem?_eq_getElem h)]
  rfl
end Go.Proofs.Ythmjlomlceljkaa
