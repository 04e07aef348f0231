/-
  A hand: what writes, or reads, one part behind the other, as a contract.
-/
import Derived.Test.YtiednacpmlilbaaDoorWb
import Derived.Test.YtiednacpmlilbaaDoorWz2
import Derived.WalkMore
namespace Go.Proofs.YtiednacpmlilbaaDoor
open Go.RowKit
set_option linter.unusedSimpArgs false
set_option linter.unusedVariables false

/-- a hand of either way: what it keeps in memory (In), what stays (lo, Pr), whether it writes to what it is given (rd) -/
structure HS (S : Type) where
  In : World → S → Prop
  lo : Nat
  Pr : Nat → TypeId → Prop
  rd : Prop
  k0 : FuncId
  k1 : FuncId
  k2 : FuncId
  k3 : FuncId
  k4 : FuncId
  k5 : FuncId
  bnd : Value
  pre : WF → S → WD → Prop
  step : WF → S → WD → Except Nat (S × WD)
  cpre : S → Nat → Nat → Prop
  cnt : S → Nat → Nat → Except Nat (S × Nat)
def fv (k : FuncId) (b : Value) : Value := .func (.func k) #[b] #[]
def HS.hv {S : Type} (H : HS S) : Value := .agg #[fv H.k0 H.bnd, fv H.k1 H.bnd, fv H.k2 H.bnd, fv H.k3 H.bnd, fv H.k4 H.bnd, fv H.k5 H.bnd]
def HS.cs {S : Type} (H : HS S) : Array Value := #[fv H.k0 H.bnd, fv H.k1 H.bnd, fv H.k2 H.bnd, fv H.k3 H.bnd, fv H.k4 H.bnd, fv H.k5 H.bnd]
variable {S : Type} (H : HS S)
/-- a value lies in memory where a hand lets it be -/
def At (W : World) (ty : TypeId) (g j : Nat) (v : Value) : Prop := (¬ H.rd ∧ g < H.lo ∧ W.cell? ⟨g, j, none⟩ = some v ∧ W.frozen? ⟨g, j, none⟩ = false) ∨ ∃ cs, Blk W g cs ty ∧ H.Pr g ty ∧ ty ≠ 5 ∧ cs[j]? = some v
/-- what stays: all that is old; of what is kept, all cells but those of A -/
structure FrA (A : TypeId → Nat → Nat → Prop) (W W' : World) : Prop where
  os : W'.os = W.os
  tape : W'.tape = W.tape
  output : W'.output = W.output
  size : W.heap.size ≤ W'.heap.size
  old : ∀ q, q < H.lo → W'.heap[q]? = W.heap[q]?
  blk : ∀ q cs ty, Blk W q cs ty → H.Pr q ty → ∃ cs', Blk W' q cs' ty ∧ cs'.size = cs.size ∧ ∀ j, (ty = 5 ∨ ¬ (H.rd ∧ A ty q j)) → cs'[j]? = cs[j]?
/-- text in memory -/
def TB (W : World) (v : Value) (l : List Nat) : Prop := ∃ a b o c, v = .slice a l.length c ∧ ByIn W a l.length c b o (gB l) ∧ (0 < l.length → b < H.lo ∨ ∃ cs, Blk W b cs 5 ∧ H.Pr b 5)
/-- a part's value -/
def CD (W : World) : WF → Value → WD → Prop
  | .num, v, .i n => v = .int .i64 n ∧ -9223372036854775808 ≤ n ∧ n ≤ 9223372036854775807
  | .small, v, .i n => v = .int .i8 n ∧ -128 ≤ n ∧ n ≤ 127
  | .set, v, .i n => v = .int .u8 n ∧ 0 ≤ n ∧ n ≤ 255
  | .truth, v, .i n => ∃ b : Bool, v = .bool b ∧ n = if b then 1 else 0
  | .text, v, .b l => TB H W v l
  | _, _, _ => False
/-- a part in memory -/
def Dp (W : World) (f : WF) (ty : TypeId) (g j : Nat) (d : WD) : Prop := ∃ v, At H W ty g j v ∧ CD H W f v d
/-- parts beside one another in memory -/
def StA (W : World) (ty : TypeId) (g j : Nat) : Nat → List WF → List WD → Prop
  | _, [], [] => True
  | i, f :: fs, d :: ds => Dp H W f ty g (j + i) d ∧ StA W ty g j (i + 1) fs ds
  | _, _, _ => False
def cell1 (ty : TypeId) (g j : Nat) : TypeId → Nat → Nat → Prop := fun t q i => t = ty ∧ q = g ∧ i = j
def cellN (ty : TypeId) (g j n : Nat) : TypeId → Nat → Nat → Prop := fun t q i => t = ty ∧ q = g ∧ j ≤ i ∧ i < j + n
variable {H}
theorem FrA.refl (A : TypeId → Nat → Nat → Prop) (W : World) : FrA H A W W := ⟨rfl, rfl, rfl, Nat.le_refl _, fun _ _ => rfl, fun _ cs _ h _ => ⟨cs, h, rfl, fun _ _ => rfl⟩⟩
theorem FrA.trans {A B C : TypeId → Nat → Nat → Prop} {a b c : World} (h : FrA H A a b) (k : FrA H B b c) (hA : ∀ t q j, A t q j → C t q j) (hB : ∀ t q j, B t q j → C t q j) : FrA H C a c :=
  ⟨k.os.trans h.os, k.tape.trans h.tape, k.output.trans h.output, Nat.le_trans h.size k.size, fun q hq => (k.old q hq).trans (h.old q hq), fun q cs ty hb hp => by
    obtain ⟨c1, h1, h2, h3⟩ := h.blk q cs ty hb hp
    obtain ⟨c2, k1, k2, k3⟩ := k.blk q c1 ty h1 hp
    exact ⟨c2, k1, k2.trans h2, fun j hj => (k3 j (hj.imp id fun hn h => hn ⟨h.1, hB _ _ _ h.2⟩)).trans (h3 j (hj.imp id fun hn h => hn ⟨h.1, hA _ _ _ h.2⟩))⟩⟩
theorem FrA.mono {A C : TypeId → Nat → Nat → Prop} {a b : World} (h : FrA H A a b) (hA : ∀ t q j, A t q j → C t q j) : FrA H C a b := h.trans (FrA.refl C b) hA (fun _ _ _ h => h)
theorem FrA.below {A : TypeId → Nat → Nat → Prop} {a b : World} (h : FrA H A a b) : Below H.lo a b := ⟨h.os, h.tape, h.output, h.size, h.old⟩
theorem At.cell {W : World} {ty : TypeId} {g j : Nat} {v : Value} (h : At H W ty g j v) : W.cell? ⟨g, j, none⟩ = some v := by
  rcases h with ⟨_, _, h, _⟩ | ⟨cs, h, _, _, k⟩
  · exact h
  · rw [cell_at h]; exact k
theorem At.free {W : World} {ty : TypeId} {g j : Nat} {v : Value} (h : At H W ty g j v) : W.frozen? ⟨g, j, none⟩ = false := by
  rcases h with ⟨_, _, _, h⟩ | ⟨cs, h, _⟩
  · exact h
  · exact free_at h j
theorem setCell_same (W : World) (g j : Nat) (v : Value) (h : W.cell? ⟨g, j, none⟩ = some v) (q : Nat) : (W.setCell ⟨g, j, none⟩ v).heap[q]? = W.heap[q]? := by
  unfold World.setCell
  simp only [Array.getElem?_modify]
  by_cases hq : g = q
  · subst hq
    rw [if_pos rfl]
    unfold World.cell? at h
    simp only at h
    rcases hb : W.heap[g]? with _ | o
    · rfl
    · rw [hb] at h
      cases o with
      | cells c e f =>
        simp only [Option.isSome_none, Bool.false_eq_true, if_false] at h ⊢
        obtain ⟨h1, h2⟩ := Array.getElem?_eq_some_iff.1 h
        have : c.setIfInBounds j v = c := by
          apply Array.ext_getElem?
          intro i
          rw [Array.getElem?_setIfInBounds]
          split
          · rename_i e
            subst e
            exact h.symm
          · rfl
        simp [this]
      | _ => cases h
  · rw [if_neg hq]
/-- a store where a hand lets it be -/
theorem At.store {W : World} {ty : TypeId} {g j : Nat} {v v' : Value} (h : At H W ty g j v) (hs : ¬ H.rd → v' = v) (hlo : ∀ g ty, H.rd → H.Pr g ty → H.lo ≤ g) : FrA H (cell1 ty g j) W (W.setCell ⟨g, j, none⟩ v') ∧ At H (W.setCell ⟨g, j, none⟩ v') ty g j v' := by
  by_cases hr : H.rd
  · rcases h with ⟨h1, _⟩ | ⟨cs, h1, h2, h3, h4⟩
    · exact absurd hr h1
    · have hb := h1.set j v'
      have hj := (Array.getElem?_eq_some_iff.1 h4).1
      have hf : Fr [g] W (W.setCell ⟨g, j, none⟩ v') := (Fr.refl _ _).setCell _ (.inl (by simp)) _
      have hl := hlo g ty hr h2
      refine ⟨⟨hf.os, hf.tape, hf.output, hf.size, fun q hq => ?_, fun q c2 t2 hb2 hp2 => ?_⟩, .inr ⟨_, hb, h2, h3, by simp [hj]⟩⟩
      · exact heap_setCell_ne W ⟨g, j, none⟩ v' q (fun e => by dsimp only at e; omega)
      · by_cases hq : q = g
        · subst hq
          have := hb2.symm.trans h1
          injection this with e'
          injection e' with e1 e2
          subst e1 e2
          refine ⟨_, hb, by simp, fun i hi => ?_⟩
          rw [Array.getElem?_setIfInBounds]
          split
          · rename_i e
            subst e
            rcases hi with hi | hi
            · exact absurd hi h3
            · exact absurd ⟨hr, rfl, rfl, rfl⟩ hi
          · rfl
        · exact ⟨c2, (hf.block q hb2.lt (by simpa using hq)).trans hb2, rfl, fun _ _ => rfl⟩
  · obtain rfl := hs hr
    have he := setCell_same W g j v' h.cell
    have hsz : (W.setCell ⟨g, j, none⟩ v').heap.size = W.heap.size := by simp
    refine ⟨⟨rfl, rfl, rfl, by rw [hsz]; exact Nat.le_refl _, fun q _ => he q, fun q cs ty hb _ => ⟨cs, (he q).trans hb, rfl, fun _ _ => rfl⟩⟩, ?_⟩
    rcases h with ⟨h1, h2, h3, h4⟩ | ⟨cs, h1, h2, h3, h4⟩
    · refine .inl ⟨h1, h2, ?_, ?_⟩
      · unfold World.cell? at h3 ⊢; rw [he]; exact h3
      · unfold World.frozen? at h4 ⊢; rw [he]; exact h4
    · exact .inr ⟨cs, (he g).trans h1, h2, h3, h4⟩
theorem At.fr {A : TypeId → Nat → Nat → Prop} {W W' : World} {ty : TypeId} {g j : Nat} {v : Value} (h : At H W ty g j v) (hf : FrA H A W W') (hA : ¬ A ty g j) : At H W' ty g j v := by
  rcases h with ⟨h0, h1, h2, h3⟩ | ⟨cs, h1, h2, h3, h4⟩
  · exact .inl ⟨h0, h1, (hf.below.cell (p := ⟨g, j, none⟩) h1).trans h2, (hf.below.frozen (p := ⟨g, j, none⟩) h1).trans h3⟩
  · obtain ⟨c1, k1, _, k3⟩ := hf.blk g cs ty h1 h2
    exact .inr ⟨c1, k1, h2, h3, (k3 j (.inr fun h => hA h.2)).trans h4⟩
theorem blk_u8 {A : TypeId → Nat → Nat → Prop} {W W' : World} {g : Nat} {cs : Array Value} (h : Blk W g cs 5) (hp : H.Pr g 5) (hf : FrA H A W W') : Blk W' g cs 5 := by
  obtain ⟨c1, k1, k2, k3⟩ := hf.blk g cs _ h hp
  have : c1 = cs := by
    apply Array.ext' 
    apply List.ext_getElem?
    intro j
    rw [Array.getElem?_toList, Array.getElem?_toList]
    exact k3 j (.inl rfl)
  rwa [this] at k1
theorem TB.fr {A : TypeId → Nat → Nat → Prop} {W W' : World} {v : Value} {l : List Nat} (h : TB H W v l) (hf : FrA H A W W') : TB H W' v l := by
  obtain ⟨a, b, o, c, e, h1, h2⟩ := h
  have hb : 0 < l.length → W'.heap[b]? = W.heap[b]? := fun h0 => by
    rcases h2 h0 with k | ⟨cs, k1, k2⟩
    · exact hf.old b k
    · exact (blk_u8 k1 k2 hf).trans k1.symm
  refine ⟨a, b, o, c, e, ⟨h1.le, h1.max, fun h0 => ⟨(h1.at_ h0).1, Nat.lt_of_lt_of_le (h1.at_ h0).2 hf.size⟩, fun k hk => ?_, h1.bd⟩, fun h0 => ?_⟩
  · have := h1.cell k hk
    unfold World.cell? at this ⊢
    rw [hb (by omega)]
    exact this
  · rcases h2 h0 with k | ⟨cs, k1, k2⟩
    · exact .inl k
    · exact .inr ⟨cs, blk_u8 k1 k2 hf, k2⟩
theorem CD.fr {A : TypeId → Nat → Nat → Prop} {W W' : World} {f : WF} {v : Value} {d : WD} (h : CD H W f v d) (hf : FrA H A W W') : CD H W' f v d := by
  cases f <;> cases d <;> first | exact h | exact TB.fr h hf
theorem Dp.fr {A : TypeId → Nat → Nat → Prop} {W W' : World} {f : WF} {ty : TypeId} {g j : Nat} {d : WD} (h : Dp H W f ty g j d) (hf : FrA H A W W') (hA : ¬ A ty g j) : Dp H W' f ty g j d := by
  obtain ⟨v, h1, h2⟩ := h
  exact ⟨v, h1.fr hf hA, h2.fr hf⟩
theorem StA.fr {A : TypeId → Nat → Nat → Prop} {W W' : World} {ty : TypeId} {g j : Nat} (hf : FrA H A W W') : ∀ {i : Nat} {fs : List WF} {ds : List WD}, StA H W ty g j i fs ds → (∀ k, i ≤ k → k < i + fs.length → ¬ A ty g (j + k)) → StA H W' ty g j i fs ds
  | _, [], [], _, _ => trivial
  | _, [], _ :: _, h, _ => h.elim
  | _, _ :: _, [], h, _ => h.elim
  | i, f :: fs, d :: ds, h, hA => ⟨h.1.fr hf (hA i (Nat.le_refl _) (by simp)), StA.fr hf h.2 fun k h1 h2 => hA k (by omega) (by simp at h2 ⊢; omega)⟩
theorem StA.len {W : World} {ty : TypeId} {g j : Nat} : ∀ {i : Nat} {fs : List WF} {ds : List WD}, StA H W ty g j i fs ds → ds.length = fs.length
  | _, [], [], _ => rfl
  | _, [], _ :: _, h => h.elim
  | _, _ :: _, [], h => h.elim
  | _, _ :: _, _ :: _, h => by simp [h.2.len]
variable (H)
/-- what several parts make, one behind the other -/
def runG {F D : Type} (st : F → S → D → Except Nat (S × D)) : List F → S → List D → Except Nat (S × List D)
  | f :: fs, s, d :: ds => match st f s d with
    | .error a => .error a
    | .ok (s1, d1) => match runG st fs s1 ds with
      | .error a => .error a
      | .ok (s2, ds2) => .ok (s2, d1 :: ds2)
  | _, s, _ => .ok (s, [])
def PreG {F D : Type} (pre : F → S → D → Prop) (st : F → S → D → Except Nat (S × D)) : List F → S → List D → Prop
  | f :: fs, s, d :: ds => pre f s d ∧ ∀ s1 d1, st f s d = .ok (s1, d1) → PreG pre st fs s1 ds
  | _, _, _ => True
def runFs (fs : List WF) (s : S) (ds : List WD) : Except Nat (S × List WD) := runG H.step fs s ds
def PreFs (fs : List WF) (s : S) (ds : List WD) : Prop := PreG H.pre H.step fs s ds
theorem runFs_err {f : WF} {fs : List WF} {s : S} {d : WD} {ds : List WD} {a : Nat} (h : H.step f s d = .error a) : runFs H (f :: fs) s (d :: ds) = .error a := by
  unfold runFs runG
  rw [h]
theorem runFs_ok {f : WF} {fs : List WF} {s s1 : S} {d d1 : WD} {ds : List WD} (h : H.step f s d = .ok (s1, d1)) : runFs H (f :: fs) s (d :: ds) = match runFs H fs s1 ds with
    | .error a => .error a
    | .ok (s2, ds2) => .ok (s2, d1 :: ds2) := by
  unfold runFs
  rw [runG, h]
  rcases hq : runG H.step fs s1 ds with a | ⟨s2, l⟩ <;> simp only [hq]
/-- so far: what is left, what is done -/
structure RunI {F D : Type} (pre : F → S → D → Prop) (st : F → S → D → Except Nat (S × D)) (fs : List F) (s : S) (ds : List D) (rest : List F) (s' : S) (dr dn : List D) : Prop where
  pre : PreG pre st rest s' dr
  run : runG st fs s ds = match runG st rest s' dr with
    | .error a => .error a
    | .ok (s2, l) => .ok (s2, dn ++ l)
section
variable {F D : Type} {pr : F → S → D → Prop} {st : F → S → D → Except Nat (S × D)} {fs : List F} {s : S} {ds : List D}
theorem runG_app : ∀ {f1 f2 : List F} {s : S} {d1 d2 : List D}, d1.length = f1.length → runG st (f1 ++ f2) s (d1 ++ d2) = match runG st f1 s d1 with
    | .error a => .error a
    | .ok (s1, l1) => match runG st f2 s1 d2 with
      | .error a => .error a
      | .ok (s2, l2) => .ok (s2, l1 ++ l2)
  | [], f2, s, [], d2, _ => by
    show runG st f2 s d2 = match runG st f2 s d2 with | .error a => .error a | .ok (s2, l2) => .ok (s2, [] ++ l2)
    cases runG st f2 s d2 <;> rfl
  | f :: f1, f2, s, d :: d1, d2, h => by
    simp only [List.cons_append, runG]
    rcases h1 : st f s d with a | ⟨s1, x⟩
    · rfl
    · simp only
      rw [runG_app (f1 := f1) (f2 := f2) (s := s1) (d1 := d1) (d2 := d2) (by simpa using h)]
      rcases h2 : runG st f1 s1 d1 with a | ⟨s2, l1⟩
      · rfl
      · simp only
        rcases h3 : runG st f2 s2 d2 with a | ⟨s3, l2⟩ <;> rfl
  | [], _, _, _ :: _, _, h => by simp at h
  | _ :: _, _, _, [], _, h => by simp at h
theorem preG_app : ∀ {f1 f2 : List F} {s : S} {d1 d2 : List D}, d1.length = f1.length → PreG pr st (f1 ++ f2) s (d1 ++ d2) → PreG pr st f1 s d1 ∧ ∀ s1 l1, runG st f1 s d1 = .ok (s1, l1) → PreG pr st f2 s1 d2
  | [], f2, s, [], d2, _, h => ⟨trivial, fun s1 l1 e => by
    have e' : (Except.ok (s, []) : Except Nat (S × List D)) = .ok (s1, l1) := e
    injection e' with e'
    injection e' with e1 e2
    subst e1
    exact h⟩
  | f :: f1, f2, s, d :: d1, d2, hl, h => by
    have ih := fun s1 x hx => preG_app (f1 := f1) (f2 := f2) (s := s1) (d1 := d1) (d2 := d2) (by simpa using hl) (h.2 s1 x hx)
    refine ⟨⟨h.1, fun s1 x hx => (ih s1 x hx).1⟩, fun s2 l2 e => ?_⟩
    rw [runG] at e
    rcases h1 : st f s d with a | ⟨s1, x⟩
    · rw [h1] at e; cases e
    · rw [h1] at e
      simp only at e
      rcases h2 : runG st f1 s1 d1 with a | ⟨s3, l3⟩
      · rw [h2] at e; cases e
      · rw [h2] at e
        injection e with e
        injection e with e1 e2
        subst e1
        exact (ih s1 x h1).2 _ _ h2
  | [], _, _, _ :: _, _, h, _ => by simp at h
  | _ :: _, _, _, [], _, h, _ => by simp at h
theorem RunI.init (h : PreG pr st fs s ds) : RunI pr st fs s ds fs s ds [] := ⟨h, by rcases runG st fs s ds with a | ⟨s1, l⟩ <;> rfl⟩
theorem RunI.fst {f1 f2 : List F} {s' : S} {d1 d2 dn : List D} (h : RunI pr st fs s ds (f1 ++ f2) s' (d1 ++ d2) dn) (hl : d1.length = f1.length) : PreG pr st f1 s' d1 := (preG_app hl h.pre).1
theorem RunI.err {f1 f2 : List F} {s' : S} {d1 d2 dn : List D} (h : RunI pr st fs s ds (f1 ++ f2) s' (d1 ++ d2) dn) (hl : d1.length = f1.length) {a : Nat} (e : runG st f1 s' d1 = .error a) : runG st fs s ds = .error a := by
  rw [h.run, runG_app hl, e]
theorem RunI.ok {f1 f2 : List F} {s' s2 : S} {d1 d2 dn l : List D} (h : RunI pr st fs s ds (f1 ++ f2) s' (d1 ++ d2) dn) (hl : d1.length = f1.length) (e : runG st f1 s' d1 = .ok (s2, l)) : RunI pr st fs s ds f2 s2 d2 (dn ++ l) :=
  ⟨(preG_app hl h.pre).2 _ _ e, by
    rw [h.run, runG_app hl, e]
    simp only
    rcases runG st f2 s2 d2 with a | ⟨s3, l3⟩
    · rfl
    · simp⟩
theorem RunI.done {s' : S} {dn : List D} (h : RunI pr st fs s ds [] s' [] dn) : runG st fs s ds = .ok (s', dn) := by
  rw [h.run]
  show Except.ok (s', dn ++ []) = _
  rw [List.append_nil]
end
def refV (a : Nat) : Value := .iface 144 (.agg #[.int .i64 (a : Nat)])
/-- how a part ends: all but A stays; it is done, or it leaves by a refusal -/
def EndS {α : Type} (A : TypeId → Nat → Nat → Prop) (W : World) (r : Except Nat α) (K : α → World → Prop) (e : Ending) (W' : World) : Prop :=
  FrA H A W W' ∧ match r with
    | .ok x => e = .returned (.tuple #[]) ∧ K x W'
    | .error a => e = .panicked [{ v := refV a, recovered := false }]
def StepC (f : WF) (k : FuncId) : Prop := ∀ (W : World) (s : S) (ty : TypeId) (g j : Nat) (d : WD), H.In W s → Dp H W f ty g j d → H.pre f s d →
  Calls Tryd.prog k #[H.bnd, .pointer (some ⟨g, j, none⟩)] W (EndS H (cell1 ty g j) W (H.step f s d) fun x W' => H.In W' x.1 ∧ Dp H W' f ty g j x.2)
def CntC (k : FuncId) : Prop := ∀ (W : World) (s : S) (n least : Nat), H.In W s → H.cpre s n least →
  Calls Tryd.prog k #[H.bnd, .int .i64 (n : Nat), .int .i64 (least : Nat)] W fun e W' => FrA H (fun _ _ _ => False) W W' ∧ match H.cnt s n least with
    | .ok x => e = .returned (.int .i64 (x.2 : Nat)) ∧ H.In W' x.1
    | .error a => e = .panicked [{ v := refV a, recovered := false }]
/-- what the program's own steps between a hand's may change -/
structure FrN (lo : Nat) (W W' : World) : Prop where
  os : W'.os = W.os
  tape : W'.tape = W.tape
  output : W'.output = W.output
  size : W.heap.size ≤ W'.heap.size
  old : ∀ q, q < lo → W'.heap[q]? = W.heap[q]?
  blk : ∀ q cs ty, Blk W q cs ty → (ty = 5 ∨ ty = 148 ∨ ty = 156) → Blk W' q cs ty
structure HandC : Prop where
  e0 : EntK H.k0
  e1 : EntK H.k1
  e2 : EntK H.k2
  e3 : EntK H.k3
  e4 : EntK H.k4
  e5 : EntK H.k5
  num : StepC H .num H.k0
  small : StepC H .small H.k1
  set : StepC H .set H.k2
  truth : StepC H .truth H.k3
  text : StepC H .text H.k4
  count : CntC H H.k5
  fr : ∀ W W' s, H.In W s → FrN H.lo W W' → H.In W' s
  new : ∀ W s q ty, H.In W s → W.heap.size ≤ q → ty ≠ 5 → H.Pr q ty
  lo : ∀ W s, H.In W s → H.lo ≤ W.heap.size
  same : ¬ H.rd → ∀ f s d s' d', H.step f s d = .ok (s', d') → d' = d
  old : ∀ g ty, H.rd → H.Pr g ty → H.lo ≤ g
def OkT (ty : TypeId) : Prop := ty ≠ 85 ∧ ty ≠ 150 ∧ ty ≠ 3 ∧ ty ≠ 148 ∧ ty ≠ 156
end Go.Proofs.YtiednacpmlilbaaDoor
