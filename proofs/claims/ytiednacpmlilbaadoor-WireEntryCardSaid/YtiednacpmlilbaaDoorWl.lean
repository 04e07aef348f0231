/-
  Lists by a hand: what their walks want.
-/
import Derived.Test.YtiednacpmlilbaaDoorWo
import Derived.Test.YtiednacpmlilbaaDoorWfa
namespace Go.Proofs.YtiednacpmlilbaaDoor
open Go.RowKit
set_option linter.unusedSimpArgs false
set_option linter.unusedVariables false

variable {S : Type}
theorem FrA.trans2 {H : HS S} {A B C : TypeId → Nat → Nat → Prop} {a b c : World} (h : FrA H A a b) (k : FrA H B b c) (hA : ∀ t q j, A t q j → C t q j) (hB : H.rd → ∀ t q j, q < a.heap.size → B t q j → C t q j) : FrA H C a c :=
  ⟨k.os.trans h.os, k.tape.trans h.tape, k.output.trans h.output, Nat.le_trans h.size k.size, fun q hq => (k.old q hq).trans (h.old q hq), fun q cs ty hb hp => by
    obtain ⟨c1, h1, h2, h3⟩ := h.blk q cs ty hb hp
    obtain ⟨c2, k1, k2, k3⟩ := k.blk q c1 ty h1 hp
    exact ⟨c2, k1, k2.trans h2, fun j hj => (k3 j (hj.imp id fun hn h => hn ⟨h.1, hB h.1 _ _ _ hb.lt h.2⟩)).trans (h3 j (hj.imp id fun hn h => hn ⟨h.1, hA _ _ _ h.2⟩))⟩⟩
def zeroD : WF → WD
  | .text => .b []
  | _ => .i 0
def zeroV : WF → Value
  | .num => .int .i64 0
  | .small => .int .i8 0
  | .set => .int .u8 0
  | .truth => .bool false
  | .text => .slice none 0 0
def zeroL (fs : List WF) : List WD := fs.map zeroD
theorem cd_zero (H : HS S) (W : World) (f : WF) : CD H W f (zeroV f) (zeroD f) := by
  cases f
  · exact ⟨rfl, by decide, by decide⟩
  · exact ⟨rfl, by decide, by decide⟩
  · exact ⟨rfl, by decide, by decide⟩
  · exact ⟨false, rfl, rfl⟩
  · exact ⟨none, 0, 0, 0, rfl, ⟨Nat.le_refl _, Nat.zero_le _, fun h => absurd h (by simp), fun k hk => absurd hk (by simp), fun k => by simp [gB]⟩, fun h => absurd h (by simp)⟩
theorem sta_zero {H : HS S} {W : World} {te : TypeId} {b base : Nat} {cs : Array Value} (hb : Blk W b cs te) (hp : H.Pr b te) (ht : te ≠ 5) : ∀ {fs : List WF} {i : Nat}, (∀ (k : Nat) f, fs[k]? = some f → cs[base + (i + k)]? = some (zeroV f)) → StA H W te b base i fs (zeroL fs)
  | [], _, _ => trivial
  | f :: fs, i, h => ⟨⟨zeroV f, .inr ⟨cs, hb, hp, ht, h 0 f rfl⟩, cd_zero H W f⟩, sta_zero hb hp ht (fs := fs) (i := i + 1) fun k g hg => by
    have := h (k + 1) g hg
    rwa [show i + (k + 1) = i + 1 + k by omega] at this⟩
/-- things in rows -/
def Els (H : HS S) (W : World) (te : TypeId) (b o : Nat) (fs : List WF) (dss : List (List WD)) : Prop := ∀ (k : Nat) ds, dss[k]? = some ds → StA H W te b (o + k * fs.length) 0 fs ds
theorem made_at {z : Array Value} {n k i : Nat} (hk : k < n) (hi : i < z.size) : (madeCells z (n * z.size))[0 + k * z.size + i]? = some z[i] := by
  have h1 : 0 + k * z.size + i < n * z.size := by
    have : (k + 1) * z.size ≤ n * z.size := Nat.mul_le_mul_right _ hk
    rw [Nat.succ_mul] at this
    omega
  have h2 : (0 + k * z.size + i) % z.size = i := by rw [Nat.zero_add, Nat.add_comm, Nat.add_mul_mod_self_right, Nat.mod_eq_of_lt hi]
  simp only [madeCells, Array.getElem?_map, Array.getElem?_range, if_pos h1, Option.map_some]
  rw [h2]
  simp [hi]
theorem els_made {H : HS S} {W : World} {te : TypeId} {b n : Nat} {z : Array Value} {fs : List WF} (hb : Blk W b (madeCells z (n * z.size)) te) (hp : H.Pr b te) (ht : te ≠ 5) (hz : z.size = fs.length) (hf : ∀ (k : Nat) f, fs[k]? = some f → z[k]? = some (zeroV f)) : Els H W te b 0 fs (List.replicate n (zeroL fs)) := by
  intro k ds hk
  have hkn := (List.getElem?_eq_some_iff.1 hk).1
  rw [List.getElem?_replicate] at hk
  split at hk
  · rename_i hlt
    obtain rfl := Option.some.inj hk
    refine sta_zero hb hp ht fun i f hi => ?_
    have h1 := hf i f hi
    obtain ⟨h2, h3⟩ := Array.getElem?_eq_some_iff.1 h1
    rw [Nat.zero_add i, ← hz, made_at hlt h2, h3]
  · cases hk
def OkE (te : TypeId) (fs : List WF) : Prop := OkT te ∨ fs = [.num]
def DtL (H : HS S) (W : World) (fs : List WF) (ty : TypeId) (g j : Nat) (dss : List (List WD)) : Prop := ∃ te a b o c, At H W ty g j (.slice a dss.length c) ∧ dss.length ≤ c ∧ c ≤ 9223372036854775807 ∧ (0 < dss.length → a = some ⟨b, o, none⟩) ∧ te ≠ ty ∧ te ≠ 5 ∧ te ≠ 85 ∧ OkE te fs ∧ Els H W te b o fs dss
theorem Els.fr {H : HS S} {A : TypeId → Nat → Nat → Prop} {W W' : World} {te : TypeId} {b o : Nat} {fs : List WF} {dss : List (List WD)} (h : Els H W te b o fs dss) (hf : FrA H A W W') (hA : ∀ q i, ¬ A te q i) : Els H W' te b o fs dss :=
  fun k ds hk => (h k ds hk).fr hf fun i _ _ => hA _ _
theorem DtL.fr {H : HS S} {A : TypeId → Nat → Nat → Prop} {W W' : World} {fs : List WF} {ty : TypeId} {g j : Nat} {dss : List (List WD)} (h : DtL H W fs ty g j dss) (hf : FrA H A W W') (hA : ¬ A ty g j) (hA2 : ∀ te q i, te ≠ ty → ¬ A te q i) : DtL H W' fs ty g j dss := by
  obtain ⟨te, a, b, o, c, h1, h2, h3, h4, h5, h6, h7, h8, h9⟩ := h
  exact ⟨te, a, b, o, c, h1.fr hf hA, h2, h3, h4, h5, h6, h7, h8, h9.fr hf (fun q i => hA2 te q i h5)⟩
def DpV (H : HS S) (W : World) (T : WT) (ty : TypeId) (g j : Nat) (v : WV) : Prop := match T, v with
  | .one f, .one d => Dp H W f ty g j d
  | .list fs, .list l => DtL H W fs ty g j l
  | _, _ => False
def runIs (H : HS S) (fs : List WF) (n : Nat) (s : S) (l : List (List WD)) : Except Nat (S × List (List WD)) := runG (fun (_ : Unit) s d => runFs H fs s d) (List.replicate n ()) s l
def PreIs (H : HS S) (fs : List WF) (n : Nat) (s : S) (l : List (List WD)) : Prop := PreG (fun (_ : Unit) s d => PreFs H fs s d) (fun (_ : Unit) s d => runFs H fs s d) (List.replicate n ()) s l
def asN (n : Nat) (fs : List WF) (l : List (List WD)) : List (List WD) := if n = l.length then l else List.replicate n (zeroL fs)
def stepV (H : HS S) (T : WT) (s : S) (v : WV) : Except Nat (S × WV) := match T, v with
  | .one f, .one d => match H.step f s d with
    | .error a => .error a
    | .ok (s1, x) => .ok (s1, .one x)
  | .list fs, .list l => match H.cnt s l.length (minL fs) with
    | .error a => .error a
    | .ok (s1, n) => match runIs H fs n s1 (asN n fs l) with
      | .error a => .error a
      | .ok (s2, l2) => .ok (s2, .list l2)
  | _, v => .ok (s, v)
def preV (H : HS S) (T : WT) (s : S) (v : WV) : Prop := match T, v with
  | .one f, .one d => H.pre f s d
  | .list fs, .list l => H.cpre s l.length (minL fs) ∧ (H.rd → l = []) ∧ ∀ s1 n, H.cnt s l.length (minL fs) = .ok (s1, n) → n ≤ 1048576 ∧ (¬ H.rd → n = l.length) ∧ PreIs H fs n s1 (asN n fs l)
  | _, _ => True
theorem runG_err {F D : Type} {st : F → S → D → Except Nat (S × D)} {f : F} {fs : List F} {s : S} {d : D} {ds : List D} {a : Nat} (h : st f s d = .error a) : runG st (f :: fs) s (d :: ds) = .error a := by
  unfold runG
  rw [h]
theorem runG_ok {F D : Type} {st : F → S → D → Except Nat (S × D)} {f : F} {fs : List F} {s s1 : S} {d x : D} {ds : List D} (h : st f s d = .ok (s1, x)) : runG st (f :: fs) s (d :: ds) = match runG st fs s1 ds with
    | .error a => .error a
    | .ok (s2, ds2) => .ok (s2, x :: ds2) := by
  rw [runG, h]
  rcases hq : runG st fs s1 ds with a | ⟨s2, l⟩ <;> simp only [hq]
theorem stepV_err {H : HS S} {f : WF} {s : S} {d : WD} {a : Nat} (h : H.step f s d = .error a) : stepV H (.one f) s (.one d) = .error a := by
  unfold stepV
  simp only [h]
theorem stepV_ok {H : HS S} {f : WF} {s s1 : S} {d x : WD} (h : H.step f s d = .ok (s1, x)) : stepV H (.one f) s (.one d) = .ok (s1, .one x) := by
  unfold stepV
  simp only [h]
theorem runV_err {H : HS S} {f : WF} {s : S} {d : WD} {a : Nat} (h : H.step f s d = .error a) : runG (stepV H) [.one f] s [.one d] = .error a := runG_err (stepV_err h)
theorem runV_ok {H : HS S} {f : WF} {s s1 : S} {d x : WD} (h : H.step f s d = .ok (s1, x)) : runG (stepV H) [.one f] s [.one d] = .ok (s1, [.one x]) := by
  rw [runG_ok (stepV_ok h)]
  rfl
theorem runVs_err {H : HS S} : ∀ {fs : List WF} {s : S} {ds : List WD} {a : Nat}, runFs H fs s ds = .error a → runG (stepV H) (ones fs) s (ds.map .one) = .error a
  | [], s, [], a, h => by cases (show (Except.ok (s, []) : Except Nat (S × List WD)) = .error a from h)
  | [], s, _ :: _, a, h => by cases (show (Except.ok (s, []) : Except Nat (S × List WD)) = .error a from h)
  | _ :: _, s, [], a, h => by cases (show (Except.ok (s, []) : Except Nat (S × List WD)) = .error a from h)
  | f :: fs, s, d :: ds, a, h => by
    rcases h1 : H.step f s d with a1 | ⟨s1, x⟩
    · rw [runFs_err H h1] at h
      cases h
      exact runG_err (stepV_err h1)
    · rw [runFs_ok H h1] at h
      rcases h2 : runFs H fs s1 ds with a2 | ⟨s2, l⟩
      · rw [h2] at h
        cases h
        show runG (stepV H) (.one f :: ones fs) s (.one d :: ds.map .one) = _
        rw [runG_ok (stepV_ok h1), runVs_err h2]
      · rw [h2] at h; cases h
theorem runVs_ok {H : HS S} : ∀ {fs : List WF} {s s' : S} {ds xs : List WD}, runFs H fs s ds = .ok (s', xs) → runG (stepV H) (ones fs) s (ds.map .one) = .ok (s', xs.map .one)
  | [], s, s', [], xs, h => by cases (show (Except.ok (s, []) : Except Nat (S × List WD)) = .ok (s', xs) from h); rfl
  | [], s, s', _ :: _, xs, h => by cases (show (Except.ok (s, []) : Except Nat (S × List WD)) = .ok (s', xs) from h); rfl
  | _ :: _, s, s', [], xs, h => by cases (show (Except.ok (s, []) : Except Nat (S × List WD)) = .ok (s', xs) from h); rfl
  | f :: fs, s, s', d :: ds, xs, h => by
    rcases h1 : H.step f s d with a1 | ⟨s1, x⟩
    · rw [runFs_err H h1] at h; cases h
    · rw [runFs_ok H h1] at h
      rcases h2 : runFs H fs s1 ds with a2 | ⟨s2, l⟩
      · rw [h2] at h; cases h
      · rw [h2] at h
        cases h
        show runG (stepV H) (.one f :: ones fs) s (.one d :: ds.map .one) = _
        rw [runG_ok (stepV_ok h1), runVs_ok h2]
        rfl
theorem preV_ones {H : HS S} : ∀ {fs : List WF} {s : S} {ds : List WD}, PreG (preV H) (stepV H) (ones fs) s (ds.map .one) → PreFs H fs s ds
  | [], s, [], _ => trivial
  | [], s, _ :: _, _ => trivial
  | _ :: _, s, [], _ => trivial
  | f :: fs, s, d :: ds, h => ⟨h.1, fun s1 x hx => preV_ones (fs := fs) (s := s1) (ds := ds) (h.2 s1 (.one x) (stepV_ok hx))⟩
def OneC (H : HS S) (kf : FuncId) (b : Value) (fs : List WF) : Prop := ∀ (W : World) (s : S) (te : TypeId) (q j : Nat) (ds : List WD), H.In W s → StA H W te q j 0 fs ds → PreFs H fs s ds → OkE te fs →
  Calls Tryd.prog kf #[b, .pointer (some ⟨q, j, none⟩)] W (EndS H (cellN te q j fs.length) W (runFs H fs s ds) fun x W' => H.In W' x.1 ∧ StA H W' te q j 0 fs x.2)
theorem FormC.one {H : HS S} {k : FuncId} {n : Nat} {fs : List WF} (h : FormC H k n fs) (hn : fs.length = n) (hf : fs ≠ [.num]) : OneC H k H.hv fs := by
  intro W s te q j ds hI hD hP ht
  rw [hn]
  exact h W s te q j ds hI hD hP (ht.resolve_right hf)
theorem num_one {H : HS S} (HC : HandC H) : OneC H H.k0 H.bnd [.num] := by
  intro W s te q j ds hI hD hP ht
  obtain ⟨d, rfl⟩ := len1 hD.len
  refine Calls.mono (HC.num W s te q j d hI hD.1 hP.1) ?_
  rintro e W' ⟨h1, h2⟩
  refine ⟨h1.mono fun t q' i h => ⟨h.1, h.2.1, by have := h.2.2; omega, by have := h.2.2; simp; omega⟩, ?_⟩
  rcases h3 : H.step .num s d with a | ⟨s1, x⟩
  · rw [h3] at h2
    rw [runFs_err H h3]
    exact h2
  · rw [h3] at h2
    rw [runFs_one h3]
    exact ⟨h2.1, h2.2.1, h2.2.2, trivial⟩
def ListC (H : HS S) (k kf : FuncId) (b : Value) (fs : List WF) (t0 : TypeId) : Prop := ∀ (W : World) (s : S) (ty : TypeId) (g j : Nat) (dss : List (List WD)), H.In W s → DtL H W fs ty g j dss → preV H (.list fs) s (.list dss) → OkT ty → t0 ≠ ty →
  Calls Tryd.prog k #[H.hv, .pointer (some ⟨g, j, none⟩), .int .i64 (minL fs : Nat), .func (.func kf) #[b] #[]] W (EndS H (cell1 ty g j) W (stepV H (.list fs) s (.list dss)) fun x W' => H.In W' x.1 ∧ DpV H W' (.list fs) ty g j x.2)
end Go.Proofs.YtiednacpmlilbaaDoor
