/-
  Forms of one level by pen and by eye: what they write and find, as data.
-/
import Derived.Test.YtiednacpmlilbaaDoorWp4
import Derived.Test.YtiednacpmlilbaaDoorWe5
namespace Go.Proofs.YtiednacpmlilbaaDoor
open Go.RowKit
set_option linter.unusedSimpArgs false
set_option linter.unusedVariables false

theorem pen_run (p : Nat) : ∀ {fs : List WF} {s : List Nat} {ds : List WD}, ds.length = fs.length → runFs (penS p) fs s ds = .ok (s ++ encFs fs ds, ds)
  | [], s, [], _ => by simp [encFs]; rfl
  | f :: fs, s, d :: ds, h => by
    rw [runFs_ok (penS p) (show (penS p).step f s d = .ok (s ++ encF f d, d) from rfl), pen_run p (fs := fs) (by simpa using h)]
    simp [encFs]
  | [], _, _ :: _, h => by simp at h
  | _ :: _, _, [], h => by simp at h
theorem pen_pre (p : Nat) : ∀ {fs : List WF} {s : List Nat} {ds : List WD}, okFs fs ds → s.length + (encFs fs ds).length ≤ 1000000000 → PreFs (penS p) fs s ds
  | [], s, [], _, _ => trivial
  | f :: fs, s, d :: ds, h, hl => by
    rw [encFs, List.length_append] at hl
    refine ⟨⟨h.1, by omega⟩, fun s1 d1 e => ?_⟩
    have e' : (Except.ok (s ++ encF f d, d) : Except Nat (List Nat × WD)) = .ok (s1, d1) := e
    injection e' with e'
    injection e' with e1 e2
    subst e1
    exact pen_pre p (fs := fs) h.2 (by rw [List.length_append]; omega)
  | [], _, _ :: _, h, _ => h.elim
  | _ :: _, _, [], h, _ => h.elim
theorem okFs_len : ∀ {fs : List WF} {ds : List WD}, okFs fs ds → ds.length = fs.length
  | [], [], _ => rfl
  | f :: fs, d :: ds, h => by simp [okFs_len h.2]
  | [], _ :: _, h => h.elim
  | _ :: _, [], h => h.elim
def swE {α β : Type} : Except Nat (α × β) → Except Nat (β × α)
  | .error a => .error a
  | .ok (x, y) => .ok (y, x)
theorem eye_run (y lo : Nat) (bs : List Nat) : ∀ {fs : List WF} {s : Nat} {ds : List WD}, ds.length = fs.length → runFs (eyeS y lo bs) fs s ds = swE (decFs bs s fs)
  | [], s, [], _ => rfl
  | f :: fs, s, d :: ds, h => by
    rcases h1 : decF bs s f with a | ⟨x, s2⟩
    · rw [runFs_err (eyeS y lo bs) (show (eyeS y lo bs).step f s d = .error a by show (match decF bs s f with | .error a => Except.error a | .ok (x, s2) => .ok (s2, x)) = _; rw [h1])]
      rw [decFs, h1]
      rfl
    · rw [runFs_ok (eyeS y lo bs) (show (eyeS y lo bs).step f s d = .ok (s2, x) by show (match decF bs s f with | .error a => Except.error a | .ok (x, s2) => .ok (s2, x)) = _; rw [h1]), eye_run y lo bs (fs := fs) (s := s2) (ds := ds) (by simpa using h)]
      rw [decFs, h1]
      simp only
      rcases h2 : decFs bs s2 fs with a | ⟨xs, s3⟩ <;> rfl
  | [], _, _ :: _, h => by simp at h
  | _ :: _, _, [], h => by simp at h
theorem eye_pre (y lo : Nat) (bs : List Nat) : ∀ {fs : List WF} {s : Nat}, PreFs (eyeS y lo bs) fs s (zeroL fs)
  | [], s => trivial
  | f :: fs, s => ⟨fun h => by subst h; rfl, fun s1 d1 _ => eye_pre y lo bs (fs := fs)⟩
def readFs (fs : List WF) (bs : List Nat) : Except Nat (List WD) := match decFs bs 0 fs with
  | .error a => .error a
  | .ok (xs, s) => if s < bs.length then .error s else .ok xs
/-- values that stand for data -/
def CDs (H : Value → WF → WD → Prop) : List Value → List WF → List WD → Prop
  | [], [], [] => True
  | v :: vs, f :: fs, d :: ds => H v f d ∧ CDs H vs fs ds
  | _, _, _ => False
theorem cd_one {S : Type} {H : HS S} {W : World} {f : WF} {v : Value} {d : WD} (h : CD H W f v d) : v.oneCell' = true := by
  cases f <;> cases d <;> first | exact h.elim | skip
  · obtain ⟨rfl, _⟩ := h; rfl
  · obtain ⟨rfl, _⟩ := h; rfl
  · obtain ⟨rfl, _⟩ := h; rfl
  · obtain ⟨b, rfl, _⟩ := h; rfl
  · obtain ⟨a, b, o, c, rfl, _⟩ := h; rfl
theorem sta_at {S : Type} {H : HS S} {W : World} {ty : TypeId} {g j : Nat} : ∀ {i : Nat} {fs : List WF} {ds : List WD}, StA H W ty g j i fs ds → ∀ (k : Nat), k < fs.length → ∃ f d, fs[k]? = some f ∧ ds[k]? = some d ∧ Dp H W f ty g (j + (i + k)) d
  | _, [], _, _, k, hk => by simp at hk
  | _, _ :: _, [], h, _, _ => h.elim
  | i, f :: fs, d :: ds, h, 0, _ => ⟨f, d, rfl, rfl, h.1⟩
  | i, f :: fs, d :: ds, h, k + 1, hk => by
    obtain ⟨f', d', h1, h2, h3⟩ := sta_at (i := i + 1) h.2 k (by simpa using hk)
    exact ⟨f', d', h1, h2, by rwa [show i + 1 + k = i + (k + 1) by omega] at h3⟩
theorem eye_cells {y lo : Nat} {bs : List Nat} {W : World} {ty : TypeId} {X : Nat} {fs : List WF} {ds : List WD} {cs : Array Value} (h : StA (eyeS y lo bs) W ty X 0 0 fs ds) (hb : Blk W X cs ty) : ∀ (i : Nat) u, i < fs.length → cs[i]? = some u → ∃ f d, fs[i]? = some f ∧ ds[i]? = some d ∧ CD (eyeS y lo bs) W f u d := by
  intro i u hi hu
  obtain ⟨f, d, h1, h2, v, h3, h4⟩ := sta_at h i hi
  obtain ⟨cs', k1, _, _, k4⟩ := eye_at h3
  have := hb.symm.trans k1
  injection this with this
  injection this with e1 e2
  subst e1
  rw [Nat.zero_add, Nat.zero_add, hu] at k4
  obtain rfl := Option.some.inj k4
  exact ⟨f, d, h1, h2, h4⟩
/-- a part's value, of memory alone -/
def VD (W : World) : WF → Value → WD → Prop
  | .num, v, .i n => v = .int .i64 n ∧ -9223372036854775808 ≤ n ∧ n ≤ 9223372036854775807
  | .small, v, .i n => v = .int .i8 n ∧ -128 ≤ n ∧ n ≤ 127
  | .set, v, .i n => v = .int .u8 n ∧ 0 ≤ n ∧ n ≤ 255
  | .truth, v, .i n => ∃ b : Bool, v = .bool b ∧ n = if b then 1 else 0
  | .text, v, .b l => BV W v l
  | _, _, _ => False
theorem VD.below {W W' : World} {f : WF} {v : Value} {d : WD} (h : VD W f v d) (hB : Below W.heap.size W W') : VD W' f v d := by
  cases f <;> cases d <;> first | exact h | exact BV.below h hB
theorem VD.ok {W : World} {f : WF} {v : Value} {d : WD} (h : VD W f v d) : d.ok f := by
  cases f <;> cases d <;> first | exact h.elim | exact h.2 | skip
  · obtain ⟨b, _, rfl⟩ := h; cases b <;> simp [WD.ok]
  · have ho := BV.ok h
    obtain ⟨a, b, o, c, rfl, h1⟩ := h
    exact ⟨by have := h1.le; have := h1.max; unfold maxLen at this; omega, ho⟩
theorem vd_pen {p : Nat} {W W2 : World} {f : WF} {v : Value} {d : WD} (h : VD W f v d) (hB : Below W.heap.size W W2) (hp : W.heap.size ≤ p) : CD (penS p) W2 f v d := by
  cases f <;> cases d <;> first | exact h | skip
  obtain ⟨a, b, o, c, rfl, h1⟩ := h
  exact ⟨a, b, o, c, rfl, h1.below hB, fun h0 => .inl (show b < p by have := (h1.at_ h0).2; omega)⟩
theorem cd_vd {S : Type} {H : HS S} {W : World} {f : WF} {v : Value} {d : WD} (h : CD H W f v d) : VD W f v d := by
  cases f <;> cases d <;> first | exact h | skip
  obtain ⟨a, b, o, c, rfl, h1, _⟩ := h
  exact ⟨a, b, o, c, rfl, h1⟩
def VDs (W : World) (cs : Array Value) (fs : List WF) (ds : List WD) : Prop := ds.length = fs.length ∧ ∀ (i : Nat) f d, fs[i]? = some f → ds[i]? = some d → ∃ v, cs[i]? = some v ∧ VD W f v d
theorem VDs.below {W W' : World} {cs : Array Value} {fs : List WF} {ds : List WD} (h : VDs W cs fs ds) (hB : Below W.heap.size W W') : VDs W' cs fs ds := ⟨h.1, fun i f d h1 h2 => by
  obtain ⟨v, h3, h4⟩ := h.2 i f d h1 h2
  exact ⟨v, h3, h4.below hB⟩⟩
theorem VDs.ok {W : World} {cs : Array Value} : ∀ {fs : List WF} {ds : List WD} {k : Nat}, ds.length = fs.length → (∀ (i : Nat) f d, fs[i]? = some f → ds[i]? = some d → ∃ v, cs[k + i]? = some v ∧ VD W f v d) → okFs fs ds
  | [], [], _, _, _ => trivial
  | f :: fs, d :: ds, k, hl, h => ⟨by obtain ⟨v, _, h2⟩ := h 0 f d rfl rfl; exact h2.ok, VDs.ok (k := k + 1) (by simpa using hl) fun i f' d' h1 h2 => by
    obtain ⟨v, h3, h4⟩ := h (i + 1) f' d' h1 h2
    exact ⟨v, by rwa [show k + (i + 1) = k + 1 + i by omega] at h3, h4⟩⟩
  | [], _ :: _, _, hl, _ => by simp at hl
  | _ :: _, [], _, hl, _ => by simp at hl
theorem VDs.okF {W : World} {cs : Array Value} {fs : List WF} {ds : List WD} (h : VDs W cs fs ds) : okFs fs ds := VDs.ok (k := 0) h.1 fun i f d h1 h2 => by rw [Nat.zero_add]; exact h.2 i f d h1 h2
theorem sta_pen {p g : Nat} {W W2 : World} {ty : TypeId} {cs : Array Value} (hb : Blk W2 g cs ty) (hg : g < p) (hB : Below W.heap.size W W2) (hp : W.heap.size ≤ p) : ∀ {fs : List WF} {ds : List WD} {k : Nat}, ds.length = fs.length → (∀ (i : Nat) f d, fs[i]? = some f → ds[i]? = some d → ∃ v, cs[k + i]? = some v ∧ VD W f v d) → StA (penS p) W2 ty g 0 k fs ds
  | [], [], _, _, _ => trivial
  | f :: fs, d :: ds, k, hl, h => ⟨by
    obtain ⟨v, h1, h2⟩ := h 0 f d rfl rfl
    exact ⟨v, .inl ⟨fun h => h, hg, by rw [cell_at hb, Nat.zero_add]; exact h1, free_at hb _⟩, vd_pen h2 hB hp⟩, sta_pen hb hg hB hp (k := k + 1) (by simpa using hl) fun i f' d' h1 h2 => by
    obtain ⟨v, h3, h4⟩ := h (i + 1) f' d' h1 h2
    exact ⟨v, by rwa [show k + (i + 1) = k + 1 + i by omega] at h3, h4⟩⟩
  | [], _ :: _, _, hl, _ => by simp at hl
  | _ :: _, [], _, hl, _ => by simp at hl
end Go.Proofs.YtiednacpmlilbaaDoor
