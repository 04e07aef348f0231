/-
  Forms by a hand: what their walks want.
-/
import Derived.Test.YtiednacpmlilbaaDoorWn
namespace Go.Proofs.YtiednacpmlilbaaDoor
open Go.RowKit
set_option linter.unusedSimpArgs false
set_option linter.unusedVariables false

variable {S : Type} {H : HS S}
theorem len1 {α : Type} {l : List α} (h : l.length = 1) : ∃ x0, l = [x0] := by
  match l, h with
  | [x0], _ => exact ⟨_, rfl⟩
theorem len2 {α : Type} {l : List α} (h : l.length = 2) : ∃ x0 x1, l = [x0, x1] := by
  match l, h with
  | [x0, x1], _ => exact ⟨_, _, rfl⟩
theorem len3 {α : Type} {l : List α} (h : l.length = 3) : ∃ x0 x1 x2, l = [x0, x1, x2] := by
  match l, h with
  | [x0, x1, x2], _ => exact ⟨_, _, _, rfl⟩
theorem len4 {α : Type} {l : List α} (h : l.length = 4) : ∃ x0 x1 x2 x3, l = [x0, x1, x2, x3] := by
  match l, h with
  | [x0, x1, x2, x3], _ => exact ⟨_, _, _, _, rfl⟩
theorem len5 {α : Type} {l : List α} (h : l.length = 5) : ∃ x0 x1 x2 x3 x4, l = [x0, x1, x2, x3, x4] := by
  match l, h with
  | [x0, x1, x2, x3, x4], _ => exact ⟨_, _, _, _, _, rfl⟩
theorem len6 {α : Type} {l : List α} (h : l.length = 6) : ∃ x0 x1 x2 x3 x4 x5, l = [x0, x1, x2, x3, x4, x5] := by
  match l, h with
  | [x0, x1, x2, x3, x4, x5], _ => exact ⟨_, _, _, _, _, _, rfl⟩
theorem len7 {α : Type} {l : List α} (h : l.length = 7) : ∃ x0 x1 x2 x3 x4 x5 x6, l = [x0, x1, x2, x3, x4, x5, x6] := by
  match l, h with
  | [x0, x1, x2, x3, x4, x5, x6], _ => exact ⟨_, _, _, _, _, _, _, rfl⟩
theorem len8 {α : Type} {l : List α} (h : l.length = 8) : ∃ x0 x1 x2 x3 x4 x5 x6 x7, l = [x0, x1, x2, x3, x4, x5, x6, x7] := by
  match l, h with
  | [x0, x1, x2, x3, x4, x5, x6, x7], _ => exact ⟨_, _, _, _, _, _, _, _, rfl⟩
theorem len10 {α : Type} {l : List α} (h : l.length = 10) : ∃ x0 x1 x2 x3 x4 x5 x6 x7 x8 x9, l = [x0, x1, x2, x3, x4, x5, x6, x7, x8, x9] := by
  match l, h with
  | [x0, x1, x2, x3, x4, x5, x6, x7, x8, x9], _ => exact ⟨_, _, _, _, _, _, _, _, _, _, rfl⟩
theorem len13 {α : Type} {l : List α} (h : l.length = 13) : ∃ x0 x1 x2 x3 x4 x5 x6 x7 x8 x9 x10 x11 x12, l = [x0, x1, x2, x3, x4, x5, x6, x7, x8, x9, x10, x11, x12] := by
  match l, h with
  | [x0, x1, x2, x3, x4, x5, x6, x7, x8, x9, x10, x11, x12], _ => exact ⟨_, _, _, _, _, _, _, _, _, _, _, _, _, rfl⟩
theorem len14 {α : Type} {l : List α} (h : l.length = 14) : ∃ x0 x1 x2 x3 x4 x5 x6 x7 x8 x9 x10 x11 x12 x13, l = [x0, x1, x2, x3, x4, x5, x6, x7, x8, x9, x10, x11, x12, x13] := by
  match l, h with
  | [x0, x1, x2, x3, x4, x5, x6, x7, x8, x9, x10, x11, x12, x13], _ => exact ⟨_, _, _, _, _, _, _, _, _, _, _, _, _, _, rfl⟩
theorem endS_err {α : Type} {A : TypeId → Nat → Nat → Prop} {W W0 : World} {r : Except Nat α} {K : α → World → Prop} {k : FuncId} {ar : Array Value} {a : Nat} (h : Calls Tryd.prog k ar W0 (EndS H A W r K)) (e : r = .error a) :
    Calls Tryd.prog k ar W0 fun e W' => FrA H A W W' ∧ e = .panicked [{ v := refV a, recovered := false }] := by
  subst e
  exact h
theorem endS_ok {α : Type} {A : TypeId → Nat → Nat → Prop} {W W0 : World} {r : Except Nat α} {K : α → World → Prop} {k : FuncId} {ar : Array Value} {x : α} (h : Calls Tryd.prog k ar W0 (EndS H A W r K)) (e : r = .ok x) :
    Calls Tryd.prog k ar W0 fun e W' => FrA H A W W' ∧ e = .returned (.tuple #[]) ∧ K x W' := by
  subst e
  exact h
theorem runFs_one {f : WF} {s s1 : S} {d x : WD} (h : H.step f s d = .ok (s1, x)) : runFs H [f] s [d] = .ok (s1, [x]) := by
  rw [runFs_ok H h]
  rfl
def FormC (H : HS S) (k : FuncId) (n : Nat) (fs : List WF) : Prop := ∀ (W : World) (s : S) (ty : TypeId) (g j : Nat) (ds : List WD), H.In W s → StA H W ty g j 0 fs ds → PreFs H fs s ds → OkT ty →
  Calls Tryd.prog k #[H.hv, .pointer (some ⟨g, j, none⟩)] W (EndS H (cellN ty g j n) W (runFs H fs s ds) fun x W' => H.In W' x.1 ∧ StA H W' ty g j 0 fs x.2)
theorem FormC.drew (HC : HandC H) {k : FuncId} {n : Nat} {fs : List WF} (h : FormC H k n fs) {W : World} {s : S} {ty : TypeId} {g j : Nat} {ds : List WD} (hI : H.In W s) (hD : StA H W ty g j 0 fs ds) (hP : PreFs H fs s ds) (ht : OkT ty) :
    Calls Tryd.prog k #[H.hv, .pointer (some ⟨g, j, none⟩)] W.drew (EndS H (cellN ty g j n) W (runFs H fs s ds) fun x W' => H.In W' x.1 ∧ StA H W' ty g j 0 fs x.2) :=
  Calls.mono (h W.drew s ty g j ds (HC.inB hI (drew_b W)) (hD.fr (HC.frB hI (drew_b W) (fun _ _ _ => False)) (fun _ _ _ => id)) hP ht) fun e W' hr =>
    ⟨(HC.frB hI (drew_b W) (fun _ _ _ => False)).trans hr.1 (fun _ _ _ h => h.elim) (fun _ _ _ h => h), hr.2⟩
theorem sta_dpn {W : World} {ty : TypeId} {g j : Nat} : ∀ {n i : Nat} {ds : List WD}, StA H W ty g j i (nmW n) ds → ∀ k d, ds[k]? = some d → Dp H W .num ty g (j + (i + k)) d
  | 0, i, [], _, k, d, h => by simp at h
  | 0, i, _ :: _, h, _, _, _ => h.elim
  | n + 1, i, [], h, _, _, _ => h.elim
  | n + 1, i, x :: ds, h, 0, d, e => by
    obtain rfl := Option.some.inj e
    exact h.1
  | n + 1, i, x :: ds, h, k + 1, d, e => by
    have := sta_dpn (n := n) (i := i + 1) h.2 k d e
    rwa [show i + 1 + k = i + (k + 1) by omega] at this
theorem dpn_sta {W : World} {ty : TypeId} {g j : Nat} : ∀ {n i : Nat} {ds : List WD}, ds.length = n → (∀ k d, ds[k]? = some d → Dp H W .num ty g (j + (i + k)) d) → StA H W ty g j i (nmW n) ds
  | 0, i, [], _, _ => trivial
  | n + 1, i, x :: ds, hl, h => ⟨h 0 x rfl, dpn_sta (n := n) (i := i + 1) (by simpa using hl) fun k d e => by
    have := h (k + 1) d e
    rwa [show i + (k + 1) = i + 1 + k by omega] at this⟩
  | 0, i, _ :: _, h, _ => by simp at h
  | n + 1, i, [], h, _ => by simp at h
theorem nmW_len (n : Nat) : (nmW n).length = n := List.length_replicate
/-- numbers beside one another, their addresses in a new block -/
theorem nums_seg (HC : HandC H) {W : World} {s : S} {ty : TypeId} {g j n : Nat} {ds : List WD} {P : Array Value} (hI : H.In W s) (hD : StA H W ty g j 0 (nmW n) ds) (hP : PreFs H (nmW n) s ds) (ht : OkT ty) (hn : n ≤ 100)
    (hp : ∀ k, k < n → P[k]? = some (.pointer (some ⟨g, j + k, none⟩))) :
    Calls Tryd.prog 93 #[H.hv, .slice (some ⟨W.heap.size, 0, none⟩) n n] (W.drew.alloc (.cells P 150)) (EndS H (cellN ty g j n) W (runFs H (nmW n) s ds) fun x W' => H.In W' x.1 ∧ StA H W' ty g j 0 (nmW n) x.2) := by
  have hB : Below W.heap.size W (W.drew.alloc (.cells P 150)) := (drew_b W).alloc (Nat.le_refl _) _
  have hF := HC.frB hI hB (fun _ _ _ => False)
  have hb : Blk (W.drew.alloc (.cells P 150)) W.heap.size P 150 := blk_new _ _ _
  have hl : ds.length = n := by rw [hD.len, nmW_len]
  have hts : ∀ (i : Nat) t, ((List.range n).map fun k => (ty, g, j + k))[i]? = some t → i < n ∧ t = (ty, g, j + i) := fun i t h => by
    simp only [List.getElem?_map, Option.map_eq_some_iff] at h
    obtain ⟨k, hk, rfl⟩ := h
    have := List.getElem?_eq_some_iff.1 hk
    obtain ⟨h1, h2⟩ := this
    simp at h1 h2
    subst h2
    exact ⟨h1, rfl⟩
  refine Calls.mono (numbers_any HC (W.drew.alloc (.cells P 150)) s ((List.range n).map fun k => (ty, g, j + k)) ds W.heap.size n (HC.inB hI hB) (by simp) hn ⟨by simp [hl], fun i t d hi hd => ?_⟩ ?_ ?_ ?_ hP) ?_
  · obtain ⟨h1, rfl⟩ := hts i t hi
    have := sta_dpn hD i d hd
    rw [Nat.zero_add] at this
    exact this.fr hF id
  · refine List.pairwise_map.2 (List.Pairwise.imp (fun {a b} h e => h ?_) List.nodup_range)
    simp only [Prod.mk.injEq, true_and] at e
    omega
  · intro t htm
    obtain ⟨k, _, rfl⟩ := List.mem_map.1 htm
    exact ⟨ht.1, ht.2.1⟩
  · intro i t hi
    obtain ⟨h1, rfl⟩ := hts i t hi
    exact At.new HC hI (Nat.le_refl _) hb (by decide) (hp i h1)
  · rintro e W' ⟨h1, h2⟩
    refine ⟨(HC.frB hI hB (fun _ _ _ => False)).trans h1 (fun _ _ _ h => h.elim) (fun t q i h => ?_), ?_⟩
    · obtain ⟨k, hk, he⟩ := List.mem_map.1 h
      have hk := List.mem_range.1 hk
      injection he with e1 e2
      injection e2 with e2 e3
      exact ⟨e1.symm, e2.symm, by omega, by omega⟩
    · rcases hr : runFs H (nmW n) s ds with a | ⟨s2, x⟩
      · rw [hr] at h2; exact h2
      · rw [hr] at h2
        obtain ⟨h3, h4, h5⟩ := h2
        refine ⟨h3, h4, dpn_sta (by have := h5.1; simpa using this) fun k d hd => ?_⟩
        have hk : k < n := by
          have : k < x.length := (List.getElem?_eq_some_iff.1 hd).1
          have h6 : x.length = _ := h5.1
          simp at h6
          omega
        rw [Nat.zero_add]
        exact h5.2 k (ty, g, j + k) d (by simp [hk]) hd
end Go.Proofs.YtiednacpmlilbaaDoor
