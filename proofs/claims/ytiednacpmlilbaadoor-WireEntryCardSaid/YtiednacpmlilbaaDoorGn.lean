/-
  Frames by the type of block.
-/
import Derived.Test.YtiednacpmlilbaaDoorHiB
import Derived.Deep.DeepFit
import Derived.WalkMore
namespace Go.Proofs.YtiednacpmlilbaaDoor
open Go.RowKit
set_option linter.unusedSimpArgs false
set_option linter.unusedVariables false

/-- blocks of kinds other than these stay -/
def TyL (l : List TypeId) (W W' : World) : Prop := ∀ q cs ty, Blk W q cs ty → ty ∉ l → Blk W' q cs ty
theorem TyL.refl (l : List TypeId) (W : World) : TyL l W W := fun _ _ _ h _ => h
theorem TyL.trans {l : List TypeId} {a b c : World} (h : TyL l a b) (k : TyL l b c) : TyL l a c := fun q cs ty hb h1 => k q cs ty (h q cs ty hb h1) h1
theorem TyL.of_below {l : List TypeId} {W W' : World} (h : Below W.heap.size W W') : TyL l W W' := fun _ _ _ hb _ => hb.step h
theorem TyL.of_fr {l : List TypeId} {L : List Nat} {W W' : World} (h : Fr L W W') (hL : ∀ q ∈ L, ∃ cs ty, Blk W q cs ty ∧ ty ∈ l) : TyL l W W' := by
  intro q cs ty hb h1
  refine (h.block q hb.lt fun hm => ?_).trans hb
  obtain ⟨cs', ty', hb', ht'⟩ := hL q hm
  have := hb.symm.trans hb'
  injection this with e'
  injection e' with e1 e2
  exact h1 (e2 ▸ ht')
theorem blk_row {W : World} {v : Value} {g : Nat} {e : TypeId} {s n : Nat} {xs : List Value} (h : Row W v (some g) e s n xs) : ∃ cs, Blk W g cs e := by
  rcases h.cases with ⟨he, _⟩ | ⟨g1, cap, cur, he, _, h3, _⟩
  · cases he
  · obtain rfl := Option.some.inj he
    exact ⟨cur, h3⟩
theorem alloc_b (w : World) (o : Obj) : Below w.heap.size w (w.alloc o) := (Below.refl _ _).alloc (Nat.le_refl _) _
theorem ne_ty {W : World} {p q : Nat} {cs cs' : Array Value} {ty ty' : TypeId} (h : Blk W p cs ty) (k : Blk W q cs' ty') (ht : ty ≠ ty') : p ≠ q := fun e => by
  subst e
  have := h.symm.trans k
  injection this with e'
  injection e' with e1 e2
  exact ht e2
def OT (W : World) (L : List Nat) (l : List TypeId) : Prop := ∀ x ∈ L, ∃ cs ty, Blk W x cs ty ∧ ty ∉ l
theorem blk_ot {W W' : World} {x : Nat} {cs : Array Value} {e : TypeId} {L : List Nat} {l : List TypeId} (h : Blk W x cs e) (hf : Fr L W W') (hl : OT W L l) (he : e ∈ l) : W'.heap[x]? = W.heap[x]? :=
  hf.block x h.lt fun hm => by
    obtain ⟨cs', ty, h1, h2⟩ := hl x hm
    exact ne_ty h h1 (fun e' => h2 (e' ▸ he)) rfl
theorem ot_nil (W : World) (l : List TypeId) : OT W [] l := fun x hx => by cases hx
theorem OT.mono {W : World} {L : List Nat} {l l' : List TypeId} (h : OT W L l) (hs : ∀ t ∈ l', t ∈ l) : OT W L l' := fun x hx => by
  obtain ⟨cs, ty, h1, h2⟩ := h x hx
  exact ⟨cs, ty, h1, fun e => h2 (hs _ e)⟩
theorem ot_one {W : World} {x : Nat} {cs : Array Value} {ty : TypeId} {l : List TypeId} (h : Blk W x cs ty) (ht : ty ∉ l) : OT W [x] l := fun y hy => by
  obtain rfl := List.mem_singleton.1 hy
  exact ⟨cs, ty, h, ht⟩
theorem ot_cons {W : World} {x : Nat} {cs : Array Value} {ty : TypeId} {l : List TypeId} {L : List Nat} (h : Blk W x cs ty) (ht : ty ∉ l) (hL : OT W L l) : OT W (x :: L) l := fun y hy => by
  rcases List.mem_cons.1 hy with rfl | hy
  · exact ⟨cs, ty, h, ht⟩
  · exact hL y hy
theorem row_ot {W W' : World} {v : Value} {x : Nat} {e : TypeId} {sz m : Nat} {xs : List Value} {L : List Nat} {l : List TypeId} (h : Row W v (some x) e sz m xs) (hf : Fr L W W') (hl : OT W L l) (he : e ∈ l) : Row W' v (some x) e sz m xs := by
  obtain ⟨cs, hb⟩ := blk_row h
  exact h.congr fun q eq => by
    obtain rfl := Option.some.inj eq
    exact blk_ot hb hf hl he
theorem row_otO {W W' : World} {v : Value} {x : Option Nat} {e : TypeId} {sz m : Nat} {xs : List Value} {L : List Nat} {l : List TypeId} (h : Row W v x e sz m xs) (hf : Fr L W W') (hl : OT W L l) (he : e ∈ l) : Row W' v x e sz m xs := by
  cases x with
  | none => exact h.congr fun q e => by cases e
  | some g => exact row_ot h hf hl he
theorem ot_row {W : World} {v : Value} {ob : Option Nat} {e : TypeId} {sz m : Nat} {xs : List Value} {l : List TypeId} (h : Row W v ob e sz m xs) (he : e ∉ l) : OT W ob.toList l := fun x hx => by
  cases ob with
  | none => simp at hx
  | some g =>
    obtain rfl : x = g := by simpa using hx
    obtain ⟨cs, hb⟩ := blk_row h
    exact ⟨cs, e, hb, he⟩
theorem fr_grown {W W' : World} {ob : Option Nat} (hg : W.grownBy W' ob) : Fr ob.toList W W' := (Fr.refl _ W).grown hg fun k e => .inl (by rw [e]; simp)
end Go.Proofs.YtiednacpmlilbaaDoor
