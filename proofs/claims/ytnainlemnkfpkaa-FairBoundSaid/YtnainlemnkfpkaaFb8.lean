/-
  A run, the document: memory between two picks.
-/
import Derived.Test.YtnainlemnkfpkaaFb6
namespace Go.Proofs.Ytnainlemnkfpkaa
open Go.RowKit
set_option linter.unusedSimpArgs false
set_option linter.unusedVariables false

structure RdAt (W0 W : World) (x : RL) (ft c2 qb : Nat) (wt : Nat → Int) (al : Int) (s : FS) (v7 : Value) (ob : Option Nat) (at_ : Nat → Nat) (O : List Int) : Prop where
  fr : RfAt W W0.heap.size x ft c2 wt al s
  iv : Inv x.n s
  ar : IAt W qb x.n (fun k => (at_ k : Nat))
  sv : InO W0.heap.size W v7 ob O
  b : Below W0.heap.size W0 W
  qge : W0.heap.size ≤ qb
  ne : qb ≠ x.fw ∧ qb ≠ x.fz
  no : ∀ q, ob = some q → q ≠ qb ∧ q ≠ x.fw ∧ q ≠ x.fz
section
variable {W0 W W' : World} {x : RL} {ft c2 qb : Nat} {wt : Nat → Int} {al : Int} {s : FS} {v7 : Value} {ob : Option Nat} {at_ : Nat → Nat} {O : List Int}
theorem RdAt.step (h : RdAt W0 W x ft c2 qb wt al s v7 ob at_ O) (hB : Below W.heap.size W W') : RdAt W0 W' x ft c2 qb wt al s v7 ob at_ O :=
  ⟨h.fr.step hB, h.iv, h.ar.fr (Fr.of_below hB) (by simp), h.sv.step hB, h.b.trans (hB.mono h.b.size), h.qge, h.ne, h.no⟩
theorem iat_ne {W : World} {b n q : Nat} {f : Nat → Int} {cs : Array Value} {ty : TypeId} (h : IAt W b n f) (hb : Blk W q cs ty) (ht : ty ≠ 3) : b ≠ q := by
  obtain ⟨cs1, h1, _⟩ := h
  exact blk_dis h1 hb (Ne.symm ht)
theorem bat_blk {W : World} {b n : Nat} {f : Nat → Bool} (h : BAt W b n f) : ∃ cs, Blk W b cs 4 := by
  obtain ⟨cs1, h1, _⟩ := h
  exact ⟨cs1, h1⟩
theorem iat_blk {W : World} {b n : Nat} {f : Nat → Int} (h : IAt W b n f) : ∃ cs, Blk W b cs 3 := by
  obtain ⟨cs1, h1, _⟩ := h
  exact ⟨cs1, h1⟩
theorem RdAt.pick (h : RdAt W0 W x ft c2 qb wt al s v7 ob at_ O) {s' : FS} (hp : RkP W0.heap.size x ft wt al s' W W') (hi : Inv x.n s') : ∃ ft' c', RdAt W0 W' x ft' c' qb wt al s' v7 ob at_ O := by
  obtain ⟨ft', c', hr, hf, _⟩ := hp
  obtain ⟨cv, hv⟩ := bat_blk h.fr.sv
  obtain ⟨ct, ht⟩ := blk_row h.fr.tg
  have q1 : qb ∉ [x.g, x.fz, x.fv, ft] := by
    have a1 := iat_ne h.ar h.fr.blk (by decide)
    have a2 := iat_ne h.ar hv (by decide)
    have a3 := iat_ne h.ar ht (by decide)
    simp [a1, a2, a3, h.ne.2]
  refine ⟨ft', c', hr, hi, h.ar.fr hf q1, ⟨h.sv.1.congr fun q e => hf.block q (by have := h.sv.1; rw [e] at this; exact this.lt) ?_, h.sv.2.1, h.sv.2.2⟩, h.b.trans (hf.below h.b.size ?_), h.qge, h.ne, h.no⟩
  · have hq := h.sv.1
    rw [e] at hq
    have a1 := row_blk_ne hq h.fr.blk (by decide)
    have a2 := row_blk_ne hq hv (by decide)
    have a3 := row_blk_ne hq ht (by decide)
    have a4 := (h.no q e).2.2
    simp
    exact ⟨fun e => a1 e.symm, a4, fun e => a2 e.symm, fun e => a3 e.symm⟩
  · have := h.fr.ge
    intro y hy
    simp at hy
    omega
theorem RdAt.put (h : RdAt W0 W x ft c2 qb wt al s v7 ob at_ O) {k : Nat} (hk : k < x.n) (hW : W' = W.setCell ⟨qb, k, none⟩ (.int .i64 ((at_ k + 1 : Nat) : Int))) : RdAt W0 W' x ft c2 qb wt al s v7 ob (upf at_ k (at_ k + 1)) O := by
  obtain ⟨pa, hf⟩ := h.ar.put hk _ hW
  obtain ⟨cv, hv⟩ := bat_blk h.fr.sv
  obtain ⟨ct, ht⟩ := blk_row h.fr.tg
  have a1 := iat_ne h.ar h.fr.blk (by decide)
  have a2 := iat_ne h.ar hv (by decide)
  have a3 := iat_ne h.ar ht (by decide)
  refine ⟨h.fr.fr hf (by simpa using a1.symm) (by simpa using h.ne.1.symm) (by simpa using h.ne.2.symm) (by simpa using a2.symm) (by simpa using a3.symm), h.iv, ?_, ⟨h.sv.1.congr fun q e => hf.block q (by have := h.sv.1; rw [e] at this; exact this.lt) (by simpa using (h.no q e).1), h.sv.2.1, h.sv.2.2⟩, h.b.trans (hf.below h.b.size (by simpa using h.qge)), h.qge, h.ne, h.no⟩
  obtain ⟨cs, hb, hc⟩ := pa
  refine ⟨cs, hb, fun j hj => (hc j hj).trans ?_⟩
  by_cases hjk : j = k
  · subst hjk; rw [upf_at, upf_at]
  · rw [upf_ne _ _ hjk, upf_ne _ _ hjk]
theorem RdAt.serve (h : RdAt W0 W x ft c2 qb wt al s v7 ob at_ O) {v' : Value} {ob' : Nat} {O' : List Int} (hi : InO W0.heap.size W' v' (some ob') O') (hg : W.grownBy W' ob) (hs : ob = some ob' ∨ ob' = W.heap.size) (hlo : Below W0.heap.size W W') : RdAt W0 W' x ft c2 qb wt al s v' (some ob') at_ O' := by
  have hf : Fr ob.toList W W' := ⟨hg.os, hg.tape, hg.output, hg.size, fun i hi hq => hg.block i hi (fun e => hq (by rw [← e]; simp))⟩
  have ne1 : ∀ {q : Nat} {cs : Array Value} {ty : TypeId}, Blk W q cs ty → ty ≠ 3 → q ∉ ob.toList := fun {q cs ty} hb ht hm => by
    have e : ob = some q := by simpa using hm
    have hr := h.sv.1
    rw [e] at hr
    exact row_blk_ne hr hb ht rfl
  obtain ⟨cv, hv⟩ := bat_blk h.fr.sv
  obtain ⟨ct, ht⟩ := blk_row h.fr.tg
  have n2 : ∀ q, q = qb ∨ q = x.fw ∨ q = x.fz → q ∉ ob.toList := fun q hq hm => by
    have e : ob = some q := by simpa using hm
    obtain ⟨b1, b2, b3⟩ := h.no q e
    rcases hq with h | h | h
    · exact b1 h
    · exact b2 h
    · exact b3 h
  have hlt := h.ar.lt
  have hl1 := h.fr.w.lt
  have hl2 := h.fr.z.lt
  refine ⟨h.fr.fr hf (ne1 h.fr.blk (by decide)) (n2 _ (.inr (.inl rfl))) (n2 _ (.inr (.inr rfl))) (ne1 hv (by decide)) (ne1 ht (by decide)), h.iv, h.ar.fr hf (n2 _ (.inl rfl)), hi, h.b.trans hlo, h.qge, h.ne, fun q e => ?_⟩
  obtain rfl := Option.some.inj e
  rcases hs with h1 | h1
  · exact h.no _ h1
  · omega
end
end Go.Proofs.Ytnainlemnkfpkaa
