/-
  The pen, which writes, as a hand.
-/
import Derived.Test.YtiednacpmlilbaaDoorWo
namespace Go.Proofs.YtiednacpmlilbaaDoor
open Go.RowKit
set_option linter.unusedSimpArgs false
set_option linter.unusedVariables false

theorem b_app2 {W : World} {M : Nat} {ty : TypeId} {v v2 : Value} {ob : Option Nat} {L L2 : List Nat} (h : BO M W v ob L) (h2 : BV W v2 L2) (hM : M ≤ W.heap.size) (hn : L.length + L2.length ≤ 1000000000) :
    ∃ v' ob' w', (Builtin.append_ #[23, 23] ty #[v, v2]).run Tryd.prog W = .ok v' w' ∧ BO M w' v' ob' (L ++ L2) ∧ Below M W w' ∧ Fr ob.toList W w' := by
  have ho2 := h2.ok
  obtain ⟨r1, r4, r5⟩ := h
  obtain ⟨a2, b2, o2, c2, rfl, d1⟩ := h2
  obtain ⟨i0, hi, hz0, hz1, hz2⟩ := info_parts byZero
  rcases Nat.eq_zero_or_pos L2.length with h0 | h0
  · have hL2 : L2 = [] := List.eq_nil_of_length_eq_zero h0
    subst hL2
    rw [List.append_nil]
    exact ⟨v, ob, W, run_append_row_zero (P := Tryd.prog) (w := W) 23 ty 5 i0 1 Tryd.underlying23 hi v ob _ _ r1 a2 c2, ⟨r1, r4, r5⟩, Below.refl _ _, Fr.refl _ _⟩
  · obtain ⟨e0, e1⟩ := d1.at_ h0
    subst e0
    have hat : ∀ (j : Nat) (u : Value), (byL L2)[j]? = some u → W.cell? ⟨b2, o2 + j, none⟩ = some u := fun j u hu => by
      rw [byL_at] at hu
      obtain ⟨x, hx, rfl⟩ := Option.map_eq_some_iff.1 hu
      have hj := (List.getElem?_eq_some_iff.1 hx).1
      rw [gB_lt hj] at hx
      obtain rfl := Option.some.inj hx
      exact d1.cell j hj
    obtain ⟨v', ob', w', hrun, s1, s2, s3⟩ := run_append_row (P := Tryd.prog) W 23 ty 5 i0 _ 1 1 Tryd.underlying23 hi hz0 hz1 hz2 rfl (by decide) v ob L.length (byL L) r1 ⟨b2, o2, none⟩ L2.length c2 (byL L2) h0 (byL_len L2) (fun j u hu => by rw [addr_add]; exact hat j u hu) (byL_ones L2) (by unfold maxLen; omega) (by omega)
    refine ⟨v', some ob', w', hrun, ⟨by rw [List.length_append, byL_append]; exact s1, fun x hx => ?_, fun g e => ?_⟩, ?_, fr_grown s2⟩
    · rcases List.mem_append.1 hx with h | h
      · exact r4 x h
      · exact ho2 x h
    · obtain rfl := Option.some.inj e
      rcases s3 with h | h
      · exact r5 _ h
      · omega
    · exact (Below.refl M W).grown s2 hM r5
def penS (p : Nat) : HS (List Nat) where
  In W s := ∃ v ob, Blk W p #[v] 156 ∧ BO p W v ob s
  lo := p
  Pr q ty := q ≠ p ∧ (q < p ∨ ty ≠ 5)
  rd := False
  k0 := 86
  k1 := 87
  k2 := 88
  k3 := 89
  k4 := 90
  k5 := 91
  bnd := .pointer (some ⟨p, 0, none⟩)
  pre f s d := d.ok f ∧ s.length + (encF f d).length ≤ 1000000000
  step f s d := .ok (s ++ encF f d, d)
  cpre s n _ := n ≤ 9223372036854775807 ∧ s.length + 8 ≤ 1000000000
  cnt s n _ := .ok (s ++ e8 (n : Nat), n)
theorem row_blk8 {W : World} {v : Value} {ob : Option Nat} {M : Nat} {L : List Nat} (h : BO M W v ob L) {g : Nat} (e : ob = some g) : ∃ cs, Blk W g cs 5 := by
  subst e
  exact blk_row h.1
theorem pen_app {p : Nat} {W W1 : World} {v v2 : Value} {ob : Option Nat} {s L2 : List Nat} (ty : TypeId) (hb : Blk W p #[v] 156) (ho : BO p W v ob s) (hB : Below W.heap.size W W1) (h2 : BV W1 v2 L2) (hn : s.length + L2.length ≤ 1000000000) (A : TypeId → Nat → Nat → Prop) :
    ∃ a' n' c' W2, (Builtin.append_ #[23, 23] ty #[v, v2]).run Tryd.prog W1 = .ok (.slice a' n' c') W2 ∧ Blk W2 p #[v] 156 ∧ FrA (penS p) A W W2 ∧ FrA (penS p) A W (W2.setCell ⟨p, 0, none⟩ (.slice a' n' c')) ∧ (penS p).In (W2.setCell ⟨p, 0, none⟩ (.slice a' n' c')) (s ++ L2) := by
  have hp := hb.lt
  obtain ⟨v', ob', W2, h1, h3, h4, h5⟩ := b_app2 (ty := ty) (ho.step hB) h2 (by have := hB.size; omega) hn
  obtain ⟨a', n', c', rfl, -⟩ := h3.v.sh
  have hb1 : Blk W1 p #[v] 156 := hb.step hB
  have hne : ∀ q, q < p ∨ (∃ cs ty, Blk W1 q cs ty ∧ ty ≠ 5) → q ∉ ob.toList := fun q hq hm => by
    cases ob with
    | none => simp at hm
    | some g =>
      obtain rfl : q = g := by simpa using hm
      rcases hq with hq | ⟨cs, ty, hq, ht⟩
      · have := ho.2.2 q rfl; omega
      · obtain ⟨cs', k⟩ := row_blk8 (ho.step hB) rfl
        exact ne_ty hq k ht rfl
  have hb2 : Blk W2 p #[v] 156 := (h5.block p hb1.lt (hne p (.inr ⟨_, _, hb1, by decide⟩))).trans hb1
  have hs := (Fr.refl [p] W2).setCell ⟨p, 0, none⟩ (.inl (by simp)) (.slice a' n' c')
  have hf2 : FrA (penS p) A W W2 := ⟨h4.os.trans hB.os, h4.tape.trans hB.tape, h4.output.trans hB.output, Nat.le_trans hB.size h4.size, fun q hq => by
    have hq : q < p := hq
    rw [h4.block q hq, hB.block q (by omega)], fun q cs ty hbq hpq => by
    obtain ⟨k1, k2⟩ : q ≠ p ∧ (q < p ∨ ty ≠ 5) := hpq
    have hq1 : Blk W1 q cs ty := hbq.step hB
    exact ⟨cs, (h5.block q hq1.lt (hne q (k2.imp id fun h => ⟨_, _, hq1, h⟩))).trans hq1, rfl, fun _ _ => rfl⟩⟩
  have hf3 : FrA (penS p) A W2 (W2.setCell ⟨p, 0, none⟩ (.slice a' n' c')) := ⟨hs.os, hs.tape, hs.output, hs.size, fun q hq => by
    have hq : q < p := hq
    exact heap_setCell_ne W2 ⟨p, 0, none⟩ (.slice a' n' c') q (fun e => by dsimp only at e; omega), fun q cs ty hbq hpq => by
    obtain ⟨k1, k2⟩ : q ≠ p ∧ (q < p ∨ ty ≠ 5) := hpq
    exact ⟨cs, (heap_setCell_ne W2 ⟨p, 0, none⟩ (.slice a' n' c') q (fun e => by dsimp only at e; omega)).trans hbq, rfl, fun _ _ => rfl⟩⟩
  refine ⟨a', n', c', W2, h1, hb2, hf2, hf2.trans hf3 (fun _ _ _ h => h) (fun _ _ _ h => h), _, ob', hb2.set 0 _, ?_⟩
  · exact ⟨h3.1.congr fun g e => heap_setCell_ne W2 ⟨p, 0, none⟩ (.slice a' n' c') g (fun e2 => by
      dsimp only at e2
      obtain ⟨cs, k⟩ := row_blk8 h3 e
      exact ne_ty k hb2 (by decide) (by omega)), h3.2.1, h3.2.2⟩
theorem pen_frN {p : Nat} {W W' : World} {s : List Nat} (h : (penS p).In W s) (hf : FrN p W W') : (penS p).In W' s := by
  obtain ⟨v, ob, h1, h2⟩ := h
  refine ⟨v, ob, hf.blk _ _ _ h1 (.inr (.inr rfl)), h2.1.congr fun g e => ?_, h2.2.1, h2.2.2⟩
  obtain ⟨cs, k⟩ := row_blk8 h2 e
  exact (hf.blk _ _ _ k (.inl rfl)).trans k.symm
theorem pen_new {p : Nat} {W : World} {s : List Nat} {q : Nat} {ty : TypeId} (h : (penS p).In W s) (hq : W.heap.size ≤ q) (ht : ty ≠ 5) : (penS p).Pr q ty := by
  obtain ⟨v, ob, h1, h2⟩ := h
  have := h1.lt
  exact ⟨by omega, .inr ht⟩
theorem pen_lo {p : Nat} {W : World} {s : List Nat} (h : (penS p).In W s) : (penS p).lo ≤ W.heap.size := by
  obtain ⟨v, ob, h1, h2⟩ := h
  have := h1.lt
  show p ≤ _
  omega
theorem pen_nep {p : Nat} {W : World} {s : List Nat} {ty : TypeId} {g j : Nat} {v : Value} (hI : (penS p).In W s) (h : At (penS p) W ty g j v) : g ≠ p := by
  rcases h with ⟨_, h, _⟩ | ⟨cs, _, h, _⟩
  · have h : g < p := h
    omega
  · exact h.1
theorem At.below {p : Nat} {W W' : World} {ty : TypeId} {g j : Nat} {v : Value} {s : List Nat} (hI : (penS p).In W s) (h : At (penS p) W ty g j v) (hB : Below W.heap.size W W') : At (penS p) W' ty g j v := h.fr (below_frA hB (pen_lo hI) (fun _ _ _ => False)) id
theorem wrap_u8 (n : Int) : IntKind.u8.wrap n = ((u8 n : Nat) : Int) := by unfold u8 IntKind.wrap; simp [IntKind.bits, IntKind.signed]; omega
theorem wrap_u64 (n : Int) : IntKind.u64.wrap n = ((u64 n : Nat) : Int) := by unfold u64 IntKind.wrap; simp [IntKind.bits, IntKind.signed]; omega
theorem u8_lt (n : Int) : u8 n < 256 := by unfold u8; omega
end Go.Proofs.YtiednacpmlilbaaDoor
