/-
  What a search stands on.
-/
import Derived.Test.YthmjlomlceljkaaHic
import Derived.Deep.DeepFit
import Derived.Lib.AppendZeros
import Derived.Deep.RegionLaw
import Derived.Deep.RegionWith
import Derived.Lib.EndianBits
import Derived.Deep.MidRow
namespace Go.Proofs.Ythmjlomlceljkaa
open Go.RowKit
set_option linter.unusedSimpArgs false
set_option linter.unusedVariables false

/-- what a search stands on: its boxes, the map of what was seen, the row so far -/
structure SE (w0 W : World) (bm mp bl bo bs : Nat) (vl : Value) (L : List CaE) (S : Nat × List UInt8 → Bool) (vo : Value) (obo : Option Nat) (ord : List Int) : Prop where
  lo : Below w0.heap.size w0 W
  hl : CaV w0 vl L
  cm : Blk W bm #[.map (some mp)] 100
  cl : Blk W bl #[vl] 52
  cs : Blk W bs #[.func (.func 55) #[] #[.pointer (some ⟨bm, 0, none⟩), .pointer (some ⟨bl, 0, none⟩), .pointer (some ⟨bo, 0, none⟩), .pointer (some ⟨bs, 0, none⟩)]] 101
  co : Blk W bo #[vo] 33
  map : MapO W mp encP (seenM S)
  ord : InO w0.heap.size W vo obo ord
  mm : w0.heap.size ≤ mp
  mo : w0.heap.size ≤ bo
/-- what is told of a search behind it -/
def SP (w0 : World) (bm mp bl bo bs : Nat) (vl : Value) (L : List CaE) (S : Nat × List UInt8 → Bool) (ord : List Int) (D : Nat) (t : List FcE) (w : World) (b : Bool) (w' : World) : Prop :=
  SF w0.heap.size w w' ∧ ∃ S' vo' obo' ord', SE w0 w' bm mp bl bo bs vl L S' vo' obo' ord' ∧ match sr L D t with
    | some r => b = true ∧ ord' = ord ++ r
    | none => b = false ∧ ord' = ord ∧ New L S S'
theorem SE.sf {w0 W W' : World} {bm mp bl bo bs : Nat} {vl : Value} {L : List CaE} {S : Nat × List UInt8 → Bool} {vo : Value} {obo : Option Nat} {ord : List Int} (h : SE w0 W bm mp bl bo bs vl L S vo obo ord) (hB : Below W.heap.size W W') : SE w0 W' bm mp bl bo bs vl L S vo obo ord :=
  ⟨h.lo.trans (hB.mono h.lo.size), h.hl, h.cm.step hB, h.cl.step hB, h.cs.step hB, h.co.step hB, h.map.step hB, h.ord.step hB, h.mm, h.mo⟩
theorem SE.put {w0 W W' : World} {bm mp bl bo bs : Nat} {vl : Value} {L : List CaE} {S S' : Nat × List UInt8 → Bool} {vo : Value} {obo : Option Nat} {ord : List Int} (h : SE w0 W bm mp bl bo bs vl L S vo obo ord) (hF : Fr [mp] W W') (hm : MapO W' mp encP (seenM S')) : SE w0 W' bm mp bl bo bs vl L S' vo obo ord := by
  have hsf : SF w0.heap.size W W' := SF.of_map h.map hF h.mm
  have hne : ∀ (b : Nat) (cs : Array Value) (ty : TypeId), Blk W b cs ty → b ≠ mp := fun b cs ty hb e => by
    subst e
    obtain ⟨Lm, clk, h1, _⟩ := h.map
    have := h1.symm.trans hb
    cases this
  refine ⟨h.lo.trans hsf.lo, h.hl, (hF.block bm h.cm.lt (by simpa using hne _ _ _ h.cm)).trans h.cm, (hF.block bl h.cl.lt (by simpa using hne _ _ _ h.cl)).trans h.cl, (hF.block bs h.cs.lt (by simpa using hne _ _ _ h.cs)).trans h.cs, (hF.block bo h.co.lt (by simpa using hne _ _ _ h.co)).trans h.co, hm, ⟨h.ord.1.congr fun g e => ?_, h.ord.2⟩, h.mm, h.mo⟩
  rcases h.ord.1.cases with ⟨e1, _⟩ | ⟨g', cap, cur, e1, _, h4, _⟩
  · rw [e1] at e; cases e
  · rw [e1] at e
    obtain rfl := Option.some.inj e
    exact hF.block g' (Array.getElem?_eq_some_iff.1 h4).1 (by simpa using hne _ _ _ h4)
/-- the box of the row set -/
theorem SE.set {w0 W W' : World} {bm mp bl bo bs : Nat} {vl : Value} {L : List CaE} {S : Nat × List UInt8 → Bool} {vo vo' : Value} {obo obo' : Option Nat} {ord ord' : List Int} (h : SE w0 W bm mp bl bo bs vl L S vo obo ord) (hF : W' = W.setCell ⟨bo, 0, none⟩ vo') (ho : InO w0.heap.size W vo' obo' ord') : SE w0 W' bm mp bl bo bs vl L S vo' obo' ord' ∧ SF w0.heap.size W W' := by
  have hfr : Fr [bo] W W' := by rw [hF]; exact (Fr.refl _ _).setCell _ (.inl (by simp)) _
  have hsf : SF w0.heap.size W W' := SF.of_box h.co hfr h.mo
  have hty : ∀ (b : Nat) (cs : Array Value) (ty : TypeId), Blk W b cs ty → ty ≠ 33 → b ≠ bo := fun b cs ty hb hn e => by
    subst e
    have : some (Obj.cells cs ty (0, 0)) = some (Obj.cells #[vo] 33 (0, 0)) := hb.symm.trans h.co
    injection this with e
    injection e with e1 e2
    exact hn e2
  have hbo : Blk W' bo #[vo'] 33 := by rw [hF]; exact h.co.set 0 vo'
  refine ⟨⟨h.lo.trans hsf.lo, h.hl, (hfr.block bm h.cm.lt (by simpa using hty _ _ _ h.cm (by decide))).trans h.cm, (hfr.block bl h.cl.lt (by simpa using hty _ _ _ h.cl (by decide))).trans h.cl, (hfr.block bs h.cs.lt (by simpa using hty _ _ _ h.cs (by decide))).trans h.cs, hbo, h.map.congr (hfr.block mp h.map.lt ?_), ⟨ho.1.congr fun g e => ?_, ho.2⟩, h.mm, h.mo⟩, hsf⟩
  · simp only [List.mem_singleton]
    intro e
    obtain ⟨Lm, clk, h1, _⟩ := h.map
    rw [e] at h1
    have := h1.symm.trans h.co
    cases this
  · rcases ho.1.cases with ⟨e1, _⟩ | ⟨g', cap, cur, e1, _, h4, _⟩
    · rw [e1] at e; cases e
    · rw [e1] at e
      obtain rfl := Option.some.inj e
      exact hfr.block g' (Array.getElem?_eq_some_iff.1 h4).1 (by simpa using hty _ _ _ h4 (by decide))
theorem sp_all {w0 : World} {bm mp bl bo bs : Nat} {vl : Value} {L : List CaE} {S0 S : Nat × List UInt8 → Bool} {vo : Value} {obo : Option Nat} {ord : List Int} {D : Nat} {t : List FcE} {w w' : World} (h : SE w0 w' bm mp bl bo bs vl L S vo obo ord) (hs : SF w0.heap.size w w') (ha : alB D 0 L = true) : SP w0 bm mp bl bo bs vl L S0 ord D t w true w' :=
  ⟨hs, S, vo, obo, ord, h, by rw [sr_eq, if_pos ha]; exact ⟨rfl, by simp⟩⟩
theorem sp_none {w0 : World} {bm mp bl bo bs : Nat} {vl : Value} {L : List CaE} {S0 S : Nat × List UInt8 → Bool} {vo : Value} {obo : Option Nat} {ord : List Int} {D : Nat} {t : List FcE} {w w' : World} (h : SE w0 w' bm mp bl bo bs vl L S vo obo ord) (hs : SF w0.heap.size w w') (hn : sr L D t = none) (hg : New L S0 S) : SP w0 bm mp bl bo bs vl L S0 ord D t w false w' :=
  ⟨hs, S, vo, obo, ord, h, by rw [hn]; exact ⟨rfl, rfl, hg⟩⟩
theorem sp_some {w0 : World} {bm mp bl bo bs : Nat} {vl : Value} {L : List CaE} {S0 S : Nat × List UInt8 → Bool} {vo : Value} {obo : Option Nat} {ord r : List Int} {D : Nat} {t : List FcE} {w w' : World} (h : SE w0 w' bm mp bl bo bs vl L S vo obo (ord ++ r)) (hs : SF w0.heap.size w w') (hn : sr L D t = some r) : SP w0 bm mp bl bo bs vl L S0 ord D t w true w' :=
  ⟨hs, S, vo, obo, _, h, by rw [hn]; exact ⟨rfl, rfl⟩⟩
theorem SE.push {w0 W W3 W' : World} {bm mp bl bo bs : Nat} {vl : Value} {L : List CaE} {S : Nat × List UInt8 → Bool} {vo vo' : Value} {obo obo' : Option Nat} {ord ord' : List Int} (h : SE w0 W bm mp bl bo bs vl L S vo obo ord) (hs : SF w0.heap.size W W3)
    (h1 : ∀ (n : Nat) (cs : Array Value) (ty : TypeId) (fr : Nat × Nat), W.heap[n]? = some (Obj.cells cs ty fr) → ty = 33 → W3.heap[n]? = W.heap[n]?) (h2 : ∀ (n : Nat) (Lm : Array MapEntry) (clk : Nat), W.heap[n]? = some (Obj.map Lm clk) → W3.heap[n]? = W.heap[n]?)
    (hF : W' = W3.setCell ⟨bo, 0, none⟩ vo') (ho : InO w0.heap.size W3 vo' obo' ord') : SE w0 W' bm mp bl bo bs vl L S vo' obo' ord' ∧ SF w0.heap.size W W' := by
  have hco : Blk W3 bo #[vo] 33 := (h1 bo _ _ _ h.co rfl).trans h.co
  have hfr : Fr [bo] W3 W' := by rw [hF]; exact (Fr.refl _ _).setCell _ (.inl (by simp)) _
  have hsf : SF w0.heap.size W3 W' := SF.of_box hco hfr h.mo
  have hall := hs.trans hsf
  have hbo : Blk W' bo #[vo'] 33 := by rw [hF]; exact hco.set 0 vo'
  obtain ⟨Lm, clk, hm1, hm2⟩ := h.map
  have hmap3 : W3.heap[mp]? = some (Obj.map (ents encP Lm).toArray clk) := (h2 mp _ _ hm1).trans hm1
  have hmne : mp ≠ bo := fun e => by
    subst e
    have := hmap3.symm.trans hco
    cases this
  refine ⟨⟨h.lo.trans hall.lo, h.hl, hall.blk h.cm (by decide) (by decide), hall.blk h.cl (by decide) (by decide), hall.blk h.cs (by decide) (by decide), hbo, ⟨Lm, clk, (hfr.block mp (Array.getElem?_eq_some_iff.1 hmap3).1 (by simpa using hmne)).trans hmap3, hm2⟩, ⟨ho.1.congr fun g e => ?_, ho.2⟩, h.mm, h.mo⟩, hall⟩
  rcases ho.1.cases with ⟨e1, _⟩ | ⟨g', cap, cur, e1, _, h4, _⟩
  · rw [e1] at e; cases e
  · rw [e1] at e
    obtain rfl := Option.some.inj e
    refine hfr.block g' (Array.getElem?_eq_some_iff.1 h4).1 ?_
    simp only [List.mem_singleton]
    rintro rfl
    have := h4.symm.trans hco
    injection this with e'
    injection e' with e1 e2
    exact absurd e2 (by decide)
theorem CaV.rg {W : World} {g o n c : Nat} {L : List CaE} {k : Nat} {x : CaE} (h : CaV W (.slice (some ⟨g, o, none⟩) n c) L) (hk : k < n) (hx : L[k]? = some x) : W.rangeAt g (o + k * 20) x.cells := by
  obtain ⟨g', o', y, ea, _, hy, _, hr⟩ := h.ld k hk
  obtain ⟨rfl, rfl⟩ : g' = g ∧ o' = o := by injection ea with e; injection e with e1 e2; exact ⟨e1.symm, e2.symm⟩
  obtain rfl : y = x := Option.some.inj (hy.symm.trans hx)
  exact hr
theorem ca_range13 {W : World} {b o : Nat} {e : CaE} (h : W.rangeAt b o e.cells) : W.rangeAt b o [.int .i8 e.kind, .int .i64 e.client, .int .i64 e.number, .int .i64 e.tenant, .int .i64 e.crate, .int .i64 e.cburst, .int .i64 e.shaper, .int .i64 e.epoch, .int .i64 e.clease, .int .i64 e.csize, .int .i64 e.spent, .bool e.closed, .slice e.lsa e.lsn e.lsc] := fun j v hv => by
  have hj : j < 13 := (List.getElem?_eq_some_iff.1 hv).1
  have h2 : e.cells[j]? = (e.cells.take 13)[j]? := by rw [List.getElem?_take, if_pos hj]
  refine h j v ?_
  rw [h2]
  exact hv
end Go.Proofs.Ythmjlomlceljkaa
