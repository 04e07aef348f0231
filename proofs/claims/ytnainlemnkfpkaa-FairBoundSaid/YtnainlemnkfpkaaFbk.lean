/-
  The bound: memory between two picks of the law.
-/
import Derived.Test.YtnainlemnkfpkaaFbj
import Derived.Test.YtnainlemnkfpkaaFaf
namespace Go.Proofs.Ytnainlemnkfpkaa
open Go.RowKit
set_option linter.unusedSimpArgs false
set_option linter.unusedVariables false


structure FlS (w W : World) (g fo ft n c1 c2 ab sk : Nat) (vm va : Value) (om oa : Option Nat) (wt : Nat → Int) (al : Int) (s : FS) (at_ : Nat → Nat) (M A : List Int) (fr : Nat) : Prop where
  f : FrAt W w.heap.size g fo ft n c1 c2 wt al s
  ar : IAt W ab n (fun k => (at_ k : Nat))
  sb : Blk W sk #[vm, va, .int .i64 (fr : Nat)] 51
  mi : InO w.heap.size W vm om M
  ai : InO w.heap.size W va oa A
  no : (∀ q, om = some q → q ≠ ab) ∧ (∀ q, oa = some q → q ≠ ab) ∧ ∀ q, om = some q → oa = some q → False
  ge : w.heap.size ≤ ab ∧ w.heap.size ≤ sk
  b : Below w.heap.size w W
theorem ino_fr {M : Nat} {W W' : World} {v : Value} {o : Option Nat} {L : List Int} (h : InO M W v o L) {l : List Nat} (hf : Fr l W W') (hn : ∀ q, o = some q → q ∉ l) : InO M W' v o L :=
  ⟨h.1.congr fun q e => hf.block q (by have h1 := h.1; rw [e] at h1; exact h1.lt) (hn q e), h.2.1, h.2.2⟩
theorem ino_blk {M : Nat} {W : World} {v : Value} {o : Option Nat} {L : List Int} (h : InO M W v o L) {q : Nat} (e : o = some q) : ∃ cs, Blk W q cs 3 := by
  have h1 := h.1
  rw [e] at h1
  exact blk_row h1
theorem iat_bk {W : World} {b n : Nat} {f : Nat → Int} (h : IAt W b n f) : ∃ cs, Blk W b cs 3 := by
  obtain ⟨cs1, h1, _⟩ := h
  exact ⟨cs1, h1⟩
section
variable {w W W' W5 : World} {g fo ft n c1 c2 ab sk : Nat} {vm va : Value} {om oa : Option Nat} {wt : Nat → Int} {al : Int} {s : FS} {at_ : Nat → Nat} {M A : List Int} {fr : Nat}
theorem FlS.step (h : FlS w W g fo ft n c1 c2 ab sk vm va om oa wt al s at_ M A fr) (hB : Below W.heap.size W W') : FlS w W' g fo ft n c1 c2 ab sk vm va om oa wt al s at_ M A fr :=
  ⟨h.f.step hB, h.ar.fr (Fr.of_below hB) (by simp), h.sb.step hB, h.mi.step hB, h.ai.step hB, h.no, h.ge, h.b.trans (hB.mono h.b.size)⟩
theorem FlS.pick (h : FlS w W g fo ft n c1 c2 ab sk vm va om oa wt al s at_ M A fr) {s' : FS} (hp : PkP w.heap.size g fo ft n c1 wt al s' W W') : ∃ ft' c', FlS w W' g fo ft' n c1 c' ab sk vm va om oa wt al s' at_ M A fr := by
  obtain ⟨ft', c', h1, hf, _⟩ := hp
  obtain ⟨_, _, _, f1, f2, f3⟩ := h.f.blks'
  obtain ⟨_, ha⟩ := iat_bk h.ar
  have hge := h.f.ge
  have key : ∀ {q : Nat} {cs : Array Value} {ty : TypeId}, Blk W q cs ty → ty ≠ 60 → ty ≠ 63 → ty ≠ 80 → q ∉ [g, fo, ft] := fun hb t1 t2 t3 => by
    simp [blk_dis hb f1 t1, blk_dis hb f2 t2, blk_dis hb f3 t3]
  refine ⟨ft', c', h1, h.ar.fr hf (key ha (by decide) (by decide) (by decide)), (hf.block sk h.sb.lt (key h.sb (by decide) (by decide) (by decide))).trans h.sb, ino_fr h.mi hf (fun q e => ?_), ino_fr h.ai hf (fun q e => ?_), h.no, h.ge, h.b.trans (hf.below h.b.size ?_)⟩
  · obtain ⟨cs, hb⟩ := ino_blk h.mi e
    exact key hb (by decide) (by decide) (by decide)
  · obtain ⟨cs, hb⟩ := ino_blk h.ai e
    exact key hb (by decide) (by decide) (by decide)
  · intro q hq
    simp at hq
    omega
theorem FlS.one (h : FlS w W g fo ft n c1 c2 ab sk vm va om oa wt al s at_ M A fr) {q : Nat} {cs : Array Value} {ty : TypeId} (hf : Fr [q] W W') (hb : Blk W q cs ty) (t1 : ty ≠ 60) (t2 : ty ≠ 63) (t3 : ty ≠ 80) : FrAt W' w.heap.size g fo ft n c1 c2 wt al s := by
  obtain ⟨_, _, _, f1, f2, f3⟩ := h.f.blks'
  exact h.f.fr hf (by simpa using blk_dis f1 hb t1.symm) (by simpa using blk_dis f2 hb t2.symm) (by simpa using blk_dis f3 hb t3.symm)
theorem FlS.from_ (h : FlS w W g fo ft n c1 c2 ab sk vm va om oa wt al s at_ M A fr) {fr' : Nat} (hW : W' = W.setCell ⟨sk, 2, none⟩ (.int .i64 (fr' : Nat))) : FlS w W' g fo ft n c1 c2 ab sk vm va om oa wt al s at_ M A fr' := by
  have hf : Fr [sk] W W' := by rw [hW]; exact (Fr.refl _ _).setCell _ (.inl (by simp)) _
  obtain ⟨_, ha⟩ := iat_bk h.ar
  refine ⟨h.one hf h.sb (by decide) (by decide) (by decide), h.ar.fr hf (by simpa using blk_dis ha h.sb (by decide)), by rw [hW]; exact h.sb.set 2 _, ino_fr h.mi hf (fun q e => ?_), ino_fr h.ai hf (fun q e => ?_), h.no, h.ge, h.b.trans (hf.below h.b.size (by simpa using h.ge.2))⟩
  · obtain ⟨cs, hb⟩ := ino_blk h.mi e
    simpa using blk_dis hb h.sb (by decide)
  · obtain ⟨cs, hb⟩ := ino_blk h.ai e
    simpa using blk_dis hb h.sb (by decide)
theorem FlS.put (h : FlS w W g fo ft n c1 c2 ab sk vm va om oa wt al s at_ M A fr) {k : Nat} (hk : k < n) (hW : W' = W.setCell ⟨ab, k, none⟩ (.int .i64 ((at_ k + 1 : Nat) : Int))) : FlS w W' g fo ft n c1 c2 ab sk vm va om oa wt al s (upf at_ k (at_ k + 1)) M A fr := by
  obtain ⟨pa, hf⟩ := h.ar.put hk _ hW
  obtain ⟨_, ha⟩ := iat_bk h.ar
  refine ⟨h.one hf ha (by decide) (by decide) (by decide), ?_, (hf.block sk h.sb.lt (by simpa using blk_dis h.sb ha (by decide))).trans h.sb, ino_fr h.mi hf (fun q e => by simpa using h.no.1 q e), ino_fr h.ai hf (fun q e => by simpa using h.no.2.1 q e), h.no, h.ge, h.b.trans (hf.below h.b.size (by simpa using h.ge.1))⟩
  obtain ⟨cs, hb, hc⟩ := pa
  refine ⟨cs, hb, fun j hj => (hc j hj).trans ?_⟩
  by_cases hjk : j = k
  · subst hjk; rw [upf_at, upf_at]
  · rw [upf_ne _ _ hjk, upf_ne _ _ hjk]
theorem FlS.grM (h : FlS w W g fo ft n c1 c2 ab sk vm va om oa wt al s at_ M A fr) (hg : W.grownBy W5 om) : Blk W5 sk #[vm, va, .int .i64 (fr : Nat)] 51 := by
  refine (hg.block sk h.sb.lt (fun e => ?_)).trans h.sb
  obtain ⟨cs, hb⟩ := ino_blk h.mi e.symm
  exact blk_dis hb h.sb (by decide) rfl
theorem FlS.grA (h : FlS w W g fo ft n c1 c2 ab sk vm va om oa wt al s at_ M A fr) (hg : W.grownBy W5 oa) : Blk W5 sk #[vm, va, .int .i64 (fr : Nat)] 51 := by
  refine (hg.block sk h.sb.lt (fun e => ?_)).trans h.sb
  obtain ⟨cs, hb⟩ := ino_blk h.ai e.symm
  exact blk_dis hb h.sb (by decide) rfl
theorem FlS.pushM (h : FlS w W g fo ft n c1 c2 ab sk vm va om oa wt al s at_ M A fr) {v5 : Value} {om5 : Nat} {M' : List Int} (hi : InO w.heap.size W5 v5 (some om5) M') (hg : W.grownBy W5 om) (hs : om = some om5 ∨ om5 = W.heap.size) (hlo : Below w.heap.size W W5) (hW : W' = W5.setCell ⟨sk, 0, none⟩ v5) : FlS w W' g fo ft n c1 c2 ab sk v5 va (some om5) oa wt al s at_ M' A fr := by
  have hsb5 := h.grM hg
  have hf : Fr om.toList W W5 := ⟨hg.os, hg.tape, hg.output, hg.size, fun i hi hq => hg.block i hi (fun e => hq (by rw [← e]; simp))⟩
  have hf2 : Fr [sk] W5 W' := by rw [hW]; exact (Fr.refl _ _).setCell _ (.inl (by simp)) _
  have key : ∀ {q : Nat} {cs : Array Value} {ty : TypeId}, Blk W q cs ty → ty ≠ 3 → q ∉ om.toList := fun {q cs ty} hb ht hm => by
    have e : om = some q := by simpa using hm
    obtain ⟨cs', hb'⟩ := ino_blk h.mi e
    exact blk_dis hb hb' ht rfl
  obtain ⟨_, _, _, f1, f2, f3⟩ := h.f.blks'
  have hf5 := h.f.fr hf (key f1 (by decide)) (key f2 (by decide)) (key f3 (by decide))
  obtain ⟨_, _, _, g1, g2, g3⟩ := hf5.blks'
  have har5 := h.ar.fr hf (fun hm => h.no.1 ab (by simpa using hm) rfl)
  obtain ⟨_, ha5⟩ := iat_bk har5
  obtain ⟨ca0, ha0⟩ := iat_bk h.ar
  have hai5 := ino_fr h.ai hf (fun q e hm => h.no.2.2 q (by simpa using hm) e)
  refine ⟨hf5.fr hf2 (by simpa using blk_dis g1 hsb5 (by decide)) (by simpa using blk_dis g2 hsb5 (by decide)) (by simpa using blk_dis g3 hsb5 (by decide)), har5.fr hf2 (by simpa using blk_dis ha5 hsb5 (by decide)), by rw [hW]; exact hsb5.set 0 _, ino_fr hi hf2 (fun q e => ?_), ino_fr hai5 hf2 (fun q e => ?_), ⟨fun q e => ?_, h.no.2.1, fun q e e2 => ?_⟩, h.ge, (h.b.trans hlo).trans (hf2.below (h.b.trans hlo).size (by simpa using h.ge.2))⟩
  · obtain ⟨cs, hb⟩ := ino_blk hi e
    simpa using blk_dis hb hsb5 (by decide)
  · obtain ⟨cs, hb⟩ := ino_blk hai5 e
    simpa using blk_dis hb hsb5 (by decide)
  · obtain rfl := Option.some.inj e
    rcases hs with h1 | h1
    · exact h.no.1 _ h1
    · have := ha0.lt; omega
  · obtain rfl := Option.some.inj e
    rcases hs with h1 | h1
    · exact h.no.2.2 _ h1 e2
    · obtain ⟨cs, hb⟩ := ino_blk h.ai e2
      have := hb.lt
      omega
theorem FlS.pushA (h : FlS w W g fo ft n c1 c2 ab sk vm va om oa wt al s at_ M A fr) {v5 : Value} {om5 : Nat} {M' : List Int} (hi : InO w.heap.size W5 v5 (some om5) M') (hg : W.grownBy W5 oa) (hs : oa = some om5 ∨ om5 = W.heap.size) (hlo : Below w.heap.size W W5) (hW : W' = W5.setCell ⟨sk, 1, none⟩ v5) : FlS w W' g fo ft n c1 c2 ab sk vm v5 om (some om5) wt al s at_ M M' fr := by
  have hsb5 := h.grA hg
  have hf : Fr oa.toList W W5 := ⟨hg.os, hg.tape, hg.output, hg.size, fun i hi hq => hg.block i hi (fun e => hq (by rw [← e]; simp))⟩
  have hf2 : Fr [sk] W5 W' := by rw [hW]; exact (Fr.refl _ _).setCell _ (.inl (by simp)) _
  have key : ∀ {q : Nat} {cs : Array Value} {ty : TypeId}, Blk W q cs ty → ty ≠ 3 → q ∉ oa.toList := fun {q cs ty} hb ht hm => by
    have e : oa = some q := by simpa using hm
    obtain ⟨cs', hb'⟩ := ino_blk h.ai e
    exact blk_dis hb hb' ht rfl
  obtain ⟨_, _, _, f1, f2, f3⟩ := h.f.blks'
  have hf5 := h.f.fr hf (key f1 (by decide)) (key f2 (by decide)) (key f3 (by decide))
  obtain ⟨_, _, _, g1, g2, g3⟩ := hf5.blks'
  have har5 := h.ar.fr hf (fun hm => h.no.2.1 ab (by simpa using hm) rfl)
  obtain ⟨_, ha5⟩ := iat_bk har5
  obtain ⟨ca0, ha0⟩ := iat_bk h.ar
  have hmi5 := ino_fr h.mi hf (fun q e hm => h.no.2.2 q e (by simpa using hm))
  refine ⟨hf5.fr hf2 (by simpa using blk_dis g1 hsb5 (by decide)) (by simpa using blk_dis g2 hsb5 (by decide)) (by simpa using blk_dis g3 hsb5 (by decide)), har5.fr hf2 (by simpa using blk_dis ha5 hsb5 (by decide)), by rw [hW]; exact hsb5.set 1 _, ino_fr hmi5 hf2 (fun q e => ?_), ino_fr hi hf2 (fun q e => ?_), ⟨h.no.1, fun q e => ?_, fun q e e2 => ?_⟩, h.ge, (h.b.trans hlo).trans (hf2.below (h.b.trans hlo).size (by simpa using h.ge.2))⟩
  · obtain ⟨cs, hb⟩ := ino_blk hmi5 e
    simpa using blk_dis hb hsb5 (by decide)
  · obtain ⟨cs, hb⟩ := ino_blk hi e
    simpa using blk_dis hb hsb5 (by decide)
  · obtain rfl := Option.some.inj e
    rcases hs with h1 | h1
    · exact h.no.2.1 _ h1
    · have := ha0.lt; omega
  · obtain rfl := Option.some.inj e2
    rcases hs with h1 | h1
    · exact h.no.2.2 _ e h1
    · obtain ⟨cs, hb⟩ := ino_blk h.mi e
      have := hb.lt
      omega
end
end Go.Proofs.Ytnainlemnkfpkaa
