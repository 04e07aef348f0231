/-
  Three schedulers side by side.
-/
import Derived.Test.YtnainlemnkfpkaaFbc
namespace Go.Proofs.Ytnainlemnkfpkaa
open Go.RowKit
set_option linter.unusedSimpArgs false
set_option linter.unusedVariables false

/-- what a pick tells -/
def PkR (n m : Nat) (wt : Nat → Int) (al : Int) (E : Nat → HdE) (s : FS) (o : Option Nat) (s' : FS) : Prop :=
  (m = n ∧ okHd (hsz E) n ∧ o = pkK n wt al (hsz E) s ∧ s' = pkS n wt al (hsz E) s) ∨ ((m ≠ n ∨ ¬ okHd (hsz E) m) ∧ o = none ∧ s' = s)
theorem pkR_ex (n m : Nat) (wt : Nat → Int) (al : Int) (E : Nat → HdE) (s : FS) : ∃ o s', PkR n m wt al E s o s' := by
  by_cases h : m = n ∧ okHd (hsz E) n
  · exact ⟨_, _, .inl ⟨h.1, h.2, rfl, rfl⟩⟩
  · refine ⟨none, s, .inr ⟨?_, rfl, rfl⟩⟩
    by_cases hm : m = n
    · subst hm; exact .inr fun h2 => h ⟨rfl, h2⟩
    · exact .inl hm
theorem PkR.inv {n m : Nat} {wt : Nat → Int} {al : Int} {E : Nat → HdE} {s s' : FS} {o : Option Nat} (h : PkR n m wt al E s o s') (hw : WtOk n wt al) (hi : Inv n s) : Inv n s' := by
  rcases h with ⟨_, h2, _, rfl⟩ | ⟨_, _, rfl⟩
  · exact (inv_pk hw h2 hi).1
  · exact hi
theorem fpick_all (M g fo ft n c1 c2 : Nat) (wt : Nat → Int) (al : Int) (s : FS) (a : Option Addr) (m cap hb ho : Nat) (E : Nat → HdE) (w : World) (o : Option Nat) (s' : FS) (h : FrAt w M g fo ft n c1 c2 wt al s) (hE : ∀ W', Below M w W' → HdIn W' a m cap hb ho E) (hi : Inv n s) (hw : WtOk n wt al) (h0 : 0 < n) (hp : PkR n m wt al E s o s') :
    Calls Try.prog 11 #[.pointer (some ⟨g, 0, none⟩), .slice a m cap] w fun e w' => e = .returned (.tuple #[.int .i64 (kI o), .bool o.isSome]) ∧ PkP M g fo ft n c1 wt al s' w w' := by
  rcases hp with ⟨rfl, h2, rfl, rfl⟩ | ⟨h2, rfl, rfl⟩
  · exact fpick_good M g fo ft m c1 c2 wt al s a cap hb ho E w h (fun W' hB => hE W' hB.b) h2 hi hw h0
  · by_cases hm : m = n
    · refine (fpick_bad M g fo ft n c1 c2 wt al s' a m cap hb ho E w h hm (fun W' hB => hE W' (hB.mono h.size)) (by rcases h2 with h | h; exact absurd hm h; exact h)).mono ?_
      rintro e w' ⟨rfl, hB⟩
      exact ⟨rfl, ⟨ft, c2, h.step hB, (Fr.of_below hB).mono (by simp), .inl rfl⟩⟩
    · refine (fpick_len M g fo ft n c1 c2 wt al s' a m cap w h hm).mono ?_
      rintro e w' ⟨rfl, hB⟩
      exact ⟨rfl, ⟨ft, c2, h.step hB, (Fr.of_below hB).mono (by simp), .inl rfl⟩⟩
theorem rfpick_all (M : Nat) (x : RL) (ft c2 : Nat) (wt : Nat → Int) (al : Int) (s : FS) (a : Option Addr) (m cap hb ho : Nat) (E : Nat → HdE) (w : World) (o : Option Nat) (s' : FS) (h : RfAt w M x ft c2 wt al s) (hE : ∀ W', Below M w W' → HdIn W' a m cap hb ho E) (hi : Inv x.n s) (hw : WtOk x.n wt al) (h0 : 0 < x.n) (hp : PkR x.n m wt al E s o s') :
    Calls Try.prog 12 #[.pointer (some ⟨x.g, 0, none⟩), .slice a m cap] w fun e w' => e = .returned (.tuple #[.int .i64 (kI o), .bool o.isSome]) ∧ RkP M x ft wt al s' w w' := by
  rcases hp with ⟨rfl, h2, rfl, rfl⟩ | ⟨h2, rfl, rfl⟩
  · refine rfpick_good M x ft c2 wt al s a cap hb ho E w h (fun W' hf => hE W' (hf.below h.size ?_)) h2 hi hw h0
    have := h.ge
    intro q hq
    simp at hq
    omega
  · refine (rfpick_bad M x ft c2 wt al s' a m cap hb ho E w h (hE w (Below.refl _ _)) h2).mono ?_
    rintro e w' ⟨rfl, hB⟩
    exact ⟨rfl, ⟨ft, c2, h.step hB, (Fr.of_below hB).mono (by simp), .inl rfl⟩⟩
theorem iat_blk' {W : World} {b n : Nat} {f : Nat → Int} (h : IAt W b n f) : ∃ cs, Blk W b cs 3 := by
  obtain ⟨cs1, h1, _⟩ := h
  exact ⟨cs1, h1⟩
theorem bat_blk' {W : World} {b n : Nat} {f : Nat → Bool} (h : BAt W b n f) : ∃ cs, Blk W b cs 4 := by
  obtain ⟨cs1, h1, _⟩ := h
  exact ⟨cs1, h1⟩
theorem FrAt.blks {W : World} {M g fo ft n c1 c2 : Nat} {wt : Nat → Int} {al : Int} {s : FS} (h : FrAt W M g fo ft n c1 c2 wt al s) : ∃ a b c, Blk W g a 60 ∧ Blk W fo b 63 ∧ Blk W ft c 80 := by
  obtain ⟨cf, hcf, _⟩ := h.fl
  obtain ⟨ct, hct⟩ := blk_row h.tg
  exact ⟨_, _, _, h.blk, hcf, hct⟩
theorem RfAt.blks {W : World} {M : Nat} {x : RL} {ft c2 : Nat} {wt : Nat → Int} {al : Int} {s : FS} (h : RfAt W M x ft c2 wt al s) : ∃ a b c d e, Blk W x.g a 43 ∧ Blk W x.fw b 3 ∧ Blk W x.fz c 3 ∧ Blk W x.fv d 4 ∧ Blk W ft e 80 := by
  obtain ⟨cv, hv⟩ := bat_blk' h.sv
  obtain ⟨ct, hct⟩ := blk_row h.tg
  obtain ⟨cw, hw⟩ := iat_blk' h.w
  obtain ⟨cz, hz⟩ := iat_blk' h.z
  exact ⟨_, _, _, _, _, h.blk, hw, hz, hv, hct⟩
structure PyAt (W0 W : World) (Mf g fo ft n c1 c2 : Nat) (Mr : Nat) (x : RL) (fr c3 : Nat) (Mc gc foc ftc d1 d2 : Nat) (wt : Nat → Int) (al : Int) (sf sr sc : FS) : Prop where
  f : FrAt W Mf g fo ft n c1 c2 wt al sf
  r : RfAt W Mr x fr c3 wt al sr
  c : FrAt W Mc gc foc ftc n d1 d2 wt al sc
  ne : ft ≠ fr ∧ ft ≠ ftc ∧ fr ≠ ftc
  nf : g ≠ gc ∧ fo ≠ foc
  b : Below W0.heap.size W0 W
  m : W0.heap.size ≤ Mf ∧ W0.heap.size ≤ Mr ∧ W0.heap.size ≤ Mc
section
variable {W0 W W' : World} {Mf g fo ft n c1 c2 : Nat} {Mr : Nat} {x : RL} {fr c3 : Nat} {Mc gc foc ftc d1 d2 : Nat} {wt : Nat → Int} {al : Int} {sf sr sc : FS}
theorem PyAt.step (h : PyAt W0 W Mf g fo ft n c1 c2 Mr x fr c3 Mc gc foc ftc d1 d2 wt al sf sr sc) (hB : Below W.heap.size W W') : PyAt W0 W' Mf g fo ft n c1 c2 Mr x fr c3 Mc gc foc ftc d1 d2 wt al sf sr sc :=
  ⟨h.f.step hB, h.r.step hB, h.c.step hB, h.ne, h.nf, h.b.trans (hB.mono h.b.size), h.m⟩
theorem PyAt.pickF (h : PyAt W0 W Mf g fo ft n c1 c2 Mr x fr c3 Mc gc foc ftc d1 d2 wt al sf sr sc) {s' : FS} (hp : PkP Mf g fo ft n c1 wt al s' W W') : ∃ ft' c2', PyAt W0 W' Mf g fo ft' n c1 c2' Mr x fr c3 Mc gc foc ftc d1 d2 wt al s' sr sc := by
  obtain ⟨ft', c', h1, hf, ht⟩ := hp
  obtain ⟨_, _, _, f1, f2, f3⟩ := h.f.blks
  obtain ⟨_, _, _, _, _, r1, r2, r3, r4, r5⟩ := h.r.blks
  obtain ⟨_, _, _, k1, k2, k3⟩ := h.c.blks
  obtain ⟨e1, e2, e3⟩ := h.ne
  obtain ⟨e4, e5⟩ := h.nf
  have := h.f.ge
  have := h.m
  refine ⟨ft', c', h1, h.r.fr hf ?_ ?_ ?_ ?_ ?_, h.c.fr hf ?_ ?_ ?_, ?_, h.nf, h.b.trans (hf.below h.b.size ?_), h.m⟩
  · simp [blk_dis r1 f1 (by decide), blk_dis r1 f2 (by decide), blk_dis r1 f3 (by decide)]
  · simp [blk_dis r2 f1 (by decide), blk_dis r2 f2 (by decide), blk_dis r2 f3 (by decide)]
  · simp [blk_dis r3 f1 (by decide), blk_dis r3 f2 (by decide), blk_dis r3 f3 (by decide)]
  · simp [blk_dis r4 f1 (by decide), blk_dis r4 f2 (by decide), blk_dis r4 f3 (by decide)]
  · simp [blk_dis r5 f1 (by decide), blk_dis r5 f2 (by decide), e1.symm]
  · simp [e4.symm, blk_dis k1 f2 (by decide), blk_dis k1 f3 (by decide)]
  · simp [e5.symm, blk_dis k2 f1 (by decide), blk_dis k2 f3 (by decide)]
  · simp [blk_dis k3 f1 (by decide), blk_dis k3 f2 (by decide), e2.symm]
  · rcases ht with rfl | ht
    · exact ⟨e1, e2, e3⟩
    · have := r5.lt
      have := k3.lt
      exact ⟨by omega, by omega, e3⟩
  · intro q hq
    simp at hq
    omega
theorem PyAt.pickC (h : PyAt W0 W Mf g fo ft n c1 c2 Mr x fr c3 Mc gc foc ftc d1 d2 wt al sf sr sc) {s' : FS} (hp : PkP Mc gc foc ftc n d1 wt al s' W W') : ∃ ft' c2', PyAt W0 W' Mf g fo ft n c1 c2 Mr x fr c3 Mc gc foc ft' d1 c2' wt al sf sr s' := by
  obtain ⟨ft', c', h1, hf, ht⟩ := hp
  obtain ⟨_, _, _, f1, f2, f3⟩ := h.f.blks
  obtain ⟨_, _, _, _, _, r1, r2, r3, r4, r5⟩ := h.r.blks
  obtain ⟨_, _, _, k1, k2, k3⟩ := h.c.blks
  obtain ⟨e1, e2, e3⟩ := h.ne
  obtain ⟨e4, e5⟩ := h.nf
  have := h.c.ge
  have := h.m
  refine ⟨ft', c', h.f.fr hf ?_ ?_ ?_, h.r.fr hf ?_ ?_ ?_ ?_ ?_, h1, ?_, h.nf, h.b.trans (hf.below h.b.size ?_), h.m⟩
  · simp [e4, blk_dis f1 k2 (by decide), blk_dis f1 k3 (by decide)]
  · simp [e5, blk_dis f2 k1 (by decide), blk_dis f2 k3 (by decide)]
  · simp [blk_dis f3 k1 (by decide), blk_dis f3 k2 (by decide), e2]
  · simp [blk_dis r1 k1 (by decide), blk_dis r1 k2 (by decide), blk_dis r1 k3 (by decide)]
  · simp [blk_dis r2 k1 (by decide), blk_dis r2 k2 (by decide), blk_dis r2 k3 (by decide)]
  · simp [blk_dis r3 k1 (by decide), blk_dis r3 k2 (by decide), blk_dis r3 k3 (by decide)]
  · simp [blk_dis r4 k1 (by decide), blk_dis r4 k2 (by decide), blk_dis r4 k3 (by decide)]
  · simp [blk_dis r5 k1 (by decide), blk_dis r5 k2 (by decide), e3]
  · rcases ht with rfl | ht
    · exact ⟨e1, e2, e3⟩
    · have := r5.lt
      have := f3.lt
      exact ⟨e1, by omega, by omega⟩
  · intro q hq
    simp at hq
    omega
theorem PyAt.pickR (h : PyAt W0 W Mf g fo ft n c1 c2 Mr x fr c3 Mc gc foc ftc d1 d2 wt al sf sr sc) {s' : FS} (hp : RkP Mr x fr wt al s' W W') : ∃ fr' c3', PyAt W0 W' Mf g fo ft n c1 c2 Mr x fr' c3' Mc gc foc ftc d1 d2 wt al sf s' sc := by
  obtain ⟨ft', c', h1, hf, ht⟩ := hp
  obtain ⟨_, _, _, f1, f2, f3⟩ := h.f.blks
  obtain ⟨_, _, _, _, _, r1, r2, r3, r4, r5⟩ := h.r.blks
  obtain ⟨_, _, _, k1, k2, k3⟩ := h.c.blks
  obtain ⟨e1, e2, e3⟩ := h.ne
  have := h.r.ge
  have := h.m
  refine ⟨ft', c', h.f.fr hf ?_ ?_ ?_, h1, h.c.fr hf ?_ ?_ ?_, ?_, h.nf, h.b.trans (hf.below h.b.size ?_), h.m⟩
  · simp [blk_dis f1 r1 (by decide), blk_dis f1 r3 (by decide), blk_dis f1 r4 (by decide), blk_dis f1 r5 (by decide)]
  · simp [blk_dis f2 r1 (by decide), blk_dis f2 r3 (by decide), blk_dis f2 r4 (by decide), blk_dis f2 r5 (by decide)]
  · simp [blk_dis f3 r1 (by decide), blk_dis f3 r3 (by decide), blk_dis f3 r4 (by decide), e1]
  · simp [blk_dis k1 r1 (by decide), blk_dis k1 r3 (by decide), blk_dis k1 r4 (by decide), blk_dis k1 r5 (by decide)]
  · simp [blk_dis k2 r1 (by decide), blk_dis k2 r3 (by decide), blk_dis k2 r4 (by decide), blk_dis k2 r5 (by decide)]
  · simp [blk_dis k3 r1 (by decide), blk_dis k3 r3 (by decide), blk_dis k3 r4 (by decide), e3.symm]
  · rcases ht with rfl | ht
    · exact ⟨e1, e2, e3⟩
    · have := f3.lt
      have := k3.lt
      exact ⟨by omega, e2, by omega⟩
  · intro q hq
    simp at hq
    omega
theorem PyAt.held (h : PyAt W0 W Mf g fo ft n c1 c2 Mr x fr c3 Mc gc foc ftc d1 d2 wt al sf sr sc) : W.cell? ⟨x.g, 2, none⟩ = some (.int .i64 sr.V) ∧ W.cell? ⟨x.g, 3, none⟩ = some (.slice (some ⟨fr, 0, none⟩) x.n c3) := ⟨cell_at h.r.blk 2, cell_at h.r.blk 3⟩
end
end Go.Proofs.Ytnainlemnkfpkaa
