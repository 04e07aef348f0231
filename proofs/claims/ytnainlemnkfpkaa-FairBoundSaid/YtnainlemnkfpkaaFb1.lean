/-
  The document's scheduler in memory.
-/
import Derived.Test.YtnainlemnkfpkaaFad
namespace Go.Proofs.Ytnainlemnkfpkaa
open Go.RowKit
set_option linter.unusedSimpArgs false
set_option linter.unusedVariables false

/-- a row of ints, of bools, as cells of a block -/
structure IAt (W : World) (b n : Nat) (f : Nat → Int) : Prop where
  ex : ∃ cs, Blk W b cs 3 ∧ ∀ k, k < n → cs[k]? = some (.int .i64 (f k))
structure BAt (W : World) (b n : Nat) (f : Nat → Bool) : Prop where
  ex : ∃ cs, Blk W b cs 4 ∧ ∀ k, k < n → cs[k]? = some (.bool (f k))
theorem IAt.lt {W : World} {b n : Nat} {f : Nat → Int} (h : IAt W b n f) : b < W.heap.size := by obtain ⟨cs, hb, _⟩ := h; exact hb.lt
theorem BAt.lt {W : World} {b n : Nat} {f : Nat → Bool} (h : BAt W b n f) : b < W.heap.size := by obtain ⟨cs, hb, _⟩ := h; exact hb.lt
theorem IAt.free {W : World} {b n : Nat} {f : Nat → Int} (h : IAt W b n f) (j : Nat) : W.frozen? ⟨b, j, none⟩ = false := by obtain ⟨cs, hb, _⟩ := h; exact free_at hb j
theorem BAt.free {W : World} {b n : Nat} {f : Nat → Bool} (h : BAt W b n f) (j : Nat) : W.frozen? ⟨b, j, none⟩ = false := by obtain ⟨cs, hb, _⟩ := h; exact free_at hb j
theorem IAt.cell {W : World} {b n : Nat} {f : Nat → Int} (h : IAt W b n f) {k : Nat} (hk : k < n) : W.cell? ⟨b, k, none⟩ = some (.int .i64 (f k)) := by obtain ⟨cs, hb, hc⟩ := h; exact (cell_at hb _).trans (hc k hk)
theorem BAt.cell {W : World} {b n : Nat} {f : Nat → Bool} (h : BAt W b n f) {k : Nat} (hk : k < n) : W.cell? ⟨b, k, none⟩ = some (.bool (f k)) := by obtain ⟨cs, hb, hc⟩ := h; exact (cell_at hb _).trans (hc k hk)
theorem IAt.fr {W W' : World} {b n : Nat} {f : Nat → Int} (h : IAt W b n f) {l : List Nat} (hf : Fr l W W') (hn : b ∉ l) : IAt W' b n f := by obtain ⟨cs, hb, hc⟩ := h; exact ⟨cs, (hf.block b hb.lt hn).trans hb, hc⟩
theorem BAt.fr {W W' : World} {b n : Nat} {f : Nat → Bool} (h : BAt W b n f) {l : List Nat} (hf : Fr l W W') (hn : b ∉ l) : BAt W' b n f := by obtain ⟨cs, hb, hc⟩ := h; exact ⟨cs, (hf.block b hb.lt hn).trans hb, hc⟩
theorem IAt.put {W W' : World} {b n : Nat} {f : Nat → Int} (h : IAt W b n f) {k : Nat} (hk : k < n) (x : Int) (hW : W' = W.setCell ⟨b, k, none⟩ (.int .i64 x)) : IAt W' b n (upf f k x) ∧ Fr [b] W W' := by
  obtain ⟨cs, hb, hc⟩ := h
  subst hW
  refine ⟨⟨_, hb.set _ _, fun j hj => ?_⟩, (Fr.refl _ _).setCell _ (.inl (by simp)) _⟩
  have hs := (Array.getElem?_eq_some_iff.1 (hc k hk)).1
  rw [Array.getElem?_setIfInBounds]
  by_cases hjk : k = j
  · subst hjk; rw [if_pos rfl, if_pos hs, upf_at]
  · rw [if_neg hjk, upf_ne _ _ (fun e => hjk e.symm)]; exact hc j hj
theorem BAt.put {W W' : World} {b n : Nat} {f : Nat → Bool} (h : BAt W b n f) {k : Nat} (hk : k < n) (x : Bool) (hW : W' = W.setCell ⟨b, k, none⟩ (.bool x)) : BAt W' b n (upf f k x) ∧ Fr [b] W W' := by
  obtain ⟨cs, hb, hc⟩ := h
  subst hW
  refine ⟨⟨_, hb.set _ _, fun j hj => ?_⟩, (Fr.refl _ _).setCell _ (.inl (by simp)) _⟩
  have hs := (Array.getElem?_eq_some_iff.1 (hc k hk)).1
  rw [Array.getElem?_setIfInBounds]
  by_cases hjk : k = j
  · subst hjk; rw [if_pos rfl, if_pos hs, upf_at]
  · rw [if_neg hjk, upf_ne _ _ (fun e => hjk e.symm)]; exact hc j hj
theorem blk_dis {W : World} {x y : Nat} {a b : Array Value} {t u : TypeId} (h1 : Blk W x a t) (h2 : Blk W y b u) (hn : t ≠ u) : x ≠ y := by
  rintro rfl
  have := h1.symm.trans h2
  injection this with e'
  injection e' with e1 e2
  exact hn e2
/-- where a scheduler of the document's lies -/
structure RL where
  g : Nat
  fw : Nat
  fz : Nat
  fv : Nat
  n : Nat
  cw : Nat
  cz : Nat
  cv : Nat
def RL.ft3 (x : RL) : List Nat := [x.g, x.fz, x.fv]
structure RfAt (W : World) (M : Nat) (x : RL) (ft c2 : Nat) (wt : Nat → Int) (al : Int) (s : FS) : Prop where
  blk : Blk W x.g #[.slice (some ⟨x.fw, 0, none⟩) x.n x.cw, .int .i64 al, .int .i64 s.V, .slice (some ⟨ft, 0, none⟩) x.n c2, .slice (some ⟨x.fz, 0, none⟩) x.n x.cz, .slice (some ⟨x.fv, 0, none⟩) x.n x.cv] 43
  w : IAt W x.fw x.n wt
  z : IAt W x.fz x.n s.z
  sv : BAt W x.fv x.n s.sv
  cp : x.n ≤ x.cw ∧ x.n ≤ x.cz ∧ x.n ≤ x.cv
  tg : Row W (.slice (some ⟨ft, 0, none⟩) x.n c2) (some ft) 80 2 x.n (tagsL s.T x.n)
  ge : M ≤ x.g ∧ M ≤ x.fw ∧ M ≤ x.fz ∧ M ≤ x.fv ∧ M ≤ ft
  wz : x.fw ≠ x.fz
section
variable {W W' : World} {M ft c2 : Nat} {x : RL} {wt : Nat → Int} {al : Int} {s : FS}
theorem RfAt.ne (h : RfAt W M x ft c2 wt al s) : x.g ≠ x.fw ∧ x.g ≠ x.fz ∧ x.g ≠ x.fv ∧ x.g ≠ ft ∧ x.fw ≠ x.fv ∧ x.fw ≠ ft ∧ x.fz ≠ x.fv ∧ x.fz ≠ ft ∧ x.fv ≠ ft := by
  obtain ⟨cw, hw, _⟩ := h.w
  obtain ⟨cz, hz, _⟩ := h.z
  obtain ⟨cv, hv, _⟩ := h.sv
  obtain ⟨ct, ht⟩ := blk_row h.tg
  exact ⟨blk_dis h.blk hw (by decide), blk_dis h.blk hz (by decide), blk_dis h.blk hv (by decide), blk_dis h.blk ht (by decide), blk_dis hw hv (by decide), blk_dis hw ht (by decide), blk_dis hz hv (by decide), blk_dis hz ht (by decide), blk_dis hv ht (by decide)⟩
theorem RfAt.fr (h : RfAt W M x ft c2 wt al s) {l : List Nat} (hf : Fr l W W') (h1 : x.g ∉ l) (h2 : x.fw ∉ l) (h3 : x.fz ∉ l) (h4 : x.fv ∉ l) (h5 : ft ∉ l) : RfAt W' M x ft c2 wt al s :=
  ⟨(hf.block x.g h.blk.lt h1).trans h.blk, h.w.fr hf h2, h.z.fr hf h3, h.sv.fr hf h4, h.cp, h.tg.congr fun q e => by obtain rfl := Option.some.inj e; exact hf.block _ h.tg.lt h5, h.ge, h.wz⟩
theorem RfAt.step (h : RfAt W M x ft c2 wt al s) (hB : Below W.heap.size W W') : RfAt W' M x ft c2 wt al s := h.fr (Fr.of_below hB) (by simp) (by simp) (by simp) (by simp) (by simp)
theorem RfAt.size (h : RfAt W M x ft c2 wt al s) : M ≤ W.heap.size := by have := h.blk.lt; have := h.ge; omega
theorem RfAt.tags (h : RfAt W M x ft c2 wt al s) (hT : ∀ k, k < x.n → (s.T k).ok) : TagsIn W (some ⟨ft, 0, none⟩) x.n c2 ft 0 s.T := by
  obtain ⟨a', c', he, ht⟩ := tags_row h.tg hT
  injection he with e1 e2 e3
  subst e1 e3
  exact ht
theorem RfAt.vt (h : RfAt W M x ft c2 wt al s) {V' : Int} {T' : Nat → TagsE} {ft' c' : Nat} (hr : Row W (.slice (some ⟨ft', 0, none⟩) x.n c') (some ft') 80 2 x.n (tagsL T' x.n)) (hM : M ≤ ft') (hW : W' = (W.setCell ⟨x.g, 2, none⟩ (.int .i64 V')).setCell ⟨x.g, 3, none⟩ (.slice (some ⟨ft', 0, none⟩) x.n c')) :
    RfAt W' M x ft' c' wt al ⟨V', T', s.z, s.sv⟩ ∧ Fr [x.g] W W' := by
  have hf : Fr [x.g] W W' := by rw [hW]; exact ((Fr.refl _ _).setCell _ (.inl (by simp)) _).setCell _ (.inl (by simp)) _
  obtain ⟨n1, n2, n3, n4, _⟩ := h.ne
  obtain ⟨ct, hc⟩ := blk_row hr
  have hgt : x.g ≠ ft' := blk_dis h.blk hc (by decide)
  exact ⟨⟨by rw [hW]; exact (h.blk.set 2 _).set 3 _, h.w.fr hf (by simpa using fun e => n1 e.symm), h.z.fr hf (by simpa using fun e => n2 e.symm), h.sv.fr hf (by simpa using fun e => n3 e.symm), h.cp, hr.congr fun q e => by
    obtain rfl := Option.some.inj e
    exact hf.block _ hr.lt (by simpa using fun e => hgt e.symm), ⟨h.ge.1, h.ge.2.1, h.ge.2.2.1, h.ge.2.2.2.1, hM⟩, h.wz⟩, hf⟩
theorem RfAt.cut (h : RfAt W M x ft c2 wt al s) {k : Nat} (hk : k < x.n) (hW : W' = W.setCell ⟨ft, k * 2 + 1, none⟩ (.int .i64 (s.T k).s)) : RfAt W' M x ft c2 wt al ⟨s.V, updT s.T k ⟨(s.T k).s, (s.T k).s⟩, s.z, s.sv⟩ ∧ Fr [ft] W W' := by
  have hf : Fr [ft] W W' := by rw [hW]; exact (Fr.refl _ _).setCell _ (.inl (by simp)) _
  obtain ⟨_, _, _, n4, _, n6, _, n8, n9⟩ := h.ne
  refine ⟨⟨(hf.block x.g h.blk.lt (by simpa using n4)).trans h.blk, h.w.fr hf (by simpa using n6), h.z.fr hf (by simpa using n8), h.sv.fr hf (by simpa using n9), h.cp, ?_, h.ge, h.wz⟩, hf⟩
  have h1 := h.tg.set (k * 2 + 1) (.int .i64 (s.T k).s)
  rw [← hW] at h1
  have hl : (tagsL s.T x.n).set (k * 2 + 1) (.int .i64 (s.T k).s) = tagsL (updT s.T k ⟨(s.T k).s, (s.T k).s⟩) x.n := by
    rw [← tagsL_upd s.T k _ _ x.n hk]
    congr 1
    have hg : (tagsL s.T x.n)[k * 2]? = some (.int .i64 (s.T k).s) := by
      have := tagsL_at s.T x.n k 0 hk (by omega)
      simpa [TagsE.cells] using this
    apply List.ext_getElem?
    intro i
    rw [List.getElem?_set]
    by_cases hi : k * 2 = i
    · subst hi
      rw [if_pos rfl, hg]
      have := (List.getElem?_eq_some_iff.1 hg).1
      rw [if_pos this]
    · rw [if_neg hi]
  rw [hl] at h1
  exact h1
/-- a flow's size and whether it was served -/
theorem RfAt.end_ {W1 : World} (h : RfAt W M x ft c2 wt al s) {k : Nat} (hk : k < x.n) (m : Int) (b : Bool) (hW1 : W1 = W.setCell ⟨x.fz, k, none⟩ (.int .i64 m)) (hW : W' = W1.setCell ⟨x.fv, k, none⟩ (.bool b)) : RfAt W1 M x ft c2 wt al ⟨s.V, s.T, upf s.z k m, s.sv⟩ ∧ RfAt W' M x ft c2 wt al ⟨s.V, s.T, upf s.z k m, upf s.sv k b⟩ ∧ Fr [x.fz] W W1 ∧ Fr [x.fv] W1 W' := by
  obtain ⟨_, n2, n3, _, n5, _, n7, n8, n9⟩ := h.ne
  obtain ⟨pz, qz⟩ := h.z.put hk m hW1
  have h1 : RfAt W1 M x ft c2 wt al ⟨s.V, s.T, upf s.z k m, s.sv⟩ := ⟨(qz.block x.g h.blk.lt (by simpa using n2)).trans h.blk, h.w.fr qz (by simpa using h.wz), pz, h.sv.fr qz (by simpa using fun e => n7 e.symm), h.cp, h.tg.congr fun q e => by obtain rfl := Option.some.inj e; exact qz.block _ h.tg.lt (by simpa using fun e => n8 e.symm), h.ge, h.wz⟩
  obtain ⟨pv, qv⟩ := h1.sv.put hk b hW
  exact ⟨h1, ⟨(qv.block x.g h1.blk.lt (by simpa using n3)).trans h1.blk, h1.w.fr qv (by simpa using n5), h1.z.fr qv (by simpa using n7), pv, h.cp, h1.tg.congr fun q e => by obtain rfl := Option.some.inj e; exact qv.block _ h1.tg.lt (by simpa using fun e => n9 e.symm), h.ge, h.wz⟩, qz, qv⟩
/-- another block set -/
theorem RfAt.other (h : RfAt W M x ft c2 wt al s) {q : Nat} {cs : Array Value} {ty : TypeId} (hf : Fr [q] W W') (hb : Blk W q cs ty) (t1 : ty ≠ 43) (t2 : ty ≠ 3) (t3 : ty ≠ 4) (t4 : ty ≠ 80) : RfAt W' M x ft c2 wt al s := by
  obtain ⟨cw, hw, _⟩ := h.w
  obtain ⟨cz, hz, _⟩ := h.z
  obtain ⟨cv, hv, _⟩ := h.sv
  obtain ⟨ct, ht⟩ := blk_row h.tg
  exact h.fr hf (by simpa using blk_dis h.blk hb (Ne.symm t1)) (by simpa using blk_dis hw hb (Ne.symm t2)) (by simpa using blk_dis hz hb (Ne.symm t2)) (by simpa using blk_dis hv hb (Ne.symm t3)) (by simpa using blk_dis ht hb (Ne.symm t4))
end
theorem rnext_ok (V : Int) (ft n c2 : Nat) (T : Nat → TagsE) (k : Nat) (m wt al : Int) (w : World) (hs : TagsIn w (some ⟨ft, 0, none⟩) n c2 ft 0 T) (hn : n ≤ 8) (hk : k < n) (hg : goodTag V n T k (costS m wt al) (T k).f = true) :
    Calls Try.prog 49 #[.agg #[.int .i64 V, .slice (some ⟨ft, 0, none⟩) n c2], .int .i64 k, .int .i64 m, .int .i64 wt, .int .i64 al] w (VTk w n V (updT T k ⟨(T k).f, (T k).f + costS m wt al⟩) fun v => .tuple #[v, .int .i64 0]) := by
  refine (rnext_any V _ n c2 ft 0 T k m wt al w hs (by omega)).mono fun e w' h => ?_
  unfold TagP at h
  simp only [headF, Int.toNat_natCast] at h
  rw [hg] at h
  obtain ⟨v, rfl, hv⟩ := h
  obtain ⟨ft', c', rfl, h1, h2, h3⟩ := vout_own hv (by omega)
  exact ⟨ft', c', rfl, h1, h2, h3⟩
theorem rwake_ok (V : Int) (ft n c2 : Nat) (T : Nat → TagsE) (k : Nat) (m wt al : Int) (w : World) (hs : TagsIn w (some ⟨ft, 0, none⟩) n c2 ft 0 T) (hn : n ≤ 8) (hk : k < n) (hg : goodTag V n T k (costS m wt al) (max (T k).f V) = true) :
    Calls Try.prog 50 #[.agg #[.int .i64 V, .slice (some ⟨ft, 0, none⟩) n c2], .int .i64 k, .int .i64 m, .int .i64 wt, .int .i64 al] w (VTk w n V (updT T k ⟨max (T k).f V, max (T k).f V + costS m wt al⟩) fun v => .tuple #[v, .int .i64 0]) := by
  refine (rwake_any V _ n c2 ft 0 T k m wt al w hs (by omega)).mono fun e w' h => ?_
  unfold TagP at h
  simp only [headF, Int.toNat_natCast] at h
  rw [hg] at h
  obtain ⟨v, rfl, hv⟩ := h
  obtain ⟨ft', c', rfl, h1, h2, h3⟩ := vout_own hv (by omega)
  exact ⟨ft', c', rfl, h1, h2, h3⟩
theorem rvpick_ok (V : Int) (ft n c2 : Nat) (T : Nat → TagsE) (ra : Option Addr) (rc rb ro : Nat) (R : Nat → Bool) (k0 k : Nat) (w : World) (hs : TagsIn w (some ⟨ft, 0, none⟩) n c2 ft 0 T) (hn : n ≤ 8) (h0 : 0 < n) (hr : BoolsIn w ra n rc rb ro R) (hv : vokB V n T = true) (h1 : firstS R (ltS T) n = some k0) (h2 : firstS (tkN T R (max V (T k0).s)) (ltF T) n = some k) :
    Calls Try.prog 33 #[.agg #[.int .i64 V, .slice (some ⟨ft, 0, none⟩) n c2], .slice ra n rc] w (VTk w n (max V (T k0).s) T fun v => .tuple #[v, .int .i64 k, .bool true]) := by
  refine (rpick_any V _ n c2 ft 0 T ra n rc rb ro R w hs (by omega) hr).mono fun e w' h => ?_
  unfold PickP at h
  rw [if_pos ⟨hv, rfl⟩, h1] at h
  simp only at h
  rw [firstI_some h2] at h
  obtain ⟨v, rfl, hv⟩ := h
  obtain ⟨ft', c', rfl, h1, h2, h3⟩ := vout_own hv h0
  exact ⟨ft', c', rfl, h1, h2, h3⟩
theorem rvserve_ok (V : Int) (ft n c2 : Nat) (T : Nat → TagsE) (z : Int) (w : World) (hs : TagsIn w (some ⟨ft, 0, none⟩) n c2 ft 0 T) (hn : n ≤ 8) (h0 : 0 < n) (hv : serveB V n T z = true) :
    Calls Try.prog 34 #[.agg #[.int .i64 V, .slice (some ⟨ft, 0, none⟩) n c2], .int .i64 z] w (VTk w n (V + z * 720720) T fun v => .tuple #[v, .int .i64 0]) := by
  refine (rserve_any V _ n c2 ft 0 T z w hs (by omega)).mono fun e w' h => ?_
  unfold ServeP at h
  rw [hv] at h
  obtain ⟨v, rfl, hv⟩ := h
  obtain ⟨ft', c', rfl, h1, h2, h3⟩ := vout_own hv h0
  exact ⟨ft', c', rfl, h1, h2, h3⟩
theorem rvreb_ok (V : Int) (ft n c2 : Nat) (T : Nat → TagsE) (w : World) (hs : TagsIn w (some ⟨ft, 0, none⟩) n c2 ft 0 T) (hn : n ≤ 8) (h0 : 0 < n) (hv : vokB V n T = true) :
    Calls Try.prog 35 #[.agg #[.int .i64 V, .slice (some ⟨ft, 0, none⟩) n c2]] w (VTk w n (reV V) (reT V n T) fun v => v) := by
  refine (rrebase_any V _ n c2 ft 0 T w hs (by omega)).mono fun e w' h => ?_
  unfold RebP at h
  obtain ⟨v, rfl, h⟩ := h
  unfold reV reT
  by_cases hl : 1125899906842624 < V
  · have : lateB V n T = true := by unfold lateB; rw [hv]; simpa using hl
    rw [this] at h
    obtain ⟨ft', c', rfl, h1, h2, h3⟩ := vout_own h h0
    rw [if_pos hl, if_pos hl]
    exact ⟨ft', c', rfl, h1, h2, h3⟩
  · have : lateB V n T = false := by unfold lateB; rw [hv]; simpa using hl
    rw [this] at h
    obtain ⟨ft', c', rfl, h1, h2, h3⟩ := vout_own h h0
    rw [if_neg hl, if_neg hl]
    exact ⟨ft', c', rfl, h1, h2, h3⟩
end Go.Proofs.Ytnainlemnkfpkaa
