/-
  A new one, the document: its rows under making.
-/
import Derived.Test.YtnainlemnkfpkaaFb3
namespace Go.Proofs.Ytnainlemnkfpkaa
open Go.RowKit
set_option linter.unusedSimpArgs false
set_option linter.unusedVariables false

def wtL (wt : Nat → Int) (n : Nat) : List Int := (List.range n).map wt
theorem wtL_succ (wt : Nat → Int) (n : Nat) : wtL wt (n + 1) = wtL wt n ++ [wt n] := by simp [wtL, List.range_succ]
theorem wtL_len (wt : Nat → Int) (n : Nat) : (wtL wt n).length = n := by simp [wtL]
structure RMk (W0 W : World) (g : Nat) (vw vz vv : Value) (ow oz ov : Option Nat) (wt : Nat → Int) (a s b c : Nat) : Prop where
  blk : Blk W g #[vw, .int .i64 (sumW wt s), .int .i64 0, .slice none 0 0, vz, vv] 43
  w : InO W0.heap.size W vw ow (wtL wt a)
  z : InO W0.heap.size W vz oz (List.replicate b 0)
  v : Row W vv ov 4 1 c (boL (fun _ => false) c)
  vo : ∀ q, ov = some q → W0.heap.size ≤ q
  b : Below W0.heap.size W0 W
  ge : W0.heap.size ≤ g
  ne : ∀ p q, ow = some p → oz = some q → p ≠ q
section
variable {W0 W W' : World} {g : Nat} {vw vz vv : Value} {ow oz ov : Option Nat} {wt : Nat → Int} {a s b c : Nat}
theorem RMk.step (h : RMk W0 W g vw vz vv ow oz ov wt a s b c) (hB : Below W.heap.size W W') : RMk W0 W' g vw vz vv ow oz ov wt a s b c :=
  ⟨h.blk.step hB, h.w.step hB, h.z.step hB, h.v.congr fun q e => hB.block q (by subst e; exact h.v.lt), h.vo, h.b.trans (hB.mono h.b.size), h.ge, h.ne⟩
theorem RMk.one (h : RMk W0 W g vw vz vv ow oz ov wt a s b c) : ∀ q ∈ [g], ∃ cs ty, Blk W q cs ty ∧ ty = 43 := fun q hq => by
  obtain rfl : q = g := by simpa using hq
  exact ⟨_, _, h.blk, rfl⟩
theorem RMk.rows (h : RMk W0 W g vw vz vv ow oz ov wt a s b c) (hf : Fr [g] W W') : InO W0.heap.size W' vw ow (wtL wt a) ∧ InO W0.heap.size W' vz oz (List.replicate b 0) ∧ Row W' vv ov 4 1 c (boL (fun _ => false) c) ∧ Below W0.heap.size W0 W' := by
  have hx : ∀ q ∈ [g], ∃ cs ty, Blk W q cs ty ∧ ty ≠ 3 := fun q hq => by
    obtain ⟨cs, ty, hb, rfl⟩ := h.one q hq
    exact ⟨cs, _, hb, by decide⟩
  have hy : ∀ q ∈ [g], ∃ cs ty, Blk W q cs ty ∧ ty ≠ 4 := fun q hq => by
    obtain ⟨cs, ty, hb, rfl⟩ := h.one q hq
    exact ⟨cs, _, hb, by decide⟩
  refine ⟨ino_frT h.w hf hx, ino_frT h.z hf hx, ?_, h.b.trans (hf.below h.b.size (by simpa using h.ge))⟩
  have hv := h.v
  cases ov with
  | none => exact hv.congr fun q e => by cases e
  | some x => exact row_frT hv hf hy
theorem RMk.setS (h : RMk W0 W g vw vz vv ow oz ov wt a s b c) (hW : W' = W.setCell ⟨g, 1, none⟩ (.int .i64 (sumW wt (s + 1)))) : RMk W0 W' g vw vz vv ow oz ov wt a (s + 1) b c := by
  have hf : Fr [g] W W' := by rw [hW]; exact (Fr.refl _ _).setCell _ (.inl (by simp)) _
  have hk : Blk W' g #[vw, .int .i64 (sumW wt (s + 1)), .int .i64 0, .slice none 0 0, vz, vv] 43 := by rw [hW]; exact h.blk.set 1 _
  obtain ⟨r1, r2, r3, r4⟩ := h.rows hf
  exact ⟨hk, r1, r2, r3, h.vo, r4, h.ge, h.ne⟩
theorem RMk.pushW (h : RMk W0 W g vw vz vv ow oz ov wt a s b c) {W2 : World} {u : Value} {o2 a2 : Nat} (hi : InO W0.heap.size W' u (some o2) (wtL wt a2)) (hg : W.grownBy W' ow) (hs : ow = some o2 ∨ o2 = W.heap.size) (hlo : Below W0.heap.size W W') (hW2 : W2 = W'.setCell ⟨g, 0, none⟩ u) : RMk W0 W2 g u vz vv (some o2) oz ov wt a2 s b c := by
  have hf1 : Fr ow.toList W W' := ⟨hg.os, hg.tape, hg.output, hg.size, fun i hi hq => hg.block i hi (fun e => hq (by rw [← e]; simp))⟩
  have hf2 : Fr [g] W' W2 := by rw [hW2]; exact (Fr.refl _ _).setCell _ (.inl (by simp)) _
  have ne1 : ∀ {q : Nat} {cs : Array Value} {ty : TypeId}, Blk W q cs ty → ty ≠ 3 → q ∉ ow.toList := fun {q cs ty} hb ht hm => by
    have e : ow = some q := by simpa using hm
    have hr := h.w.1
    rw [e] at hr
    exact row_blk_ne hr hb ht rfl
  have hb1 : Blk W' g #[vw, .int .i64 (sumW wt s), .int .i64 0, .slice none 0 0, vz, vv] 43 := (hf1.block g h.blk.lt (ne1 h.blk (by decide))).trans h.blk
  have ho1 : InO W0.heap.size W' vz oz (List.replicate b 0) := ⟨h.z.1.congr fun q e => hf1.block q (by have := h.z.1; rw [e] at this; exact this.lt) (fun hm => h.ne q q (by simpa using hm) e rfl), h.z.2.1, h.z.2.2⟩
  have hv1 : Row W' vv ov 4 1 c (boL (fun _ => false) c) := h.v.congr fun q e => by
    have hv := h.v
    rw [e] at hv
    obtain ⟨ct, hct⟩ := blk_row hv
    exact hf1.block q hv.lt (ne1 hct (by decide))
  have hx : ∀ q ∈ [g], ∃ cs ty, Blk W' q cs ty ∧ ty ≠ 3 := fun q hq => by
    obtain rfl : q = g := by simpa using hq
    exact ⟨_, _, hb1, by decide⟩
  have hv2 : Row W2 vv ov 4 1 c (boL (fun _ => false) c) := by
    cases ov with
    | none => exact hv1.congr fun q e => by cases e
    | some x =>
      exact row_frT hv1 hf2 fun q hq => by
        obtain rfl : q = g := by simpa using hq
        exact ⟨_, _, hb1, by decide⟩
  have hne : ∀ p, oz = some p → p ≠ o2 := fun p e => by
    rcases hs with e2 | e2
    · intro e3
      subst e3
      exact h.ne p p e2 e rfl
    · have := h.z.1
      rw [e] at this
      have := this.lt
      omega
  refine ⟨by rw [hW2]; exact hb1.set 0 u, ino_frT hi hf2 hx, ino_frT ho1 hf2 hx, hv2, h.vo, (h.b.trans hlo).trans (hf2.below (h.b.trans hlo).size (by simpa using h.ge)), h.ge, fun p q e1 e2 => ?_⟩
  obtain rfl := Option.some.inj e1
  exact (hne q e2).symm
theorem RMk.pushZ (h : RMk W0 W g vw vz vv ow oz ov wt a s b c) {W2 : World} {u : Value} {o2 a2 : Nat} (hi : InO W0.heap.size W' u (some o2) (List.replicate a2 0)) (hg : W.grownBy W' oz) (hs : oz = some o2 ∨ o2 = W.heap.size) (hlo : Below W0.heap.size W W') (hW2 : W2 = W'.setCell ⟨g, 4, none⟩ u) : RMk W0 W2 g vw u vv ow (some o2) ov wt a s a2 c := by
  have hf1 : Fr oz.toList W W' := ⟨hg.os, hg.tape, hg.output, hg.size, fun i hi hq => hg.block i hi (fun e => hq (by rw [← e]; simp))⟩
  have hf2 : Fr [g] W' W2 := by rw [hW2]; exact (Fr.refl _ _).setCell _ (.inl (by simp)) _
  have ne1 : ∀ {q : Nat} {cs : Array Value} {ty : TypeId}, Blk W q cs ty → ty ≠ 3 → q ∉ oz.toList := fun {q cs ty} hb ht hm => by
    have e : oz = some q := by simpa using hm
    have hr := h.z.1
    rw [e] at hr
    exact row_blk_ne hr hb ht rfl
  have hb1 : Blk W' g #[vw, .int .i64 (sumW wt s), .int .i64 0, .slice none 0 0, vz, vv] 43 := (hf1.block g h.blk.lt (ne1 h.blk (by decide))).trans h.blk
  have ho1 : InO W0.heap.size W' vw ow (wtL wt a) := ⟨h.w.1.congr fun q e => hf1.block q (by have := h.w.1; rw [e] at this; exact this.lt) (fun hm => h.ne q q e (by simpa using hm) rfl), h.w.2.1, h.w.2.2⟩
  have hv1 : Row W' vv ov 4 1 c (boL (fun _ => false) c) := h.v.congr fun q e => by
    have hv := h.v
    rw [e] at hv
    obtain ⟨ct, hct⟩ := blk_row hv
    exact hf1.block q hv.lt (ne1 hct (by decide))
  have hx : ∀ q ∈ [g], ∃ cs ty, Blk W' q cs ty ∧ ty ≠ 3 := fun q hq => by
    obtain rfl : q = g := by simpa using hq
    exact ⟨_, _, hb1, by decide⟩
  have hv2 : Row W2 vv ov 4 1 c (boL (fun _ => false) c) := by
    cases ov with
    | none => exact hv1.congr fun q e => by cases e
    | some x =>
      exact row_frT hv1 hf2 fun q hq => by
        obtain rfl : q = g := by simpa using hq
        exact ⟨_, _, hb1, by decide⟩
  have hne : ∀ p, ow = some p → p ≠ o2 := fun p e => by
    rcases hs with e2 | e2
    · intro e3
      subst e3
      exact h.ne p p e e2 rfl
    · have := h.w.1
      rw [e] at this
      have := this.lt
      omega
  refine ⟨by rw [hW2]; exact hb1.set 4 u, ino_frT ho1 hf2 hx, ino_frT hi hf2 hx, hv2, h.vo, (h.b.trans hlo).trans (hf2.below (h.b.trans hlo).size (by simpa using h.ge)), h.ge, fun p q e1 e2 => ?_⟩
  obtain rfl := Option.some.inj e2
  exact hne p e1
theorem RMk.pushV (h : RMk W0 W g vw vz vv ow oz ov wt a s b c) {W2 : World} {u : Value} {o2 a2 : Nat} (hi : Row W' u (some o2) 4 1 a2 (boL (fun _ => false) a2)) (hM : W0.heap.size ≤ o2) (hg : W.grownBy W' ov) (hlo : Below W0.heap.size W W') (hW2 : W2 = W'.setCell ⟨g, 5, none⟩ u) : RMk W0 W2 g vw vz u ow oz (some o2) wt a s b a2 := by
  have hf1 : Fr ov.toList W W' := ⟨hg.os, hg.tape, hg.output, hg.size, fun i hi hq => hg.block i hi (fun e => hq (by rw [← e]; simp))⟩
  have hf2 : Fr [g] W' W2 := by rw [hW2]; exact (Fr.refl _ _).setCell _ (.inl (by simp)) _
  have ne1 : ∀ {q : Nat} {cs : Array Value} {ty : TypeId}, Blk W q cs ty → ty ≠ 4 → q ∉ ov.toList := fun {q cs ty} hb ht hm => by
    have e : ov = some q := by simpa using hm
    have hr := h.v
    rw [e] at hr
    exact row_blk_ne hr hb ht rfl
  have hb1 : Blk W' g #[vw, .int .i64 (sumW wt s), .int .i64 0, .slice none 0 0, vz, vv] 43 := (hf1.block g h.blk.lt (ne1 h.blk (by decide))).trans h.blk
  have hin : ∀ {v : Value} {o : Option Nat} {L : List Int}, InO W0.heap.size W v o L → InO W0.heap.size W2 v o L := fun {v o L} hr => by
    have h1 : InO W0.heap.size W' v o L := ⟨hr.1.congr fun q e => by
      have hv := hr.1
      rw [e] at hv
      obtain ⟨ct, hct⟩ := blk_row hv
      exact hf1.block q hv.lt (ne1 hct (by decide)), hr.2.1, hr.2.2⟩
    exact ino_frT h1 hf2 fun q hq => by
      obtain rfl : q = g := by simpa using hq
      exact ⟨_, _, hb1, by decide⟩
  exact ⟨by rw [hW2]; exact hb1.set 5 u, hin h.w, hin h.z, row_frT hi hf2 fun q hq => by
      obtain rfl : q = g := by simpa using hq
      exact ⟨_, _, hb1, by decide⟩, fun q e => by obtain rfl := Option.some.inj e; exact hM, (h.b.trans hlo).trans (hf2.below (h.b.trans hlo).size (by simpa using h.ge)), h.ge, h.ne⟩
end
theorem ino_at {W : World} {M n : Nat} {v : Value} {o : Option Nat} {L : List Int} {f : Nat → Int} (h : InO M W v o L) (hl : L.length = n) (h0 : 0 < n) (hf : ∀ k, k < n → L[k]? = some (f k)) : ∃ b c, v = .slice (some ⟨b, 0, none⟩) n c ∧ o = some b ∧ n ≤ c ∧ M ≤ b ∧ IAt W b n f := by
  have hr := h.1
  rw [hl] at hr
  obtain ⟨a, c1, rfl, h1, h2, h3⟩ := hr.shape
  rcases hr.cases with ⟨_, _, e, _⟩ | ⟨fo, cap, cur, rfl, e2, h4, h5, h6, h7, h8⟩
  · omega
  · injection e2 with e3 e4 e5
    subst e3 e5
    refine ⟨fo, _, rfl, rfl, h1, h.2.2 fo rfl, ⟨cur, h4, fun k hk => ?_⟩⟩
    obtain ⟨g', eg, hc, _⟩ := hr.cell k (by omega)
    obtain rfl := Option.some.inj eg
    rw [cell_at h4] at hc
    rw [hc]
    simp [inL, hf k hk]
theorem bo_at {W : World} {n : Nat} {v : Value} {o : Option Nat} {R : Nat → Bool} (hr : Row W v o 4 1 n (boL R n)) (h0 : 0 < n) : ∃ b c, v = .slice (some ⟨b, 0, none⟩) n c ∧ o = some b ∧ n ≤ c ∧ BAt W b n R := by
  obtain ⟨a, c1, rfl, h1, h2, h3⟩ := hr.shape
  rcases hr.cases with ⟨_, _, e, _⟩ | ⟨fo, cap, cur, rfl, e2, h4, h5, h6, h7, h8⟩
  · omega
  · injection e2 with e3 e4 e5
    subst e3 e5
    refine ⟨fo, _, rfl, rfl, h1, ⟨cur, h4, fun k hk => ?_⟩⟩
    obtain ⟨g', eg, hc, _⟩ := hr.cell k (by omega)
    obtain rfl := Option.some.inj eg
    rw [cell_at h4] at hc
    rw [hc]
    simp [boL, hk]
theorem RMk.done {W0 W W' : World} {g : Nat} {vw vz vv : Value} {ow oz ov : Option Nat} {wt : Nat → Int} {n ft c2 : Nat} (h : RMk W0 W g vw vz vv ow oz ov wt n n n n) (h0 : 0 < n) (hr : Row W (.slice (some ⟨ft, 0, none⟩) n c2) (some ft) 80 2 n (tagsL zeroT n)) (hM : W0.heap.size ≤ ft) (hW : W' = (W.setCell ⟨g, 2, none⟩ (.int .i64 0)).setCell ⟨g, 3, none⟩ (.slice (some ⟨ft, 0, none⟩) n c2)) :
    ∃ x : RL, x.g = g ∧ x.n = n ∧ RfAt W' W0.heap.size x ft c2 wt (sumW wt n) s0F ∧ Below W0.heap.size W0 W' := by
  obtain ⟨fw, cw, rfl, rfl, hcw, hgw, hw⟩ := ino_at h.w (wtL_len wt n) h0 (f := wt) (fun k hk => by simp [wtL, hk])
  obtain ⟨fz, cz, rfl, rfl, hcz, hgz, hz⟩ := ino_at h.z (by simp) h0 (f := fun _ => 0) (fun k hk => by simp [hk])
  obtain ⟨fv, cv, rfl, rfl, hcv, hv⟩ := bo_at h.v h0
  have hf : Fr [g] W W' := by rw [hW]; exact ((Fr.refl _ _).setCell _ (.inl (by simp)) _).setCell _ (.inl (by simp)) _
  have hk : Blk W' g #[.slice (some ⟨fw, 0, none⟩) n cw, .int .i64 (sumW wt n), .int .i64 0, .slice (some ⟨ft, 0, none⟩) n c2, .slice (some ⟨fz, 0, none⟩) n cz, .slice (some ⟨fv, 0, none⟩) n cv] 43 := by rw [hW]; exact (h.blk.set 2 _).set 3 _
  have ne : ∀ {q : Nat} {cs : Array Value} {ty : TypeId}, Blk W q cs ty → ty ≠ 43 → q ∉ [g] := fun {q cs ty} hb ht hm => by
    obtain rfl : q = g := by simpa using hm
    exact blk_dis hb h.blk ht rfl
  have tr : ∀ {v : Value} {x m sz : Nat} {e : TypeId} {xs : List Value}, Row W v (some x) e sz m xs → e ≠ 43 → Row W' v (some x) e sz m xs := fun {v x m sz e xs} hq he => row_frT hq hf fun q hm => by
    obtain rfl : q = g := by simpa using hm
    exact ⟨_, _, h.blk, fun e2 => he e2.symm⟩
  obtain ⟨cs1, hb1, _⟩ := id hw
  obtain ⟨cs2, hb2, _⟩ := id hz
  obtain ⟨cs3, hb3, _⟩ := id hv
  exact ⟨⟨g, fw, fz, fv, n, cw, cz, cv⟩, rfl, rfl, ⟨hk, hw.fr hf (ne hb1 (by decide)), hz.fr hf (ne hb2 (by decide)), hv.fr hf (ne hb3 (by decide)), ⟨hcw, hcz, hcv⟩, tr hr (by decide), ⟨h.ge, hgw, hgz, h.vo fv rfl, hM⟩, h.ne fw fz rfl rfl⟩, h.b.trans (hf.below h.b.size (by simpa using h.ge))⟩
end Go.Proofs.Ytnainlemnkfpkaa
