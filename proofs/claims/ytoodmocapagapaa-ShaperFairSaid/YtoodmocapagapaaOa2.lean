/-
  Texts of this claim, put together: Fa3, Fa4, Fa5, Fa6, Fa7, Fa8, Fa9, Fab, Fac, Fad.
-/
import Derived.Test.YtoodmocapagapaaOa1
import Derived.Lib.AppendZeros
import Derived.Maps.AppendAt
namespace Go.Proofs.Ytoodmocapagapaa
open Go.RowKit
set_option linter.unusedSimpArgs false
set_option linter.unusedVariables false

theorem next_ok (V : Int) (ft n c2 : Nat) (T : Nat → TagsE) (k : Nat) (m wt al : Int) (w : World) (hs : TagsIn w (some ⟨ft, 0, none⟩) n c2 ft 0 T) (hn : n ≤ 8) (hk : k < n) (hg : goodTag V n T k (costS m wt al) (T k).f = true) :
    Calls Try.prog 63 #[.agg #[.int .i64 V, .slice (some ⟨ft, 0, none⟩) n c2], .int .i64 k, .int .i64 m, .int .i64 wt, .int .i64 al] w fun e w' => ∃ ft' c', e = .returned (.tuple #[.agg #[.int .i64 V, .slice (some ⟨ft', 0, none⟩) n c'], .int .i64 0]) ∧ Row w' (.slice (some ⟨ft', 0, none⟩) n c') (some ft') 129 2 n (tagsL (updT T k ⟨(T k).f, (T k).f + costS m wt al⟩) n) ∧ w.heap.size ≤ ft' ∧ Below w.heap.size w w' := by
  refine (next_any V _ n c2 ft 0 T k m wt al w hs (by omega)).mono fun e w' h => ?_
  unfold TagP at h
  simp only [headF, Int.toNat_natCast] at h
  rw [hg] at h
  obtain ⟨v, rfl, hv⟩ := h
  obtain ⟨ft', c', rfl, h1, h2, h3⟩ := vout_own hv (by omega)
  exact ⟨ft', c', rfl, h1, h2, h3⟩
theorem wake_ok (V : Int) (ft n c2 : Nat) (T : Nat → TagsE) (k : Nat) (m wt al : Int) (w : World) (hs : TagsIn w (some ⟨ft, 0, none⟩) n c2 ft 0 T) (hn : n ≤ 8) (hk : k < n) (hg : goodTag V n T k (costS m wt al) (max (T k).f V) = true) :
    Calls Try.prog 64 #[.agg #[.int .i64 V, .slice (some ⟨ft, 0, none⟩) n c2], .int .i64 k, .int .i64 m, .int .i64 wt, .int .i64 al] w fun e w' => ∃ ft' c', e = .returned (.tuple #[.agg #[.int .i64 V, .slice (some ⟨ft', 0, none⟩) n c'], .int .i64 0]) ∧ Row w' (.slice (some ⟨ft', 0, none⟩) n c') (some ft') 129 2 n (tagsL (updT T k ⟨max (T k).f V, max (T k).f V + costS m wt al⟩) n) ∧ w.heap.size ≤ ft' ∧ Below w.heap.size w w' := by
  refine (wake_any V _ n c2 ft 0 T k m wt al w hs (by omega)).mono fun e w' h => ?_
  unfold TagP at h
  simp only [headF, Int.toNat_natCast] at h
  rw [hg] at h
  obtain ⟨v, rfl, hv⟩ := h
  obtain ⟨ft', c', rfl, h1, h2, h3⟩ := vout_own hv (by omega)
  exact ⟨ft', c', rfl, h1, h2, h3⟩
/-- a flow's tags end where they start -/
theorem FrAt.cut {W W' : World} {M g fo ft n c1 c2 : Nat} {wt : Nat → Int} {al : Int} {s : FS} (h : FrAt W M g fo ft n c1 c2 wt al s) {k : Nat} (hk : k < n) (hW : W' = W.setCell ⟨ft, k * 2 + 1, none⟩ (.int .i64 (s.T k).s)) : FrAt W' M g fo ft n c1 c2 wt al ⟨s.V, updT s.T k ⟨(s.T k).s, (s.T k).s⟩, s.z, s.sv⟩ ∧ BF M W W' ∧ Fr [ft] W W' := by
  have hf : Fr [ft] W W' := by rw [hW]; exact (Fr.refl _ _).setCell _ (.inl (by simp)) _
  have hne := h.ne
  refine ⟨⟨(hf.block g h.blk.lt (by simpa using hne.2.1)).trans h.blk, h.fl.fr hf (by simpa using hne.2.2), h.cp, ?_, h.ge⟩, h.frame hf (by simp), hf⟩
  have h1 := h.tg.set (k * 2 + 1) (.int .i64 (s.T k).s)
  rw [← hW] at h1
  have hl : (tagsL s.T n).set (k * 2 + 1) (.int .i64 (s.T k).s) = tagsL (updT s.T k ⟨(s.T k).s, (s.T k).s⟩) n := by
    rw [← tagsL_upd s.T k _ _ n hk]
    congr 1
    have hg : (tagsL s.T n)[k * 2]? = some (.int .i64 (s.T k).s) := by
      have := tagsL_at s.T n k 0 hk (by omega)
      simpa [TagsE.cells] using this
    apply List.ext_getElem?
    intro i
    rw [List.getElem?_set]
    by_cases hi : k * 2 = i
    · subst hi
      rw [if_pos rfl, hg]
      have := (List.getElem?_eq_some_iff.1 hg).1
      rw [if_pos this]
    · rw [if_neg hi]
  rw [hl] at h1
  exact h1
structure HrP (M g fo ft n c1 : Nat) (wt : Nat → Int) (al : Int) (s' : FS) (w w' : World) : Prop where
  ex : ∃ ft' c', FrAt w' M g fo ft' n c1 c' wt al s' ∧ Fr [g, fo, ft] w w' ∧ (ft' = ft ∨ w.heap.size ≤ ft')
  b : BF M w w'
theorem hearS_T (wt al : Int) (k : Nat) (m : Int) (s : FS) (T : Nat → TagsE) (h : (if hNew k m s = true then updT (hT1 k m s) k ⟨hAt k m s, hAt k m s + costS m wt al⟩ else hT1 k m s) = T) : hearS wt al k m s = ⟨s.V, T, upf s.z k m, upf s.sv k false⟩ := by
  unfold hearS
  rw [h]
set_option maxRecDepth 100000 in
set_option maxHeartbeats 8000000 in
theorem hear_n (k : Nat) (m : Int) (M g fo ft n c1 c2 : Nat) (wt : Nat → Int) (al : Int) (s : FS) (w : World) (h : FrAt w M g fo ft n c1 c2 wt al s) (hi : Inv n s) (hw : WtOk n wt al) (hk : k < n) (hm : 0 ≤ m ∧ m ≤ 1500) (hc : (s.sv k = true ∧ m = 0) ∨ (s.sv k = false ∧ s.z k = m)) :
    Calls Try.prog 51 #[.pointer (some ⟨g, 0, none⟩), .int .i64 k, .pointer (some ⟨fo, k * 3, none⟩), .int .i64 m] w fun e w' => e = .returned (.tuple #[]) ∧ HrP M g fo ft n c1 wt al (hearS (wt k) al k m s) w w' := by
  have hn8 := hi.n8
  have hwk := hw.w k hk
  have hzk := (hi.k k hk).z0
  obtain ⟨f0, f1, f2, fz⟩ := h.fl.cell hk
  have fl := h.fl.lt
  obtain ⟨WT, hWT⟩ : ∃ x, x = wt k := ⟨_, rfl⟩
  obtain ⟨Z, hZ⟩ : ∃ x, x = s.z k := ⟨_, rfl⟩
  rw [← hWT] at f0 hwk
  rw [← hZ] at f1 hzk
  have w1 : IntKind.i64.wrap WT = WT := IntWalk.i64_in _ (by omega)
  have w2 : IntKind.i64.wrap Z = Z := IntWalk.i64_in _ (by omega)
  have w3 : IntKind.u16.wrap m = m := by first | exact IntWalk.u16_in _ (by omega) | (simp [IntKind.wrap]; omega)
  have HH := Lib.hid h
  have HI := Lib.hid hi
  have HW := Lib.hid hw
  have HK := Lib.hid hk
  have HM := Lib.hid hm
  have HWT := Lib.hid hWT
  have HZ := Lib.hid hZ
  have HE := Lib.hid (hearS_T (wt k) al k m s s.T (by
    rcases hc with ⟨h1, h2⟩ | ⟨h1, h2⟩
    · unfold hNew hT1; simp [h1, h2]
    · unfold hNew hT1; simp [h1, h2]))
  have HBB : Hid (BF M w w) := Lib.hid (BF.refl _ _)
  have HFF : Hid (Fr [g, fo, ft] w w) := Lib.hid (Fr.refl _ _)
  rw [← hZ] at hc
  rcases hc with ⟨hs, h0⟩ | ⟨hs, h0⟩
  · rw [hs] at f2
    have d1 : decide (0 < m) = false := decide_eq_false (by omega)
    clear hi hw hm h hWT hZ hn8 hwk hzk h0
    go_enter Try.func51, Try.ntmps51
    go_upto_region 8 with fail
    clear f0 f1 f2 fz fl w3
    obtain ⟨W8, hW8⟩ : ∃ W, W = (w.setCell ⟨fo, k * 3 + 1, none⟩ (.int .u16 m)).setCell ⟨fo, k * 3 + 2, none⟩ (.bool false) := ⟨_, rfl⟩
    obtain ⟨p8, q8⟩ := HH.out.fl.put HK.out m false hW8
    have hne8 := HH.out.ne
    have HR := Lib.hid (show FrAt W8 M g fo _ n c1 _ wt al (hearS (wt k) al k m s) ∧ BF M w W8 from ⟨by
      rw [HE.out]
      exact ⟨(q8.block g HH.out.blk.lt (by simpa using hne8.1)).trans HH.out.blk, p8, HH.out.cp, HH.out.tg.congr fun q e => by obtain rfl := Option.some.inj e; exact q8.block _ HH.out.tg.lt (by simpa using fun e => hne8.2.2 e.symm), HH.out.ge⟩, HBB.out.trans (HH.out.frame q8 (by simp))⟩)
    obtain ⟨g0, g1, g2, gz⟩ := HH.out.fl.cell HK.out
    have gl := HH.out.fl.lt
    have w3 : IntKind.u16.wrap m = m := IntWalk.u16_in _ (by have := HM.out; omega)
    have HF8 := Lib.hid (HFF.out.trans q8 (by simp))
    clear p8 q8 hne8 g0
    go_wp2_with fail
    rw [← hW8]
    go_end0
    exact ⟨rfl, ⟨_, _, HR.out.1, HF8.out, (Or.inl rfl)⟩, HR.out.2⟩
  · rw [hs] at f2
    have d1 : (m == Z) = true := by simp [h0]
    have d2 : (m != Z) = false := by simp [h0]
    clear hi hw hm h hWT hZ hn8 hwk hzk h0
    go_enter Try.func51, Try.ntmps51
    go_upto_region 8 with fail
    clear f0 f1 f2 fz fl w3
    obtain ⟨W8, hW8⟩ : ∃ W, W = (w.setCell ⟨fo, k * 3 + 1, none⟩ (.int .u16 m)).setCell ⟨fo, k * 3 + 2, none⟩ (.bool false) := ⟨_, rfl⟩
    obtain ⟨p8, q8⟩ := HH.out.fl.put HK.out m false hW8
    have hne8 := HH.out.ne
    have HR := Lib.hid (show FrAt W8 M g fo _ n c1 _ wt al (hearS (wt k) al k m s) ∧ BF M w W8 from ⟨by
      rw [HE.out]
      exact ⟨(q8.block g HH.out.blk.lt (by simpa using hne8.1)).trans HH.out.blk, p8, HH.out.cp, HH.out.tg.congr fun q e => by obtain rfl := Option.some.inj e; exact q8.block _ HH.out.tg.lt (by simpa using fun e => hne8.2.2 e.symm), HH.out.ge⟩, HBB.out.trans (HH.out.frame q8 (by simp))⟩)
    obtain ⟨g0, g1, g2, gz⟩ := HH.out.fl.cell HK.out
    have gl := HH.out.fl.lt
    have w3 : IntKind.u16.wrap m = m := IntWalk.u16_in _ (by have := HM.out; omega)
    have HF8 := Lib.hid (HFF.out.trans q8 (by simp))
    clear p8 q8 hne8 g0
    go_wp2_with fail
    rw [← hW8]
    go_end0
    exact ⟨rfl, ⟨_, _, HR.out.1, HF8.out, (Or.inl rfl)⟩, HR.out.2⟩
set_option maxRecDepth 100000 in
set_option maxHeartbeats 8000000 in
theorem hear_a (k : Nat) (m : Int) (M g fo ft n c1 c2 : Nat) (wt : Nat → Int) (al : Int) (s : FS) (w : World) (h : FrAt w M g fo ft n c1 c2 wt al s) (hi : Inv n s) (hw : WtOk n wt al) (hk : k < n) (hm : 0 ≤ m ∧ m ≤ 1500) (hs : s.sv k = true) (h0 : 0 < m) :
    Calls Try.prog 51 #[.pointer (some ⟨g, 0, none⟩), .int .i64 k, .pointer (some ⟨fo, k * 3, none⟩), .int .i64 m] w fun e w' => e = .returned (.tuple #[]) ∧ HrP M g fo ft n c1 wt al (hearS (wt k) al k m s) w w' := by
  have hn8 := hi.n8
  have hwk := hw.w k hk
  have hzk := (hi.k k hk).z0
  obtain ⟨f0, f1, f2, fz⟩ := h.fl.cell hk
  have fl := h.fl.lt
  obtain ⟨WT, hWT⟩ : ∃ x, x = wt k := ⟨_, rfl⟩
  obtain ⟨Z, hZ⟩ : ∃ x, x = s.z k := ⟨_, rfl⟩
  rw [← hWT] at f0 hwk
  rw [← hZ] at f1 hzk
  have w1 : IntKind.i64.wrap WT = WT := IntWalk.i64_in _ (by omega)
  have w2 : IntKind.i64.wrap Z = Z := IntWalk.i64_in _ (by omega)
  have w3 : IntKind.u16.wrap m = m := by first | exact IntWalk.u16_in _ (by omega) | (simp [IntKind.wrap]; omega)
  have HH := Lib.hid h
  have HI := Lib.hid hi
  have HW := Lib.hid hw
  have HK := Lib.hid hk
  have HM := Lib.hid hm
  have HWT := Lib.hid hWT
  have HZ := Lib.hid hZ
  have hnew : hNew k m s = true := by unfold hNew; simp [hs]; omega
  have hT : hT1 k m s = s.T := by unfold hT1; rw [if_neg (by simp [hs])]
  have hA : hAt k m s = (s.T k).f := by unfold hAt; rw [if_pos hs]
  have HE := Lib.hid (hearS_T (wt k) al k m s (updT s.T k ⟨(s.T k).f, (s.T k).f + costS m (wt k) al⟩) (by rw [if_pos hnew, hT, hA]))
  have hg := hear_good hi hk (m := m) (by omega) (hw.w k hk) hw.a hnew
  rw [hT, hA] at hg
  have NX := Lib.hid (fun W hs => next_ok s.V ft n c2 s.T k m (wt k) al W hs hn8 hk hg)
  rw [← hWT] at NX
  have HBB : Hid (BF M w w) := Lib.hid (BF.refl _ _)
  have HFF : Hid (Fr [g, fo, ft] w w) := Lib.hid (Fr.refl _ _)
  rw [hs] at f2
  have d1 : decide (0 < m) = true := decide_eq_true h0
  clear hi hw hm h hZ hn8 hwk hzk h0 hnew hT hA hg hs hWT
  go_enter Try.func51, Try.ntmps51
  go_upto_region 1 with fail
  clear f1 f2 w2 w3 fz fl f0
  refine wp_region_held_drew (S := fun X => X.cell? ⟨g, 1, none⟩ = some (.int .i64 al) ∧ X.cell? ⟨fo, k * 3, none⟩ = some (.int .u8 WT)) (by kernel_rfl) ⟨cell_at HH.out.blk 1, by rw [HWT.out]; exact (HH.out.fl.cell HK.out).1⟩ (fun hHeld => ?_)
  try simp only [Act.put, List.setIfInBounds_toArray, List.set_cons_zero, List.set_cons_succ]
  have Bz := belowN (Below.refl w.heap.size w) 1
  have HX1 : Hid (FrAt w.drew M g fo ft n c1 c2 wt al s) := Lib.hid (HH.out.step Bz)
  have HB1 : Hid (BF M w w.drew) := Lib.hid (HBB.out.trans (BF.new Bz HH.out.size))
  have HF1 : Hid (Fr [g, fo, ft] w w.drew) := Lib.hid (HFF.out.trans (Fr.of_below Bz) (by simp))
  clear Bz
  ((refine wpAnyH_take (i := 0) (v := ?_) (by (simp only [List.getElem?_toArray, List.getElem?_cons_succ, List.getElem?_cons_zero]); rfl) (by kernel_rfl) (by kernel_rfl) (by kernel_rfl) (by exact fun _ _ _ h => h) (Or.inl ⟨by rfl, ?_⟩) (by assumption) ?_); rotate_left; focus (intro wS hSw; (try dsimp only at hSw); go_simp; first | done | with_reducible rfl); try simp only [Act.put, List.setIfInBounds_toArray, List.set_cons_zero, List.set_cons_succ])
  ((refine wpAnyH_take (i := 1) (v := ?_) (by (simp only [List.getElem?_toArray, List.getElem?_cons_succ, List.getElem?_cons_zero]); rfl) (by kernel_rfl) (by kernel_rfl) (by kernel_rfl) (by exact fun _ _ _ h => h) (Or.inl ⟨by rfl, ?_⟩) (by assumption) ?_); rotate_left; focus (intro wS hSw; (try dsimp only at hSw); go_simp; first | done | with_reducible rfl); try simp only [Act.put, List.setIfInBounds_toArray, List.set_cons_zero, List.set_cons_succ])
  ((refine wpAnyH_take (i := 2) (v := ?_) (by (simp only [List.getElem?_toArray, List.getElem?_cons_succ, List.getElem?_cons_zero]); rfl) (by kernel_rfl) (by kernel_rfl) (by kernel_rfl) (by exact fun _ _ _ h => h) (Or.inl ⟨by rfl, ?_⟩) (by assumption) ?_); rotate_left; focus (intro wS hSw; (try dsimp only at hSw); go_simp; first | done | with_reducible rfl); try simp only [Act.put, List.setIfInBounds_toArray, List.set_cons_zero, List.set_cons_succ])
  ((refine wpAnyH_take (i := 3) (v := ?_) (by (simp only [List.getElem?_toArray, List.getElem?_cons_succ, List.getElem?_cons_zero]); rfl) (by kernel_rfl) (by kernel_rfl) (by kernel_rfl) (by exact fun _ _ _ h => h) (Or.inl ⟨by rfl, ?_⟩) (by assumption) ?_); rotate_left; focus (intro wS hSw; (try dsimp only at hSw); go_simp; first | done | with_reducible rfl); try simp only [Act.put, List.setIfInBounds_toArray, List.set_cons_zero, List.set_cons_succ])
  ((refine wpAnyH_take (i := 5) (v := ?_) (by (simp only [List.getElem?_toArray, List.getElem?_cons_succ, List.getElem?_cons_zero]); rfl) (by kernel_rfl) (by kernel_rfl) (by kernel_rfl) (by exact fun _ _ _ h => h) (Or.inl ⟨by rfl, ?_⟩) (by assumption) ?_); rotate_left; focus (intro wS hSw; (try dsimp only at hSw); go_simp; first | done | with_reducible rfl); try simp only [Act.put, List.setIfInBounds_toArray, List.set_cons_zero, List.set_cons_succ])
  ((refine wpAnyH_take (i := 6) (v := ?_) (by (simp only [List.getElem?_toArray, List.getElem?_cons_succ, List.getElem?_cons_zero]); rfl) (by kernel_rfl) (by kernel_rfl) (by kernel_rfl) (by exact fun _ _ _ h => h) (Or.inl ⟨by rfl, ?_⟩) (by assumption) ?_); rotate_left; focus (intro wS hSw; (try dsimp only at hSw); go_simp; first | done | with_reducible rfl); try simp only [Act.put, List.setIfInBounds_toArray, List.set_cons_zero, List.set_cons_succ])
  ((refine wpAnyH_take (i := 7) (v := ?_) (by (simp only [List.getElem?_toArray, List.getElem?_cons_succ, List.getElem?_cons_zero]); rfl) (by kernel_rfl) (by kernel_rfl) (by kernel_rfl) (by exact fun _ _ _ h => h) (Or.inl ⟨by rfl, ?_⟩) (by assumption) ?_); rotate_left; focus (intro wS hSw; (try dsimp only at hSw); go_simp; first | done | with_reducible rfl); try simp only [Act.put, List.setIfInBounds_toArray, List.set_cons_zero, List.set_cons_succ])
  ((refine wpAnyH_take (i := 8) (v := ?_) (by (simp only [List.getElem?_toArray, List.getElem?_cons_succ, List.getElem?_cons_zero]); rfl) (by kernel_rfl) (by kernel_rfl) (by kernel_rfl) (by exact fun _ _ _ h => h) (Or.inl ⟨by rfl, ?_⟩) (by assumption) ?_); rotate_left; focus (intro wS hSw; (try dsimp only at hSw); go_simp; first | done | with_reducible rfl); try simp only [Act.put, List.setIfInBounds_toArray, List.set_cons_zero, List.set_cons_succ])
  ((refine wpAnyH_take (i := 9) (v := ?_) (by (simp only [List.getElem?_toArray, List.getElem?_cons_succ, List.getElem?_cons_zero]); rfl) (by kernel_rfl) (by kernel_rfl) (by kernel_rfl) (by exact fun _ _ _ h => h) (Or.inl ⟨by rfl, ?_⟩) (by assumption) ?_); rotate_left; focus (intro wS hSw; (try dsimp only at hSw); go_simp; first | done | with_reducible rfl); try simp only [Act.put, List.setIfInBounds_toArray, List.set_cons_zero, List.set_cons_succ])
  ((refine wpAnyH_take (i := 10) (v := ?_) (by (simp only [List.getElem?_toArray, List.getElem?_cons_succ, List.getElem?_cons_zero]); rfl) (by kernel_rfl) (by kernel_rfl) (by kernel_rfl) (by exact fun _ _ _ h => h) (Or.inl ⟨by rfl, ?_⟩) (by assumption) ?_); rotate_left; focus (intro wS hSw; (try dsimp only at hSw); go_simp; first | done | with_reducible rfl); try simp only [Act.put, List.setIfInBounds_toArray, List.set_cons_zero, List.set_cons_succ])
  ((refine wpAnyH_take (i := 11) (v := ?_) (by (simp only [List.getElem?_toArray, List.getElem?_cons_succ, List.getElem?_cons_zero]); rfl) (by kernel_rfl) (by kernel_rfl) (by kernel_rfl) (by exact fun _ _ _ h => h) (Or.inl ⟨by rfl, ?_⟩) (by assumption) ?_); rotate_left; focus (intro wS hSw; (try dsimp only at hSw); go_simp; first | done | with_reducible rfl); try simp only [Act.put, List.setIfInBounds_toArray, List.set_cons_zero, List.set_cons_succ])
  ((refine wpAnyH_take (i := 12) (v := ?_) (by (simp only [List.getElem?_toArray, List.getElem?_cons_succ, List.getElem?_cons_zero]); rfl) (by kernel_rfl) (by kernel_rfl) (by kernel_rfl) (by exact fun _ _ _ h => h) (Or.inl ⟨by rfl, ?_⟩) (by assumption) ?_); rotate_left; focus (intro wS hSw; (try dsimp only at hSw); go_simp; first | done | with_reducible rfl); try simp only [Act.put, List.setIfInBounds_toArray, List.set_cons_zero, List.set_cons_succ])
  ((refine wpAnyH_take (i := 13) (v := ?_) (by (simp only [List.getElem?_toArray, List.getElem?_cons_succ, List.getElem?_cons_zero]); rfl) (by kernel_rfl) (by kernel_rfl) (by kernel_rfl) (by exact fun _ _ _ h => h) (Or.inl ⟨by rfl, ?_⟩) (by assumption) ?_); rotate_left; focus (intro wS hSw; (try dsimp only at hSw); go_simp; first | done | with_reducible rfl); try simp only [Act.put, List.setIfInBounds_toArray, List.set_cons_zero, List.set_cons_succ])
  ((refine wpAnyH_take (i := 14) (v := ?_) (by (simp only [List.getElem?_toArray, List.getElem?_cons_succ, List.getElem?_cons_zero]); rfl) (by kernel_rfl) (by kernel_rfl) (by kernel_rfl) (by exact fun _ _ _ h => h) (Or.inl ⟨by rfl, ?_⟩) (by assumption) ?_); rotate_left; focus (intro wS hSw; (try dsimp only at hSw); go_simp; first | done | with_reducible rfl); try simp only [Act.put, List.setIfInBounds_toArray, List.set_cons_zero, List.set_cons_succ])
  ((refine wpAnyH_take (i := 15) (v := ?_) (by (simp only [List.getElem?_toArray, List.getElem?_cons_succ, List.getElem?_cons_zero]); rfl) (by kernel_rfl) (by kernel_rfl) (by kernel_rfl) (by exact fun _ _ _ h => h) (Or.inl ⟨by rfl, ?_⟩) (by assumption) ?_); rotate_left; focus (intro wS hSw; (try dsimp only at hSw); go_simp; first | done | with_reducible rfl); try simp only [Act.put, List.setIfInBounds_toArray, List.set_cons_zero, List.set_cons_succ])
  refine wpAnyH_ready (rs := [4]) (by kernel_rfl) (by simp) ?_
  refine AllReadyH.cons (by (simp only [List.getElem?_toArray, List.getElem?_cons_succ, List.getElem?_cons_zero]); rfl) (fun K hK => ?_) AllReadyH.nil
  have e2 : w.drew.cell? ⟨g, 2, none⟩ = some (.int .i64 s.V) := cell_at HX1.out.blk 2
  have e3 : w.drew.cell? ⟨g, 3, none⟩ = some (.slice (some ⟨ft, 0, none⟩) n c2) := cell_at HX1.out.blk 3
  go_simp
  refine hK _ _ ⟨cell_at HX1.out.blk 1, by rw [HWT.out]; exact (HX1.out.fl.cell HK.out).1⟩ (fun hHeld => ?_)
  clear hK K e2 e3
  try simp only [Act.put, List.setIfInBounds_toArray, List.set_cons_zero, List.set_cons_succ]
  ((refine wpAnyH_ready (rs := [16]) (by kernel_rfl) (by simp) ?_); (refine AllReadyH.cons (by (simp only [List.getElem?_toArray, List.getElem?_cons_succ, List.getElem?_cons_zero]); rfl) (fun K hK => ?_) AllReadyH.nil); go_simp; go_fit (NX.out _ (HX1.out.tags HI.out)))
  rintro e W2 ⟨ft', c', rfl, hr2, hl2, hB2⟩
  have HX2 := Lib.hid (HX1.out.step hB2)
  have HB2 := Lib.hid (HB1.out.trans (BF.new hB2 HX1.out.size))
  have HR2 := Lib.hid hr2
  have HL2 : Hid (M ≤ ft') := Lib.hid (Nat.le_trans HX1.out.size hl2)
  have HF2 := Lib.hid (HF1.out.trans (Fr.of_below hB2) (by simp))
  have HFT : Hid (ft' = ft ∨ w.heap.size ≤ ft') := Lib.hid (.inr (Nat.le_trans HF1.out.size hl2))
  clear hr2 hl2 hB2
  go_wp2_with fail
  refine hK.out _ _ ⟨cell_at HX2.out.blk 1, by rw [HWT.out]; exact (HX2.out.fl.cell HK.out).1⟩ (fun hHeld => ?_)
  clear hK K
  try simp only [Act.put, List.setIfInBounds_toArray, List.set_cons_zero, List.set_cons_succ]
  ((refine wpAnyH_take (i := 17) (v := ?_) (by (simp only [List.getElem?_toArray, List.getElem?_cons_succ, List.getElem?_cons_zero]); rfl) (by kernel_rfl) (by kernel_rfl) (by kernel_rfl) (by exact fun _ _ _ h => h) (Or.inl ⟨by rfl, ?_⟩) (by assumption) ?_); rotate_left; focus (intro wS hSw; (try dsimp only at hSw); go_simp; first | done | with_reducible rfl); try simp only [Act.put, List.setIfInBounds_toArray, List.set_cons_zero, List.set_cons_succ])
  ((refine wpAnyH_take (i := 18) (v := ?_) (by (simp only [List.getElem?_toArray, List.getElem?_cons_succ, List.getElem?_cons_zero]); rfl) (by kernel_rfl) (by kernel_rfl) (by kernel_rfl) (by exact fun _ _ _ h => h) (Or.inl ⟨by rfl, ?_⟩) (by assumption) ?_); rotate_left; focus (intro wS hSw; (try dsimp only at hSw); go_simp; first | done | with_reducible rfl); try simp only [Act.put, List.setIfInBounds_toArray, List.set_cons_zero, List.set_cons_succ])
  ((refine wpAnyH_ready (rs := [19]) (by kernel_rfl) (by simp) ?_); (refine AllReadyH.cons (by (simp only [List.getElem?_toArray, List.getElem?_cons_succ, List.getElem?_cons_zero]); rfl) (fun K hK => ?_) AllReadyH.nil); go_simp; go_fit (set_ok _ _ _ _ M g fo ft n c1 c2 wt al _ _ HX2.out HR2.out HL2.out))
  rintro e W3 ⟨rfl, hx3, hb3, hf3⟩
  have HF3 := Lib.hid (HF2.out.trans hf3 (by simp))
  have HX3 := Lib.hid hx3
  have HB3 := Lib.hid (HB2.out.trans hb3)
  clear hx3 hb3 hf3
  go_wp2_with fail
  refine hK.out _ _ ⟨cell_at HX3.out.blk 1, by rw [HWT.out]; exact (HX3.out.fl.cell HK.out).1⟩ (fun hHeld => ?_)
  clear hK K
  try simp only [Act.put, List.setIfInBounds_toArray, List.set_cons_zero, List.set_cons_succ]
  refine wpAnyH_done (by kernel_rfl) ?_ _
  try simp only [Act.put, List.setIfInBounds_toArray, List.set_cons_zero, List.set_cons_succ]
  rw [HWT.out] at HX3
  go_upto_region 8 with fail
  obtain ⟨W8, hW8⟩ : ∃ W, W = (W3.setCell ⟨fo, k * 3 + 1, none⟩ (.int .u16 m)).setCell ⟨fo, k * 3 + 2, none⟩ (.bool false) := ⟨_, rfl⟩
  obtain ⟨p8, q8⟩ := HX3.out.fl.put HK.out m false hW8
  have hne8 := HX3.out.ne
  have HR := Lib.hid (show FrAt W8 M g fo _ n c1 _ wt al (hearS (wt k) al k m s) ∧ BF M w W8 from ⟨by
    rw [HE.out]
    exact ⟨(q8.block g HX3.out.blk.lt (by simpa using hne8.1)).trans HX3.out.blk, p8, HX3.out.cp, HX3.out.tg.congr fun q e => by obtain rfl := Option.some.inj e; exact q8.block _ HX3.out.tg.lt (by simpa using fun e => hne8.2.2 e.symm), HX3.out.ge⟩, HB3.out.trans (HX3.out.frame q8 (by simp))⟩)
  obtain ⟨g0, g1, g2, gz⟩ := HX3.out.fl.cell HK.out
  have gl := HX3.out.fl.lt
  have w3 : IntKind.u16.wrap m = m := IntWalk.u16_in _ (by have := HM.out; omega)
  have HF8 := Lib.hid (HF3.out.trans q8 (by simp))
  clear p8 q8 hne8 g0
  go_wp2_with fail
  rw [← hW8]
  go_end0
  exact ⟨rfl, ⟨_, _, HR.out.1, HF8.out, HFT.out⟩, HR.out.2⟩
set_option maxRecDepth 100000 in
set_option maxHeartbeats 8000000 in
theorem hear_d (k : Nat) (m : Int) (M g fo ft n c1 c2 : Nat) (wt : Nat → Int) (al : Int) (s : FS) (w : World) (h : FrAt w M g fo ft n c1 c2 wt al s) (hi : Inv n s) (hw : WtOk n wt al) (hk : k < n) (hm : 0 ≤ m ∧ m ≤ 1500) (hs : s.sv k = false) (hzm : s.z k ≠ m) (hz0 : 0 < s.z k) :
    Calls Try.prog 51 #[.pointer (some ⟨g, 0, none⟩), .int .i64 k, .pointer (some ⟨fo, k * 3, none⟩), .int .i64 m] w fun e w' => e = .returned (.tuple #[]) ∧ HrP M g fo ft n c1 wt al (hearS (wt k) al k m s) w w' := by
  have hn8 := hi.n8
  have hwk := hw.w k hk
  have hzk := (hi.k k hk).z0
  obtain ⟨f0, f1, f2, fz⟩ := h.fl.cell hk
  have fl := h.fl.lt
  obtain ⟨WT, hWT⟩ : ∃ x, x = wt k := ⟨_, rfl⟩
  obtain ⟨Z, hZ⟩ : ∃ x, x = s.z k := ⟨_, rfl⟩
  rw [← hWT] at f0 hwk
  rw [← hZ] at f1 hzk
  have w1 : IntKind.i64.wrap WT = WT := IntWalk.i64_in _ (by omega)
  have w2 : IntKind.i64.wrap Z = Z := IntWalk.i64_in _ (by omega)
  have w3 : IntKind.u16.wrap m = m := by first | exact IntWalk.u16_in _ (by omega) | (simp [IntKind.wrap]; omega)
  have HH := Lib.hid h
  have HI := Lib.hid hi
  have HW := Lib.hid hw
  have HK := Lib.hid hk
  have HM := Lib.hid hm
  have HWT := Lib.hid hWT
  have HZ := Lib.hid hZ
  have hT : hT1 k m s = updT s.T k ⟨(s.T k).s, (s.T k).s⟩ := by unfold hT1; rw [if_pos ⟨hs, hzm, hz0⟩]
  obtain ⟨W5, hW5⟩ : ∃ W, W = (w.setCell ⟨ft, k * 2 + 1, none⟩ (.int .i64 (s.T k).s)).drew := ⟨_, rfl⟩
  obtain ⟨hx5', hb5', hf5'⟩ := h.cut hk rfl
  have hx5 := hx5'.step (belowN (Below.refl _ _) 1)
  have hb5 := hb5'.trans (BF.new (belowN (Below.refl _ _) 1) hx5'.size)
  have hW5' : W5 = ((w.setCell ⟨ft, k * 2 + 1, none⟩ (.int .i64 (s.T k).s)).drewN 1) := hW5
  rw [← hW5'] at hx5 hb5
  have HX5 := Lib.hid hx5
  have HB5 := Lib.hid hb5
  have HF5 : Hid (Fr [g, fo, ft] w W5) := Lib.hid (by rw [hW5']; exact (((Fr.refl [g, fo, ft] w).trans hf5' (by simp))).trans (Fr.of_below (belowN (Below.refl _ _) 1)) (by simp))
  clear hW5' hx5' hb5' hf5'
  have e3 : w.cell? ⟨g, 3, none⟩ = some (.slice (some ⟨ft, 0, none⟩) n c2) := cell_at h.blk 3
  obtain ⟨g', eg, _, el4, e4, e5, e6, e7⟩ := own_k h.tg hk
  obtain rfl := Option.some.inj eg
  obtain ⟨SS, hSS⟩ : ∃ x, x = (s.T k).s := ⟨_, rfl⟩
  rw [← hSS] at e4 hW5
  have hgl := h.blk.lt
  have bk1 : (k < n) = True := eq_true hk
  have bk2 : ((k : Int) < (n : Int)) = True := eq_true (by omega)
  have bk0 : ((0 : Int) ≤ (k : Int)) = True := eq_true (by omega)
  have d2 : (m != Z) = true := by rw [hZ]; simp; omega
  have d3 : decide (0 < Z) = true := decide_eq_true (by omega)
  have dz : ∀ j, w.frozen? ⟨ft, j, none⟩ = false := by
    obtain ⟨cs, hb⟩ := blk_row h.tg
    exact fun j => free_at hb j
  have HF1 := Lib.hid f1
  by_cases h0 : 0 < m
  · have hnew : hNew k m s = true := by unfold hNew; simp [hs, hzm]; omega
    have hA : hAt k m s = max (s.T k).s s.V := by unfold hAt; rw [if_neg (by simp [hs]), hT, updT_at]
    have hE := hearS_T (wt k) al k m s (updT (updT s.T k ⟨(s.T k).s, (s.T k).s⟩) k ⟨max (s.T k).s s.V, max (s.T k).s s.V + costS m (wt k) al⟩) (by rw [if_pos hnew, hT, hA])
    have hg := hear_good hi hk (m := m) (by omega) (hw.w k hk) hw.a hnew
    rw [hT, hA] at hg
    have hi5 : ∀ j, j < n → (updT s.T k ⟨(s.T k).s, (s.T k).s⟩ j).ok := fun j hj => by
      have h1 := hi.tok j hj
      by_cases hjk : j = k
      · subst hjk; rw [updT_at]; unfold TagsE.ok at h1 ⊢; exact ⟨h1.1, h1.1⟩
      · rw [updT_ne _ _ hjk]; exact h1
    have hu : (updT s.T k ⟨(s.T k).s, (s.T k).s⟩ k).f = (s.T k).s := by rw [updT_at]
    have NX := Lib.hid (fun W hs => wake_ok s.V ft n c2 (updT s.T k ⟨(s.T k).s, (s.T k).s⟩) k m (wt k) al W hs hn8 hk (by rw [hu]; exact hg))
    rw [hu] at NX
    have HTG : Hid (∀ W, FrAt W M g fo ft n c1 c2 wt al ⟨s.V, updT s.T k ⟨(s.T k).s, (s.T k).s⟩, s.z, s.sv⟩ → TagsIn W (some ⟨ft, 0, none⟩) n c2 ft 0 (updT s.T k ⟨(s.T k).s, (s.T k).s⟩)) := Lib.hid (fun W hx => by
      obtain ⟨a', c', he, ht⟩ := tags_row hx.tg hi5
      injection he with e1 e2 e3
      subst e1 e3
      exact ht)
    rw [← hWT] at NX
    have HE := Lib.hid hE
    rw [hs] at f2
    have d1 : decide (0 < m) = true := decide_eq_true h0
    clear hi hw hm h hZ hn8 hwk hzk h0 hnew hT hA hg hs hWT hzm hz0 hx5 hb5 hSS hi5 hu hE hk HH
    go_enter Try.func51, Try.ntmps51
    go_upto_region 5 with fail
    go_still_tail 17, (by kernel_rfl)
    change wpList _ _ _ _ _ w.drew
    go_upto_region 6 with fail
    rw [← hW5]
    clear hW5 e3 e4 e5 e6 e7 dz
    go_upto_region 7 with fail
    clear f1 f2 w2 w3 fz fl f0
    refine wp_region_held_drew (S := fun X => X.cell? ⟨g, 1, none⟩ = some (.int .i64 al) ∧ X.cell? ⟨fo, k * 3, none⟩ = some (.int .u8 WT)) (by kernel_rfl) ⟨cell_at HX5.out.blk 1, by rw [HWT.out]; exact (HX5.out.fl.cell HK.out).1⟩ (fun hHeld => ?_)
    try simp only [Act.put, List.setIfInBounds_toArray, List.set_cons_zero, List.set_cons_succ]
    have Bz := belowN (Below.refl W5.heap.size W5) 1
    have HX1 : Hid (FrAt W5.drew M g fo ft n c1 c2 wt al ⟨s.V, updT s.T k ⟨(s.T k).s, (s.T k).s⟩, s.z, s.sv⟩) := Lib.hid (HX5.out.step Bz)
    have HB1 : Hid (BF M w W5.drew) := Lib.hid (HB5.out.trans (BF.new Bz HX5.out.size))
    have HF1 : Hid (Fr [g, fo, ft] w W5.drew) := Lib.hid (HF5.out.trans (Fr.of_below Bz) (by simp))
    clear Bz
    ((refine wpAnyH_take (i := 0) (v := ?_) (by (simp only [List.getElem?_toArray, List.getElem?_cons_succ, List.getElem?_cons_zero]); rfl) (by kernel_rfl) (by kernel_rfl) (by kernel_rfl) (by exact fun _ _ _ h => h) (Or.inl ⟨by rfl, ?_⟩) (by assumption) ?_); rotate_left; focus (intro wS hSw; (try dsimp only at hSw); go_simp; first | done | with_reducible rfl); try simp only [Act.put, List.setIfInBounds_toArray, List.set_cons_zero, List.set_cons_succ])
    ((refine wpAnyH_take (i := 1) (v := ?_) (by (simp only [List.getElem?_toArray, List.getElem?_cons_succ, List.getElem?_cons_zero]); rfl) (by kernel_rfl) (by kernel_rfl) (by kernel_rfl) (by exact fun _ _ _ h => h) (Or.inl ⟨by rfl, ?_⟩) (by assumption) ?_); rotate_left; focus (intro wS hSw; (try dsimp only at hSw); go_simp; first | done | with_reducible rfl); try simp only [Act.put, List.setIfInBounds_toArray, List.set_cons_zero, List.set_cons_succ])
    ((refine wpAnyH_take (i := 2) (v := ?_) (by (simp only [List.getElem?_toArray, List.getElem?_cons_succ, List.getElem?_cons_zero]); rfl) (by kernel_rfl) (by kernel_rfl) (by kernel_rfl) (by exact fun _ _ _ h => h) (Or.inl ⟨by rfl, ?_⟩) (by assumption) ?_); rotate_left; focus (intro wS hSw; (try dsimp only at hSw); go_simp; first | done | with_reducible rfl); try simp only [Act.put, List.setIfInBounds_toArray, List.set_cons_zero, List.set_cons_succ])
    ((refine wpAnyH_take (i := 3) (v := ?_) (by (simp only [List.getElem?_toArray, List.getElem?_cons_succ, List.getElem?_cons_zero]); rfl) (by kernel_rfl) (by kernel_rfl) (by kernel_rfl) (by exact fun _ _ _ h => h) (Or.inl ⟨by rfl, ?_⟩) (by assumption) ?_); rotate_left; focus (intro wS hSw; (try dsimp only at hSw); go_simp; first | done | with_reducible rfl); try simp only [Act.put, List.setIfInBounds_toArray, List.set_cons_zero, List.set_cons_succ])
    ((refine wpAnyH_take (i := 5) (v := ?_) (by (simp only [List.getElem?_toArray, List.getElem?_cons_succ, List.getElem?_cons_zero]); rfl) (by kernel_rfl) (by kernel_rfl) (by kernel_rfl) (by exact fun _ _ _ h => h) (Or.inl ⟨by rfl, ?_⟩) (by assumption) ?_); rotate_left; focus (intro wS hSw; (try dsimp only at hSw); go_simp; first | done | with_reducible rfl); try simp only [Act.put, List.setIfInBounds_toArray, List.set_cons_zero, List.set_cons_succ])
    ((refine wpAnyH_take (i := 6) (v := ?_) (by (simp only [List.getElem?_toArray, List.getElem?_cons_succ, List.getElem?_cons_zero]); rfl) (by kernel_rfl) (by kernel_rfl) (by kernel_rfl) (by exact fun _ _ _ h => h) (Or.inl ⟨by rfl, ?_⟩) (by assumption) ?_); rotate_left; focus (intro wS hSw; (try dsimp only at hSw); go_simp; first | done | with_reducible rfl); try simp only [Act.put, List.setIfInBounds_toArray, List.set_cons_zero, List.set_cons_succ])
    ((refine wpAnyH_take (i := 7) (v := ?_) (by (simp only [List.getElem?_toArray, List.getElem?_cons_succ, List.getElem?_cons_zero]); rfl) (by kernel_rfl) (by kernel_rfl) (by kernel_rfl) (by exact fun _ _ _ h => h) (Or.inl ⟨by rfl, ?_⟩) (by assumption) ?_); rotate_left; focus (intro wS hSw; (try dsimp only at hSw); go_simp; first | done | with_reducible rfl); try simp only [Act.put, List.setIfInBounds_toArray, List.set_cons_zero, List.set_cons_succ])
    ((refine wpAnyH_take (i := 8) (v := ?_) (by (simp only [List.getElem?_toArray, List.getElem?_cons_succ, List.getElem?_cons_zero]); rfl) (by kernel_rfl) (by kernel_rfl) (by kernel_rfl) (by exact fun _ _ _ h => h) (Or.inl ⟨by rfl, ?_⟩) (by assumption) ?_); rotate_left; focus (intro wS hSw; (try dsimp only at hSw); go_simp; first | done | with_reducible rfl); try simp only [Act.put, List.setIfInBounds_toArray, List.set_cons_zero, List.set_cons_succ])
    ((refine wpAnyH_take (i := 9) (v := ?_) (by (simp only [List.getElem?_toArray, List.getElem?_cons_succ, List.getElem?_cons_zero]); rfl) (by kernel_rfl) (by kernel_rfl) (by kernel_rfl) (by exact fun _ _ _ h => h) (Or.inl ⟨by rfl, ?_⟩) (by assumption) ?_); rotate_left; focus (intro wS hSw; (try dsimp only at hSw); go_simp; first | done | with_reducible rfl); try simp only [Act.put, List.setIfInBounds_toArray, List.set_cons_zero, List.set_cons_succ])
    ((refine wpAnyH_take (i := 10) (v := ?_) (by (simp only [List.getElem?_toArray, List.getElem?_cons_succ, List.getElem?_cons_zero]); rfl) (by kernel_rfl) (by kernel_rfl) (by kernel_rfl) (by exact fun _ _ _ h => h) (Or.inl ⟨by rfl, ?_⟩) (by assumption) ?_); rotate_left; focus (intro wS hSw; (try dsimp only at hSw); go_simp; first | done | with_reducible rfl); try simp only [Act.put, List.setIfInBounds_toArray, List.set_cons_zero, List.set_cons_succ])
    ((refine wpAnyH_take (i := 11) (v := ?_) (by (simp only [List.getElem?_toArray, List.getElem?_cons_succ, List.getElem?_cons_zero]); rfl) (by kernel_rfl) (by kernel_rfl) (by kernel_rfl) (by exact fun _ _ _ h => h) (Or.inl ⟨by rfl, ?_⟩) (by assumption) ?_); rotate_left; focus (intro wS hSw; (try dsimp only at hSw); go_simp; first | done | with_reducible rfl); try simp only [Act.put, List.setIfInBounds_toArray, List.set_cons_zero, List.set_cons_succ])
    ((refine wpAnyH_take (i := 12) (v := ?_) (by (simp only [List.getElem?_toArray, List.getElem?_cons_succ, List.getElem?_cons_zero]); rfl) (by kernel_rfl) (by kernel_rfl) (by kernel_rfl) (by exact fun _ _ _ h => h) (Or.inl ⟨by rfl, ?_⟩) (by assumption) ?_); rotate_left; focus (intro wS hSw; (try dsimp only at hSw); go_simp; first | done | with_reducible rfl); try simp only [Act.put, List.setIfInBounds_toArray, List.set_cons_zero, List.set_cons_succ])
    ((refine wpAnyH_take (i := 13) (v := ?_) (by (simp only [List.getElem?_toArray, List.getElem?_cons_succ, List.getElem?_cons_zero]); rfl) (by kernel_rfl) (by kernel_rfl) (by kernel_rfl) (by exact fun _ _ _ h => h) (Or.inl ⟨by rfl, ?_⟩) (by assumption) ?_); rotate_left; focus (intro wS hSw; (try dsimp only at hSw); go_simp; first | done | with_reducible rfl); try simp only [Act.put, List.setIfInBounds_toArray, List.set_cons_zero, List.set_cons_succ])
    ((refine wpAnyH_take (i := 14) (v := ?_) (by (simp only [List.getElem?_toArray, List.getElem?_cons_succ, List.getElem?_cons_zero]); rfl) (by kernel_rfl) (by kernel_rfl) (by kernel_rfl) (by exact fun _ _ _ h => h) (Or.inl ⟨by rfl, ?_⟩) (by assumption) ?_); rotate_left; focus (intro wS hSw; (try dsimp only at hSw); go_simp; first | done | with_reducible rfl); try simp only [Act.put, List.setIfInBounds_toArray, List.set_cons_zero, List.set_cons_succ])
    ((refine wpAnyH_take (i := 15) (v := ?_) (by (simp only [List.getElem?_toArray, List.getElem?_cons_succ, List.getElem?_cons_zero]); rfl) (by kernel_rfl) (by kernel_rfl) (by kernel_rfl) (by exact fun _ _ _ h => h) (Or.inl ⟨by rfl, ?_⟩) (by assumption) ?_); rotate_left; focus (intro wS hSw; (try dsimp only at hSw); go_simp; first | done | with_reducible rfl); try simp only [Act.put, List.setIfInBounds_toArray, List.set_cons_zero, List.set_cons_succ])
    refine wpAnyH_ready (rs := [4]) (by kernel_rfl) (by simp) ?_
    refine AllReadyH.cons (by (simp only [List.getElem?_toArray, List.getElem?_cons_succ, List.getElem?_cons_zero]); rfl) (fun K hK => ?_) AllReadyH.nil
    have e2 : W5.drew.cell? ⟨g, 2, none⟩ = some (.int .i64 s.V) := cell_at HX1.out.blk 2
    have e3 : W5.drew.cell? ⟨g, 3, none⟩ = some (.slice (some ⟨ft, 0, none⟩) n c2) := cell_at HX1.out.blk 3
    go_simp
    refine hK _ _ ⟨cell_at HX1.out.blk 1, by rw [HWT.out]; exact (HX1.out.fl.cell HK.out).1⟩ (fun hHeld => ?_)
    clear hK K e2 e3
    try simp only [Act.put, List.setIfInBounds_toArray, List.set_cons_zero, List.set_cons_succ]
    ((refine wpAnyH_ready (rs := [16]) (by kernel_rfl) (by simp) ?_); (refine AllReadyH.cons (by (simp only [List.getElem?_toArray, List.getElem?_cons_succ, List.getElem?_cons_zero]); rfl) (fun K hK => ?_) AllReadyH.nil); go_simp; go_fit (NX.out _ (HTG.out _ HX1.out)))
    rintro e W2 ⟨ft', c', rfl, hr2, hl2, hB2⟩
    have HX2 := Lib.hid (HX1.out.step hB2)
    have HB2 := Lib.hid (HB1.out.trans (BF.new hB2 HX1.out.size))
    have HR2 := Lib.hid hr2
    have HL2 : Hid (M ≤ ft') := Lib.hid (Nat.le_trans HX1.out.size hl2)
    have HF2 := Lib.hid (HF1.out.trans (Fr.of_below hB2) (by simp))
    have HFT : Hid (ft' = ft ∨ w.heap.size ≤ ft') := Lib.hid (.inr (Nat.le_trans HF1.out.size hl2))
    clear hr2 hl2 hB2
    go_wp2_with fail
    refine hK.out _ _ ⟨cell_at HX2.out.blk 1, by rw [HWT.out]; exact (HX2.out.fl.cell HK.out).1⟩ (fun hHeld => ?_)
    clear hK K
    try simp only [Act.put, List.setIfInBounds_toArray, List.set_cons_zero, List.set_cons_succ]
    ((refine wpAnyH_take (i := 17) (v := ?_) (by (simp only [List.getElem?_toArray, List.getElem?_cons_succ, List.getElem?_cons_zero]); rfl) (by kernel_rfl) (by kernel_rfl) (by kernel_rfl) (by exact fun _ _ _ h => h) (Or.inl ⟨by rfl, ?_⟩) (by assumption) ?_); rotate_left; focus (intro wS hSw; (try dsimp only at hSw); go_simp; first | done | with_reducible rfl); try simp only [Act.put, List.setIfInBounds_toArray, List.set_cons_zero, List.set_cons_succ])
    ((refine wpAnyH_take (i := 18) (v := ?_) (by (simp only [List.getElem?_toArray, List.getElem?_cons_succ, List.getElem?_cons_zero]); rfl) (by kernel_rfl) (by kernel_rfl) (by kernel_rfl) (by exact fun _ _ _ h => h) (Or.inl ⟨by rfl, ?_⟩) (by assumption) ?_); rotate_left; focus (intro wS hSw; (try dsimp only at hSw); go_simp; first | done | with_reducible rfl); try simp only [Act.put, List.setIfInBounds_toArray, List.set_cons_zero, List.set_cons_succ])
    ((refine wpAnyH_ready (rs := [19]) (by kernel_rfl) (by simp) ?_); (refine AllReadyH.cons (by (simp only [List.getElem?_toArray, List.getElem?_cons_succ, List.getElem?_cons_zero]); rfl) (fun K hK => ?_) AllReadyH.nil); go_simp; go_fit (set_ok _ _ _ _ M g fo ft n c1 c2 wt al _ _ HX2.out HR2.out HL2.out))
    rintro e W3 ⟨rfl, hx3, hb3, hf3⟩
    have HF3 := Lib.hid (HF2.out.trans hf3 (by simp))
    have HX3 := Lib.hid hx3
    have HB3 := Lib.hid (HB2.out.trans hb3)
    clear hx3 hb3 hf3
    go_wp2_with fail
    refine hK.out _ _ ⟨cell_at HX3.out.blk 1, by rw [HWT.out]; exact (HX3.out.fl.cell HK.out).1⟩ (fun hHeld => ?_)
    clear hK K
    try simp only [Act.put, List.setIfInBounds_toArray, List.set_cons_zero, List.set_cons_succ]
    refine wpAnyH_done (by kernel_rfl) ?_ _
    try simp only [Act.put, List.setIfInBounds_toArray, List.set_cons_zero, List.set_cons_succ]
    rw [HWT.out] at HX3
    go_upto_region 8 with fail
    obtain ⟨W8, hW8⟩ : ∃ W, W = (W3.setCell ⟨fo, k * 3 + 1, none⟩ (.int .u16 m)).setCell ⟨fo, k * 3 + 2, none⟩ (.bool false) := ⟨_, rfl⟩
    obtain ⟨p8, q8⟩ := HX3.out.fl.put HK.out m false hW8
    have hne8 := HX3.out.ne
    have HR := Lib.hid (show FrAt W8 M g fo _ n c1 _ wt al (hearS (wt k) al k m s) ∧ BF M w W8 from ⟨by
      rw [HE.out]
      exact ⟨(q8.block g HX3.out.blk.lt (by simpa using hne8.1)).trans HX3.out.blk, p8, HX3.out.cp, HX3.out.tg.congr fun q e => by obtain rfl := Option.some.inj e; exact q8.block _ HX3.out.tg.lt (by simpa using fun e => hne8.2.2 e.symm), HX3.out.ge⟩, HB3.out.trans (HX3.out.frame q8 (by simp))⟩)
    obtain ⟨g0, g1, g2, gz⟩ := HX3.out.fl.cell HK.out
    have gl := HX3.out.fl.lt
    have w3 : IntKind.u16.wrap m = m := IntWalk.u16_in _ (by have := HM.out; omega)
    have HF8 := Lib.hid (HF3.out.trans q8 (by simp))
    clear p8 q8 hne8 g0
    go_wp2_with fail
    rw [← hW8]
    go_end0
    exact ⟨rfl, ⟨_, _, HR.out.1, HF8.out, HFT.out⟩, HR.out.2⟩
  · have h00 : m = 0 := by omega
    have hnew : hNew k m s = false := by unfold hNew; simp [h00]
    have HE := Lib.hid (hearS_T (wt k) al k m s (updT s.T k ⟨(s.T k).s, (s.T k).s⟩) (by rw [if_neg (by rw [hnew]; simp), hT]))
    rw [hs] at f2
    have d1 : decide (0 < m) = false := decide_eq_false h0
    clear hi hw hm h hZ hn8 hwk hzk h0 hnew hT hs hWT hzm hz0 hx5 hb5 hSS hk h00 HH
    go_enter Try.func51, Try.ntmps51
    go_upto_region 5 with fail
    go_still_tail 17, (by kernel_rfl)
    change wpList _ _ _ _ _ w.drew
    go_upto_region 6 with fail
    rw [← hW5]
    clear hW5 e3 e4 e5 e6 e7 dz
    go_upto_region 8 with fail
    clear f0 f1 f2 fz fl w3
    obtain ⟨W8, hW8⟩ : ∃ W, W = (W5.setCell ⟨fo, k * 3 + 1, none⟩ (.int .u16 m)).setCell ⟨fo, k * 3 + 2, none⟩ (.bool false) := ⟨_, rfl⟩
    obtain ⟨p8, q8⟩ := HX5.out.fl.put HK.out m false hW8
    have hne8 := HX5.out.ne
    have HR := Lib.hid (show FrAt W8 M g fo _ n c1 _ wt al (hearS (wt k) al k m s) ∧ BF M w W8 from ⟨by
      rw [HE.out]
      exact ⟨(q8.block g HX5.out.blk.lt (by simpa using hne8.1)).trans HX5.out.blk, p8, HX5.out.cp, HX5.out.tg.congr fun q e => by obtain rfl := Option.some.inj e; exact q8.block _ HX5.out.tg.lt (by simpa using fun e => hne8.2.2 e.symm), HX5.out.ge⟩, HB5.out.trans (HX5.out.frame q8 (by simp))⟩)
    obtain ⟨g0, g1, g2, gz⟩ := HX5.out.fl.cell HK.out
    have gl := HX5.out.fl.lt
    have w3 : IntKind.u16.wrap m = m := IntWalk.u16_in _ (by have := HM.out; omega)
    have HF8 := Lib.hid (HF5.out.trans q8 (by simp))
    clear p8 q8 hne8 g0
    go_wp2_with fail
    rw [← hW8]
    go_end0
    exact ⟨rfl, ⟨_, _, HR.out.1, HF8.out, (Or.inl rfl)⟩, HR.out.2⟩
set_option maxRecDepth 100000 in
set_option maxHeartbeats 8000000 in
theorem hear_e (k : Nat) (m : Int) (M g fo ft n c1 c2 : Nat) (wt : Nat → Int) (al : Int) (s : FS) (w : World) (h : FrAt w M g fo ft n c1 c2 wt al s) (hi : Inv n s) (hw : WtOk n wt al) (hk : k < n) (hm : 0 ≤ m ∧ m ≤ 1500) (hs : s.sv k = false) (hzm : s.z k ≠ m) (hz0 : s.z k = 0) :
    Calls Try.prog 51 #[.pointer (some ⟨g, 0, none⟩), .int .i64 k, .pointer (some ⟨fo, k * 3, none⟩), .int .i64 m] w fun e w' => e = .returned (.tuple #[]) ∧ HrP M g fo ft n c1 wt al (hearS (wt k) al k m s) w w' := by
  have hn8 := hi.n8
  have hwk := hw.w k hk
  have hzk := (hi.k k hk).z0
  obtain ⟨f0, f1, f2, fz⟩ := h.fl.cell hk
  have fl := h.fl.lt
  obtain ⟨WT, hWT⟩ : ∃ x, x = wt k := ⟨_, rfl⟩
  obtain ⟨Z, hZ⟩ : ∃ x, x = s.z k := ⟨_, rfl⟩
  rw [← hWT] at f0 hwk
  rw [← hZ] at f1 hzk
  have w1 : IntKind.i64.wrap WT = WT := IntWalk.i64_in _ (by omega)
  have w2 : IntKind.i64.wrap Z = Z := IntWalk.i64_in _ (by omega)
  have w3 : IntKind.u16.wrap m = m := by first | exact IntWalk.u16_in _ (by omega) | (simp [IntKind.wrap]; omega)
  have HH := Lib.hid h
  have HI := Lib.hid hi
  have HW := Lib.hid hw
  have HK := Lib.hid hk
  have HM := Lib.hid hm
  have HWT := Lib.hid hWT
  have HZ := Lib.hid hZ
  have h0 : 0 < m := by omega
  have hnew : hNew k m s = true := by unfold hNew; simp [hs, hzm]; omega
  have hT : hT1 k m s = s.T := by unfold hT1; rw [if_neg (by simp [hz0])]
  have hA : hAt k m s = max (s.T k).f s.V := by unfold hAt; rw [if_neg (by simp [hs]), hT]
  have HE := Lib.hid (hearS_T (wt k) al k m s (updT s.T k ⟨max (s.T k).f s.V, max (s.T k).f s.V + costS m (wt k) al⟩) (by rw [if_pos hnew, hT, hA]))
  have hg := hear_good hi hk (m := m) (by omega) (hw.w k hk) hw.a hnew
  rw [hT, hA] at hg
  have NX := Lib.hid (fun W hs => wake_ok s.V ft n c2 s.T k m (wt k) al W hs hn8 hk hg)
  rw [← hWT] at NX
  have HBB : Hid (BF M w w) := Lib.hid (BF.refl _ _)
  have HFF : Hid (Fr [g, fo, ft] w w) := Lib.hid (Fr.refl _ _)
  rw [hs] at f2
  have d1 : decide (0 < m) = true := decide_eq_true h0
  have d2 : (m != Z) = true := by rw [hZ]; simp; omega
  have d3 : decide (0 < Z) = false := decide_eq_false (by omega)
  clear hi hw hm h hZ hn8 hwk hzk h0 hnew hT hA hg hs hWT hzm hz0
  go_enter Try.func51, Try.ntmps51
  go_upto_region 7 with fail
  clear f1 f2 w2 w3 fz fl f0
  refine wp_region_held_drew (S := fun X => X.cell? ⟨g, 1, none⟩ = some (.int .i64 al) ∧ X.cell? ⟨fo, k * 3, none⟩ = some (.int .u8 WT)) (by kernel_rfl) ⟨cell_at HH.out.blk 1, by rw [HWT.out]; exact (HH.out.fl.cell HK.out).1⟩ (fun hHeld => ?_)
  try simp only [Act.put, List.setIfInBounds_toArray, List.set_cons_zero, List.set_cons_succ]
  have Bz := belowN (Below.refl w.heap.size w) 1
  have HX1 : Hid (FrAt w.drew M g fo ft n c1 c2 wt al s) := Lib.hid (HH.out.step Bz)
  have HB1 : Hid (BF M w w.drew) := Lib.hid (HBB.out.trans (BF.new Bz HH.out.size))
  have HF1 : Hid (Fr [g, fo, ft] w w.drew) := Lib.hid (HFF.out.trans (Fr.of_below Bz) (by simp))
  clear Bz
  ((refine wpAnyH_take (i := 0) (v := ?_) (by (simp only [List.getElem?_toArray, List.getElem?_cons_succ, List.getElem?_cons_zero]); rfl) (by kernel_rfl) (by kernel_rfl) (by kernel_rfl) (by exact fun _ _ _ h => h) (Or.inl ⟨by rfl, ?_⟩) (by assumption) ?_); rotate_left; focus (intro wS hSw; (try dsimp only at hSw); go_simp; first | done | with_reducible rfl); try simp only [Act.put, List.setIfInBounds_toArray, List.set_cons_zero, List.set_cons_succ])
  ((refine wpAnyH_take (i := 1) (v := ?_) (by (simp only [List.getElem?_toArray, List.getElem?_cons_succ, List.getElem?_cons_zero]); rfl) (by kernel_rfl) (by kernel_rfl) (by kernel_rfl) (by exact fun _ _ _ h => h) (Or.inl ⟨by rfl, ?_⟩) (by assumption) ?_); rotate_left; focus (intro wS hSw; (try dsimp only at hSw); go_simp; first | done | with_reducible rfl); try simp only [Act.put, List.setIfInBounds_toArray, List.set_cons_zero, List.set_cons_succ])
  ((refine wpAnyH_take (i := 2) (v := ?_) (by (simp only [List.getElem?_toArray, List.getElem?_cons_succ, List.getElem?_cons_zero]); rfl) (by kernel_rfl) (by kernel_rfl) (by kernel_rfl) (by exact fun _ _ _ h => h) (Or.inl ⟨by rfl, ?_⟩) (by assumption) ?_); rotate_left; focus (intro wS hSw; (try dsimp only at hSw); go_simp; first | done | with_reducible rfl); try simp only [Act.put, List.setIfInBounds_toArray, List.set_cons_zero, List.set_cons_succ])
  ((refine wpAnyH_take (i := 3) (v := ?_) (by (simp only [List.getElem?_toArray, List.getElem?_cons_succ, List.getElem?_cons_zero]); rfl) (by kernel_rfl) (by kernel_rfl) (by kernel_rfl) (by exact fun _ _ _ h => h) (Or.inl ⟨by rfl, ?_⟩) (by assumption) ?_); rotate_left; focus (intro wS hSw; (try dsimp only at hSw); go_simp; first | done | with_reducible rfl); try simp only [Act.put, List.setIfInBounds_toArray, List.set_cons_zero, List.set_cons_succ])
  ((refine wpAnyH_take (i := 5) (v := ?_) (by (simp only [List.getElem?_toArray, List.getElem?_cons_succ, List.getElem?_cons_zero]); rfl) (by kernel_rfl) (by kernel_rfl) (by kernel_rfl) (by exact fun _ _ _ h => h) (Or.inl ⟨by rfl, ?_⟩) (by assumption) ?_); rotate_left; focus (intro wS hSw; (try dsimp only at hSw); go_simp; first | done | with_reducible rfl); try simp only [Act.put, List.setIfInBounds_toArray, List.set_cons_zero, List.set_cons_succ])
  ((refine wpAnyH_take (i := 6) (v := ?_) (by (simp only [List.getElem?_toArray, List.getElem?_cons_succ, List.getElem?_cons_zero]); rfl) (by kernel_rfl) (by kernel_rfl) (by kernel_rfl) (by exact fun _ _ _ h => h) (Or.inl ⟨by rfl, ?_⟩) (by assumption) ?_); rotate_left; focus (intro wS hSw; (try dsimp only at hSw); go_simp; first | done | with_reducible rfl); try simp only [Act.put, List.setIfInBounds_toArray, List.set_cons_zero, List.set_cons_succ])
  ((refine wpAnyH_take (i := 7) (v := ?_) (by (simp only [List.getElem?_toArray, List.getElem?_cons_succ, List.getElem?_cons_zero]); rfl) (by kernel_rfl) (by kernel_rfl) (by kernel_rfl) (by exact fun _ _ _ h => h) (Or.inl ⟨by rfl, ?_⟩) (by assumption) ?_); rotate_left; focus (intro wS hSw; (try dsimp only at hSw); go_simp; first | done | with_reducible rfl); try simp only [Act.put, List.setIfInBounds_toArray, List.set_cons_zero, List.set_cons_succ])
  ((refine wpAnyH_take (i := 8) (v := ?_) (by (simp only [List.getElem?_toArray, List.getElem?_cons_succ, List.getElem?_cons_zero]); rfl) (by kernel_rfl) (by kernel_rfl) (by kernel_rfl) (by exact fun _ _ _ h => h) (Or.inl ⟨by rfl, ?_⟩) (by assumption) ?_); rotate_left; focus (intro wS hSw; (try dsimp only at hSw); go_simp; first | done | with_reducible rfl); try simp only [Act.put, List.setIfInBounds_toArray, List.set_cons_zero, List.set_cons_succ])
  ((refine wpAnyH_take (i := 9) (v := ?_) (by (simp only [List.getElem?_toArray, List.getElem?_cons_succ, List.getElem?_cons_zero]); rfl) (by kernel_rfl) (by kernel_rfl) (by kernel_rfl) (by exact fun _ _ _ h => h) (Or.inl ⟨by rfl, ?_⟩) (by assumption) ?_); rotate_left; focus (intro wS hSw; (try dsimp only at hSw); go_simp; first | done | with_reducible rfl); try simp only [Act.put, List.setIfInBounds_toArray, List.set_cons_zero, List.set_cons_succ])
  ((refine wpAnyH_take (i := 10) (v := ?_) (by (simp only [List.getElem?_toArray, List.getElem?_cons_succ, List.getElem?_cons_zero]); rfl) (by kernel_rfl) (by kernel_rfl) (by kernel_rfl) (by exact fun _ _ _ h => h) (Or.inl ⟨by rfl, ?_⟩) (by assumption) ?_); rotate_left; focus (intro wS hSw; (try dsimp only at hSw); go_simp; first | done | with_reducible rfl); try simp only [Act.put, List.setIfInBounds_toArray, List.set_cons_zero, List.set_cons_succ])
  ((refine wpAnyH_take (i := 11) (v := ?_) (by (simp only [List.getElem?_toArray, List.getElem?_cons_succ, List.getElem?_cons_zero]); rfl) (by kernel_rfl) (by kernel_rfl) (by kernel_rfl) (by exact fun _ _ _ h => h) (Or.inl ⟨by rfl, ?_⟩) (by assumption) ?_); rotate_left; focus (intro wS hSw; (try dsimp only at hSw); go_simp; first | done | with_reducible rfl); try simp only [Act.put, List.setIfInBounds_toArray, List.set_cons_zero, List.set_cons_succ])
  ((refine wpAnyH_take (i := 12) (v := ?_) (by (simp only [List.getElem?_toArray, List.getElem?_cons_succ, List.getElem?_cons_zero]); rfl) (by kernel_rfl) (by kernel_rfl) (by kernel_rfl) (by exact fun _ _ _ h => h) (Or.inl ⟨by rfl, ?_⟩) (by assumption) ?_); rotate_left; focus (intro wS hSw; (try dsimp only at hSw); go_simp; first | done | with_reducible rfl); try simp only [Act.put, List.setIfInBounds_toArray, List.set_cons_zero, List.set_cons_succ])
  ((refine wpAnyH_take (i := 13) (v := ?_) (by (simp only [List.getElem?_toArray, List.getElem?_cons_succ, List.getElem?_cons_zero]); rfl) (by kernel_rfl) (by kernel_rfl) (by kernel_rfl) (by exact fun _ _ _ h => h) (Or.inl ⟨by rfl, ?_⟩) (by assumption) ?_); rotate_left; focus (intro wS hSw; (try dsimp only at hSw); go_simp; first | done | with_reducible rfl); try simp only [Act.put, List.setIfInBounds_toArray, List.set_cons_zero, List.set_cons_succ])
  ((refine wpAnyH_take (i := 14) (v := ?_) (by (simp only [List.getElem?_toArray, List.getElem?_cons_succ, List.getElem?_cons_zero]); rfl) (by kernel_rfl) (by kernel_rfl) (by kernel_rfl) (by exact fun _ _ _ h => h) (Or.inl ⟨by rfl, ?_⟩) (by assumption) ?_); rotate_left; focus (intro wS hSw; (try dsimp only at hSw); go_simp; first | done | with_reducible rfl); try simp only [Act.put, List.setIfInBounds_toArray, List.set_cons_zero, List.set_cons_succ])
  ((refine wpAnyH_take (i := 15) (v := ?_) (by (simp only [List.getElem?_toArray, List.getElem?_cons_succ, List.getElem?_cons_zero]); rfl) (by kernel_rfl) (by kernel_rfl) (by kernel_rfl) (by exact fun _ _ _ h => h) (Or.inl ⟨by rfl, ?_⟩) (by assumption) ?_); rotate_left; focus (intro wS hSw; (try dsimp only at hSw); go_simp; first | done | with_reducible rfl); try simp only [Act.put, List.setIfInBounds_toArray, List.set_cons_zero, List.set_cons_succ])
  refine wpAnyH_ready (rs := [4]) (by kernel_rfl) (by simp) ?_
  refine AllReadyH.cons (by (simp only [List.getElem?_toArray, List.getElem?_cons_succ, List.getElem?_cons_zero]); rfl) (fun K hK => ?_) AllReadyH.nil
  have e2 : w.drew.cell? ⟨g, 2, none⟩ = some (.int .i64 s.V) := cell_at HX1.out.blk 2
  have e3 : w.drew.cell? ⟨g, 3, none⟩ = some (.slice (some ⟨ft, 0, none⟩) n c2) := cell_at HX1.out.blk 3
  go_simp
  refine hK _ _ ⟨cell_at HX1.out.blk 1, by rw [HWT.out]; exact (HX1.out.fl.cell HK.out).1⟩ (fun hHeld => ?_)
  clear hK K e2 e3
  try simp only [Act.put, List.setIfInBounds_toArray, List.set_cons_zero, List.set_cons_succ]
  ((refine wpAnyH_ready (rs := [16]) (by kernel_rfl) (by simp) ?_); (refine AllReadyH.cons (by (simp only [List.getElem?_toArray, List.getElem?_cons_succ, List.getElem?_cons_zero]); rfl) (fun K hK => ?_) AllReadyH.nil); go_simp; go_fit (NX.out _ (HX1.out.tags HI.out)))
  rintro e W2 ⟨ft', c', rfl, hr2, hl2, hB2⟩
  have HX2 := Lib.hid (HX1.out.step hB2)
  have HB2 := Lib.hid (HB1.out.trans (BF.new hB2 HX1.out.size))
  have HR2 := Lib.hid hr2
  have HL2 : Hid (M ≤ ft') := Lib.hid (Nat.le_trans HX1.out.size hl2)
  have HF2 := Lib.hid (HF1.out.trans (Fr.of_below hB2) (by simp))
  have HFT : Hid (ft' = ft ∨ w.heap.size ≤ ft') := Lib.hid (.inr (Nat.le_trans HF1.out.size hl2))
  clear hr2 hl2 hB2
  go_wp2_with fail
  refine hK.out _ _ ⟨cell_at HX2.out.blk 1, by rw [HWT.out]; exact (HX2.out.fl.cell HK.out).1⟩ (fun hHeld => ?_)
  clear hK K
  try simp only [Act.put, List.setIfInBounds_toArray, List.set_cons_zero, List.set_cons_succ]
  ((refine wpAnyH_take (i := 17) (v := ?_) (by (simp only [List.getElem?_toArray, List.getElem?_cons_succ, List.getElem?_cons_zero]); rfl) (by kernel_rfl) (by kernel_rfl) (by kernel_rfl) (by exact fun _ _ _ h => h) (Or.inl ⟨by rfl, ?_⟩) (by assumption) ?_); rotate_left; focus (intro wS hSw; (try dsimp only at hSw); go_simp; first | done | with_reducible rfl); try simp only [Act.put, List.setIfInBounds_toArray, List.set_cons_zero, List.set_cons_succ])
  ((refine wpAnyH_take (i := 18) (v := ?_) (by (simp only [List.getElem?_toArray, List.getElem?_cons_succ, List.getElem?_cons_zero]); rfl) (by kernel_rfl) (by kernel_rfl) (by kernel_rfl) (by exact fun _ _ _ h => h) (Or.inl ⟨by rfl, ?_⟩) (by assumption) ?_); rotate_left; focus (intro wS hSw; (try dsimp only at hSw); go_simp; first | done | with_reducible rfl); try simp only [Act.put, List.setIfInBounds_toArray, List.set_cons_zero, List.set_cons_succ])
  ((refine wpAnyH_ready (rs := [19]) (by kernel_rfl) (by simp) ?_); (refine AllReadyH.cons (by (simp only [List.getElem?_toArray, List.getElem?_cons_succ, List.getElem?_cons_zero]); rfl) (fun K hK => ?_) AllReadyH.nil); go_simp; go_fit (set_ok _ _ _ _ M g fo ft n c1 c2 wt al _ _ HX2.out HR2.out HL2.out))
  rintro e W3 ⟨rfl, hx3, hb3, hf3⟩
  have HF3 := Lib.hid (HF2.out.trans hf3 (by simp))
  have HX3 := Lib.hid hx3
  have HB3 := Lib.hid (HB2.out.trans hb3)
  clear hx3 hb3 hf3
  go_wp2_with fail
  refine hK.out _ _ ⟨cell_at HX3.out.blk 1, by rw [HWT.out]; exact (HX3.out.fl.cell HK.out).1⟩ (fun hHeld => ?_)
  clear hK K
  try simp only [Act.put, List.setIfInBounds_toArray, List.set_cons_zero, List.set_cons_succ]
  refine wpAnyH_done (by kernel_rfl) ?_ _
  try simp only [Act.put, List.setIfInBounds_toArray, List.set_cons_zero, List.set_cons_succ]
  rw [HWT.out] at HX3
  go_upto_region 8 with fail
  obtain ⟨W8, hW8⟩ : ∃ W, W = (W3.setCell ⟨fo, k * 3 + 1, none⟩ (.int .u16 m)).setCell ⟨fo, k * 3 + 2, none⟩ (.bool false) := ⟨_, rfl⟩
  obtain ⟨p8, q8⟩ := HX3.out.fl.put HK.out m false hW8
  have hne8 := HX3.out.ne
  have HR := Lib.hid (show FrAt W8 M g fo _ n c1 _ wt al (hearS (wt k) al k m s) ∧ BF M w W8 from ⟨by
    rw [HE.out]
    exact ⟨(q8.block g HX3.out.blk.lt (by simpa using hne8.1)).trans HX3.out.blk, p8, HX3.out.cp, HX3.out.tg.congr fun q e => by obtain rfl := Option.some.inj e; exact q8.block _ HX3.out.tg.lt (by simpa using fun e => hne8.2.2 e.symm), HX3.out.ge⟩, HB3.out.trans (HX3.out.frame q8 (by simp))⟩)
  obtain ⟨g0, g1, g2, gz⟩ := HX3.out.fl.cell HK.out
  have gl := HX3.out.fl.lt
  have w3 : IntKind.u16.wrap m = m := IntWalk.u16_in _ (by have := HM.out; omega)
  have HF8 := Lib.hid (HF3.out.trans q8 (by simp))
  clear p8 q8 hne8 g0
  go_wp2_with fail
  rw [← hW8]
  go_end0
  exact ⟨rfl, ⟨_, _, HR.out.1, HF8.out, HFT.out⟩, HR.out.2⟩
theorem hear_ok (k : Nat) (m : Int) (M g fo ft n c1 c2 : Nat) (wt : Nat → Int) (al : Int) (s : FS) (w : World) (h : FrAt w M g fo ft n c1 c2 wt al s) (hi : Inv n s) (hw : WtOk n wt al) (hk : k < n) (hm : 0 ≤ m ∧ m ≤ 1500) :
    Calls Try.prog 51 #[.pointer (some ⟨g, 0, none⟩), .int .i64 k, .pointer (some ⟨fo, k * 3, none⟩), .int .i64 m] w fun e w' => e = .returned (.tuple #[]) ∧ HrP M g fo ft n c1 wt al (hearS (wt k) al k m s) w w' := by
  cases hs : s.sv k
  · by_cases hz : s.z k = m
    · exact hear_n k m M g fo ft n c1 c2 wt al s w h hi hw hk hm (.inr ⟨hs, hz⟩)
    · by_cases h0 : 0 < s.z k
      · exact hear_d k m M g fo ft n c1 c2 wt al s w h hi hw hk hm hs hz h0
      · exact hear_e k m M g fo ft n c1 c2 wt al s w h hi hw hk hm hs hz (by have := (hi.k k hk).z0; omega)
  · by_cases h0 : 0 < m
    · exact hear_a k m M g fo ft n c1 c2 wt al s w h hi hw hk hm hs h0
    · exact hear_n k m M g fo ft n c1 c2 wt al s w h hi hw hk hm (.inl ⟨hs, by omega⟩)
end Go.Proofs.Ytoodmocapagapaa
namespace Go.Proofs.Ytoodmocapagapaa
open Go.RowKit
set_option linter.unusedSimpArgs false
set_option linter.unusedVariables false

structure HdE where
  size : Int
  weight : Int
def HdE.cells (e : HdE) : List Value := [.int .i64 e.size, .int .i64 e.weight]
def HdE.ok (e : HdE) : Prop := (-9223372036854775808 ≤ e.size ∧ e.size ≤ 9223372036854775807) ∧ (-9223372036854775808 ≤ e.weight ∧ e.weight ≤ 9223372036854775807)
structure HdIn (W : World) (a : Option Addr) (len cap b o : Nat) (E : Nat → HdE) : Prop where
  le : len ≤ cap
  max : cap ≤ maxLen
  at_ : 0 < len → a = some ⟨b, o, none⟩ ∧ b < W.heap.size
  cell : ∀ k, k < len → W.cell? ⟨b, o + k * 2, none⟩ = some (.int .i64 (E k).size) ∧ W.cell? ⟨b, o + k * 2 + 1, none⟩ = some (.int .i64 (E k).weight)
  bd : ∀ k, k < len → (E k).ok
theorem HdIn.below {W W' : World} {a : Option Addr} {len cap b o : Nat} {E : Nat → HdE} (h : HdIn W a len cap b o E) (hB : Below W.heap.size W W') : HdIn W' a len cap b o E :=
  ⟨h.le, h.max, fun hk => ⟨(h.at_ hk).1, by have := (h.at_ hk).2; have := hB.size; omega⟩, fun k hk => by
    have hb := (h.at_ (by omega)).2
    obtain ⟨c0, c1⟩ := h.cell k hk
    exact ⟨(hB.cell (p := ⟨b, _, none⟩) hb).trans c0, (hB.cell (p := ⟨b, _, none⟩) hb).trans c1⟩, h.bd⟩
theorem hd_cells (W : World) {a : Option Addr} {len cap : Nat} {xs : List Dt} (h : SliceFits Try.prog W 104 a len cap xs) : ∃ (b o : Nat) (E : Nat → HdE), HdIn W a len cap b o E := by
  have hc : Try.prog.cellsOf 104 = 2 := by kernel_rfl
  obtain ⟨b, o, h1, h2⟩ := h.spot (by rw [hc]; omega)
  have hex : ∀ k, ∃ q : HdE, k < len → (W.cell? ⟨b, o + k * 2, none⟩ = some (.int .i64 q.size) ∧ W.cell? ⟨b, o + k * 2 + 1, none⟩ = some (.int .i64 q.weight)) ∧ q.ok := fun k => by
    by_cases hk : k < len
    · have hl := h.length
      have hx := List.getElem?_eq_getElem (l := xs) (i := k) (by omega)
      obtain ⟨l0, hxe, hl0, hf0⟩ := (h.each k _ hx).1.agg_inv Try.underlying104
      obtain ⟨y0_0, e0_0, f0_0⟩ := hf0 0 _ rfl
      obtain ⟨y0_1, e0_1, f0_1⟩ := hf0 1 _ rfl
      obtain ⟨v0_0, rfl, gv0_0⟩ := f0_0.int_inv Try.underlying3
      obtain ⟨v0_1, rfl, gv0_1⟩ := f0_1.int_inv Try.underlying3
      match l0, hl0 with
      | [z0_0, z0_1], _ =>
        obtain rfl : z0_0 = _ := by simpa using e0_0
        obtain rfl : z0_1 = _ := by simpa using e0_1
        have hcell := h2 k _ hx
        rw [hxe, hc] at hcell
        exact ⟨⟨v0_0, v0_1⟩, fun _ => ⟨⟨hcell 0 _ rfl, by have := hcell 1 _ rfl; rwa [← Nat.add_assoc] at this⟩, gv0_0, gv0_1⟩⟩
    · exact ⟨⟨0, 0⟩, fun h => absurd h hk⟩
  have hg := fun k => Classical.choose_spec (hex k)
  exact ⟨b, o, fun k => Classical.choose (hex k), h.le, h.max, h1, fun k hk => (hg k hk).1, fun k hk => (hg k hk).2⟩
def hdL (E : Nat → HdE) (n : Nat) : List Value := (List.range n).flatMap fun k => (E k).cells
theorem hdL_succ (E : Nat → HdE) (n : Nat) : hdL E (n + 1) = hdL E n ++ (E n).cells := by simp [hdL, List.range_succ, List.flatMap_append]
theorem hdL_len (E : Nat → HdE) : ∀ n : Nat, (hdL E n).length = n * 2
  | 0 => by simp [hdL]
  | n + 1 => by rw [hdL_succ, List.length_append, hdL_len E n]; simp [HdE.cells]; omega
theorem hdL_congr {E E' : Nat → HdE} : ∀ {n : Nat}, (∀ k, k < n → E k = E' k) → hdL E n = hdL E' n
  | 0, _ => rfl
  | n + 1, h => by rw [hdL_succ, hdL_succ, hdL_congr (fun k hk => h k (by omega)), h n (by omega)]
theorem hdL_at (E : Nat → HdE) : ∀ (n k j : Nat), k < n → j < 2 → (hdL E n)[k * 2 + j]? = (E k).cells[j]?
  | 0, _, _, h, _ => by omega
  | n + 1, k, j, h, hj => by
    have hl := hdL_len E n
    rw [hdL_succ]
    by_cases hk : k < n
    · rw [List.getElem?_append_left (by omega)]
      exact hdL_at E n k j hk hj
    · obtain rfl : k = n := by omega
      rw [List.getElem?_append_right (by omega), hl]
      congr 1
      omega
theorem hd_row {w : World} {v : Value} {ob : Option Nat} {E : Nat → HdE} {n : Nat} (h : Row w v ob 104 2 n (hdL E n)) (hE : ∀ k, k < n → (E k).ok) :
    ∃ a cap, v = .slice a n cap ∧ HdIn w a n cap (ob.getD 0) 0 E := by
  obtain ⟨a, cap, rfl, h1, h2, h3⟩ := h.shape
  refine ⟨a, cap, rfl, h1, h2, fun hk => ?_, fun k hk => ?_, hE⟩
  · obtain ⟨g, hg, _⟩ := h.cell 0 (by omega)
    subst hg
    exact ⟨h3, h.lt⟩
  · have hh : ∀ j, j < 2 → w.cell? ⟨ob.getD 0, 0 + k * 2 + j, none⟩ = (E k).cells[j]? := fun j hj => by
      obtain ⟨g, hg, hc, _⟩ := h.cell (k * 2 + j) (by omega)
      subst hg
      rw [Option.getD_some, Nat.zero_add, hc, hdL_at E n k j hk hj]
    exact ⟨hh 0 (by omega), hh 1 (by omega)⟩

def hsz (E : Nat → HdE) (k : Nat) : Int := (E k).size
def okHd (m : Nat → Int) (n : Nat) : Prop := ∀ k, k < n → 0 ≤ m k ∧ m k ≤ 1500
def badB (m : Int) : Bool := decide (m < 0) || decide (1500 < m)
theorem badB_iff (m : Int) : badB m = false ↔ 0 ≤ m ∧ m ≤ 1500 := by unfold badB; simp
set_option maxRecDepth 100000 in
set_option maxHeartbeats 2000000 in
theorem isNone_any (z wg : Int) (w : World) : Calls Try.prog 48 #[.agg #[.int .i64 z, .int .i64 wg]] w fun e w' => e = .returned (.bool (badB z)) ∧ Below w.heap.size w w' := by
  unfold badB
  by_cases h : z < 0
  · have d1 : decide (z < 0) = true := decide_eq_true h
    go_enter Try.func48, Try.ntmps48
    go_wp2_with fail
    go_ret
    exact ⟨by first | rfl | (rw [d1]; rfl), (Below.refl _ _).alloc (Nat.le_refl _) _⟩
  · have d1 : decide (z < 0) = false := decide_eq_false h
    go_enter Try.func48, Try.ntmps48
    go_wp2_with fail
    go_ret
    exact ⟨by first | rfl | (rw [d1]; rfl), (Below.refl _ _).alloc (Nat.le_refl _) _⟩
set_option maxRecDepth 100000 in
set_option maxHeartbeats 4000000 in
theorem index_any (a : Option Addr) (n cap b o : Nat) (E : Nat → HdE) (w : World) (h : HdIn w a n cap b o E) :
    Calls Try.prog 62 #[.slice a n cap, .func (.func 48) #[] #[]] w fun e w' => ∃ r : Int, e = .returned (.int .i64 r) ∧ Below w.heap.size w w' ∧ ((r = -1 ∧ okHd (hsz E) n) ∨ (0 ≤ r ∧ ¬ okHd (hsz E) n)) := by
  have m1 := h.le
  have m2 := h.max
  unfold maxLen at m2
  have HH := Lib.hid h
  clear h
  go_enter Try.func62, Try.ntmps62
  go_wp2_with fail
  go_loopw [5, 8] (fun _ i wr => ∃ k : Nat, k ≤ n ∧ i = .int .i64 k ∧ okHd (hsz E) k ∧ Below w.heap.size w wr) (fun _ i _ => n - (intOf i).toNat)
  case atStart => exact ⟨0, Nat.zero_le _, rfl, (fun _ h => by omega), Below.refl _ _⟩
  case round =>
    obtain ⟨k, hk, rfl, ho, hB⟩ := hrel
    have HO := Lib.hid ho
    have HB := Lib.hid hB
    by_cases hlt : k < n
    · have ww5 : IntKind.i64.wrap ((k : Int) + 1) = (k : Int) + 1 := IntWalk.i64_in _ (by omega)
      have hx := HH.out.below hB
      obtain ⟨e0, _⟩ := hx.at_ (by omega)
      subst e0
      obtain ⟨c0, c1⟩ := hx.cell k hlt
      obtain ⟨Z, hZ⟩ : ∃ Z, Z = (E k).size := ⟨_, rfl⟩
      obtain ⟨G, hG⟩ : ∃ G, G = (E k).weight := ⟨_, rfl⟩
      rw [← hZ] at c0
      rw [← hG] at c1
      have HZ : Hid (hsz E k = Z) := Lib.hid hZ.symm
      have b9 : ((k : Int) < (n : Int)) = True := eq_true (by omega)
      have bk1 : (k < n) = True := eq_true hlt
      have HLT := Lib.hid hlt
      clear ho hB hx hZ hG hlt
      go_wp2_with fail
      go_at_call 48
      go_fit (isNone_any Z G _)
      rintro e W2 ⟨rfl, hB2⟩
      have HB2 := Lib.hid (HB.out.trans (hB2.mono HB.out.size))
      clear hB2 c0 c1
      cases hb : badB Z
      · have HB9 := Lib.hid hb
        clear hb
        go_wp2_with fail
        go_roundw
        case rel => exact ⟨k + 1, by have := HLT.out; omega, by go_num, (fun j hj => by
          by_cases hjk : j = k
          · subst hjk; rw [HZ.out]; exact (badB_iff Z).1 HB9.out
          · exact HO.out j (by omega)), HB2.out⟩
        case measure => (have h8 := HLT.out; first | (simp [intOf]; done) | (simp [intOf]; omega))
      · have HB9 := Lib.hid hb
        clear hb
        go_wp2_with fail
        try rw [Exit.noGoto_ret]
        go_ret
        exact ⟨_, rfl, HB2.out, .inr ⟨by omega, fun hc => by
          have := (badB_iff Z).2 (by rw [← HZ.out]; exact hc k HLT.out)
          rw [HB9.out] at this
          cases this⟩⟩
    · obtain rfl : k = n := by omega
      clear ho hB
      go_wp2_with fail
      try rw [Exit.noGoto_ret]
      go_ret
      exact ⟨_, rfl, HB.out, .inl ⟨rfl, HO.out⟩⟩
set_option maxRecDepth 100000 in
set_option maxHeartbeats 4000000 in
theorem contains_any (a : Option Addr) (n cap b o : Nat) (E : Nat → HdE) (w : World) (h : HdIn w a n cap b o E) :
    Calls Try.prog 47 #[.slice a n cap, .func (.func 48) #[] #[]] w fun e w' => ∃ B : Bool, e = .returned (.bool B) ∧ Below w.heap.size w w' ∧ ((B = false ∧ okHd (hsz E) n) ∨ (B = true ∧ ¬ okHd (hsz E) n)) := by
  have IX := Lib.hid (index_any a n cap b o E w h)
  clear h
  go_enter Try.func47, Try.ntmps47
  go_wp2_with fail
  go_at_call 62
  go_fit (IX.out)
  rintro e W2 ⟨r, rfl, hB2, hr⟩
  have HB2 := Lib.hid hB2
  have HR := Lib.hid hr
  clear hB2 hr
  go_wp2_with fail
  go_ret
  refine ⟨_, rfl, HB2.out, ?_⟩
  rcases HR.out with ⟨h1, h2⟩ | ⟨h1, h2⟩
  · exact .inl ⟨by simp; omega, h2⟩
  · exact .inr ⟨by simp; omega, h2⟩

/-- rows of bools of the call's own -/
def boL (R : Nat → Bool) (n : Nat) : List Value := (List.range n).map fun k => .bool (R k)
theorem boL_succ (R : Nat → Bool) (n : Nat) : boL R (n + 1) = boL R n ++ [.bool (R n)] := by simp [boL, List.range_succ]
theorem boL_len (R : Nat → Bool) (n : Nat) : (boL R n).length = n := by simp [boL]
theorem boInfo : (Try.prog.info? 4).map (fun i => (i.zero, i.size, i.bytes)) = some (some (.bool false), 1, 1) := by kernel_rfl
theorem bo_grow {W : World} {M b n : Nat} {ty : TypeId} {v : Value} {ob : Option Nat} {R : Nat → Bool} (h : Row W v ob 4 1 n (boL R n)) (hO : ∀ g, ob = some g → M ≤ g) (hb : Blk W b #[.bool (R n)] 4) (hM : M ≤ W.heap.size) (hn : n ≤ 1000000) :
    ∃ v' ob' w', (Builtin.append_ #[106, 106] ty #[v, .slice (some ⟨b, 0, none⟩) 1 1]).run Try.prog W = .ok v' w' ∧ Row w' v' (some ob') 4 1 (n + 1) (boL R (n + 1)) ∧ W.grownBy w' ob ∧ (ob = some ob' ∨ ob' = W.heap.size) ∧ Below M W w' ∧ M ≤ ob' := by
  obtain ⟨i0, hi, hz0, hz1, hz2⟩ := info_parts boInfo
  obtain ⟨v', ob', w', hrun, s1, s2, s3⟩ := run_append_row (P := Try.prog) W 106 ty 4 i0 _ 1 1 Try.underlying106 hi hz0 hz1 hz2 rfl (by decide) v ob n (boL R n) h ⟨b, 0, none⟩ 1 1 [.bool (R n)] (by decide) rfl (fun j u hu => by
    rw [addr_add, cell_at hb]
    have hj : j < 1 := (List.getElem?_eq_some_iff.1 hu).1
    obtain rfl : j = 0 := by omega
    simpa using hu) (fun u hu => List.all_eq_true (p := fun u : Value => u.oneCell') |>.1 rfl u hu) (by unfold maxLen; omega) (by omega)
  refine ⟨v', ob', w', hrun, by rw [boL_succ]; exact s1, s2, s3, (Below.refl M W).grown s2 hM hO, ?_⟩
  rcases s3 with h | h
  · exact hO _ h
  · omega
theorem bools_row {w : World} {v : Value} {ob : Option Nat} {R : Nat → Bool} {n : Nat} (h : Row w v ob 4 1 n (boL R n)) : ∃ a cap, v = .slice a n cap ∧ BoolsIn w a n cap (ob.getD 0) 0 R := by
  obtain ⟨a, cap, rfl, h1, h2, h3⟩ := h.shape
  refine ⟨a, cap, rfl, ⟨h1, h2, fun hk => ?_, fun k hk => ?_⟩⟩
  · obtain ⟨g, hg, _⟩ := h.cell 0 (by omega)
    subst hg
    exact ⟨h3, h.lt⟩
  · obtain ⟨g, hg, hc, _⟩ := h.cell k (by omega)
    subst hg
    rw [Option.getD_some, Nat.zero_add, hc]
    simp [boL, hk]
end Go.Proofs.Ytoodmocapagapaa
namespace Go.Proofs.Ytoodmocapagapaa
open Go.RowKit
set_option linter.unusedSimpArgs false
set_option linter.unusedVariables false

def gTy : List TypeId := [101, 112, 129, 106, 4]
structure BG (M : Nat) (W W' : World) : Prop where
  b : Below M W W'
  t : TyL gTy W W'
theorem BG.refl (M : Nat) (W : World) : BG M W W := ⟨Below.refl _ _, TyL.refl _ _⟩
theorem BG.trans {M : Nat} {a b c : World} (h : BG M a b) (k : BG M b c) : BG M a c := ⟨h.b.trans k.b, h.t.trans k.t⟩
theorem BG.size {M : Nat} {a b : World} (h : BG M a b) : a.heap.size ≤ b.heap.size := h.b.size
theorem BG.new {M : Nat} {W W' : World} (h : Below W.heap.size W W') (hM : M ≤ W.heap.size) : BG M W W' := ⟨h.mono hM, TyL.of_below h⟩
theorem BF.g {M : Nat} {W W' : World} (h : BF M W W') : BG M W W' := ⟨h.b, fun q cs ty hb hn => h.t q cs ty hb (fun hm => hn (by simp only [fTy, List.mem_cons, List.not_mem_nil, or_false] at hm; rcases hm with h | h | h <;> simp [gTy, h]))⟩
theorem BG.fr {M : Nat} {W W' : World} {l : List Nat} (h : Fr l W W') (hM : M ≤ W.heap.size) (hl : ∀ q ∈ l, M ≤ q ∧ ∃ cs ty, Blk W q cs ty ∧ ty ∈ gTy) : BG M W W' := ⟨h.below hM (fun q hq => (hl q hq).1), TyL.of_fr h fun q hq => (hl q hq).2⟩
theorem FrAt.ty {W : World} {M g fo ft n c1 c2 : Nat} {wt : Nat → Int} {al : Int} {s : FS} (h : FrAt W M g fo ft n c1 c2 wt al s) {q : Nat} {cs : Array Value} {ty : TypeId} (hb : Blk W q cs ty) (hn : ty ∉ fTy) : q ≠ g ∧ q ≠ fo ∧ q ≠ ft := by
  have dis : ∀ {x : Nat} {a b : Array Value} {t u : TypeId}, Blk W x a t → Blk W x b u → t = u := fun h1 h2 => by
    have := h1.symm.trans h2
    injection this with e'
    injection e' with e1 e2
  refine ⟨?_, ?_, ?_⟩
  · rintro rfl; exact hn (by rw [dis hb h.blk]; simp [fTy])
  · rintro rfl; obtain ⟨cf, hf, _⟩ := h.fl; exact hn (by rw [dis hb hf]; simp [fTy])
  · rintro rfl; obtain ⟨cf, hf⟩ := blk_row h.tg; exact hn (by rw [dis hb hf]; simp [fTy])
theorem alloc_b (w : World) (o : Obj) : Below w.heap.size w (w.alloc o) := (Below.refl _ _).alloc (Nat.le_refl _) _
/-- flows, heads, what is ready: memory while flows are gone over -/
structure EaAt (W : World) (M g fo ft n c1 c2 : Nat) (wt : Nat → Int) (al : Int) (s : FS) (bF bH bR : Nat) (a : Option Addr) (cap : Nat) (vr : Value) (ob : Option Nat) (R : Nat → Bool) (k : Nat) : Prop where
  fr : FrAt W M g fo ft n c1 c2 wt al s
  hF : Blk W bF #[.pointer (some ⟨g, 0, none⟩)] 62
  hH : Blk W bH #[.slice a n cap] 69
  hR : Blk W bR #[vr] 106
  row : Row W vr ob 4 1 k (boL R k)
  hO : ∀ q, ob = some q → M ≤ q
  ge : M ≤ bR
theorem EaAt.bg {W W' : World} {M g fo ft n c1 c2 : Nat} {wt : Nat → Int} {al : Int} {s s' : FS} {bF bH bR ft' c' : Nat} {a : Option Addr} {cap : Nat} {vr : Value} {ob : Option Nat} {R : Nat → Bool} {k : Nat} (h : EaAt W M g fo ft n c1 c2 wt al s bF bH bR a cap vr ob R k) (hB : BF M W W') (hf : FrAt W' M g fo ft' n c1 c' wt al s') : EaAt W' M g fo ft' n c1 c' wt al s' bF bH bR a cap vr ob R k := by
  refine ⟨hf, hB.t _ _ _ h.hF (by decide), hB.t _ _ _ h.hH (by decide), hB.t _ _ _ h.hR (by decide), h.row.congr fun q e => ?_, h.hO, h.ge⟩
  subst e
  obtain ⟨cs, hb⟩ := blk_row h.row
  have h2 := hB.t _ _ _ hb (by decide)
  exact h2.trans hb.symm
theorem EaAt.step {W W' : World} {M g fo ft n c1 c2 : Nat} {wt : Nat → Int} {al : Int} {s : FS} {bF bH bR : Nat} {a : Option Addr} {cap : Nat} {vr : Value} {ob : Option Nat} {R : Nat → Bool} {k : Nat} (h : EaAt W M g fo ft n c1 c2 wt al s bF bH bR a cap vr ob R k) (hB : Below W.heap.size W W') : EaAt W' M g fo ft n c1 c2 wt al s bF bH bR a cap vr ob R k :=
  h.bg (BF.new hB h.fr.size) (h.fr.step hB)
/-- one more is told ready or not -/
theorem EaAt.put {W W1 W3 W4 : World} {M g fo ft n c1 c2 : Nat} {wt : Nat → Int} {al : Int} {s : FS} {bF bH bR : Nat} {a : Option Addr} {cap : Nat} {vr v' : Value} {ob : Option Nat} {ob' : Nat} {R : Nat → Bool} {k : Nat} (h : EaAt W M g fo ft n c1 c2 wt al s bF bH bR a cap vr ob R k)
    (hB1 : Below W.heap.size W W1) (hr : Row W3 v' (some ob') 4 1 (k + 1) (boL R (k + 1))) (hg : W1.grownBy W3 ob) (hn : ob = some ob' ∨ ob' = W1.heap.size) (hM : M ≤ ob') (hW : W4 = W3.setCell ⟨bR, 0, none⟩ v') :
    EaAt W4 M g fo ft n c1 c2 wt al s bF bH bR a cap v' (some ob') R (k + 1) ∧ BG M W W4 ∧ Fr (bR :: ob.toList) W W4 ∧ W3.cell? ⟨bR, 0, none⟩ = some vr ∧ (∀ j, W3.frozen? ⟨bR, j, none⟩ = false) ∧ bR < W3.heap.size := by
  have h1 := h.step hB1
  have hsz := h1.fr.size
  have nb : ∀ {q : Nat} {cs : Array Value} {ty : TypeId}, Blk W1 q cs ty → ty ≠ 4 → ob ≠ some q := fun {q cs ty} hb ht e => by
    subst e
    exact row_blk_ne h1.row hb ht rfl
  have hf3 : Fr ob.toList W1 W3 := ⟨hg.os, hg.tape, hg.output, hg.size, fun i hi hq => hg.block i hi (fun e => hq (by rw [← e]; simp))⟩
  have hR3 : Blk W3 bR #[vr] 106 := (hg.block bR h1.hR.lt (fun e => nb h1.hR (by decide) e.symm)).trans h1.hR
  have hne : bR ≠ ob' := fun e => by
    subst e
    exact row_blk_ne hr hR3 (by decide) rfl
  have hf4 : Fr [bR] W3 W4 := by rw [hW]; exact (Fr.refl _ _).setCell _ (.inl (by simp)) _
  have hft : Fr (bR :: ob.toList) W1 W4 := (hf3.mono (fun x hx => .inl (List.mem_cons_of_mem _ hx))).trans hf4 (fun x hx => .inl (by simp at hx; subst hx; simp))
  have hno : ∀ {q : Nat} {cs : Array Value} {ty : TypeId}, Blk W1 q cs ty → ty ≠ 4 → ty ≠ 106 → q ∉ bR :: ob.toList := fun {q cs ty} hb h1' h2' => by
    simp only [List.mem_cons, not_or]
    refine ⟨?_, fun hm => nb hb h1' (by simpa using hm)⟩
    rintro rfl
    have := hb.symm.trans h1.hR
    injection this with e'
    injection e' with _ e2
    exact h2' e2
  obtain ⟨cf, hcf, _⟩ := h1.fr.fl
  obtain ⟨ct, hct⟩ := blk_row h1.fr.tg
  refine ⟨⟨h1.fr.fr hft (hno h1.fr.blk (by decide) (by decide)) (hno hcf (by decide) (by decide)) (hno hct (by decide) (by decide)), (hft.block bF h1.hF.lt (hno h1.hF (by decide) (by decide))).trans h1.hF, (hft.block bH h1.hH.lt (hno h1.hH (by decide) (by decide))).trans h1.hH, by rw [hW]; exact hR3.set 0 _, hr.congr fun q e => ?_, fun q e => ?_, h.ge⟩, (BG.new hB1 h.fr.size).trans (BG.fr hft hsz fun q hq => ?_), ((Fr.of_below hB1).mono (by simp)).trans hft (fun x hx => .inl hx), cell_at hR3 0, fun j => free_at hR3 j, hR3.lt⟩
  · obtain rfl := Option.some.inj e
    exact hf4.block _ hr.lt (by simpa using fun e => hne e.symm)
  · obtain rfl := Option.some.inj e
    exact hM
  · rcases List.mem_cons.1 hq with rfl | hq
    · exact ⟨h.ge, _, _, h1.hR, by simp [gTy]⟩
    · have e : ob = some q := by simpa using hq
      subst e
      obtain ⟨cs, hb⟩ := blk_row h1.row
      exact ⟨h.hO q rfl, _, _, hb, by simp [gTy]⟩
structure P1P (M g fo ft n c1 : Nat) (wt : Nat → Int) (al : Int) (s' : FS) (bF bH bR : Nat) (a : Option Addr) (cap : Nat) (ob : Option Nat) (R : Nat → Bool) (k : Nat) (w w' : World) : Prop where
  ex : ∃ ft' c' vr' ob', EaAt w' M g fo ft' n c1 c' wt al s' bF bH bR a cap vr' (some ob') R k ∧ Fr (g :: fo :: ft :: bR :: ob.toList) w w' ∧ (ft' = ft ∨ w.heap.size ≤ ft') ∧ (ob = some ob' ∨ w.heap.size ≤ ob')
  b : BG M w w'
set_option maxRecDepth 100000 in
set_option maxHeartbeats 8000000 in
theorem pick1_ok (k : Nat) (M g fo ft n c1 c2 : Nat) (wt : Nat → Int) (al : Int) (s : FS) (bF bH bR : Nat) (a : Option Addr) (cap hb ho : Nat) (E : Nat → HdE) (vr : Value) (ob : Option Nat) (w : World) (h : EaAt w M g fo ft n c1 c2 wt al s bF bH bR a cap vr ob (rdy (hsz E)) k) (hE : ∀ W', BG M w W' → HdIn W' a n cap hb ho E) (hm : okHd (hsz E) n) (hi : Inv n s) (hw : WtOk n wt al) (hk : k < n) :
    Calls Try.prog 50 #[.int .i64 k, .pointer (some ⟨fo, k * 3, none⟩), .pointer (some ⟨bF, 0, none⟩), .pointer (some ⟨bH, 0, none⟩), .pointer (some ⟨bR, 0, none⟩)] w fun e w' => e = .returned (.tuple #[]) ∧ P1P M g fo ft n c1 wt al (hearS (wt k) al k (hsz E k) s) bF bH bR a cap ob (rdy (hsz E)) (k + 1) w w' := by
  obtain ⟨ea, hbl⟩ := (hE w (BG.refl _ _)).at_ (by omega)
  subst ea
  have HH := Lib.hid h
  have HE := Lib.hid hE
  obtain ⟨Z, hZ⟩ : ∃ z, z = hsz E k := ⟨_, rfl⟩
  have HC : Hid (∀ W', BG M w W' → W'.cell? ⟨hb, ho + k * 2, none⟩ = some (.int .i64 Z)) := Lib.hid (fun W' hB => by rw [hZ]; exact ((hE W' hB).cell k hk).1)
  have hz2 : 0 ≤ Z ∧ Z ≤ 1500 := by rw [hZ]; exact hm k hk
  have HZ2 := Lib.hid hz2
  have HR := Lib.hid (fun W hf => hear_ok k Z M g fo ft n c1 c2 wt al s W hf hi hw hk hz2)
  have hn8 := hi.n8
  have bk1 : (k < n) = True := eq_true hk
  have bk2 : ((k : Int) < (n : Int)) = True := eq_true (by omega)
  have bk0 : ((0 : Int) ≤ (k : Int)) = True := eq_true (by omega)
  have HRD : Hid (rdy (hsz E) k = decide (0 < Z)) := Lib.hid (by unfold rdy; rw [hZ])
  have HZ := Lib.hid hZ
  have HN8 := Lib.hid hn8
  have HK := Lib.hid hk
  clear h hE hm hi hw hz2 hZ hn8 hbl hk
  go_enter Try.func50, Try.ntmps50
  go_upto_region 0 with fail
  refine wp_region_held_drew (S := fun X => X.cell? ⟨bF, 0, none⟩ = some (.pointer (some ⟨g, 0, none⟩)) ∧ X.cell? ⟨bH, 0, none⟩ = some (.slice (some ⟨hb, ho, none⟩) n cap) ∧ X.cell? ⟨hb, ho + k * 2, none⟩ = some (.int .i64 Z)) (by kernel_rfl) ⟨cell_at HH.out.hF 0, cell_at HH.out.hH 0, HC.out w.drew (BG.new (belowN (Below.refl w.heap.size w) 1) HH.out.fr.size)⟩ (fun hHeld => ?_)
  try simp only [Act.put, List.setIfInBounds_toArray, List.set_cons_zero, List.set_cons_succ]
  have Bz := belowN (Below.refl w.heap.size w) 1
  have HH1 : Hid (EaAt w.drew M g fo ft n c1 c2 wt al s bF bH bR (some ⟨hb, ho, none⟩) cap vr ob (rdy (hsz E)) k) := Lib.hid (HH.out.step Bz)
  have HB1 : Hid (BG M w w.drew) := Lib.hid (BG.new Bz HH.out.fr.size)
  clear Bz HH
  ((refine wpAnyH_take (i := 0) (v := ?_) (by (simp only [List.getElem?_toArray, List.getElem?_cons_succ, List.getElem?_cons_zero]); rfl) (by kernel_rfl) (by kernel_rfl) (by kernel_rfl) (by exact fun _ _ _ h => h) (Or.inl ⟨by rfl, ?_⟩) (by assumption) ?_); rotate_left; focus (intro wS hSw; (try dsimp only at hSw); go_simp; first | done | with_reducible rfl); try simp only [Act.put, List.setIfInBounds_toArray, List.set_cons_zero, List.set_cons_succ])
  ((refine wpAnyH_take (i := 1) (v := ?_) (by (simp only [List.getElem?_toArray, List.getElem?_cons_succ, List.getElem?_cons_zero]); rfl) (by kernel_rfl) (by kernel_rfl) (by kernel_rfl) (by exact fun _ _ _ h => h) (Or.inl ⟨by rfl, ?_⟩) (by assumption) ?_); rotate_left; focus (intro wS hSw; (try dsimp only at hSw); go_simp; first | done | with_reducible rfl); try simp only [Act.put, List.setIfInBounds_toArray, List.set_cons_zero, List.set_cons_succ])
  ((refine wpAnyH_take (i := 2) (v := ?_) (by (simp only [List.getElem?_toArray, List.getElem?_cons_succ, List.getElem?_cons_zero]); rfl) (by kernel_rfl) (by kernel_rfl) (by kernel_rfl) (by exact fun _ _ _ h => h) (Or.inl ⟨by rfl, ?_⟩) (by assumption) ?_); rotate_left; focus (intro wS hSw; (try dsimp only at hSw); go_simp; first | done | with_reducible rfl); try simp only [Act.put, List.setIfInBounds_toArray, List.set_cons_zero, List.set_cons_succ])
  ((refine wpAnyH_take (i := 3) (v := ?_) (by (simp only [List.getElem?_toArray, List.getElem?_cons_succ, List.getElem?_cons_zero]); rfl) (by kernel_rfl) (by kernel_rfl) (by kernel_rfl) (by exact fun _ _ _ h => h) (Or.inl ⟨by rfl, ?_⟩) (by assumption) ?_); rotate_left; focus (intro wS hSw; (try dsimp only at hSw); go_simp; first | done | with_reducible rfl); try simp only [Act.put, List.setIfInBounds_toArray, List.set_cons_zero, List.set_cons_succ])
  ((refine wpAnyH_take (i := 4) (v := ?_) (by (simp only [List.getElem?_toArray, List.getElem?_cons_succ, List.getElem?_cons_zero]); rfl) (by kernel_rfl) (by kernel_rfl) (by kernel_rfl) (by exact fun _ _ _ h => h) (Or.inl ⟨by rfl, ?_⟩) (by assumption) ?_); rotate_left; focus (intro wS hSw; (try dsimp only at hSw); go_simp; first | done | with_reducible rfl); try simp only [Act.put, List.setIfInBounds_toArray, List.set_cons_zero, List.set_cons_succ])
  ((refine wpAnyH_take (i := 5) (v := ?_) (by (simp only [List.getElem?_toArray, List.getElem?_cons_succ, List.getElem?_cons_zero]); rfl) (by kernel_rfl) (by kernel_rfl) (by kernel_rfl) (by exact fun _ _ _ h => h) (Or.inl ⟨by rfl, ?_⟩) (by assumption) ?_); rotate_left; focus (intro wS hSw; (try dsimp only at hSw); go_simp; first | done | with_reducible rfl); try simp only [Act.put, List.setIfInBounds_toArray, List.set_cons_zero, List.set_cons_succ])
  ((refine wpAnyH_take (i := 6) (v := ?_) (by (simp only [List.getElem?_toArray, List.getElem?_cons_succ, List.getElem?_cons_zero]); rfl) (by kernel_rfl) (by kernel_rfl) (by kernel_rfl) (by exact fun _ _ _ h => h) (Or.inl ⟨by rfl, ?_⟩) (by assumption) ?_); rotate_left; focus (intro wS hSw; (try dsimp only at hSw); go_simp; first | done | with_reducible rfl); try simp only [Act.put, List.setIfInBounds_toArray, List.set_cons_zero, List.set_cons_succ])
  ((refine wpAnyH_take (i := 7) (v := ?_) (by (simp only [List.getElem?_toArray, List.getElem?_cons_succ, List.getElem?_cons_zero]); rfl) (by kernel_rfl) (by kernel_rfl) (by kernel_rfl) (by exact fun _ _ _ h => h) (Or.inl ⟨by rfl, ?_⟩) (by assumption) ?_); rotate_left; focus (intro wS hSw; (try dsimp only at hSw); go_simp; first | done | with_reducible rfl); try simp only [Act.put, List.setIfInBounds_toArray, List.set_cons_zero, List.set_cons_succ])
  ((refine wpAnyH_ready (rs := [8]) (by kernel_rfl) (by simp) ?_); (refine AllReadyH.cons (by (simp only [List.getElem?_toArray, List.getElem?_cons_succ, List.getElem?_cons_zero]); rfl) (fun K hK => ?_) AllReadyH.nil); go_simp; go_fit (HR.out _ HH1.out.fr))
  rintro e W2 ⟨rfl, ⟨ft', c', hf2, hg2, ht2⟩, hb2⟩
  have HG2 : Hid (Fr [g, fo, ft] w W2) := Lib.hid ((((Fr.of_below (belowN (Below.refl w.heap.size w) 1)).mono (by simp)) : Fr [g, fo, ft] w w.drew).trans hg2 (fun x hx => .inl hx))
  have HT2 : Hid (ft' = ft ∨ w.heap.size ≤ ft') := Lib.hid ht2
  have HH2 := Lib.hid (HH1.out.bg hb2 hf2)
  have HB2 := Lib.hid (HB1.out.trans hb2.g)
  clear hb2 hf2 hg2 ht2 HH1 HB1
  go_wp2_with fail
  refine hK.out _ _ ⟨cell_at HH2.out.hF 0, cell_at HH2.out.hH 0, HC.out _ HB2.out⟩ (fun hHeld => ?_)
  clear hK K
  try simp only [Act.put, List.setIfInBounds_toArray, List.set_cons_zero, List.set_cons_succ]
  refine wpAnyH_done (by kernel_rfl) ?_ _
  try simp only [Act.put, List.setIfInBounds_toArray, List.set_cons_zero, List.set_cons_succ]
  obtain ⟨ar, cr, rfl, hr1, hr2, hr3⟩ := HH2.out.row.shape
  have HZC : Hid (W2.cell? ⟨fo, k * 3 + 1, none⟩ = some (.int .u16 Z)) := Lib.hid (by have := (HH2.out.fr.fl.cell HK.out).2.1; rw [this]; show some (Value.int .u16 (upf s.z k Z k)) = _; rw [upf_at])
  clear hr3
  go_upto_region 1 with fail
  refine wp_region_held_drew (S := fun X => X.cell? ⟨fo, k * 3 + 1, none⟩ = some (.int .u16 Z)) (by kernel_rfl) HZC.out (fun hHeld => ?_)
  try simp only [Act.put, List.setIfInBounds_toArray, List.set_cons_zero, List.set_cons_succ]
  have Bz := belowN (Below.refl W2.heap.size W2) 1
  have HH3 := Lib.hid (show EaAt W2.drew M g fo ft' n c1 c' wt al (hearS (wt k) al k Z s) bF bH bR (some ⟨hb, ho, none⟩) cap (.slice ar k cr) ob (rdy (hsz E)) k from HH2.out.step Bz)
  have HB3 : Hid (BG M w W2.drew) := Lib.hid (HB2.out.trans (BG.new Bz HH2.out.fr.size))
  clear Bz HH2 HB2
  ((refine wpAnyH_take (i := 1) (v := ?_) (by (simp only [List.getElem?_toArray, List.getElem?_cons_succ, List.getElem?_cons_zero]); rfl) (by kernel_rfl) (by kernel_rfl) (by kernel_rfl) (by exact fun _ _ _ h => h) (Or.inl ⟨by rfl, ?_⟩) (by assumption) ?_); rotate_left; focus (intro wS hSw; (try dsimp only at hSw); go_simp; first | done | with_reducible rfl); try simp only [Act.put, List.setIfInBounds_toArray, List.set_cons_zero, List.set_cons_succ])
  ((refine wpAnyH_take (i := 2) (v := ?_) (by (simp only [List.getElem?_toArray, List.getElem?_cons_succ, List.getElem?_cons_zero]); rfl) (by kernel_rfl) (by kernel_rfl) (by kernel_rfl) (by exact fun _ _ _ h => h) (Or.inl ⟨by rfl, ?_⟩) (by assumption) ?_); rotate_left; focus (intro wS hSw; (try dsimp only at hSw); go_simp; first | done | with_reducible rfl); try simp only [Act.put, List.setIfInBounds_toArray, List.set_cons_zero, List.set_cons_succ])
  ((refine wpAnyH_take (i := 3) (v := ?_) (by (simp only [List.getElem?_toArray, List.getElem?_cons_succ, List.getElem?_cons_zero]); rfl) (by kernel_rfl) (by kernel_rfl) (by kernel_rfl) (by exact fun _ _ _ h => h) (Or.inl ⟨by rfl, ?_⟩) (by assumption) ?_); rotate_left; focus (intro wS hSw; (try dsimp only at hSw); go_simp; first | done | with_reducible rfl); try simp only [Act.put, List.setIfInBounds_toArray, List.set_cons_zero, List.set_cons_succ])
  ((refine wpAnyH_take (i := 4) (v := ?_) (by (simp only [List.getElem?_toArray, List.getElem?_cons_succ, List.getElem?_cons_zero]); rfl) (by kernel_rfl) (by kernel_rfl) (by kernel_rfl) (by exact fun _ _ _ h => h) (Or.inl ⟨by rfl, ?_⟩) (by assumption) ?_); rotate_left; focus (intro wS hSw; (try dsimp only at hSw); go_simp; first | done | with_reducible rfl); try simp only [Act.put, List.setIfInBounds_toArray, List.set_cons_zero, List.set_cons_succ])
  ((refine wpAnyH_take (i := 5) (v := ?_) (by (simp only [List.getElem?_toArray, List.getElem?_cons_succ, List.getElem?_cons_zero]); rfl) (by kernel_rfl) (by kernel_rfl) (by kernel_rfl) (by exact fun _ _ _ h => h) (Or.inl ⟨by rfl, ?_⟩) (by assumption) ?_); rotate_left; focus (intro wS hSw; (try dsimp only at hSw); go_simp; first | done | with_reducible rfl); try simp only [Act.put, List.setIfInBounds_toArray, List.set_cons_zero, List.set_cons_succ])
  have HA : Hid (Below W2.drew.heap.size W2.drew (W2.drew.alloc (.cells #[.bool (decide (0 < Z))] 4))) := Lib.hid (alloc_b _ _)
  have e0 : W2.drew.cell? ⟨bR, 0, none⟩ = some (.slice ar k cr) := cell_at HH3.out.hR 0
  have ebl : bR < W2.heap.size := HH3.out.hR.lt
  have e2 : W2.cell? ⟨bR, 0, none⟩ = some (.slice ar k cr) := e0
  have ebl2 : bR < W2.drew.heap.size := HH3.out.hR.lt
  have e1 : (W2.drew.alloc (.cells #[.bool (decide (0 < Z))] 4)).cell? ⟨bR, 0, none⟩ = some (.slice ar k cr) := cell_at (HH3.out.hR.step HA.out) 0
  have HZ3 : Hid ((W2.drew.alloc (.cells #[.bool (decide (0 < Z))] 4)).cell? ⟨fo, k * 3 + 1, none⟩ = some (.int .u16 Z)) := Lib.hid ((HA.out.cell (p := ⟨fo, _, none⟩) HH3.out.fr.fl.lt).trans HZC.out)
  have HGR := Lib.hid (bo_grow (M := M) (ty := 0) (R := rdy (hsz E)) (W := W2.drew.alloc (.cells #[.bool (decide (0 < Z))] 4)) (n := k) (HH3.out.row.congr fun q e => by subst e; exact HA.out.block q HH3.out.row.lt) HH3.out.hO (by rw [HRD.out]; exact blk_new W2.drew #[.bool (decide (0 < Z))] 4) (Nat.le_trans HH3.out.fr.size HA.out.size) (by have := HN8.out; have := HK.out; omega))
  refine wpAnyH_ready (rs := [0, 6]) (by kernel_rfl) (by simp) ?_
  refine AllReadyH.cons (by (simp only [List.getElem?_toArray, List.getElem?_cons_succ, List.getElem?_cons_zero]); rfl) (fun K hK => ?_) (AllReadyH.cons (by (simp only [List.getElem?_toArray, List.getElem?_cons_succ, List.getElem?_cons_zero]); rfl) (fun K hK => ?_) AllReadyH.nil)
  · skip
    go_simp
    refine hK _ _ HZC.out (fun hHeld => ?_)
    clear hK K
    try simp only [Act.put, List.setIfInBounds_toArray, List.set_cons_zero, List.set_cons_succ]
    refine wpAnyH_ready (rs := [6]) (by kernel_rfl) (by simp) ?_
    refine AllReadyH.cons (by (simp only [List.getElem?_toArray, List.getElem?_cons_succ, List.getElem?_cons_zero]); rfl) (fun K hK => ?_) AllReadyH.nil
    go_simp
    refine hK _ _ HZ3.out (fun hHeld => ?_)
    clear hK K
    try simp only [Act.put, List.setIfInBounds_toArray, List.set_cons_zero, List.set_cons_succ]
    obtain ⟨v', ob', W5, hrun, hrow5, hg5, hn5, hb5, hm5⟩ := HGR.out
    have hrun5 : ∀ ty, (Builtin.append_ #[106, 106] ty #[.slice ar k cr, .slice (some ⟨W2.drew.heap.size, 0, none⟩) 1 1]).run Try.prog (W2.drew.alloc (.cells #[.bool (decide (0 < Z))] 4)) = .ok v' W5 := fun ty => hrun
    obtain ⟨a6, c6, rfl, _, _, rfl⟩ := hrow5.shape
    obtain ⟨W6, hW6⟩ : ∃ W, W = W5.setCell ⟨bR, 0, none⟩ (.slice (some ⟨ob', 0, none⟩) (k + 1) c6) := ⟨_, rfl⟩
    obtain ⟨hh6, hb6, hf6, f0, fz, fl⟩ := HH3.out.put HA.out hrow5 hg5 hn5 hm5 hW6
    have HZ5 : Hid (W5.cell? ⟨fo, k * 3 + 1, none⟩ = some (.int .u16 Z)) := Lib.hid (by
      have h9 := (HH3.out.step HA.out).fr
      obtain ⟨cf, hcf, _⟩ := h9.fl
      have : W5.heap[fo]? = (W2.drew.alloc (.cells #[.bool (decide (0 < Z))] 4)).heap[fo]? := hg5.block fo hcf.lt (fun e => by
        have hrw := (HH3.out.step HA.out).row
        rw [← e] at hrw
        exact row_blk_ne hrw hcf (by decide) rfl)
      exact (World.cell?_of_block (a := ⟨fo, _, none⟩) this).trans HZ3.out)
    have HH6 := Lib.hid hh6
    have HB6 := Lib.hid (HB3.out.trans hb6)
    have HF6 : Hid (Fr (g :: fo :: ft :: bR :: ob.toList) w W6) := Lib.hid (((HG2.out.mono (l' := g :: fo :: ft :: bR :: ob.toList) (by simp)).trans (Fr.of_below (belowN (Below.refl W2.heap.size W2) 1)) (by simp)).trans hf6 (fun x hx => .inl (List.mem_cons_of_mem _ (List.mem_cons_of_mem _ (List.mem_cons_of_mem _ hx)))))
    have HO6 : Hid (ob = some ob' ∨ w.heap.size ≤ ob') := Lib.hid (by
      rcases hn5 with h | h
      · exact .inl h
      · have := HG2.out.size
        simp at h
        exact .inr (by omega))
    refine wpAnyH_ready (rs := [7]) (by kernel_rfl) (by simp) ?_
    refine AllReadyH.cons (by (simp only [List.getElem?_toArray, List.getElem?_cons_succ, List.getElem?_cons_zero]); rfl) (fun K hK => ?_) AllReadyH.nil
    rw [if_pos (by rfl)]
    refine op_append_run (.tmp 16) (.tmp 22) 106 (by kernel_rfl) (by kernel_rfl) (by kernel_rfl) (hrun5 _) ?_
    refine hK _ _ HZ5.out (fun hHeld => ?_)
    clear hK K
    try simp only [Act.put, List.setIfInBounds_toArray, List.set_cons_zero, List.set_cons_succ]
    refine wpAnyH_ready (rs := [8]) (by kernel_rfl) (by simp) ?_
    refine AllReadyH.cons (by (simp only [List.getElem?_toArray, List.getElem?_cons_succ, List.getElem?_cons_zero]); rfl) (fun K hK => ?_) AllReadyH.nil
    go_simp
    rw [← hW6]
    refine hK _ _ (by have := (HH6.out.fr.fl.cell HK.out).2.1; rw [this]; show some (Value.int .u16 (upf s.z k Z k)) = _; rw [upf_at]) (fun hHeld => ?_)
    clear hK K
    try simp only [Act.put, List.setIfInBounds_toArray, List.set_cons_zero, List.set_cons_succ]
    refine wpAnyH_done (by kernel_rfl) ?_ _
    try simp only [Act.put, List.setIfInBounds_toArray, List.set_cons_zero, List.set_cons_succ]
    go_wp2_with fail
    go_end0
    exact ⟨rfl, ⟨_, _, _, _, by rw [← HZ.out]; exact HH6.out, HF6.out, HT2.out, HO6.out⟩, HB6.out⟩
  · skip
    go_simp
    refine hK _ _ HZ3.out (fun hHeld => ?_)
    clear hK K
    try simp only [Act.put, List.setIfInBounds_toArray, List.set_cons_zero, List.set_cons_succ]
    refine wpAnyH_ready (rs := [0]) (by kernel_rfl) (by simp) ?_
    refine AllReadyH.cons (by (simp only [List.getElem?_toArray, List.getElem?_cons_succ, List.getElem?_cons_zero]); rfl) (fun K hK => ?_) AllReadyH.nil
    go_simp
    refine hK _ _ HZ3.out (fun hHeld => ?_)
    clear hK K
    try simp only [Act.put, List.setIfInBounds_toArray, List.set_cons_zero, List.set_cons_succ]
    obtain ⟨v', ob', W5, hrun, hrow5, hg5, hn5, hb5, hm5⟩ := HGR.out
    have hrun5 : ∀ ty, (Builtin.append_ #[106, 106] ty #[.slice ar k cr, .slice (some ⟨W2.drew.heap.size, 0, none⟩) 1 1]).run Try.prog (W2.drew.alloc (.cells #[.bool (decide (0 < Z))] 4)) = .ok v' W5 := fun ty => hrun
    obtain ⟨a6, c6, rfl, _, _, rfl⟩ := hrow5.shape
    obtain ⟨W6, hW6⟩ : ∃ W, W = W5.setCell ⟨bR, 0, none⟩ (.slice (some ⟨ob', 0, none⟩) (k + 1) c6) := ⟨_, rfl⟩
    obtain ⟨hh6, hb6, hf6, f0, fz, fl⟩ := HH3.out.put HA.out hrow5 hg5 hn5 hm5 hW6
    have HZ5 : Hid (W5.cell? ⟨fo, k * 3 + 1, none⟩ = some (.int .u16 Z)) := Lib.hid (by
      have h9 := (HH3.out.step HA.out).fr
      obtain ⟨cf, hcf, _⟩ := h9.fl
      have : W5.heap[fo]? = (W2.drew.alloc (.cells #[.bool (decide (0 < Z))] 4)).heap[fo]? := hg5.block fo hcf.lt (fun e => by
        have hrw := (HH3.out.step HA.out).row
        rw [← e] at hrw
        exact row_blk_ne hrw hcf (by decide) rfl)
      exact (World.cell?_of_block (a := ⟨fo, _, none⟩) this).trans HZ3.out)
    have HH6 := Lib.hid hh6
    have HB6 := Lib.hid (HB3.out.trans hb6)
    have HF6 : Hid (Fr (g :: fo :: ft :: bR :: ob.toList) w W6) := Lib.hid (((HG2.out.mono (l' := g :: fo :: ft :: bR :: ob.toList) (by simp)).trans (Fr.of_below (belowN (Below.refl W2.heap.size W2) 1)) (by simp)).trans hf6 (fun x hx => .inl (List.mem_cons_of_mem _ (List.mem_cons_of_mem _ (List.mem_cons_of_mem _ hx)))))
    have HO6 : Hid (ob = some ob' ∨ w.heap.size ≤ ob') := Lib.hid (by
      rcases hn5 with h | h
      · exact .inl h
      · have := HG2.out.size
        simp at h
        exact .inr (by omega))
    refine wpAnyH_ready (rs := [7]) (by kernel_rfl) (by simp) ?_
    refine AllReadyH.cons (by (simp only [List.getElem?_toArray, List.getElem?_cons_succ, List.getElem?_cons_zero]); rfl) (fun K hK => ?_) AllReadyH.nil
    rw [if_pos (by rfl)]
    refine op_append_run (.tmp 16) (.tmp 22) 106 (by kernel_rfl) (by kernel_rfl) (by kernel_rfl) (hrun5 _) ?_
    refine hK _ _ HZ5.out (fun hHeld => ?_)
    clear hK K
    try simp only [Act.put, List.setIfInBounds_toArray, List.set_cons_zero, List.set_cons_succ]
    refine wpAnyH_ready (rs := [8]) (by kernel_rfl) (by simp) ?_
    refine AllReadyH.cons (by (simp only [List.getElem?_toArray, List.getElem?_cons_succ, List.getElem?_cons_zero]); rfl) (fun K hK => ?_) AllReadyH.nil
    go_simp
    rw [← hW6]
    refine hK _ _ (by have := (HH6.out.fr.fl.cell HK.out).2.1; rw [this]; show some (Value.int .u16 (upf s.z k Z k)) = _; rw [upf_at]) (fun hHeld => ?_)
    clear hK K
    try simp only [Act.put, List.setIfInBounds_toArray, List.set_cons_zero, List.set_cons_succ]
    refine wpAnyH_done (by kernel_rfl) ?_ _
    try simp only [Act.put, List.setIfInBounds_toArray, List.set_cons_zero, List.set_cons_succ]
    go_wp2_with fail
    go_end0
    exact ⟨rfl, ⟨_, _, _, _, by rw [← HZ.out]; exact HH6.out, HF6.out, HT2.out, HO6.out⟩, HB6.out⟩
end Go.Proofs.Ytoodmocapagapaa
namespace Go.Proofs.Ytoodmocapagapaa
open Go.RowKit
set_option linter.unusedSimpArgs false
set_option linter.unusedVariables false

structure EchP (M g fo ft n c1 : Nat) (wt : Nat → Int) (al : Int) (s' : FS) (bF bH bR : Nat) (a : Option Addr) (cap : Nat) (ob : Option Nat) (R : Nat → Bool) (k : Nat) (w w' : World) : Prop where
  ex : ∃ ft' c' vr' ob', EaAt w' M g fo ft' n c1 c' wt al s' bF bH bR a cap vr' ob' R k ∧ Fr (g :: fo :: ft :: bR :: ob.toList) w w' ∧ (ft' = ft ∨ w.heap.size ≤ ft') ∧ ∀ q, ob' = some q → ob = some q ∨ w.heap.size ≤ q
  b : BG M w w'
set_option maxRecDepth 100000 in
set_option maxHeartbeats 8000000 in
theorem each_ok (M g fo ft n c1 c2 : Nat) (wt : Nat → Int) (al : Int) (s : FS) (bF bH bR : Nat) (a : Option Addr) (cap hb ho : Nat) (E : Nat → HdE) (vr : Value) (ob : Option Nat) (w : World) (h : EaAt w M g fo ft n c1 c2 wt al s bF bH bR a cap vr ob (rdy (hsz E)) 0) (hE : ∀ W', BG M w W' → HdIn W' a n cap hb ho E) (hm : okHd (hsz E) n) (hi : Inv n s) (hw : WtOk n wt al) :
    Calls Try.prog 49 #[.pointer (some ⟨g, 0, none⟩), .func (.func 50) #[] #[.pointer (some ⟨bF, 0, none⟩), .pointer (some ⟨bH, 0, none⟩), .pointer (some ⟨bR, 0, none⟩)]] w fun e w' => e = .returned (.tuple #[]) ∧ EchP M g fo ft n c1 wt al (hearN wt al (hsz E) n s) bF bH bR a cap ob (rdy (hsz E)) n w w' := by
  have hn8 := hi.n8
  have HP := Lib.hid (fun k ft' c' vr' ob' W (hk : k < n) (hB : BG M w W) (hx : EaAt W M g fo ft' n c1 c' wt al (hearN wt al (hsz E) k s) bF bH bR a cap vr' ob' (rdy (hsz E)) k) => pick1_ok k M g fo ft' n c1 c' wt al (hearN wt al (hsz E) k s) bF bH bR a cap hb ho E vr' ob' W hx (fun W' hB' => hE W' (hB.trans hB')) hm (inv_hearN hw hm k hi (Nat.le_of_lt hk)) hw hk)
  have HH := Lib.hid h
  have HN8 := Lib.hid hn8
  have c0 : w.cell? ⟨g, 0, none⟩ = some (.slice (some ⟨fo, 0, none⟩) n c1) := cell_at h.fr.blk 0
  clear h hE hm hi hw hn8
  go_enter Try.func49, Try.ntmps49
  go_wp2_with fail
  clear c0
  go_loopw [4, 10] (fun _ i wr => ∃ (k ft' c' : Nat) (vr' : Value) (ob' : Option Nat), k ≤ n ∧ i = .int .i64 k ∧ EaAt wr M g fo ft' n c1 c' wt al (hearN wt al (hsz E) k s) bF bH bR a cap vr' ob' (rdy (hsz E)) k ∧ BG M w wr ∧ Fr (g :: fo :: ft :: bR :: ob.toList) w wr ∧ (ft' = ft ∨ w.heap.size ≤ ft') ∧ ∀ q, ob' = some q → ob = some q ∨ w.heap.size ≤ q) (fun _ i _ => n - (intOf i).toNat)
  case atStart => exact ⟨0, ft, c2, vr, ob, Nat.zero_le _, rfl, HH.out, BG.refl _ _, Fr.refl _ _, .inl rfl, fun q e => .inl e⟩
  case round =>
    clear HH
    obtain ⟨k, ft', c', vr', ob', hk, rfl, hx, hB, hf, hft, hob⟩ := hrel
    have HX := Lib.hid hx
    have HB := Lib.hid hB
    have HF := Lib.hid hf
    have HFT := Lib.hid hft
    have HOB := Lib.hid hob
    have c0 : wr.cell? ⟨g, 0, none⟩ = some (.slice (some ⟨fo, 0, none⟩) n c1) := cell_at hx.fr.blk 0
    clear hx hB hf hft hob
    by_cases hlt : k < n
    · have ww5 : IntKind.i64.wrap ((k : Int) + 1) = (k : Int) + 1 := IntWalk.i64_in _ (by have := HN8.out; omega)
      have b9 : ((k : Int) < (n : Int)) = True := eq_true (by omega)
      have bk1 : (k < n) = True := eq_true hlt
      have HLT := Lib.hid hlt
      clear hlt
      go_wp2_with fail
      go_at_call 50
      go_fit (HP.out k ft' c' vr' ob' _ HLT.out HB.out HX.out)
      rintro e W2 ⟨rfl, ⟨ft2, c3, vr2, ob2, hx2, hf2, ht2, ho2⟩, hB2⟩
      have HX2 := Lib.hid hx2
      have HB2 := Lib.hid (HB.out.trans hB2)
      have HF2 := Lib.hid (HF.out.trans hf2 (fun x hx => by
        simp only [List.mem_cons] at hx ⊢
        rcases hx with h | h | h | h | h
        · exact .inl (.inl h)
        · exact .inl (.inr (.inl h))
        · rcases HFT.out with e | e
          · exact .inl (.inr (.inr (.inl (h.trans e))))
          · exact .inr (by omega)
        · exact .inl (.inr (.inr (.inr (.inl h))))
        · have h' : ob' = some x := by simpa using h
          rcases HOB.out x h' with e | e
          · exact .inl (.inr (.inr (.inr (.inr (by rw [e]; simp)))))
          · exact .inr e))
      have HFT2 : Hid (ft2 = ft ∨ w.heap.size ≤ ft2) := Lib.hid (by
        rcases ht2 with e | e
        · rw [e]; exact HFT.out
        · exact .inr (Nat.le_trans HF.out.size e))
      have HOB2 : Hid (∀ q, some ob2 = some q → ob = some q ∨ w.heap.size ≤ q) := Lib.hid (fun q e => by
        obtain rfl := Option.some.inj e
        rcases ho2 with h | h
        · exact HOB.out _ h
        · exact .inr (Nat.le_trans HF.out.size h))
      clear hx2 hf2 ht2 ho2 hB2 c0
      go_wp2_with fail
      go_roundw
      case rel => exact ⟨k + 1, ft2, c3, vr2, some ob2, by have := HLT.out; omega, by go_num, HX2.out, HB2.out, HF2.out, HFT2.out, HOB2.out⟩
      case measure => (have h8 := HLT.out; first | (simp [intOf]; done) | (simp [intOf]; omega))
    · obtain rfl : k = n := by omega
      go_wp2_with fail
      go_end0
      exact ⟨rfl, ⟨_, _, _, _, HX.out, HF.out, HFT.out, HOB.out⟩, HB.out⟩
end Go.Proofs.Ytoodmocapagapaa
namespace Go.Proofs.Ytoodmocapagapaa
open Go.RowKit
set_option linter.unusedSimpArgs false
set_option linter.unusedVariables false

theorem FrAt.vt {W W' : World} {M g fo ft n c1 c2 : Nat} {wt : Nat → Int} {al : Int} {s : FS} (h : FrAt W M g fo ft n c1 c2 wt al s) {V' : Int} {T' : Nat → TagsE} {ft' c' : Nat} (hr : Row W (.slice (some ⟨ft', 0, none⟩) n c') (some ft') 129 2 n (tagsL T' n)) (hM : M ≤ ft') (hW : W' = (W.setCell ⟨g, 2, none⟩ (.int .i64 V')).setCell ⟨g, 3, none⟩ (.slice (some ⟨ft', 0, none⟩) n c')) :
    FrAt W' M g fo ft' n c1 c' wt al ⟨V', T', s.z, s.sv⟩ ∧ Fr [g] W W' := by
  have hf2 : Fr [g] W W' := by rw [hW]; exact ((Fr.refl _ _).setCell _ (.inl (by simp)) _).setCell _ (.inl (by simp)) _
  have hk2 : Blk W' g #[.slice (some ⟨fo, 0, none⟩) n c1, .int .i64 al, .int .i64 V', .slice (some ⟨ft', 0, none⟩) n c'] 101 := by rw [hW]; exact (h.blk.set 2 _).set 3 _
  have hne := h.ne
  have hgt : g ≠ ft' := by
    rintro rfl
    obtain ⟨ct, hc⟩ := blk_row hr
    have := hc.symm.trans h.blk
    injection this with e'
    injection e' with e1 e2
    revert e2
    decide
  exact ⟨⟨hk2, h.fl.fr hf2 (by simpa using fun e => hne.1 e.symm), h.cp, hr.congr fun q e => by
    obtain rfl := Option.some.inj e
    exact hf2.block _ hr.lt (by simpa using fun e => hgt e.symm), ⟨h.ge.1, h.ge.2.1, hM⟩⟩, hf2⟩
theorem FrAt.sv1 {W W' : World} {M g fo ft n c1 c2 : Nat} {wt : Nat → Int} {al : Int} {s : FS} (h : FrAt W M g fo ft n c1 c2 wt al s) {k : Nat} (hk : k < n) (hW : W' = W.setCell ⟨fo, k * 3 + 2, none⟩ (.bool true)) :
    FrAt W' M g fo ft n c1 c2 wt al ⟨s.V, s.T, s.z, upf s.sv k true⟩ ∧ Fr [fo] W W' := by
  obtain ⟨p, q⟩ := h.fl.put1 hk true hW
  have hne := h.ne
  exact ⟨⟨(q.block g h.blk.lt (by simpa using hne.1)).trans h.blk, p, h.cp, h.tg.congr fun x e => by obtain rfl := Option.some.inj e; exact q.block _ h.tg.lt (by simpa using fun e => hne.2.2 e.symm), h.ge⟩, q⟩
/-- what virtual answers a scheduler -/
def VTk (w : World) (n : Nat) (V : Int) (T : Nat → TagsE) (mk : Value → Value) (e : Ending) (w' : World) : Prop := ∃ ft' c', e = .returned (mk (.agg #[.int .i64 V, .slice (some ⟨ft', 0, none⟩) n c'])) ∧ Row w' (.slice (some ⟨ft', 0, none⟩) n c') (some ft') 129 2 n (tagsL T n) ∧ w.heap.size ≤ ft' ∧ Below w.heap.size w w'
theorem vpick_ok (V : Int) (ft n c2 : Nat) (T : Nat → TagsE) (ra : Option Addr) (rc rb ro : Nat) (R : Nat → Bool) (k0 k : Nat) (w : World) (hs : TagsIn w (some ⟨ft, 0, none⟩) n c2 ft 0 T) (hn : n ≤ 8) (h0 : 0 < n) (hr : BoolsIn w ra n rc rb ro R) (hv : vokB V n T = true) (h1 : firstS R (ltS T) n = some k0) (h2 : firstS (tkN T R (max V (T k0).s)) (ltF T) n = some k) :
    Calls Try.prog 52 #[.agg #[.int .i64 V, .slice (some ⟨ft, 0, none⟩) n c2], .slice ra n rc] w (VTk w n (max V (T k0).s) T fun v => .tuple #[v, .int .i64 k, .bool true]) := by
  refine (pick_any V _ n c2 ft 0 T ra n rc rb ro R w hs (by omega) hr).mono fun e w' h => ?_
  unfold PickP at h
  rw [if_pos ⟨hv, rfl⟩, h1] at h
  simp only at h
  rw [firstI_some h2] at h
  obtain ⟨v, rfl, hv⟩ := h
  obtain ⟨ft', c', rfl, h1, h2, h3⟩ := vout_own hv h0
  exact ⟨ft', c', rfl, h1, h2, h3⟩
theorem vpick_no (V : Int) (ft n c2 : Nat) (T : Nat → TagsE) (ra : Option Addr) (rc rb ro : Nat) (R : Nat → Bool) (w : World) (hs : TagsIn w (some ⟨ft, 0, none⟩) n c2 ft 0 T) (hn : n ≤ 8) (hr : BoolsIn w ra n rc rb ro R) (hv : vokB V n T = true) (h1 : firstS R (ltS T) n = none) :
    Calls Try.prog 52 #[.agg #[.int .i64 V, .slice (some ⟨ft, 0, none⟩) n c2], .slice ra n rc] w fun e w' => ∃ a c, e = .returned (.tuple #[.agg #[.int .i64 0, .slice a 0 c], .int .i64 0, .bool false]) ∧ Below w.heap.size w w' := by
  refine (pick_any V _ n c2 ft 0 T ra n rc rb ro R w hs (by omega) hr).mono fun e w' h => ?_
  unfold PickP at h
  rw [if_pos ⟨hv, rfl⟩, h1] at h
  obtain ⟨v, rfl, a, c, ob, rfl, _, _, hB⟩ := h
  exact ⟨a, c, rfl, hB⟩
theorem vserve_ok (V : Int) (ft n c2 : Nat) (T : Nat → TagsE) (z : Int) (w : World) (hs : TagsIn w (some ⟨ft, 0, none⟩) n c2 ft 0 T) (hn : n ≤ 8) (h0 : 0 < n) (hv : serveB V n T z = true) :
    Calls Try.prog 54 #[.agg #[.int .i64 V, .slice (some ⟨ft, 0, none⟩) n c2], .int .i64 z] w (VTk w n (V + z * 720720) T fun v => .tuple #[v, .int .i64 0]) := by
  refine (serve_any V _ n c2 ft 0 T z w hs (by omega)).mono fun e w' h => ?_
  unfold ServeP at h
  rw [hv] at h
  obtain ⟨v, rfl, hv⟩ := h
  obtain ⟨ft', c', rfl, h1, h2, h3⟩ := vout_own hv h0
  exact ⟨ft', c', rfl, h1, h2, h3⟩
def reV (V : Int) : Int := if 1125899906842624 < V then 1099511627776 else V
def reT (V : Int) (n : Nat) (T : Nat → TagsE) : Nat → TagsE := if 1125899906842624 < V then rebT T (V - 1099511627776) n else T
theorem vreb_ok (V : Int) (ft n c2 : Nat) (T : Nat → TagsE) (w : World) (hs : TagsIn w (some ⟨ft, 0, none⟩) n c2 ft 0 T) (hn : n ≤ 8) (h0 : 0 < n) (hv : vokB V n T = true) :
    Calls Try.prog 55 #[.agg #[.int .i64 V, .slice (some ⟨ft, 0, none⟩) n c2]] w (VTk w n (reV V) (reT V n T) fun v => v) := by
  refine (rebase_any V _ n c2 ft 0 T w hs (by omega)).mono fun e w' h => ?_
  unfold RebP at h
  obtain ⟨v, rfl, h⟩ := h
  unfold reV reT
  by_cases hl : 1125899906842624 < V
  · have : lateB V n T = true := by unfold lateB; rw [hv]; simpa using hl
    rw [this] at h
    obtain ⟨ft', c', rfl, h1, h2, h3⟩ := vout_own h h0
    rw [if_pos hl, if_pos hl]
    exact ⟨ft', c', rfl, h1, h2, h3⟩
  · have : lateB V n T = false := by unfold lateB; rw [hv]; simpa using hl
    rw [this] at h
    obtain ⟨ft', c', rfl, h1, h2, h3⟩ := vout_own h h0
    rw [if_neg hl, if_neg hl]
    exact ⟨ft', c', rfl, h1, h2, h3⟩
theorem takeS_re (n k : Nat) (now size : Int) (s : FS) : takeS n k now size s = ⟨reV (now + size * 720720), reT (now + size * 720720) n s.T, s.z, upf s.sv k true⟩ := rfl
/-- the time between is one that may be -/
theorem mid_ok {n : Nat} {s : FS} (h : Inv n s) {now z : Int} (hn : s.V ≤ now ∧ now ≤ s.V + 138378240000) (hz : 1 ≤ z ∧ z ≤ 1500) : vokB now n s.T = true ∧ serveB now n s.T z = true ∧ vokB (now + z * 720720) n s.T = true := by
  have hV := h.V
  have hv := h.vok
  have hv1 : ∀ x : Int, 0 ≤ x → x ≤ 1152921504606846976 → vokB x n s.T = true := fun x h1 h2 => by
    unfold vokB timeB at hv ⊢
    simp at hv ⊢
    exact ⟨⟨hv.1.1, h1, h2⟩, hv.2⟩
  have a := hv1 now (by omega) (by omega)
  refine ⟨a, ?_, hv1 _ (by omega) (by omega)⟩
  unfold serveB
  rw [a]
  simp
  omega
theorem now_bd {n : Nat} {s : FS} (h : Inv n s) {k0 : Nat} (hk : k0 < n) : s.V ≤ max s.V (s.T k0).s ∧ max s.V (s.T k0).s ≤ s.V + 138378240000 := by
  have := (h.k k0 hk).sV
  omega
end Go.Proofs.Ytoodmocapagapaa
namespace Go.Proofs.Ytoodmocapagapaa
open Go.RowKit
set_option linter.unusedSimpArgs false
set_option linter.unusedVariables false

/-- another block set -/
theorem EaAt.other {W W' : World} {M g fo ft n c1 c2 : Nat} {wt : Nat → Int} {al : Int} {s : FS} {bF bH bR : Nat} {a : Option Addr} {cap : Nat} {vr : Value} {ob : Option Nat} {R : Nat → Bool} {k NB : Nat} {cs : Array Value} {ty : TypeId} (h : EaAt W M g fo ft n c1 c2 wt al s bF bH bR a cap vr ob R k) (hf : Fr [NB] W W') (hb : Blk W NB cs ty)
    (t1 : ty ≠ 101) (t2 : ty ≠ 112) (t3 : ty ≠ 129) (t4 : ty ≠ 62) (t5 : ty ≠ 69) (t6 : ty ≠ 106) (t7 : ty ≠ 4) (_t8 : ty ≠ 3) : EaAt W' M g fo ft n c1 c2 wt al s bF bH bR a cap vr ob R k := by
  have ne : ∀ {q : Nat} {c : Array Value} {t : TypeId}, Blk W q c t → ty ≠ t → q ∉ [NB] := fun {q c t} h1 h2 hm => by
    obtain rfl : q = NB := by simpa using hm
    have := h1.symm.trans hb
    injection this with e'
    injection e' with _ e2
    exact h2 e2.symm
  obtain ⟨cf, hcf, _⟩ := h.fr.fl
  obtain ⟨ct, hct⟩ := blk_row h.fr.tg
  refine ⟨h.fr.fr hf (ne h.fr.blk t1) (ne hcf t2) (ne hct t3), (hf.block bF h.hF.lt (ne h.hF t4)).trans h.hF, (hf.block bH h.hH.lt (ne h.hH t5)).trans h.hH, (hf.block bR h.hR.lt (ne h.hR t6)).trans h.hR, h.row.congr fun q e => ?_, h.hO, h.ge⟩
  subst e
  obtain ⟨cb, hcb⟩ := blk_row h.row
  exact hf.block q hcb.lt (ne hcb t7)
structure PkP (M g fo ft n c1 : Nat) (wt : Nat → Int) (al : Int) (s' : FS) (w w' : World) : Prop where
  ex : ∃ ft' c', FrAt w' M g fo ft' n c1 c' wt al s' ∧ Fr [g, fo, ft] w w' ∧ (ft' = ft ∨ w.heap.size ≤ ft')
structure Pk5 (W5 W : World) (NB ft' n c' : Nat) (now : Int) (T : Nat → TagsE) : Prop where
  tb : Blk W NB #[.int .i64 now, .slice (some ⟨ft', 0, none⟩) n c'] 99
  row : Row W (.slice (some ⟨ft', 0, none⟩) n c') (some ft') 129 2 n (tagsL T n)
  b : Below W5.heap.size W5 W
  ge : W5.heap.size ≤ ft'
def kI (o : Option Nat) : Int := match o with
  | some k => (k : Int)
  | none => 0
set_option maxRecDepth 100000 in
set_option maxHeartbeats 16000000 in
theorem fpick_good (M g fo ft n c1 c2 : Nat) (wt : Nat → Int) (al : Int) (s : FS) (a : Option Addr) (cap hb ho : Nat) (E : Nat → HdE) (w : World) (h : FrAt w M g fo ft n c1 c2 wt al s) (hE : ∀ W', BG M w W' → HdIn W' a n cap hb ho E) (hm : okHd (hsz E) n) (hi : Inv n s) (hw : WtOk n wt al) (h0 : 0 < n) :
    Calls Try.prog 28 #[.pointer (some ⟨g, 0, none⟩), .slice a n cap] w fun e w' => e = .returned (.tuple #[.int .i64 (kI (pkK n wt al (hsz E) s)), .bool (pkK n wt al (hsz E) s).isSome]) ∧ PkP M g fo ft n c1 wt al (pkS n wt al (hsz E) s) w w' := by
  have hx := hE w (BG.refl _ _)
  have m1 := hx.le
  have m2 := hx.max
  unfold maxLen at m2
  have hn8 := hi.n8
  have hMw := h.size
  obtain ⟨N, hN⟩ : ∃ N, N = w.heap.size := ⟨_, rfl⟩
  obtain ⟨W1, hW1⟩ : ∃ W, W = (w.alloc (.cells #[.pointer (some ⟨g, 0, none⟩)] 62)).alloc (.cells #[.slice a n cap] 69) := ⟨_, rfl⟩
  have hB1 : Below w.heap.size w W1 := by rw [hW1]; exact ((Below.refl _ _).alloc (Nat.le_refl _) _).alloc (by simp) _
  have p1 : Blk W1 N #[.pointer (some ⟨g, 0, none⟩)] 62 := by rw [hW1, hN]; exact (blk_new _ _ _).alloc _
  have q1 : Blk W1 (N + 1) #[.slice a n cap] 69 := by
    rw [hW1, hN]
    have := blk_new (w.alloc (.cells #[.pointer (some ⟨g, 0, none⟩)] 62)) #[.slice a n cap] 69
    rw [World.size_alloc] at this
    exact this
  have HP1 := Lib.hid p1
  have HQ1 := Lib.hid q1
  have HF1 := Lib.hid (h.step hB1)
  have HB1 := Lib.hid hB1
  have HE := Lib.hid hE
  have HM := Lib.hid hm
  have HI := Lib.hid hi
  have HW := Lib.hid hw
  have H0 := Lib.hid h0
  have HMW := Lib.hid hMw
  have HN8 := Lib.hid hn8
  have HNN : Hid (w.heap.size ≤ N) := Lib.hid (by omega)
  clear h hE hm hi hw hx hMw hB1 p1 q1
  go_enter Try.func28, Try.ntmps28
  go_upto_region 1 with fail
  rw [← hN, ← hW1]
  clear hN hW1
  refine wp_region_held_drew (S := fun X => X.cell? ⟨N, 0, none⟩ = some (.pointer (some ⟨g, 0, none⟩)) ∧ X.cell? ⟨N + 1, 0, none⟩ = some (.slice a n cap) ∧ X.cell? ⟨g, 0, none⟩ = some (.slice (some ⟨fo, 0, none⟩) n c1)) (by kernel_rfl) ⟨cell_at HP1.out 0, cell_at HQ1.out 0, cell_at HF1.out.blk 0⟩ (fun hHeld => ?_)
  try simp only [Act.put, List.setIfInBounds_toArray, List.set_cons_zero, List.set_cons_succ]
  have Bz := belowN (Below.refl W1.heap.size W1) 1
  have HP2 := Lib.hid (show Blk W1.drew N #[.pointer (some ⟨g, 0, none⟩)] 62 from HP1.out.step Bz)
  have HQ2 := Lib.hid (show Blk W1.drew (N + 1) #[.slice a n cap] 69 from HQ1.out.step Bz)
  have HF2 := Lib.hid (show FrAt W1.drew M g fo ft n c1 c2 wt al s from HF1.out.step Bz)
  have HB2 : Hid (Below w.heap.size w W1.drew) := Lib.hid (HB1.out.trans (Bz.mono HB1.out.size))
  clear Bz HP1 HQ1 HF1 HB1
  ((refine wpAnyH_take (i := 0) (v := ?_) (by (simp only [List.getElem?_toArray, List.getElem?_cons_succ, List.getElem?_cons_zero]); rfl) (by kernel_rfl) (by kernel_rfl) (by kernel_rfl) (by exact fun _ _ _ h => h) (Or.inl ⟨by rfl, ?_⟩) (by assumption) ?_); rotate_left; focus (intro wS hSw; (try dsimp only at hSw); go_simp; first | done | with_reducible rfl); try simp only [Act.put, List.setIfInBounds_toArray, List.set_cons_zero, List.set_cons_succ])
  ((refine wpAnyH_take (i := 1) (v := ?_) (by (simp only [List.getElem?_toArray, List.getElem?_cons_succ, List.getElem?_cons_zero]); rfl) (by kernel_rfl) (by kernel_rfl) (by kernel_rfl) (by exact fun _ _ _ h => h) (Or.inl ⟨by rfl, ?_⟩) (by assumption) ?_); rotate_left; focus (intro wS hSw; (try dsimp only at hSw); go_simp; first | done | with_reducible rfl); try simp only [Act.put, List.setIfInBounds_toArray, List.set_cons_zero, List.set_cons_succ])
  ((refine wpAnyH_take (i := 2) (v := ?_) (by (simp only [List.getElem?_toArray, List.getElem?_cons_succ, List.getElem?_cons_zero]); rfl) (by kernel_rfl) (by kernel_rfl) (by kernel_rfl) (by exact fun _ _ _ h => h) (Or.inl ⟨by rfl, ?_⟩) (by assumption) ?_); rotate_left; focus (intro wS hSw; (try dsimp only at hSw); go_simp; first | done | with_reducible rfl); try simp only [Act.put, List.setIfInBounds_toArray, List.set_cons_zero, List.set_cons_succ])
  ((refine wpAnyH_take (i := 3) (v := ?_) (by (simp only [List.getElem?_toArray, List.getElem?_cons_succ, List.getElem?_cons_zero]); rfl) (by kernel_rfl) (by kernel_rfl) (by kernel_rfl) (by exact fun _ _ _ h => h) (Or.inl ⟨by (go_simp; try rfl), ?_⟩) (by assumption) ?_); rotate_left; focus (intro wS hSw; (try dsimp only at hSw); go_simp; first | done | with_reducible rfl); try simp only [Act.put, List.setIfInBounds_toArray, List.set_cons_zero, List.set_cons_succ])
  ((refine wpAnyH_take (i := 4) (v := ?_) (by (simp only [List.getElem?_toArray, List.getElem?_cons_succ, List.getElem?_cons_zero]); rfl) (by kernel_rfl) (by kernel_rfl) (by kernel_rfl) (by exact fun _ _ _ h => h) (Or.inl ⟨by (go_simp; try rfl), ?_⟩) (by assumption) ?_); rotate_left; focus (intro wS hSw; (try dsimp only at hSw); go_simp; first | done | with_reducible rfl); try simp only [Act.put, List.setIfInBounds_toArray, List.set_cons_zero, List.set_cons_succ])
  ((refine wpAnyH_take (i := 5) (v := ?_) (by (simp only [List.getElem?_toArray, List.getElem?_cons_succ, List.getElem?_cons_zero]); rfl) (by kernel_rfl) (by kernel_rfl) (by kernel_rfl) (by exact fun _ _ _ h => h) (Or.inl ⟨by (go_simp; try rfl), ?_⟩) (by assumption) ?_); rotate_left; focus (intro wS hSw; (try dsimp only at hSw); go_simp; first | done | with_reducible rfl); try simp only [Act.put, List.setIfInBounds_toArray, List.set_cons_zero, List.set_cons_succ])
  ((refine wpAnyH_take (i := 6) (v := ?_) (by (simp only [List.getElem?_toArray, List.getElem?_cons_succ, List.getElem?_cons_zero]); rfl) (by kernel_rfl) (by kernel_rfl) (by kernel_rfl) (by exact fun _ _ _ h => h) (Or.inl ⟨by (go_simp; try rfl), ?_⟩) (by assumption) ?_); rotate_left; focus (intro wS hSw; (try dsimp only at hSw); go_simp; first | done | with_reducible rfl); try simp only [Act.put, List.setIfInBounds_toArray, List.set_cons_zero, List.set_cons_succ])
  ((refine wpAnyH_take (i := 7) (v := ?_) (by (simp only [List.getElem?_toArray, List.getElem?_cons_succ, List.getElem?_cons_zero]); rfl) (by kernel_rfl) (by kernel_rfl) (by kernel_rfl) (by exact fun _ _ _ h => h) (Or.inl ⟨by (go_simp; try rfl), ?_⟩) (by assumption) ?_); rotate_left; focus (intro wS hSw; (try dsimp only at hSw); go_simp; first | done | with_reducible rfl); try simp only [Act.put, List.setIfInBounds_toArray, List.set_cons_zero, List.set_cons_succ])
  ((refine wpAnyH_take (i := 8) (v := ?_) (by (simp only [List.getElem?_toArray, List.getElem?_cons_succ, List.getElem?_cons_zero]); rfl) (by kernel_rfl) (by kernel_rfl) (by kernel_rfl) (by exact fun _ _ _ h => h) (Or.inl ⟨by (go_simp; try rfl), ?_⟩) (by assumption) ?_); rotate_left; focus (intro wS hSw; (try dsimp only at hSw); go_simp; first | done | with_reducible rfl); try simp only [Act.put, List.setIfInBounds_toArray, List.set_cons_zero, List.set_cons_succ])
  ((refine wpAnyH_take (i := 9) (v := ?_) (by (simp only [List.getElem?_toArray, List.getElem?_cons_succ, List.getElem?_cons_zero]); rfl) (by kernel_rfl) (by kernel_rfl) (by kernel_rfl) (by exact fun _ _ _ h => h) (Or.inl ⟨by (go_simp; try rfl), ?_⟩) (by assumption) ?_); rotate_left; focus (intro wS hSw; (try dsimp only at hSw); go_simp; first | done | with_reducible rfl); try simp only [Act.put, List.setIfInBounds_toArray, List.set_cons_zero, List.set_cons_succ])
  ((refine wpAnyH_take (i := 10) (v := ?_) (by (simp only [List.getElem?_toArray, List.getElem?_cons_succ, List.getElem?_cons_zero]); rfl) (by kernel_rfl) (by kernel_rfl) (by kernel_rfl) (by exact fun _ _ _ h => h) (Or.inl ⟨by (go_simp; try rfl), ?_⟩) (by assumption) ?_); rotate_left; focus (intro wS hSw; (try dsimp only at hSw); go_simp; first | done | with_reducible rfl); try simp only [Act.put, List.setIfInBounds_toArray, List.set_cons_zero, List.set_cons_succ])
  ((refine wpAnyH_take (i := 11) (v := ?_) (by (simp only [List.getElem?_toArray, List.getElem?_cons_succ, List.getElem?_cons_zero]); rfl) (by kernel_rfl) (by kernel_rfl) (by kernel_rfl) (by exact fun _ _ _ h => h) (Or.inl ⟨by rfl, ?_⟩) (by assumption) ?_); rotate_left; focus (intro wS hSw; (try dsimp only at hSw); go_simp; first | done | with_reducible rfl); try simp only [Act.put, List.setIfInBounds_toArray, List.set_cons_zero, List.set_cons_succ])
  ((refine wpAnyH_take (i := 12) (v := ?_) (by (simp only [List.getElem?_toArray, List.getElem?_cons_succ, List.getElem?_cons_zero]); rfl) (by kernel_rfl) (by kernel_rfl) (by kernel_rfl) (by exact fun _ _ _ h => h) (Or.inl ⟨by rfl, ?_⟩) (by assumption) ?_); rotate_left; focus (intro wS hSw; (try dsimp only at hSw); go_simp; first | done | with_reducible rfl); try simp only [Act.put, List.setIfInBounds_toArray, List.set_cons_zero, List.set_cons_succ])
  ((refine wpAnyH_take (i := 13) (v := ?_) (by (simp only [List.getElem?_toArray, List.getElem?_cons_succ, List.getElem?_cons_zero]); rfl) (by kernel_rfl) (by kernel_rfl) (by kernel_rfl) (by exact fun _ _ _ h => h) (Or.inl ⟨by (go_simp; try rfl), ?_⟩) (by assumption) ?_); rotate_left; focus (intro wS hSw; (try dsimp only at hSw); go_simp; first | done | with_reducible rfl); try simp only [Act.put, List.setIfInBounds_toArray, List.set_cons_zero, List.set_cons_succ])
  refine wpAnyH_ready (rs := [14]) (by kernel_rfl) (by simp) ?_
  refine AllReadyH.cons (by (simp only [List.getElem?_toArray, List.getElem?_cons_succ, List.getElem?_cons_zero]); rfl) (fun K hK => ?_) AllReadyH.nil
  go_simp
  go_fit (contains_any a n cap hb ho E _ (HE.out _ (BG.new HB2.out HMW.out)))
  rintro e W3 ⟨B, rfl, hB3, hbad⟩
  obtain rfl : B = false := by
    rcases hbad with ⟨h, _⟩ | ⟨_, h⟩
    · exact h
    · exact absurd HM.out h
  clear hbad
  have HP3 := Lib.hid (HP2.out.step hB3)
  have HQ3 := Lib.hid (HQ2.out.step hB3)
  have HF3 := Lib.hid (HF2.out.step hB3)
  have HB3 := Lib.hid (HB2.out.trans (hB3.mono HB2.out.size))
  clear hB3 HP2 HQ2 HF2 HB2
  go_wp2_with fail
  refine hK.out _ _ ⟨cell_at HP3.out 0, cell_at HQ3.out 0, cell_at HF3.out.blk 0⟩ (fun hHeld => ?_)
  clear hK K
  try simp only [Act.put, List.setIfInBounds_toArray, List.set_cons_zero, List.set_cons_succ]
  ((refine wpAnyH_take (i := 15) (v := ?_) (by (simp only [List.getElem?_toArray, List.getElem?_cons_succ, List.getElem?_cons_zero]); rfl) (by kernel_rfl) (by kernel_rfl) (by kernel_rfl) (by exact fun _ _ _ h => h) (Or.inl ⟨by rfl, ?_⟩) (by assumption) ?_); rotate_left; focus (intro wS hSw; (try dsimp only at hSw); go_simp; first | done | with_reducible rfl); try simp only [Act.put, List.setIfInBounds_toArray, List.set_cons_zero, List.set_cons_succ])
  refine wpAnyH_done (by kernel_rfl) ?_ _
  try simp only [Act.put, List.setIfInBounds_toArray, List.set_cons_zero, List.set_cons_succ]
  obtain ⟨R, hR⟩ : ∃ R, R = W3.heap.size := ⟨_, rfl⟩
  obtain ⟨W4, hW4⟩ : ∃ W, W = W3.alloc (.cells #[.slice none 0 0] 106) := ⟨_, rfl⟩
  have hB4 : Below W3.heap.size W3 W4 := by rw [hW4]; exact alloc_b _ _
  have hb4 : Below w.heap.size w W4 := HB3.out.trans (hB4.mono HB3.out.size)
  have HEA := Lib.hid (show EaAt W4 M g fo ft n c1 c2 wt al s N (N + 1) R a cap (.slice none 0 0) none (rdy (hsz E)) 0 from ⟨HF3.out.step hB4, HP3.out.step hB4, HQ3.out.step hB4, by rw [hW4, hR]; exact blk_new _ _ _, Row.nil _ _ _, (fun q e => by cases e), by rw [hR]; exact HF3.out.size⟩)
  have HB4 := Lib.hid hb4
  have HRW : Hid (w.heap.size ≤ R) := Lib.hid (by rw [hR]; exact HB3.out.size)
  have HBG4 : Hid (BG M w W4) := Lib.hid (BG.new hb4 HMW.out)
  have EC := Lib.hid (each_ok M g fo ft n c1 c2 wt al s N (N + 1) R a cap hb ho E _ none W4 HEA.out (fun W' hB' => HE.out W' (HBG4.out.trans hB')) HM.out HI.out HW.out)
  clear hB4 hb4
  go_upto_region 4 with fail
  rw [← hR, ← hW4]
  clear hR hW4
  have f0 : W4.cell? ⟨N, 0, none⟩ = some (.pointer (some ⟨g, 0, none⟩)) := cell_at HEA.out.hF 0
  go_wp2_with fail
  go_at_call 49
  go_fit (EC.out)
  rintro e W5 ⟨rfl, ⟨ft5, c5, vr, ob, hx5, hf5, ht5, ho5⟩, hB5⟩
  obtain ⟨ra, rc, rfl, hbo⟩ := bools_row hx5.row
  have mr1 := hbo.le
  have mr2 := hbo.max
  unfold maxLen at mr2
  have HX5 := Lib.hid hx5
  have HF5 : Hid (Fr [g, fo, ft] w W5) := Lib.hid ((((Fr.of_below HB4.out).mono (l' := [g, fo, ft]) (by simp))).trans hf5 (fun x hx => by
    simp only [List.mem_cons, Option.toList_none, List.not_mem_nil, or_false] at hx ⊢
    rcases hx with h | h | h | h
    · exact .inl (.inl h)
    · exact .inl (.inr (.inl h))
    · exact .inl (.inr (.inr h))
    · exact .inr (by rw [h]; exact HRW.out)))
  have HT5 : Hid (ft5 = ft ∨ w.heap.size ≤ ft5) := Lib.hid (by
    rcases ht5 with h | h
    · exact .inl h
    · exact .inr (Nat.le_trans HB4.out.size h))
  obtain ⟨s1, hs1⟩ : ∃ s1, s1 = hearN wt al (hsz E) n s := ⟨_, rfl⟩
  have hi1 : Inv n s1 := by rw [hs1]; exact inv_hearN HW.out HM.out n HI.out (Nat.le_refl _)
  have hz1 : ∀ k, k < n → s1.z k = hsz E k := fun k hk => by rw [hs1]; exact hearN_z wt al (hsz E) s n k hk
  have HK1 : Hid (pkK n wt al (hsz E) s = (pickS n (hsz E) s1).map (·.1)) := Lib.hid (by rw [hs1]; rfl)
  have HS1 : Hid (pkS n wt al (hsz E) s = match pickS n (hsz E) s1 with | none => s1 | some p => p.2) := Lib.hid (by rw [hs1]; rfl)
  rw [← hs1] at HX5
  have HI1 := Lib.hid hi1
  have HZ1 := Lib.hid hz1
  have HBO := Lib.hid hbo
  clear hx5 hf5 ht5 ho5 hB5 hi1 hz1 hs1 hbo f0 EC HEA HB4 HBG4 HP3 HQ3 HF3 HB3
  cases hp1 : firstS (rdy (hsz E)) (ltS s1.T) n with
  | none =>
    have HKN : Hid (pkK n wt al (hsz E) s = none) := Lib.hid (by rw [HK1.out]; unfold pickS; rw [hp1]; rfl)
    have HSN : Hid (pkS n wt al (hsz E) s = s1) := Lib.hid (by rw [HS1.out]; unfold pickS; rw [hp1])
    have VP := Lib.hid (fun W hx hy => vpick_no s1.V ft5 n c5 s1.T ra rc (ob.getD 0) 0 (rdy (hsz E)) W hx HN8.out hy HI1.out.vok hp1)
    clear hp1
    go_upto_region 5 with fail
    go_cut [7, 8, 9] (fun v7 v8 v9 W => v9 = .bool false ∧ Below W5.heap.size W5 W)
    case first =>
      refine wp_region_held_drew (S := fun X => X.cell? ⟨N, 0, none⟩ = some (.pointer (some ⟨g, 0, none⟩)) ∧ X.cell? ⟨R, 0, none⟩ = some (.slice ra n rc) ∧ X.cell? ⟨g, 2, none⟩ = some (.int .i64 s1.V) ∧ X.cell? ⟨g, 3, none⟩ = some (.slice (some ⟨ft5, 0, none⟩) n c5)) (by kernel_rfl) ⟨cell_at HX5.out.hF 0, cell_at HX5.out.hR 0, cell_at HX5.out.fr.blk 2, cell_at HX5.out.fr.blk 3⟩ (fun hHeld => ?_)
      try simp only [Act.put, List.setIfInBounds_toArray, List.set_cons_zero, List.set_cons_succ]
      have Bz := belowN (Below.refl W5.heap.size W5) 1
      have HX6 := Lib.hid (show EaAt W5.drew M g fo ft5 n c1 c5 wt al s1 N (N + 1) R a cap (.slice ra n rc) ob (rdy (hsz E)) n from HX5.out.step Bz)
      have HBO6 := Lib.hid (show BoolsIn W5.drew ra n rc (ob.getD 0) 0 (rdy (hsz E)) from HBO.out.below Bz)
      have HB6 : Hid (Below W5.heap.size W5 W5.drew) := Lib.hid Bz
      clear Bz
      ((refine wpAnyH_take (i := 0) (v := ?_) (by (simp only [List.getElem?_toArray, List.getElem?_cons_succ, List.getElem?_cons_zero]); rfl) (by kernel_rfl) (by kernel_rfl) (by kernel_rfl) (by exact fun _ _ _ h => h) (Or.inl ⟨by rfl, ?_⟩) (by assumption) ?_); rotate_left; focus (intro wS hSw; (try dsimp only at hSw); go_simp; first | done | with_reducible rfl); try simp only [Act.put, List.setIfInBounds_toArray, List.set_cons_zero, List.set_cons_succ])
      ((refine wpAnyH_take (i := 1) (v := ?_) (by (simp only [List.getElem?_toArray, List.getElem?_cons_succ, List.getElem?_cons_zero]); rfl) (by kernel_rfl) (by kernel_rfl) (by kernel_rfl) (by exact fun _ _ _ h => h) (Or.inl ⟨by rfl, ?_⟩) (by assumption) ?_); rotate_left; focus (intro wS hSw; (try dsimp only at hSw); go_simp; first | done | with_reducible rfl); try simp only [Act.put, List.setIfInBounds_toArray, List.set_cons_zero, List.set_cons_succ])
      ((refine wpAnyH_take (i := 2) (v := ?_) (by (simp only [List.getElem?_toArray, List.getElem?_cons_succ, List.getElem?_cons_zero]); rfl) (by kernel_rfl) (by kernel_rfl) (by kernel_rfl) (by exact fun _ _ _ h => h) (Or.inl ⟨by rfl, ?_⟩) (by assumption) ?_); rotate_left; focus (intro wS hSw; (try dsimp only at hSw); go_simp; first | done | with_reducible rfl); try simp only [Act.put, List.setIfInBounds_toArray, List.set_cons_zero, List.set_cons_succ])
      ((refine wpAnyH_take (i := 3) (v := ?_) (by (simp only [List.getElem?_toArray, List.getElem?_cons_succ, List.getElem?_cons_zero]); rfl) (by kernel_rfl) (by kernel_rfl) (by kernel_rfl) (by exact fun _ _ _ h => h) (Or.inl ⟨by rfl, ?_⟩) (by assumption) ?_); rotate_left; focus (intro wS hSw; (try dsimp only at hSw); go_simp; first | done | with_reducible rfl); try simp only [Act.put, List.setIfInBounds_toArray, List.set_cons_zero, List.set_cons_succ])
      ((refine wpAnyH_take (i := 4) (v := ?_) (by (simp only [List.getElem?_toArray, List.getElem?_cons_succ, List.getElem?_cons_zero]); rfl) (by kernel_rfl) (by kernel_rfl) (by kernel_rfl) (by exact fun _ _ _ h => h) (Or.inl ⟨by rfl, ?_⟩) (by assumption) ?_); rotate_left; focus (intro wS hSw; (try dsimp only at hSw); go_simp; first | done | with_reducible rfl); try simp only [Act.put, List.setIfInBounds_toArray, List.set_cons_zero, List.set_cons_succ])
      refine wpAnyH_ready (rs := [5, 10]) (by kernel_rfl) (by simp) ?_
      refine AllReadyH.cons (by (simp only [List.getElem?_toArray, List.getElem?_cons_succ, List.getElem?_cons_zero]); rfl) (fun K hK => ?_) (AllReadyH.cons (by (simp only [List.getElem?_toArray, List.getElem?_cons_succ, List.getElem?_cons_zero]); rfl) (fun K hK => ?_) AllReadyH.nil)
      · skip
        go_simp
        go_fit (VP.out _ (HX6.out.fr.tags HI1.out) HBO6.out)
        rintro e W7 ⟨va, vc, rfl, hB7⟩
        have HX7 := Lib.hid (HX6.out.step hB7)
        have HB7 := Lib.hid (HB6.out.trans (hB7.mono HB6.out.size))
        go_wp2_with fail
        refine hK.out _ _ ⟨cell_at HX7.out.hF 0, cell_at HX7.out.hR 0, cell_at HX7.out.fr.blk 2, cell_at HX7.out.fr.blk 3⟩ (fun hHeld => ?_)
        clear hK K hB7
        try simp only [Act.put, List.setIfInBounds_toArray, List.set_cons_zero, List.set_cons_succ]
        ((refine wpAnyH_take (i := 6) (v := ?_) (by (simp only [List.getElem?_toArray, List.getElem?_cons_succ, List.getElem?_cons_zero]); rfl) (by kernel_rfl) (by kernel_rfl) (by kernel_rfl) (by exact fun _ _ _ h => h) (Or.inl ⟨by rfl, ?_⟩) (by assumption) ?_); rotate_left; focus (intro wS hSw; (try dsimp only at hSw); go_simp; first | done | with_reducible rfl); try simp only [Act.put, List.setIfInBounds_toArray, List.set_cons_zero, List.set_cons_succ])
        ((refine wpAnyH_take (i := 7) (v := ?_) (by (simp only [List.getElem?_toArray, List.getElem?_cons_succ, List.getElem?_cons_zero]); rfl) (by kernel_rfl) (by kernel_rfl) (by kernel_rfl) (by exact fun _ _ _ h => h) (Or.inl ⟨by rfl, ?_⟩) (by assumption) ?_); rotate_left; focus (intro wS hSw; (try dsimp only at hSw); go_simp; first | done | with_reducible rfl); try simp only [Act.put, List.setIfInBounds_toArray, List.set_cons_zero, List.set_cons_succ])
        ((refine wpAnyH_take (i := 8) (v := ?_) (by (simp only [List.getElem?_toArray, List.getElem?_cons_succ, List.getElem?_cons_zero]); rfl) (by kernel_rfl) (by kernel_rfl) (by kernel_rfl) (by exact fun _ _ _ h => h) (Or.inl ⟨by rfl, ?_⟩) (by assumption) ?_); rotate_left; focus (intro wS hSw; (try dsimp only at hSw); go_simp; first | done | with_reducible rfl); try simp only [Act.put, List.setIfInBounds_toArray, List.set_cons_zero, List.set_cons_succ])
        ((refine wpAnyH_take (i := 9) (v := ?_) (by (simp only [List.getElem?_toArray, List.getElem?_cons_succ, List.getElem?_cons_zero]); rfl) (by kernel_rfl) (by kernel_rfl) (by kernel_rfl) (by exact fun _ _ _ h => h) (Or.inl ⟨by rfl, ?_⟩) (by assumption) ?_); rotate_left; focus (intro wS hSw; (try dsimp only at hSw); go_simp; first | done | with_reducible rfl); try simp only [Act.put, List.setIfInBounds_toArray, List.set_cons_zero, List.set_cons_succ])
        refine wpAnyH_ready (rs := [10]) (by kernel_rfl) (by simp) ?_
        refine AllReadyH.cons (by (simp only [List.getElem?_toArray, List.getElem?_cons_succ, List.getElem?_cons_zero]); rfl) (fun K hK => ?_) AllReadyH.nil
        go_simp
        obtain ⟨NB, hNB⟩ : ∃ N, N = W7.heap.size := ⟨_, rfl⟩
        obtain ⟨W8, hW9⟩ : ∃ W, W = (W7.alloc (.cells #[.int .i64 0, .slice none 0 0] 99)) := ⟨_, rfl⟩
        have k9 : Blk W8 NB #[.int .i64 0, .slice none 0 0] 99 := by rw [hW9, hNB]; exact blk_new W7 _ _
        have hB9 : Below W7.heap.size W7 W8 := by rw [hW9]; exact alloc_b W7 _
        have HX8 := Lib.hid (HX7.out.step hB9)
        have HB8 := Lib.hid (HB7.out.trans (hB9.mono HB7.out.size))
        have HK8 := Lib.hid k9
        have HNB : Hid (W5.heap.size ≤ NB) := Lib.hid (by rw [hNB]; exact HB7.out.size)
        rw [← hNB, ← hW9]
        refine hK _ _ ⟨cell_at HX8.out.hF 0, cell_at HX8.out.hR 0, cell_at HX8.out.fr.blk 2, cell_at HX8.out.fr.blk 3⟩ (fun hHeld => ?_)
        clear hK K k9 hB9 hNB hW9
        try simp only [Act.put, List.setIfInBounds_toArray, List.set_cons_zero, List.set_cons_succ]
        refine wpAnyH_ready (rs := [11]) (by kernel_rfl) (by simp) ?_
        refine AllReadyH.cons (by (simp only [List.getElem?_toArray, List.getElem?_cons_succ, List.getElem?_cons_zero]); rfl) (fun K hK => ?_) AllReadyH.nil
        have k0 : W8.cell? ⟨NB, 0, none⟩ = some (.int .i64 0) := cell_at HK8.out 0
        have k1 : W8.cell? ⟨NB, 1, none⟩ = some (.slice none 0 0) := cell_at HK8.out 1
        have kz : ∀ j, W8.frozen? ⟨NB, j, none⟩ = false := fun j => free_at HK8.out j
        have kl : NB < W8.heap.size := HK8.out.lt
        generalize hW10' : (W8.setCell ⟨NB, 0, none⟩ (.int .i64 0)).setCell ⟨NB, 1, none⟩ (.slice va 0 vc) = W9
        have hW10 := hW10'.symm
        clear hW10'
        have hf10 : Fr [NB] W8 W9 := by rw [hW10]; exact ((Fr.refl _ _).setCell _ (.inl (by simp)) _).setCell _ (.inl (by simp)) _
        have HK9 := Lib.hid (show Blk W9 NB #[.int .i64 0, .slice va 0 vc] 99 by rw [hW10]; exact (HK8.out.set 0 _).set 1 _)
        have HX9 := Lib.hid (HX8.out.other hf10 HK8.out (by decide) (by decide) (by decide) (by decide) (by decide) (by decide) (by decide) (by decide))
        have HB9 := Lib.hid (HB8.out.trans (hf10.below HB8.out.size (by simp; exact HNB.out)))
        go_simp
        rw [← hW10]
        refine hK _ _ ⟨cell_at HX9.out.hF 0, cell_at HX9.out.hR 0, cell_at HX9.out.fr.blk 2, cell_at HX9.out.fr.blk 3⟩ (fun hHeld => ?_)
        clear hK K hW10 k0 k1 kz kl
        try simp only [Act.put, List.setIfInBounds_toArray, List.set_cons_zero, List.set_cons_succ]
        ((refine wpAnyH_take (i := 12) (v := ?_) (by (simp only [List.getElem?_toArray, List.getElem?_cons_succ, List.getElem?_cons_zero]); rfl) (by kernel_rfl) (by kernel_rfl) (by kernel_rfl) (by exact fun _ _ _ h => h) (Or.inl ⟨by rfl, ?_⟩) (by assumption) ?_); rotate_left; focus (intro wS hSw; (try dsimp only at hSw); go_simp; first | done | with_reducible rfl); try simp only [Act.put, List.setIfInBounds_toArray, List.set_cons_zero, List.set_cons_succ])
        ((refine wpAnyH_take (i := 13) (v := ?_) (by (simp only [List.getElem?_toArray, List.getElem?_cons_succ, List.getElem?_cons_zero]); rfl) (by kernel_rfl) (by kernel_rfl) (by kernel_rfl) (by exact fun _ _ _ h => h) (Or.inl ⟨by rfl, ?_⟩) (by assumption) ?_); rotate_left; focus (intro wS hSw; (try dsimp only at hSw); go_simp; first | done | with_reducible rfl); try simp only [Act.put, List.setIfInBounds_toArray, List.set_cons_zero, List.set_cons_succ])
        refine wpAnyH_done (by kernel_rfl) ?_ _
        try simp only [Act.put, List.setIfInBounds_toArray, List.set_cons_zero, List.set_cons_succ]
        go_wp2_with fail
        go_meet
        exact ⟨rfl, HB9.out⟩
      · skip
        go_simp
        obtain ⟨NB, hNB⟩ : ∃ N, N = W5.heap.size := ⟨_, rfl⟩
        obtain ⟨W7, hW9⟩ : ∃ W, W = (W5.alloc (.cells #[.int .i64 0, .slice none 0 0] 99)).drew := ⟨_, rfl⟩
        have k9 : Blk W7 NB #[.int .i64 0, .slice none 0 0] 99 := by rw [hW9, hNB]; exact blk_new W5 _ _
        have hB9 : Below W5.drew.heap.size W5.drew W7 := by rw [hW9]; exact alloc_b W5.drew _
        have HX7 := Lib.hid (HX6.out.step hB9)
        have HB7 := Lib.hid (HB6.out.trans (hB9.mono HB6.out.size))
        have HK7 := Lib.hid k9
        have HNB : Hid (W5.heap.size ≤ NB) := Lib.hid (by rw [hNB]; exact HB6.out.size)
        have HBO7 := Lib.hid (HBO6.out.below hB9)
        rw [← hNB, ← hW9]
        refine hK _ _ ⟨cell_at HX7.out.hF 0, cell_at HX7.out.hR 0, cell_at HX7.out.fr.blk 2, cell_at HX7.out.fr.blk 3⟩ (fun hHeld => ?_)
        clear hK K k9 hB9 hNB hW9
        try simp only [Act.put, List.setIfInBounds_toArray, List.set_cons_zero, List.set_cons_succ]
        refine wpAnyH_ready (rs := [5]) (by kernel_rfl) (by simp) ?_
        refine AllReadyH.cons (by (simp only [List.getElem?_toArray, List.getElem?_cons_succ, List.getElem?_cons_zero]); rfl) (fun K hK => ?_) AllReadyH.nil
        go_simp
        go_fit (VP.out _ (HX7.out.fr.tags HI1.out) HBO7.out)
        rintro e W8 ⟨va, vc, rfl, hB7⟩
        have HX8 := Lib.hid (HX7.out.step hB7)
        have HB8 := Lib.hid (HB7.out.trans (hB7.mono HB7.out.size))
        have HK8 := Lib.hid (HK7.out.step hB7)
        go_wp2_with fail
        refine hK.out _ _ ⟨cell_at HX8.out.hF 0, cell_at HX8.out.hR 0, cell_at HX8.out.fr.blk 2, cell_at HX8.out.fr.blk 3⟩ (fun hHeld => ?_)
        clear hK K hB7
        try simp only [Act.put, List.setIfInBounds_toArray, List.set_cons_zero, List.set_cons_succ]
        ((refine wpAnyH_take (i := 6) (v := ?_) (by (simp only [List.getElem?_toArray, List.getElem?_cons_succ, List.getElem?_cons_zero]); rfl) (by kernel_rfl) (by kernel_rfl) (by kernel_rfl) (by exact fun _ _ _ h => h) (Or.inl ⟨by rfl, ?_⟩) (by assumption) ?_); rotate_left; focus (intro wS hSw; (try dsimp only at hSw); go_simp; first | done | with_reducible rfl); try simp only [Act.put, List.setIfInBounds_toArray, List.set_cons_zero, List.set_cons_succ])
        ((refine wpAnyH_take (i := 7) (v := ?_) (by (simp only [List.getElem?_toArray, List.getElem?_cons_succ, List.getElem?_cons_zero]); rfl) (by kernel_rfl) (by kernel_rfl) (by kernel_rfl) (by exact fun _ _ _ h => h) (Or.inl ⟨by rfl, ?_⟩) (by assumption) ?_); rotate_left; focus (intro wS hSw; (try dsimp only at hSw); go_simp; first | done | with_reducible rfl); try simp only [Act.put, List.setIfInBounds_toArray, List.set_cons_zero, List.set_cons_succ])
        ((refine wpAnyH_take (i := 8) (v := ?_) (by (simp only [List.getElem?_toArray, List.getElem?_cons_succ, List.getElem?_cons_zero]); rfl) (by kernel_rfl) (by kernel_rfl) (by kernel_rfl) (by exact fun _ _ _ h => h) (Or.inl ⟨by rfl, ?_⟩) (by assumption) ?_); rotate_left; focus (intro wS hSw; (try dsimp only at hSw); go_simp; first | done | with_reducible rfl); try simp only [Act.put, List.setIfInBounds_toArray, List.set_cons_zero, List.set_cons_succ])
        ((refine wpAnyH_take (i := 9) (v := ?_) (by (simp only [List.getElem?_toArray, List.getElem?_cons_succ, List.getElem?_cons_zero]); rfl) (by kernel_rfl) (by kernel_rfl) (by kernel_rfl) (by exact fun _ _ _ h => h) (Or.inl ⟨by rfl, ?_⟩) (by assumption) ?_); rotate_left; focus (intro wS hSw; (try dsimp only at hSw); go_simp; first | done | with_reducible rfl); try simp only [Act.put, List.setIfInBounds_toArray, List.set_cons_zero, List.set_cons_succ])
        refine wpAnyH_ready (rs := [11]) (by kernel_rfl) (by simp) ?_
        refine AllReadyH.cons (by (simp only [List.getElem?_toArray, List.getElem?_cons_succ, List.getElem?_cons_zero]); rfl) (fun K hK => ?_) AllReadyH.nil
        have k0 : W8.cell? ⟨NB, 0, none⟩ = some (.int .i64 0) := cell_at HK8.out 0
        have k1 : W8.cell? ⟨NB, 1, none⟩ = some (.slice none 0 0) := cell_at HK8.out 1
        have kz : ∀ j, W8.frozen? ⟨NB, j, none⟩ = false := fun j => free_at HK8.out j
        have kl : NB < W8.heap.size := HK8.out.lt
        generalize hW10' : (W8.setCell ⟨NB, 0, none⟩ (.int .i64 0)).setCell ⟨NB, 1, none⟩ (.slice va 0 vc) = W9
        have hW10 := hW10'.symm
        clear hW10'
        have hf10 : Fr [NB] W8 W9 := by rw [hW10]; exact ((Fr.refl _ _).setCell _ (.inl (by simp)) _).setCell _ (.inl (by simp)) _
        have HK9 := Lib.hid (show Blk W9 NB #[.int .i64 0, .slice va 0 vc] 99 by rw [hW10]; exact (HK8.out.set 0 _).set 1 _)
        have HX9 := Lib.hid (HX8.out.other hf10 HK8.out (by decide) (by decide) (by decide) (by decide) (by decide) (by decide) (by decide) (by decide))
        have HB9 := Lib.hid (HB8.out.trans (hf10.below HB8.out.size (by simp; exact HNB.out)))
        go_simp
        rw [← hW10]
        refine hK _ _ ⟨cell_at HX9.out.hF 0, cell_at HX9.out.hR 0, cell_at HX9.out.fr.blk 2, cell_at HX9.out.fr.blk 3⟩ (fun hHeld => ?_)
        clear hK K hW10 k0 k1 kz kl
        try simp only [Act.put, List.setIfInBounds_toArray, List.set_cons_zero, List.set_cons_succ]
        ((refine wpAnyH_take (i := 12) (v := ?_) (by (simp only [List.getElem?_toArray, List.getElem?_cons_succ, List.getElem?_cons_zero]); rfl) (by kernel_rfl) (by kernel_rfl) (by kernel_rfl) (by exact fun _ _ _ h => h) (Or.inl ⟨by rfl, ?_⟩) (by assumption) ?_); rotate_left; focus (intro wS hSw; (try dsimp only at hSw); go_simp; first | done | with_reducible rfl); try simp only [Act.put, List.setIfInBounds_toArray, List.set_cons_zero, List.set_cons_succ])
        ((refine wpAnyH_take (i := 13) (v := ?_) (by (simp only [List.getElem?_toArray, List.getElem?_cons_succ, List.getElem?_cons_zero]); rfl) (by kernel_rfl) (by kernel_rfl) (by kernel_rfl) (by exact fun _ _ _ h => h) (Or.inl ⟨by rfl, ?_⟩) (by assumption) ?_); rotate_left; focus (intro wS hSw; (try dsimp only at hSw); go_simp; first | done | with_reducible rfl); try simp only [Act.put, List.setIfInBounds_toArray, List.set_cons_zero, List.set_cons_succ])
        refine wpAnyH_done (by kernel_rfl) ?_ _
        try simp only [Act.put, List.setIfInBounds_toArray, List.set_cons_zero, List.set_cons_succ]
        go_wp2_with fail
        go_meet
        exact ⟨rfl, HB9.out⟩
    case rest =>
      obtain ⟨rfl, hB6⟩ := hcut
      rename_i W6
      have HB6 := Lib.hid hB6
      clear hB6
      go_wp2_with fail
      have HF6 := Lib.hid (HF5.out.trans (Fr.of_below HB6.out) (by simp))
      have HX6 := Lib.hid (HX5.out.fr.step HB6.out)
      have HRES : Hid (kI (pkK n wt al (hsz E) s) = 0 ∧ (pkK n wt al (hsz E) s).isSome = false) := Lib.hid (by rw [HKN.out]; exact ⟨rfl, rfl⟩)
      exact bodyPost_ret (v := .tuple #[.int .i64 0, .bool false]) (by simp [results, Try.results28, go_sem]) rfl ⟨by rw [HRES.out.1, HRES.out.2], ⟨_, _, by rw [HSN.out]; exact HX6.out, HF6.out, HT5.out⟩⟩
  | some k0 =>
    obtain ⟨k, h2⟩ := second_some (V := s1.V) hp1
    have hk0 := (firstS_some hp1).1
    obtain ⟨hk, hkt⟩ := firstS_some h2
    obtain ⟨now, hnow⟩ : ∃ now, now = max s1.V (s1.T k0).s := ⟨_, rfl⟩
    have hnb := now_bd HI1.out hk0
    rw [← hnow] at hnb
    obtain ⟨Z, hZ⟩ : ∃ Z, Z = hsz E k := ⟨_, rfl⟩
    have hz2 : 1 ≤ Z ∧ Z ≤ 1500 := by
      have h3 := HM.out k hk
      unfold tkN rdy at hkt
      simp at hkt
      omega
    obtain ⟨hv1, hsv, hv2⟩ := mid_ok HI1.out hnb hz2
    have HKN : Hid (pkK n wt al (hsz E) s = some k) := Lib.hid (by rw [HK1.out]; unfold pickS; rw [hp1]; simp only; rw [h2]; rfl)
    have HSN : Hid (pkS n wt al (hsz E) s = takeS n k now Z s1) := Lib.hid (by rw [HS1.out]; unfold pickS; rw [hp1]; simp only; rw [h2, hZ, hnow])
    have VP := Lib.hid (fun W hx hy => vpick_ok s1.V ft5 n c5 s1.T ra rc (ob.getD 0) 0 (rdy (hsz E)) k0 k W hx HN8.out H0.out hy HI1.out.vok hp1 h2)
    rw [← hnow] at VP
    have HV1 := Lib.hid hv1
    have HSV := Lib.hid hsv
    have HV2 := Lib.hid hv2
    have HKL := Lib.hid hk
    have HZZ : Hid (s1.z k = Z) := Lib.hid (by rw [HZ1.out k hk, hZ])
    have HZ2 := Lib.hid hz2
    clear hp1 h2 hk0 hkt hnow hnb hZ hz2 hv1 hsv hv2 hk
    go_upto_region 5 with fail
    go_cut [7, 8, 9] (fun v7 v8 v9 W => ∃ (W' : World) (NB ft' c' : Nat), W' = W ∧ v7 = .pointer (some ⟨NB, 0, none⟩) ∧ v8 = .int .i64 k ∧ v9 = .bool true ∧ Pk5 W5 W' NB ft' n c' now s1.T)
    case first =>
      refine wp_region_held_drew (S := fun X => X.cell? ⟨N, 0, none⟩ = some (.pointer (some ⟨g, 0, none⟩)) ∧ X.cell? ⟨R, 0, none⟩ = some (.slice ra n rc) ∧ X.cell? ⟨g, 2, none⟩ = some (.int .i64 s1.V) ∧ X.cell? ⟨g, 3, none⟩ = some (.slice (some ⟨ft5, 0, none⟩) n c5)) (by kernel_rfl) ⟨cell_at HX5.out.hF 0, cell_at HX5.out.hR 0, cell_at HX5.out.fr.blk 2, cell_at HX5.out.fr.blk 3⟩ (fun hHeld => ?_)
      try simp only [Act.put, List.setIfInBounds_toArray, List.set_cons_zero, List.set_cons_succ]
      have Bz := belowN (Below.refl W5.heap.size W5) 1
      have HX6 := Lib.hid (show EaAt W5.drew M g fo ft5 n c1 c5 wt al s1 N (N + 1) R a cap (.slice ra n rc) ob (rdy (hsz E)) n from HX5.out.step Bz)
      have HBO6 := Lib.hid (show BoolsIn W5.drew ra n rc (ob.getD 0) 0 (rdy (hsz E)) from HBO.out.below Bz)
      have HB6 : Hid (Below W5.heap.size W5 W5.drew) := Lib.hid Bz
      clear Bz
      ((refine wpAnyH_take (i := 0) (v := ?_) (by (simp only [List.getElem?_toArray, List.getElem?_cons_succ, List.getElem?_cons_zero]); rfl) (by kernel_rfl) (by kernel_rfl) (by kernel_rfl) (by exact fun _ _ _ h => h) (Or.inl ⟨by rfl, ?_⟩) (by assumption) ?_); rotate_left; focus (intro wS hSw; (try dsimp only at hSw); go_simp; first | done | with_reducible rfl); try simp only [Act.put, List.setIfInBounds_toArray, List.set_cons_zero, List.set_cons_succ])
      ((refine wpAnyH_take (i := 1) (v := ?_) (by (simp only [List.getElem?_toArray, List.getElem?_cons_succ, List.getElem?_cons_zero]); rfl) (by kernel_rfl) (by kernel_rfl) (by kernel_rfl) (by exact fun _ _ _ h => h) (Or.inl ⟨by rfl, ?_⟩) (by assumption) ?_); rotate_left; focus (intro wS hSw; (try dsimp only at hSw); go_simp; first | done | with_reducible rfl); try simp only [Act.put, List.setIfInBounds_toArray, List.set_cons_zero, List.set_cons_succ])
      ((refine wpAnyH_take (i := 2) (v := ?_) (by (simp only [List.getElem?_toArray, List.getElem?_cons_succ, List.getElem?_cons_zero]); rfl) (by kernel_rfl) (by kernel_rfl) (by kernel_rfl) (by exact fun _ _ _ h => h) (Or.inl ⟨by rfl, ?_⟩) (by assumption) ?_); rotate_left; focus (intro wS hSw; (try dsimp only at hSw); go_simp; first | done | with_reducible rfl); try simp only [Act.put, List.setIfInBounds_toArray, List.set_cons_zero, List.set_cons_succ])
      ((refine wpAnyH_take (i := 3) (v := ?_) (by (simp only [List.getElem?_toArray, List.getElem?_cons_succ, List.getElem?_cons_zero]); rfl) (by kernel_rfl) (by kernel_rfl) (by kernel_rfl) (by exact fun _ _ _ h => h) (Or.inl ⟨by rfl, ?_⟩) (by assumption) ?_); rotate_left; focus (intro wS hSw; (try dsimp only at hSw); go_simp; first | done | with_reducible rfl); try simp only [Act.put, List.setIfInBounds_toArray, List.set_cons_zero, List.set_cons_succ])
      ((refine wpAnyH_take (i := 4) (v := ?_) (by (simp only [List.getElem?_toArray, List.getElem?_cons_succ, List.getElem?_cons_zero]); rfl) (by kernel_rfl) (by kernel_rfl) (by kernel_rfl) (by exact fun _ _ _ h => h) (Or.inl ⟨by rfl, ?_⟩) (by assumption) ?_); rotate_left; focus (intro wS hSw; (try dsimp only at hSw); go_simp; first | done | with_reducible rfl); try simp only [Act.put, List.setIfInBounds_toArray, List.set_cons_zero, List.set_cons_succ])
      refine wpAnyH_ready (rs := [5, 10]) (by kernel_rfl) (by simp) ?_
      refine AllReadyH.cons (by (simp only [List.getElem?_toArray, List.getElem?_cons_succ, List.getElem?_cons_zero]); rfl) (fun K hK => ?_) (AllReadyH.cons (by (simp only [List.getElem?_toArray, List.getElem?_cons_succ, List.getElem?_cons_zero]); rfl) (fun K hK => ?_) AllReadyH.nil)
      · skip
        go_simp
        go_fit (VP.out _ (HX6.out.fr.tags HI1.out) HBO6.out)
        rintro e W7 ⟨ft', c', rfl, hr7, hg7, hB7⟩
        have HX7 := Lib.hid (HX6.out.step hB7)
        have HB7 := Lib.hid (HB6.out.trans (hB7.mono HB6.out.size))
        have HR7 := Lib.hid hr7
        have HG7 : Hid (W5.heap.size ≤ ft') := Lib.hid (Nat.le_trans HB6.out.size hg7)
        clear hr7 hg7
        go_wp2_with fail
        refine hK.out _ _ ⟨cell_at HX7.out.hF 0, cell_at HX7.out.hR 0, cell_at HX7.out.fr.blk 2, cell_at HX7.out.fr.blk 3⟩ (fun hHeld => ?_)
        clear hK K hB7
        try simp only [Act.put, List.setIfInBounds_toArray, List.set_cons_zero, List.set_cons_succ]
        ((refine wpAnyH_take (i := 6) (v := ?_) (by (simp only [List.getElem?_toArray, List.getElem?_cons_succ, List.getElem?_cons_zero]); rfl) (by kernel_rfl) (by kernel_rfl) (by kernel_rfl) (by exact fun _ _ _ h => h) (Or.inl ⟨by rfl, ?_⟩) (by assumption) ?_); rotate_left; focus (intro wS hSw; (try dsimp only at hSw); go_simp; first | done | with_reducible rfl); try simp only [Act.put, List.setIfInBounds_toArray, List.set_cons_zero, List.set_cons_succ])
        ((refine wpAnyH_take (i := 7) (v := ?_) (by (simp only [List.getElem?_toArray, List.getElem?_cons_succ, List.getElem?_cons_zero]); rfl) (by kernel_rfl) (by kernel_rfl) (by kernel_rfl) (by exact fun _ _ _ h => h) (Or.inl ⟨by rfl, ?_⟩) (by assumption) ?_); rotate_left; focus (intro wS hSw; (try dsimp only at hSw); go_simp; first | done | with_reducible rfl); try simp only [Act.put, List.setIfInBounds_toArray, List.set_cons_zero, List.set_cons_succ])
        ((refine wpAnyH_take (i := 8) (v := ?_) (by (simp only [List.getElem?_toArray, List.getElem?_cons_succ, List.getElem?_cons_zero]); rfl) (by kernel_rfl) (by kernel_rfl) (by kernel_rfl) (by exact fun _ _ _ h => h) (Or.inl ⟨by rfl, ?_⟩) (by assumption) ?_); rotate_left; focus (intro wS hSw; (try dsimp only at hSw); go_simp; first | done | with_reducible rfl); try simp only [Act.put, List.setIfInBounds_toArray, List.set_cons_zero, List.set_cons_succ])
        ((refine wpAnyH_take (i := 9) (v := ?_) (by (simp only [List.getElem?_toArray, List.getElem?_cons_succ, List.getElem?_cons_zero]); rfl) (by kernel_rfl) (by kernel_rfl) (by kernel_rfl) (by exact fun _ _ _ h => h) (Or.inl ⟨by rfl, ?_⟩) (by assumption) ?_); rotate_left; focus (intro wS hSw; (try dsimp only at hSw); go_simp; first | done | with_reducible rfl); try simp only [Act.put, List.setIfInBounds_toArray, List.set_cons_zero, List.set_cons_succ])
        refine wpAnyH_ready (rs := [10]) (by kernel_rfl) (by simp) ?_
        refine AllReadyH.cons (by (simp only [List.getElem?_toArray, List.getElem?_cons_succ, List.getElem?_cons_zero]); rfl) (fun K hK => ?_) AllReadyH.nil
        go_simp
        obtain ⟨NB, hNB⟩ : ∃ N, N = W7.heap.size := ⟨_, rfl⟩
        obtain ⟨W8, hW9⟩ : ∃ W, W = (W7.alloc (.cells #[.int .i64 0, .slice none 0 0] 99)) := ⟨_, rfl⟩
        have k9 : Blk W8 NB #[.int .i64 0, .slice none 0 0] 99 := by rw [hW9, hNB]; exact blk_new W7 _ _
        have hB9 : Below W7.heap.size W7 W8 := by rw [hW9]; exact alloc_b W7 _
        have HX8 := Lib.hid (HX7.out.step hB9)
        have HB8 := Lib.hid (HB7.out.trans (hB9.mono HB7.out.size))
        have HK8 := Lib.hid k9
        have HNB : Hid (W5.heap.size ≤ NB) := Lib.hid (by rw [hNB]; exact HB7.out.size)
        have HR8 := Lib.hid (show Row W8 (.slice (some ⟨ft', 0, none⟩) n c') (some ft') 129 2 n (tagsL s1.T n) from HR7.out.congr fun q e => by obtain rfl := Option.some.inj e; exact hB9.block _ HR7.out.lt)
        rw [← hNB, ← hW9]
        refine hK _ _ ⟨cell_at HX8.out.hF 0, cell_at HX8.out.hR 0, cell_at HX8.out.fr.blk 2, cell_at HX8.out.fr.blk 3⟩ (fun hHeld => ?_)
        clear hK K k9 hB9 hNB hW9
        try simp only [Act.put, List.setIfInBounds_toArray, List.set_cons_zero, List.set_cons_succ]
        refine wpAnyH_ready (rs := [11]) (by kernel_rfl) (by simp) ?_
        refine AllReadyH.cons (by (simp only [List.getElem?_toArray, List.getElem?_cons_succ, List.getElem?_cons_zero]); rfl) (fun K hK => ?_) AllReadyH.nil
        have k0 : W8.cell? ⟨NB, 0, none⟩ = some (.int .i64 0) := cell_at HK8.out 0
        have k1 : W8.cell? ⟨NB, 1, none⟩ = some (.slice none 0 0) := cell_at HK8.out 1
        have kz : ∀ j, W8.frozen? ⟨NB, j, none⟩ = false := fun j => free_at HK8.out j
        have kl : NB < W8.heap.size := HK8.out.lt
        generalize hW10' : (W8.setCell ⟨NB, 0, none⟩ (.int .i64 now)).setCell ⟨NB, 1, none⟩ (.slice (some ⟨ft', 0, none⟩) n c') = W9
        have hW10 := hW10'.symm
        clear hW10'
        have hf10 : Fr [NB] W8 W9 := by rw [hW10]; exact ((Fr.refl _ _).setCell _ (.inl (by simp)) _).setCell _ (.inl (by simp)) _
        have HK9 := Lib.hid (show Blk W9 NB #[.int .i64 now, .slice (some ⟨ft', 0, none⟩) n c'] 99 by rw [hW10]; exact (HK8.out.set 0 _).set 1 _)
        have HX9 := Lib.hid (HX8.out.other hf10 HK8.out (by decide) (by decide) (by decide) (by decide) (by decide) (by decide) (by decide) (by decide))
        have HB9 := Lib.hid (HB8.out.trans (hf10.below HB8.out.size (by simp; exact HNB.out)))
        have HR9 := Lib.hid (show Row W9 (.slice (some ⟨ft', 0, none⟩) n c') (some ft') 129 2 n (tagsL s1.T n) from HR8.out.congr fun q e => by obtain rfl := Option.some.inj e; exact hf10.block _ HR8.out.lt (by simpa using fun e => row_blk_ne HR8.out HK8.out (by decide) e.symm))
        go_simp
        rw [← hW10]
        refine hK _ _ ⟨cell_at HX9.out.hF 0, cell_at HX9.out.hR 0, cell_at HX9.out.fr.blk 2, cell_at HX9.out.fr.blk 3⟩ (fun hHeld => ?_)
        clear hK K hW10 k0 k1 kz kl
        try simp only [Act.put, List.setIfInBounds_toArray, List.set_cons_zero, List.set_cons_succ]
        ((refine wpAnyH_take (i := 12) (v := ?_) (by (simp only [List.getElem?_toArray, List.getElem?_cons_succ, List.getElem?_cons_zero]); rfl) (by kernel_rfl) (by kernel_rfl) (by kernel_rfl) (by exact fun _ _ _ h => h) (Or.inl ⟨by rfl, ?_⟩) (by assumption) ?_); rotate_left; focus (intro wS hSw; (try dsimp only at hSw); go_simp; first | done | with_reducible rfl); try simp only [Act.put, List.setIfInBounds_toArray, List.set_cons_zero, List.set_cons_succ])
        ((refine wpAnyH_take (i := 13) (v := ?_) (by (simp only [List.getElem?_toArray, List.getElem?_cons_succ, List.getElem?_cons_zero]); rfl) (by kernel_rfl) (by kernel_rfl) (by kernel_rfl) (by exact fun _ _ _ h => h) (Or.inl ⟨by rfl, ?_⟩) (by assumption) ?_); rotate_left; focus (intro wS hSw; (try dsimp only at hSw); go_simp; first | done | with_reducible rfl); try simp only [Act.put, List.setIfInBounds_toArray, List.set_cons_zero, List.set_cons_succ])
        refine wpAnyH_done (by kernel_rfl) ?_ _
        try simp only [Act.put, List.setIfInBounds_toArray, List.set_cons_zero, List.set_cons_succ]
        go_wp2_with fail
        go_meet
        exact ⟨_, NB, ft', c', rfl, rfl, rfl, rfl, ⟨HK9.out, HR9.out, HB9.out, HG7.out⟩⟩
      · skip
        go_simp
        obtain ⟨NB, hNB⟩ : ∃ N, N = W5.heap.size := ⟨_, rfl⟩
        obtain ⟨W7, hW9⟩ : ∃ W, W = (W5.alloc (.cells #[.int .i64 0, .slice none 0 0] 99)).drew := ⟨_, rfl⟩
        have k9 : Blk W7 NB #[.int .i64 0, .slice none 0 0] 99 := by rw [hW9, hNB]; exact blk_new W5 _ _
        have hB9 : Below W5.drew.heap.size W5.drew W7 := by rw [hW9]; exact alloc_b W5.drew _
        have HX7 := Lib.hid (HX6.out.step hB9)
        have HB7 := Lib.hid (HB6.out.trans (hB9.mono HB6.out.size))
        have HK7 := Lib.hid k9
        have HNB : Hid (W5.heap.size ≤ NB) := Lib.hid (by rw [hNB]; exact HB6.out.size)
        have HBO7 := Lib.hid (HBO6.out.below hB9)
        rw [← hNB, ← hW9]
        refine hK _ _ ⟨cell_at HX7.out.hF 0, cell_at HX7.out.hR 0, cell_at HX7.out.fr.blk 2, cell_at HX7.out.fr.blk 3⟩ (fun hHeld => ?_)
        clear hK K k9 hB9 hNB hW9
        try simp only [Act.put, List.setIfInBounds_toArray, List.set_cons_zero, List.set_cons_succ]
        refine wpAnyH_ready (rs := [5]) (by kernel_rfl) (by simp) ?_
        refine AllReadyH.cons (by (simp only [List.getElem?_toArray, List.getElem?_cons_succ, List.getElem?_cons_zero]); rfl) (fun K hK => ?_) AllReadyH.nil
        go_simp
        go_fit (VP.out _ (HX7.out.fr.tags HI1.out) HBO7.out)
        rintro e W8 ⟨ft', c', rfl, hr7, hg7, hB7⟩
        have HX8 := Lib.hid (HX7.out.step hB7)
        have HB8 := Lib.hid (HB7.out.trans (hB7.mono HB7.out.size))
        have HR8 := Lib.hid hr7
        have HG7 : Hid (W5.heap.size ≤ ft') := Lib.hid (Nat.le_trans HB7.out.size hg7)
        clear hr7 hg7
        have HK8 := Lib.hid (HK7.out.step hB7)
        go_wp2_with fail
        refine hK.out _ _ ⟨cell_at HX8.out.hF 0, cell_at HX8.out.hR 0, cell_at HX8.out.fr.blk 2, cell_at HX8.out.fr.blk 3⟩ (fun hHeld => ?_)
        clear hK K hB7
        try simp only [Act.put, List.setIfInBounds_toArray, List.set_cons_zero, List.set_cons_succ]
        ((refine wpAnyH_take (i := 6) (v := ?_) (by (simp only [List.getElem?_toArray, List.getElem?_cons_succ, List.getElem?_cons_zero]); rfl) (by kernel_rfl) (by kernel_rfl) (by kernel_rfl) (by exact fun _ _ _ h => h) (Or.inl ⟨by rfl, ?_⟩) (by assumption) ?_); rotate_left; focus (intro wS hSw; (try dsimp only at hSw); go_simp; first | done | with_reducible rfl); try simp only [Act.put, List.setIfInBounds_toArray, List.set_cons_zero, List.set_cons_succ])
        ((refine wpAnyH_take (i := 7) (v := ?_) (by (simp only [List.getElem?_toArray, List.getElem?_cons_succ, List.getElem?_cons_zero]); rfl) (by kernel_rfl) (by kernel_rfl) (by kernel_rfl) (by exact fun _ _ _ h => h) (Or.inl ⟨by rfl, ?_⟩) (by assumption) ?_); rotate_left; focus (intro wS hSw; (try dsimp only at hSw); go_simp; first | done | with_reducible rfl); try simp only [Act.put, List.setIfInBounds_toArray, List.set_cons_zero, List.set_cons_succ])
        ((refine wpAnyH_take (i := 8) (v := ?_) (by (simp only [List.getElem?_toArray, List.getElem?_cons_succ, List.getElem?_cons_zero]); rfl) (by kernel_rfl) (by kernel_rfl) (by kernel_rfl) (by exact fun _ _ _ h => h) (Or.inl ⟨by rfl, ?_⟩) (by assumption) ?_); rotate_left; focus (intro wS hSw; (try dsimp only at hSw); go_simp; first | done | with_reducible rfl); try simp only [Act.put, List.setIfInBounds_toArray, List.set_cons_zero, List.set_cons_succ])
        ((refine wpAnyH_take (i := 9) (v := ?_) (by (simp only [List.getElem?_toArray, List.getElem?_cons_succ, List.getElem?_cons_zero]); rfl) (by kernel_rfl) (by kernel_rfl) (by kernel_rfl) (by exact fun _ _ _ h => h) (Or.inl ⟨by rfl, ?_⟩) (by assumption) ?_); rotate_left; focus (intro wS hSw; (try dsimp only at hSw); go_simp; first | done | with_reducible rfl); try simp only [Act.put, List.setIfInBounds_toArray, List.set_cons_zero, List.set_cons_succ])
        refine wpAnyH_ready (rs := [11]) (by kernel_rfl) (by simp) ?_
        refine AllReadyH.cons (by (simp only [List.getElem?_toArray, List.getElem?_cons_succ, List.getElem?_cons_zero]); rfl) (fun K hK => ?_) AllReadyH.nil
        have k0 : W8.cell? ⟨NB, 0, none⟩ = some (.int .i64 0) := cell_at HK8.out 0
        have k1 : W8.cell? ⟨NB, 1, none⟩ = some (.slice none 0 0) := cell_at HK8.out 1
        have kz : ∀ j, W8.frozen? ⟨NB, j, none⟩ = false := fun j => free_at HK8.out j
        have kl : NB < W8.heap.size := HK8.out.lt
        generalize hW10' : (W8.setCell ⟨NB, 0, none⟩ (.int .i64 now)).setCell ⟨NB, 1, none⟩ (.slice (some ⟨ft', 0, none⟩) n c') = W9
        have hW10 := hW10'.symm
        clear hW10'
        have hf10 : Fr [NB] W8 W9 := by rw [hW10]; exact ((Fr.refl _ _).setCell _ (.inl (by simp)) _).setCell _ (.inl (by simp)) _
        have HK9 := Lib.hid (show Blk W9 NB #[.int .i64 now, .slice (some ⟨ft', 0, none⟩) n c'] 99 by rw [hW10]; exact (HK8.out.set 0 _).set 1 _)
        have HX9 := Lib.hid (HX8.out.other hf10 HK8.out (by decide) (by decide) (by decide) (by decide) (by decide) (by decide) (by decide) (by decide))
        have HB9 := Lib.hid (HB8.out.trans (hf10.below HB8.out.size (by simp; exact HNB.out)))
        have HR9 := Lib.hid (show Row W9 (.slice (some ⟨ft', 0, none⟩) n c') (some ft') 129 2 n (tagsL s1.T n) from HR8.out.congr fun q e => by obtain rfl := Option.some.inj e; exact hf10.block _ HR8.out.lt (by simpa using fun e => row_blk_ne HR8.out HK8.out (by decide) e.symm))
        go_simp
        rw [← hW10]
        refine hK _ _ ⟨cell_at HX9.out.hF 0, cell_at HX9.out.hR 0, cell_at HX9.out.fr.blk 2, cell_at HX9.out.fr.blk 3⟩ (fun hHeld => ?_)
        clear hK K hW10 k0 k1 kz kl
        try simp only [Act.put, List.setIfInBounds_toArray, List.set_cons_zero, List.set_cons_succ]
        ((refine wpAnyH_take (i := 12) (v := ?_) (by (simp only [List.getElem?_toArray, List.getElem?_cons_succ, List.getElem?_cons_zero]); rfl) (by kernel_rfl) (by kernel_rfl) (by kernel_rfl) (by exact fun _ _ _ h => h) (Or.inl ⟨by rfl, ?_⟩) (by assumption) ?_); rotate_left; focus (intro wS hSw; (try dsimp only at hSw); go_simp; first | done | with_reducible rfl); try simp only [Act.put, List.setIfInBounds_toArray, List.set_cons_zero, List.set_cons_succ])
        ((refine wpAnyH_take (i := 13) (v := ?_) (by (simp only [List.getElem?_toArray, List.getElem?_cons_succ, List.getElem?_cons_zero]); rfl) (by kernel_rfl) (by kernel_rfl) (by kernel_rfl) (by exact fun _ _ _ h => h) (Or.inl ⟨by rfl, ?_⟩) (by assumption) ?_); rotate_left; focus (intro wS hSw; (try dsimp only at hSw); go_simp; first | done | with_reducible rfl); try simp only [Act.put, List.setIfInBounds_toArray, List.set_cons_zero, List.set_cons_succ])
        refine wpAnyH_done (by kernel_rfl) ?_ _
        try simp only [Act.put, List.setIfInBounds_toArray, List.set_cons_zero, List.set_cons_succ]
        go_wp2_with fail
        go_meet
        exact ⟨_, NB, ft', c', rfl, rfl, rfl, rfl, ⟨HK9.out, HR9.out, HB9.out, HG7.out⟩⟩
    case rest =>
      obtain ⟨W6, NB, ft6, c6, rfl, rfl, rfl, rfl, h6⟩ := hcut
      have HP6 := Lib.hid (HX5.out.step h6.b)
      have HF6 := Lib.hid (HF5.out.trans (Fr.of_below h6.b) (by simp))
      have HT6 : Hid (M ≤ ft6 ∧ w.heap.size ≤ ft6) := Lib.hid ⟨Nat.le_trans HX5.out.fr.size h6.ge, Nat.le_trans HF5.out.size h6.ge⟩
      have HNG := Lib.hid (HX5.out.fr.ty HX5.out.hF (by decide))
      have f0 : W6.cell? ⟨N, 0, none⟩ = some (.pointer (some ⟨g, 0, none⟩)) := cell_at HP6.out.hF 0
      have f1 : W6.cell? ⟨NB, 0, none⟩ = some (.int .i64 now) := cell_at h6.tb 0
      have f2 : W6.cell? ⟨NB, 1, none⟩ = some (.slice (some ⟨ft6, 0, none⟩) n c6) := cell_at h6.tb 1
      have g2 : W6.cell? ⟨g, 2, none⟩ = some (.int .i64 s1.V) := cell_at HP6.out.fr.blk 2
      have g3 : W6.cell? ⟨g, 3, none⟩ = some (.slice (some ⟨ft5, 0, none⟩) n c5) := cell_at HP6.out.fr.blk 3
      have gz : ∀ j, W6.frozen? ⟨g, j, none⟩ = false := fun j => free_at HP6.out.fr.blk j
      have gl : g < W6.heap.size := HP6.out.fr.blk.lt
      obtain ⟨W7, hW7⟩ : ∃ W, W = (W6.setCell ⟨g, 2, none⟩ (.int .i64 now)).setCell ⟨g, 3, none⟩ (.slice (some ⟨ft6, 0, none⟩) n c6) := ⟨_, rfl⟩
      obtain ⟨hx7, hf7⟩ := HP6.out.fr.vt h6.row HT6.out.1 hW7
      have HX7 := Lib.hid hx7
      have HF7 := Lib.hid (HF6.out.trans hf7 (by simp))
      have HP7 := Lib.hid (show Blk W7 N #[.pointer (some ⟨g, 0, none⟩)] 62 from (hf7.block N HP6.out.hF.lt (by simpa using HNG.out.1)).trans HP6.out.hF)
      clear h6 hx7 hf7 VP
      go_upto_region 9 with fail
      rw [← hW7]
      clear hW7 f0 f1 f2 g2 g3 gz gl HP6 HF6 HX5
      have w2 : IntKind.i64.wrap Z = Z := IntWalk.i64_in _ (by have := HZ2.out; omega)
      have bk1 : (k < n) = True := eq_true HKL.out
      have bk2 : ((k : Int) < (n : Int)) = True := eq_true (by have := HKL.out; omega)
      have bk0 : ((0 : Int) ≤ (k : Int)) = True := eq_true (by omega)
      refine wp_region_held_drew (S := fun X => X.cell? ⟨N, 0, none⟩ = some (.pointer (some ⟨g, 0, none⟩)) ∧ X.cell? ⟨g, 0, none⟩ = some (.slice (some ⟨fo, 0, none⟩) n c1) ∧ X.cell? ⟨fo, k * 3 + 1, none⟩ = some (.int .u16 Z)) (by kernel_rfl) ⟨cell_at HP7.out 0, cell_at HX7.out.blk 0, by rw [← HZZ.out]; exact (HX7.out.fl.cell HKL.out).2.1⟩ (fun hHeld => ?_)
      try simp only [Act.put, List.setIfInBounds_toArray, List.set_cons_zero, List.set_cons_succ]
      have Bz := belowN (Below.refl W7.heap.size W7) 1
      have HX8 := Lib.hid (show FrAt W7.drew M g fo ft6 n c1 c6 wt al ⟨now, s1.T, s1.z, s1.sv⟩ from HX7.out.step Bz)
      have HP8 := Lib.hid (show Blk W7.drew N #[.pointer (some ⟨g, 0, none⟩)] 62 from HP7.out.step Bz)
      have HF8 : Hid (Fr [g, fo, ft] w W7.drew) := Lib.hid (HF7.out.trans (Fr.of_below Bz) (by simp))
      clear Bz HX7 HP7 HF7
      ((refine wpAnyH_take (i := 0) (v := ?_) (by (simp only [List.getElem?_toArray, List.getElem?_cons_succ, List.getElem?_cons_zero]); rfl) (by kernel_rfl) (by kernel_rfl) (by kernel_rfl) (by exact fun _ _ _ h => h) (Or.inl ⟨by rfl, ?_⟩) (by assumption) ?_); rotate_left; focus (intro wS hSw; (try dsimp only at hSw); go_simp; first | done | with_reducible rfl); try simp only [Act.put, List.setIfInBounds_toArray, List.set_cons_zero, List.set_cons_succ])
      ((refine wpAnyH_take (i := 1) (v := ?_) (by (simp only [List.getElem?_toArray, List.getElem?_cons_succ, List.getElem?_cons_zero]); rfl) (by kernel_rfl) (by kernel_rfl) (by kernel_rfl) (by exact fun _ _ _ h => h) (Or.inl ⟨by rfl, ?_⟩) (by assumption) ?_); rotate_left; focus (intro wS hSw; (try dsimp only at hSw); go_simp; first | done | with_reducible rfl); try simp only [Act.put, List.setIfInBounds_toArray, List.set_cons_zero, List.set_cons_succ])
      ((refine wpAnyH_take (i := 2) (v := ?_) (by (simp only [List.getElem?_toArray, List.getElem?_cons_succ, List.getElem?_cons_zero]); rfl) (by kernel_rfl) (by kernel_rfl) (by kernel_rfl) (by exact fun _ _ _ h => h) (Or.inl ⟨by rfl, ?_⟩) (by assumption) ?_); rotate_left; focus (intro wS hSw; (try dsimp only at hSw); go_simp; first | done | with_reducible rfl); try simp only [Act.put, List.setIfInBounds_toArray, List.set_cons_zero, List.set_cons_succ])
      ((refine wpAnyH_take (i := 3) (v := ?_) (by (simp only [List.getElem?_toArray, List.getElem?_cons_succ, List.getElem?_cons_zero]); rfl) (by kernel_rfl) (by kernel_rfl) (by kernel_rfl) (by exact fun _ _ _ h => h) (Or.inl ⟨by rfl, ?_⟩) (by assumption) ?_); rotate_left; focus (intro wS hSw; (try dsimp only at hSw); go_simp; first | done | with_reducible rfl); try simp only [Act.put, List.setIfInBounds_toArray, List.set_cons_zero, List.set_cons_succ])
      ((refine wpAnyH_take (i := 5) (v := ?_) (by (simp only [List.getElem?_toArray, List.getElem?_cons_succ, List.getElem?_cons_zero]); rfl) (by kernel_rfl) (by kernel_rfl) (by kernel_rfl) (by exact fun _ _ _ h => h) (Or.inl ⟨by rfl, ?_⟩) (by assumption) ?_); rotate_left; focus (intro wS hSw; (try dsimp only at hSw); go_simp; first | done | with_reducible rfl); try simp only [Act.put, List.setIfInBounds_toArray, List.set_cons_zero, List.set_cons_succ])
      ((refine wpAnyH_take (i := 6) (v := ?_) (by (simp only [List.getElem?_toArray, List.getElem?_cons_succ, List.getElem?_cons_zero]); rfl) (by kernel_rfl) (by kernel_rfl) (by kernel_rfl) (by exact fun _ _ _ h => h) (Or.inl ⟨by rfl, ?_⟩) (by assumption) ?_); rotate_left; focus (intro wS hSw; (try dsimp only at hSw); go_simp; first | done | with_reducible rfl); try simp only [Act.put, List.setIfInBounds_toArray, List.set_cons_zero, List.set_cons_succ])
      ((refine wpAnyH_take (i := 7) (v := ?_) (by (simp only [List.getElem?_toArray, List.getElem?_cons_succ, List.getElem?_cons_zero]); rfl) (by kernel_rfl) (by kernel_rfl) (by kernel_rfl) (by exact fun _ _ _ h => h) (Or.inl ⟨by rfl, ?_⟩) (by assumption) ?_); rotate_left; focus (intro wS hSw; (try dsimp only at hSw); go_simp; first | done | with_reducible rfl); try simp only [Act.put, List.setIfInBounds_toArray, List.set_cons_zero, List.set_cons_succ])
      ((refine wpAnyH_take (i := 8) (v := ?_) (by (simp only [List.getElem?_toArray, List.getElem?_cons_succ, List.getElem?_cons_zero]); rfl) (by kernel_rfl) (by kernel_rfl) (by kernel_rfl) (by exact fun _ _ _ h => h) (Or.inl ⟨by rfl, ?_⟩) (by assumption) ?_); rotate_left; focus (intro wS hSw; (try dsimp only at hSw); go_simp; first | done | with_reducible rfl); try simp only [Act.put, List.setIfInBounds_toArray, List.set_cons_zero, List.set_cons_succ])
      ((refine wpAnyH_take (i := 9) (v := ?_) (by (simp only [List.getElem?_toArray, List.getElem?_cons_succ, List.getElem?_cons_zero]); rfl) (by kernel_rfl) (by kernel_rfl) (by kernel_rfl) (by exact fun _ _ _ h => h) (Or.inl ⟨by rfl, ?_⟩) (by assumption) ?_); rotate_left; focus (intro wS hSw; (try dsimp only at hSw); go_simp; first | done | with_reducible rfl); try simp only [Act.put, List.setIfInBounds_toArray, List.set_cons_zero, List.set_cons_succ])
      ((refine wpAnyH_take (i := 10) (v := ?_) (by (simp only [List.getElem?_toArray, List.getElem?_cons_succ, List.getElem?_cons_zero]); rfl) (by kernel_rfl) (by kernel_rfl) (by kernel_rfl) (by exact fun _ _ _ h => h) (Or.inl ⟨by rfl, ?_⟩) (by assumption) ?_); rotate_left; focus (intro wS hSw; (try dsimp only at hSw); go_simp; first | done | with_reducible rfl); try simp only [Act.put, List.setIfInBounds_toArray, List.set_cons_zero, List.set_cons_succ])
      ((refine wpAnyH_take (i := 11) (v := ?_) (by (simp only [List.getElem?_toArray, List.getElem?_cons_succ, List.getElem?_cons_zero]); rfl) (by kernel_rfl) (by kernel_rfl) (by kernel_rfl) (by exact fun _ _ _ h => h) (Or.inl ⟨by rfl, ?_⟩) (by assumption) ?_); rotate_left; focus (intro wS hSw; (try dsimp only at hSw); go_simp; first | done | with_reducible rfl); try simp only [Act.put, List.setIfInBounds_toArray, List.set_cons_zero, List.set_cons_succ])
      ((refine wpAnyH_take (i := 12) (v := ?_) (by (simp only [List.getElem?_toArray, List.getElem?_cons_succ, List.getElem?_cons_zero]); rfl) (by kernel_rfl) (by kernel_rfl) (by kernel_rfl) (by exact fun _ _ _ h => h) (Or.inl ⟨by rfl, ?_⟩) (by assumption) ?_); rotate_left; focus (intro wS hSw; (try dsimp only at hSw); go_simp; first | done | with_reducible rfl); try simp only [Act.put, List.setIfInBounds_toArray, List.set_cons_zero, List.set_cons_succ])
      ((refine wpAnyH_take (i := 13) (v := ?_) (by (simp only [List.getElem?_toArray, List.getElem?_cons_succ, List.getElem?_cons_zero]); rfl) (by kernel_rfl) (by kernel_rfl) (by kernel_rfl) (by exact fun _ _ _ h => h) (Or.inl ⟨by rfl, ?_⟩) (by assumption) ?_); rotate_left; focus (intro wS hSw; (try dsimp only at hSw); go_simp; first | done | with_reducible rfl); try simp only [Act.put, List.setIfInBounds_toArray, List.set_cons_zero, List.set_cons_succ])
      refine wpAnyH_ready (rs := [4]) (by kernel_rfl) (by simp) ?_
      refine AllReadyH.cons (by (simp only [List.getElem?_toArray, List.getElem?_cons_succ, List.getElem?_cons_zero]); rfl) (fun K hK => ?_) AllReadyH.nil
      have e2 : W7.drew.cell? ⟨g, 2, none⟩ = some (.int .i64 now) := cell_at HX8.out.blk 2
      have e3 : W7.drew.cell? ⟨g, 3, none⟩ = some (.slice (some ⟨ft6, 0, none⟩) n c6) := cell_at HX8.out.blk 3
      go_simp
      refine hK _ _ ⟨cell_at HP8.out 0, cell_at HX8.out.blk 0, by rw [← HZZ.out]; exact (HX8.out.fl.cell HKL.out).2.1⟩ (fun hHeld => ?_)
      clear hK K e2 e3
      try simp only [Act.put, List.setIfInBounds_toArray, List.set_cons_zero, List.set_cons_succ]
      refine wpAnyH_ready (rs := [14]) (by kernel_rfl) (by simp) ?_
      refine AllReadyH.cons (by (simp only [List.getElem?_toArray, List.getElem?_cons_succ, List.getElem?_cons_zero]); rfl) (fun K hK => ?_) AllReadyH.nil
      go_simp
      have HTG : Hid (TagsIn W7.drew (some ⟨ft6, 0, none⟩) n c6 ft6 0 s1.T) := Lib.hid (by
        obtain ⟨a', c', he, ht⟩ := tags_row HX8.out.tg (fun j hj => HI1.out.tok j hj)
        injection he with e1 e2 e3
        subst e1 e3
        exact ht)
      go_fit (vserve_ok now ft6 n c6 s1.T Z _ HTG.out HN8.out H0.out HSV.out)
      rintro e W9 ⟨ft9, c9, rfl, hr9, hg9, hB9⟩
      have HX9 := Lib.hid (HX8.out.step hB9)
      have HP9 := Lib.hid (HP8.out.step hB9)
      have HF9 := Lib.hid (HF8.out.trans (Fr.of_below hB9) (by simp))
      have HR9 := Lib.hid hr9
      have HT9 : Hid (M ≤ ft9) := Lib.hid (Nat.le_trans HX8.out.size hg9)
      clear hr9 hg9 hB9 HTG
      go_wp2_with fail
      refine hK.out _ _ ⟨cell_at HP9.out 0, cell_at HX9.out.blk 0, by rw [← HZZ.out]; exact (HX9.out.fl.cell HKL.out).2.1⟩ (fun hHeld => ?_)
      clear hK K
      try simp only [Act.put, List.setIfInBounds_toArray, List.set_cons_zero, List.set_cons_succ]
      ((refine wpAnyH_take (i := 15) (v := ?_) (by (simp only [List.getElem?_toArray, List.getElem?_cons_succ, List.getElem?_cons_zero]); rfl) (by kernel_rfl) (by kernel_rfl) (by kernel_rfl) (by exact fun _ _ _ h => h) (Or.inl ⟨by rfl, ?_⟩) (by assumption) ?_); rotate_left; focus (intro wS hSw; (try dsimp only at hSw); go_simp; first | done | with_reducible rfl); try simp only [Act.put, List.setIfInBounds_toArray, List.set_cons_zero, List.set_cons_succ])
      ((refine wpAnyH_take (i := 16) (v := ?_) (by (simp only [List.getElem?_toArray, List.getElem?_cons_succ, List.getElem?_cons_zero]); rfl) (by kernel_rfl) (by kernel_rfl) (by kernel_rfl) (by exact fun _ _ _ h => h) (Or.inl ⟨by rfl, ?_⟩) (by assumption) ?_); rotate_left; focus (intro wS hSw; (try dsimp only at hSw); go_simp; first | done | with_reducible rfl); try simp only [Act.put, List.setIfInBounds_toArray, List.set_cons_zero, List.set_cons_succ])
      ((refine wpAnyH_ready (rs := [17]) (by kernel_rfl) (by simp) ?_); (refine AllReadyH.cons (by (simp only [List.getElem?_toArray, List.getElem?_cons_succ, List.getElem?_cons_zero]); rfl) (fun K hK => ?_) AllReadyH.nil); go_simp; go_fit (set_ok _ _ _ _ M g fo ft6 n c1 c6 wt al _ _ HX9.out HR9.out HT9.out))
      rintro e W10 ⟨rfl, hx10, _, hf10⟩
      have HX10 := Lib.hid hx10
      have HP10 := Lib.hid (show Blk W10 N #[.pointer (some ⟨g, 0, none⟩)] 62 from (hf10.block N HP9.out.lt (by simpa using HNG.out.1)).trans HP9.out)
      have HF10 := Lib.hid (HF9.out.trans hf10 (by simp))
      clear hx10 hf10
      go_wp2_with fail
      refine hK.out _ _ ⟨cell_at HP10.out 0, cell_at HX10.out.blk 0, by rw [← HZZ.out]; exact (HX10.out.fl.cell HKL.out).2.1⟩ (fun hHeld => ?_)
      clear hK K
      try simp only [Act.put, List.setIfInBounds_toArray, List.set_cons_zero, List.set_cons_succ]
      refine wpAnyH_done (by kernel_rfl) ?_ _
      try simp only [Act.put, List.setIfInBounds_toArray, List.set_cons_zero, List.set_cons_succ]
      obtain ⟨V2, hV2⟩ : ∃ V2, V2 = now + Z * 720720 := ⟨_, rfl⟩
      rw [← hV2] at HX10 HV2
      have HVV := Lib.hid hV2
      clear hV2 HX9 HP9 HF9 HR9 HT9 HX8 HP8 HF8 w2
      go_upto_region 10 with fail
      refine wp_region_held_drew (S := fun X => X.cell? ⟨N, 0, none⟩ = some (.pointer (some ⟨g, 0, none⟩))) (by kernel_rfl) (cell_at HP10.out 0) (fun hHeld => ?_)
      try simp only [Act.put, List.setIfInBounds_toArray, List.set_cons_zero, List.set_cons_succ]
      have Bz := belowN (Below.refl W10.heap.size W10) 1
      have HX11 := Lib.hid (show FrAt W10.drew M g fo ft9 n c1 c9 wt al ⟨V2, s1.T, s1.z, s1.sv⟩ from HX10.out.step Bz)
      have HP11 := Lib.hid (show Blk W10.drew N #[.pointer (some ⟨g, 0, none⟩)] 62 from HP10.out.step Bz)
      have HF11 : Hid (Fr [g, fo, ft] w W10.drew) := Lib.hid (HF10.out.trans (Fr.of_below Bz) (by simp))
      clear Bz HX10 HP10 HF10
      ((refine wpAnyH_take (i := 0) (v := ?_) (by (simp only [List.getElem?_toArray, List.getElem?_cons_succ, List.getElem?_cons_zero]); rfl) (by kernel_rfl) (by kernel_rfl) (by kernel_rfl) (by exact fun _ _ _ h => h) (Or.inl ⟨by rfl, ?_⟩) (by assumption) ?_); rotate_left; focus (intro wS hSw; (try dsimp only at hSw); go_simp; first | done | with_reducible rfl); try simp only [Act.put, List.setIfInBounds_toArray, List.set_cons_zero, List.set_cons_succ])
      ((refine wpAnyH_take (i := 1) (v := ?_) (by (simp only [List.getElem?_toArray, List.getElem?_cons_succ, List.getElem?_cons_zero]); rfl) (by kernel_rfl) (by kernel_rfl) (by kernel_rfl) (by exact fun _ _ _ h => h) (Or.inl ⟨by rfl, ?_⟩) (by assumption) ?_); rotate_left; focus (intro wS hSw; (try dsimp only at hSw); go_simp; first | done | with_reducible rfl); try simp only [Act.put, List.setIfInBounds_toArray, List.set_cons_zero, List.set_cons_succ])
      ((refine wpAnyH_take (i := 2) (v := ?_) (by (simp only [List.getElem?_toArray, List.getElem?_cons_succ, List.getElem?_cons_zero]); rfl) (by kernel_rfl) (by kernel_rfl) (by kernel_rfl) (by exact fun _ _ _ h => h) (Or.inl ⟨by rfl, ?_⟩) (by assumption) ?_); rotate_left; focus (intro wS hSw; (try dsimp only at hSw); go_simp; first | done | with_reducible rfl); try simp only [Act.put, List.setIfInBounds_toArray, List.set_cons_zero, List.set_cons_succ])
      ((refine wpAnyH_take (i := 3) (v := ?_) (by (simp only [List.getElem?_toArray, List.getElem?_cons_succ, List.getElem?_cons_zero]); rfl) (by kernel_rfl) (by kernel_rfl) (by kernel_rfl) (by exact fun _ _ _ h => h) (Or.inl ⟨by rfl, ?_⟩) (by assumption) ?_); rotate_left; focus (intro wS hSw; (try dsimp only at hSw); go_simp; first | done | with_reducible rfl); try simp only [Act.put, List.setIfInBounds_toArray, List.set_cons_zero, List.set_cons_succ])
      refine wpAnyH_ready (rs := [4]) (by kernel_rfl) (by simp) ?_
      refine AllReadyH.cons (by (simp only [List.getElem?_toArray, List.getElem?_cons_succ, List.getElem?_cons_zero]); rfl) (fun K hK => ?_) AllReadyH.nil
      have e2 : W10.drew.cell? ⟨g, 2, none⟩ = some (.int .i64 V2) := cell_at HX11.out.blk 2
      have e3 : W10.drew.cell? ⟨g, 3, none⟩ = some (.slice (some ⟨ft9, 0, none⟩) n c9) := cell_at HX11.out.blk 3
      go_simp
      refine hK _ _ (cell_at HP11.out 0) (fun hHeld => ?_)
      clear hK K e2 e3
      try simp only [Act.put, List.setIfInBounds_toArray, List.set_cons_zero, List.set_cons_succ]
      refine wpAnyH_ready (rs := [5]) (by kernel_rfl) (by simp) ?_
      refine AllReadyH.cons (by (simp only [List.getElem?_toArray, List.getElem?_cons_succ, List.getElem?_cons_zero]); rfl) (fun K hK => ?_) AllReadyH.nil
      go_simp
      have HTG : Hid (TagsIn W10.drew (some ⟨ft9, 0, none⟩) n c9 ft9 0 s1.T) := Lib.hid (by
        obtain ⟨a', c', he, ht⟩ := tags_row HX11.out.tg (fun j hj => HI1.out.tok j hj)
        injection he with e1 e2 e3
        subst e1 e3
        exact ht)
      go_fit (vreb_ok V2 ft9 n c9 s1.T _ HTG.out HN8.out H0.out HV2.out)
      rintro e W12 ⟨ft12, c12, rfl, hr12, hg12, hB12⟩
      have HX12 := Lib.hid (HX11.out.step hB12)
      have HP12 := Lib.hid (HP11.out.step hB12)
      have HF12 := Lib.hid (HF11.out.trans (Fr.of_below hB12) (by simp))
      have HR12 := Lib.hid hr12
      have HT12 : Hid (M ≤ ft12 ∧ w.heap.size ≤ ft12) := Lib.hid ⟨Nat.le_trans HX11.out.size hg12, Nat.le_trans HF11.out.size hg12⟩
      clear hr12 hg12 hB12 HTG
      go_wp2_with fail
      refine hK.out _ _ (cell_at HP12.out 0) (fun hHeld => ?_)
      clear hK K
      try simp only [Act.put, List.setIfInBounds_toArray, List.set_cons_zero, List.set_cons_succ]
      ((refine wpAnyH_take (i := 6) (v := ?_) (by (simp only [List.getElem?_toArray, List.getElem?_cons_succ, List.getElem?_cons_zero]); rfl) (by kernel_rfl) (by kernel_rfl) (by kernel_rfl) (by exact fun _ _ _ h => h) (Or.inl ⟨by rfl, ?_⟩) (by assumption) ?_); rotate_left; focus (intro wS hSw; (try dsimp only at hSw); go_simp; first | done | with_reducible rfl); try simp only [Act.put, List.setIfInBounds_toArray, List.set_cons_zero, List.set_cons_succ])
      ((refine wpAnyH_take (i := 7) (v := ?_) (by (simp only [List.getElem?_toArray, List.getElem?_cons_succ, List.getElem?_cons_zero]); rfl) (by kernel_rfl) (by kernel_rfl) (by kernel_rfl) (by exact fun _ _ _ h => h) (Or.inl ⟨by rfl, ?_⟩) (by assumption) ?_); rotate_left; focus (intro wS hSw; (try dsimp only at hSw); go_simp; first | done | with_reducible rfl); try simp only [Act.put, List.setIfInBounds_toArray, List.set_cons_zero, List.set_cons_succ])
      refine wpAnyH_ready (rs := [8]) (by kernel_rfl) (by simp) ?_
      refine AllReadyH.cons (by (simp only [List.getElem?_toArray, List.getElem?_cons_succ, List.getElem?_cons_zero]); rfl) (fun K hK => ?_) AllReadyH.nil
      obtain ⟨V3, hV3⟩ : ∃ V3, V3 = reV V2 := ⟨_, rfl⟩
      rw [← hV3]
      have g2 : W12.cell? ⟨g, 2, none⟩ = some (.int .i64 V2) := cell_at HX12.out.blk 2
      have g3 : W12.cell? ⟨g, 3, none⟩ = some (.slice (some ⟨ft9, 0, none⟩) n c9) := cell_at HX12.out.blk 3
      have gz : ∀ j, W12.frozen? ⟨g, j, none⟩ = false := fun j => free_at HX12.out.blk j
      have gl : g < W12.heap.size := HX12.out.blk.lt
      generalize hW13' : (W12.setCell ⟨g, 2, none⟩ (.int .i64 V3)).setCell ⟨g, 3, none⟩ (.slice (some ⟨ft12, 0, none⟩) n c12) = W13
      have hW13 := hW13'.symm
      clear hW13'
      obtain ⟨hx13, hf13⟩ := HX12.out.vt HR12.out HT12.out.1 hW13
      have HX13 := Lib.hid hx13
      have HF13 := Lib.hid (HF12.out.trans hf13 (by simp))
      have HP13 := Lib.hid (show Blk W13 N #[.pointer (some ⟨g, 0, none⟩)] 62 from (hf13.block N HP12.out.lt (by simpa using HNG.out.1)).trans HP12.out)
      have HV3 := Lib.hid hV3
      clear hx13 hf13 hV3
      go_simp
      rw [← hW13]
      refine hK _ _ (cell_at HP13.out 0) (fun hHeld => ?_)
      clear hK K hW13 g2 g3 gz gl
      try simp only [Act.put, List.setIfInBounds_toArray, List.set_cons_zero, List.set_cons_succ]
      refine wpAnyH_done (by kernel_rfl) ?_ _
      try simp only [Act.put, List.setIfInBounds_toArray, List.set_cons_zero, List.set_cons_succ]
      clear HX12 HP12 HF12 HR12 HX11 HP11 HF11
      have f0 : W13.cell? ⟨N, 0, none⟩ = some (.pointer (some ⟨g, 0, none⟩)) := cell_at HP13.out 0
      have g0 : W13.cell? ⟨g, 0, none⟩ = some (.slice (some ⟨fo, 0, none⟩) n c1) := cell_at HX13.out.blk 0
      obtain ⟨_, _, z2, zz⟩ := HX13.out.fl.cell HKL.out
      have zl := HX13.out.fl.lt
      obtain ⟨W14, hW14⟩ : ∃ W, W = W13.setCell ⟨fo, k * 3 + 2, none⟩ (.bool true) := ⟨_, rfl⟩
      obtain ⟨hx14, hf14⟩ := HX13.out.sv1 HKL.out hW14
      have HX14 : Hid (FrAt W14 M g fo ft12 n c1 c12 wt al (pkS n wt al (hsz E) s)) := Lib.hid (by
        rw [HSN.out, takeS_re, ← HVV.out, ← HV3.out]
        exact hx14)
      have HF14 := Lib.hid (HF13.out.trans hf14 (by simp))
      have HRES : Hid (kI (pkK n wt al (hsz E) s) = (k : Int) ∧ (pkK n wt al (hsz E) s).isSome = true) := Lib.hid (by rw [HKN.out]; exact ⟨rfl, rfl⟩)
      clear hx14 hf14
      go_upto_region 12 with fail
      rw [← hW14]
      clear hW14 f0 g0 z2 zz zl
      go_wp2_with fail
      exact bodyPost_ret (v := .tuple #[.int .i64 k, .bool true]) (by simp [results, Try.results28, go_sem]) rfl ⟨by rw [HRES.out.1, HRES.out.2], ⟨_, _, HX14.out, HF14.out, .inr HT12.out.2⟩⟩
end Go.Proofs.Ytoodmocapagapaa
namespace Go.Proofs.Ytoodmocapagapaa
open Go.RowKit
set_option linter.unusedSimpArgs false
set_option linter.unusedVariables false

def flL (wt : Nat → Int) (n : Nat) : List Value := (List.range n).flatMap fun k => [.int .u8 (wt k), .int .u16 0, .bool false]
theorem flL_succ (wt : Nat → Int) (n : Nat) : flL wt (n + 1) = flL wt n ++ [.int .u8 (wt n), .int .u16 0, .bool false] := by simp [flL, List.range_succ, List.flatMap_append]
theorem flL_len (wt : Nat → Int) : ∀ n : Nat, (flL wt n).length = n * 3
  | 0 => by simp [flL]
  | n + 1 => by rw [flL_succ, List.length_append, flL_len wt n]; simp; omega
theorem flL_at (wt : Nat → Int) : ∀ (n k j : Nat), k < n → j < 3 → (flL wt n)[k * 3 + j]? = ([.int .u8 (wt k), .int .u16 0, .bool false] : List Value)[j]?
  | 0, _, _, h, _ => by omega
  | n + 1, k, j, h, hj => by
    have hl := flL_len wt n
    rw [flL_succ]
    by_cases hk : k < n
    · rw [List.getElem?_append_left (by omega)]
      exact flL_at wt n k j hk hj
    · obtain rfl : k = n := by omega
      rw [List.getElem?_append_right (by omega), hl]
      congr 1
      omega
theorem flInfo : (Try.prog.info? 112).map (fun i => (i.zero, i.size, i.bytes)) = some (some (.agg #[.int .u8 0, .int .u16 0, .bool false]), 3, 6) := by kernel_rfl
def sumW (wt : Nat → Int) : Nat → Int
  | 0 => 0
  | k + 1 => sumW wt k + wt k
theorem sumW_bd {wt : Nat → Int} : ∀ (n : Nat), (∀ k, k < n → 1 ≤ wt k ∧ wt k ≤ 16) → (n : Int) ≤ sumW wt n ∧ sumW wt n ≤ 16 * n ∧ ∀ k, k < n → wt k ≤ sumW wt n
  | 0, _ => ⟨by simp [sumW], by simp [sumW], fun k h => by omega⟩
  | n + 1, h => by
    obtain ⟨h1, h2, h3⟩ := sumW_bd n (fun k hk => h k (by omega))
    have h4 := h n (by omega)
    refine ⟨by simp only [sumW]; omega, by simp only [sumW]; omega, fun k hk => ?_⟩
    simp only [sumW]
    by_cases hkn : k = n
    · subst hkn; omega
    · have := h3 k (by omega); omega
def s0F : FS := ⟨0, zeroT, fun _ => 0, fun _ => false⟩
theorem inv0 {n : Nat} (h8 : n ≤ 8) : Inv n s0F := ⟨h8, by simp [s0F], fun k _ => ⟨by simp [s0F, zeroT], by simp [s0F, zeroT], by simp [s0F, zeroT], by simp [s0F, zeroT], by simp [s0F], fun _ => by simp [s0F, zeroT]⟩⟩
def okWt (L : List Int) : Prop := 1 ≤ L.length ∧ L.length ≤ 8 ∧ ∀ k, k < L.length → 1 ≤ gI L k ∧ gI L k ≤ 16
theorem okWt.ok {L : List Int} (h : okWt L) : WtOk L.length (gI L) (sumW (gI L) L.length) := by
  obtain ⟨h1, h2, h3⟩ := sumW_bd L.length h.2.2
  exact ⟨fun k hk => ⟨(h.2.2 k hk).1, (h.2.2 k hk).2, h3 k hk⟩, by have := h.2.1; omega⟩
/-- while a scheduler is made -/
structure MkAt (W0 W : World) (g ft n c2 : Nat) (v : Value) (ob : Option Nat) (wt : Nat → Int) (k : Nat) : Prop where
  blk : Blk W g #[v, .int .i64 (sumW wt k), .int .i64 0, .slice (some ⟨ft, 0, none⟩) n c2] 101
  row : Row W v ob 112 3 k (flL wt k)
  tg : Row W (.slice (some ⟨ft, 0, none⟩) n c2) (some ft) 129 2 n (tagsL zeroT n)
  b : Below W0.heap.size W0 W
  ge : W0.heap.size ≤ g ∧ W0.heap.size ≤ ft ∧ ∀ q, ob = some q → W0.heap.size ≤ q
theorem MkAt.done {W0 W : World} {g ft n c2 : Nat} {v : Value} {ob : Option Nat} {wt : Nat → Int} (h : MkAt W0 W g ft n c2 v ob wt n) (h0 : 0 < n) : ∃ fo c1, v = .slice (some ⟨fo, 0, none⟩) n c1 ∧ FrAt W W0.heap.size g fo ft n c1 c2 wt (sumW wt n) s0F := by
  obtain ⟨a, c1, rfl, h1, h2, h3⟩ := h.row.shape
  rcases h.row.cases with ⟨_, _, e, _⟩ | ⟨fo, cap, cur, rfl, e2, h4, h5, h6, h7, h8⟩
  · omega
  · injection e2 with e3 e4 e5
    subst e3 e5
    refine ⟨fo, _, rfl, h.blk, ⟨cur, h4, fun k hk => ?_⟩, ⟨h1, h2⟩, h.tg, h.ge.1, h.ge.2.2 fo rfl, h.ge.2.1⟩
    have hc : ∀ j, j < 3 → cur[k * 3 + j]? = ([.int .u8 (wt k), .int .u16 0, .bool false] : List Value)[j]? := fun j hj => by
      obtain ⟨g', eg, hc, _⟩ := h.row.cell (k * 3 + j) (by omega)
      obtain rfl := Option.some.inj eg
      rw [cell_at h4, flL_at wt n k j hk hj] at hc
      exact hc
    exact ⟨hc 0 (by omega), hc 1 (by omega), hc 2 (by omega)⟩
set_option maxRecDepth 100000 in
set_option maxHeartbeats 8000000 in
theorem fnew_any (va : Value) (L : List Int) (w : World) (hv : InV w va L) (h1 : 1 ≤ L.length) (h8 : L.length ≤ 8) :
    Calls Try.prog 36 #[va] w fun e w' => (okWt L ∧ ∃ g fo ft c1 c2, e = .returned (.tuple #[.pointer (some ⟨g, 0, none⟩), .int .i64 0]) ∧ FrAt w' w.heap.size g fo ft L.length c1 c2 (gI L) (sumW (gI L) L.length) s0F ∧ Below w.heap.size w w') ∨ (¬ okWt L ∧ e = .returned (.tuple #[.pointer none, .int .i64 2]) ∧ Below w.heap.size w w') := by
  obtain ⟨xa, n, xc, rfl, HN, m1, m2⟩ := hv.sh
  have hn : n = L.length := HN.out
  rw [← hn] at h1 h8 ⊢
  have HV := Lib.hid hv
  have NW := Lib.hid (new_good n w h1 h8)
  have HN1 := Lib.hid h1
  have HN8 := Lib.hid h8
  have HLN := Lib.hid hn
  obtain ⟨wt, hwt⟩ : ∃ f, f = gI L := ⟨_, rfl⟩
  have HWT := Lib.hid hwt
  rw [← hwt]
  have HP : Hid (∀ (P : Prop), (P ↔ okWt L) → P = okWt L) := Lib.hid (fun P h => propext h)
  obtain ⟨OK, hOK⟩ : ∃ P, P = okWt L := ⟨_, rfl⟩
  have HOK : Hid (OK ↔ ∀ k, k < n → 1 ≤ wt k ∧ wt k ≤ 16) := Lib.hid (by rw [hOK, hwt, hn]; unfold okWt; rw [← hn]; exact ⟨fun h => h.2.2, fun h => ⟨h1, h8, h⟩⟩)
  rw [← hOK]
  clear hv hn hwt hOK h1 h8 HP
  go_enter Try.func36, Try.ntmps36
  go_wp2_with fail
  go_at_call 59
  go_fit (NW.out)
  rintro e W1 ⟨v, rfl, hvo⟩
  obtain ⟨ft, c2, rfl, hr1, hg1, hB1⟩ := vout_own hvo (by have := HN1.out; omega)
  obtain ⟨TB, hTB⟩ : ∃ N, N = W1.heap.size := ⟨_, rfl⟩
  obtain ⟨W2, hW2⟩ : ∃ W, W = W1.alloc (.cells #[.int .i64 0, .slice (some ⟨ft, 0, none⟩) n c2] 99) := ⟨_, rfl⟩
  have hB2 : Below W1.heap.size W1 W2 := by rw [hW2]; exact alloc_b _ _
  have hk2 : Blk W2 TB #[.int .i64 0, .slice (some ⟨ft, 0, none⟩) n c2] 99 := by rw [hW2, hTB]; exact blk_new _ _ _
  have e0 : W2.cell? ⟨TB, 0, none⟩ = some (.int .i64 0) := cell_at hk2 0
  have e1 : W2.cell? ⟨TB, 1, none⟩ = some (.slice (some ⟨ft, 0, none⟩) n c2) := cell_at hk2 1
  have HR2 := Lib.hid (hr1.congr (w' := W2) fun q e => by obtain rfl := Option.some.inj e; exact hB2.block _ hr1.lt)
  have HB2 := Lib.hid (hB1.trans (hB2.mono hB1.size))
  have HG2 := Lib.hid hg1
  clear hvo hr1 hg1 hB1 hB2 hk2 NW
  go_upto_region 2 with fail
  rw [← hTB, ← hW2]
  clear hTB hW2
  obtain ⟨g, hg⟩ : ∃ N, N = W2.heap.size := ⟨_, rfl⟩
  obtain ⟨W3, hW3⟩ : ∃ W, W = W2.alloc (.cells #[.slice none 0 0, .int .i64 0, .int .i64 0, .slice (some ⟨ft, 0, none⟩) n c2] 101) := ⟨_, rfl⟩
  have hB3 : Below W2.heap.size W2 W3 := by rw [hW3]; exact alloc_b _ _
  have HMK := Lib.hid (show MkAt w W3 g ft n c2 (.slice none 0 0) none wt 0 from ⟨by rw [hW3, hg]; exact blk_new _ _ _, Row.nil _ _ _, HR2.out.congr fun q e => by obtain rfl := Option.some.inj e; exact hB3.block _ HR2.out.lt, HB2.out.trans (hB3.mono HB2.out.size), by rw [hg]; exact HB2.out.size, HG2.out, fun q e => by cases e⟩)
  clear hB3 HR2 HB2 HG2
  go_upto_region 5 with fail
  rw [← hg, ← hW3]
  clear hg hW3 e0 e1
  obtain ⟨i0, hi, hz0, hz1, hz2⟩ := info_parts flInfo
  have HI := Lib.hid hi
  have HZ0 := Lib.hid hz0
  have HZ1 := Lib.hid hz1
  have HZ2 := Lib.hid hz2
  clear hi hz0 hz1 hz2
  go_wp2_with fail
  go_loopw [8, 23] (fun _ i wr => ∃ (k : Nat) (v : Value) (ob : Option Nat), k ≤ n ∧ i = .int .i64 k ∧ (∀ j, j < k → 1 ≤ wt j ∧ wt j ≤ 16) ∧ MkAt w wr g ft n c2 v ob wt k) (fun _ i _ => n - (intOf i).toNat)
  case atStart => exact ⟨0, _, none, Nat.zero_le _, rfl, (fun j h => by omega), HMK.out⟩
  case round =>
    clear HMK
    obtain ⟨k, v, ob, hk, rfl, hok, hmk⟩ := hrel
    have HMK := Lib.hid hmk
    have HO := Lib.hid hok
    by_cases hlt : k < n
    rotate_left
    · obtain rfl : k = n := by omega
      obtain ⟨fo, c1, rfl, hfr⟩ := hmk.done (by have := HN1.out; omega)
      have HFR := Lib.hid hfr
      clear hmk hok hfr
      go_wp2_with fail
      refine bodyPost_ret (v := .tuple #[.pointer (some ⟨g, 0, none⟩), .int .i64 0]) (by simp [results, Try.results36, go_sem]) rfl (.inl ⟨HOK.out.2 HO.out, g, fo, ft, c1, c2, rfl, HFR.out, HMK.out.b⟩)
    obtain ⟨gx, ox, y, ea, l1, hy, c0⟩ := (HV.out.below hmk.b).at k hlt
    subst ea
    replace c0 := c0.1
    have hgi : wt k = y := by rw [HWT.out]; unfold gI; rw [hy]; rfl
    have HGI := Lib.hid hgi
    have ww5 : IntKind.i64.wrap ((k : Int) + 1) = (k : Int) + 1 := IntWalk.i64_in _ (by omega)
    have b9 : ((k : Int) < (n : Int)) = True := eq_true (by omega)
    have bk1 : (k < n) = True := eq_true hlt
    have HLT := Lib.hid hlt
    clear hy hgi hok hlt
    by_cases hbad : y < 1 ∨ 16 < y
    · have HNO : Hid (¬ OK) := Lib.hid (fun h => by have := HOK.out.1 h k HLT.out; rw [HGI.out] at this; omega)
      have HBB := Lib.hid hmk.b
      clear hmk
      rcases hbad with hb | hb
      · have d1 : decide (y < 1) = true := decide_eq_true hb
        clear hb
        go_wp2_with fail
        try rw [Exit.noGoto_ret]
        exact bodyPost_ret (v := .tuple #[.pointer none, .int .i64 2]) (by simp [results, Try.results36, go_sem]) rfl (.inr ⟨HNO.out, rfl, HBB.out⟩)
      · have d1 : decide (y < 1) = false := decide_eq_false (by omega)
        have d2 : decide (16 < y) = true := decide_eq_true hb
        clear hb
        go_wp2_with fail
        try rw [Exit.noGoto_ret]
        exact bodyPost_ret (v := .tuple #[.pointer none, .int .i64 2]) (by simp [results, Try.results36, go_sem]) rfl (.inr ⟨HNO.out, rfl, HBB.out⟩)
    have hyb : 1 ≤ y ∧ y ≤ 16 := by omega
    have HYB := Lib.hid hyb
    have d1 : decide (y < 1) = false := decide_eq_false (by omega)
    have d2 : decide (16 < y) = false := decide_eq_false (by omega)
    have wy : IntKind.u8.wrap y = y := IntWalk.u8_in _ (by omega)
    have hsb := sumW_bd k HO.out
    obtain ⟨S, hS⟩ : ∃ S, S = sumW wt k := ⟨_, rfl⟩
    rw [← hS] at hsb
    have ws : IntKind.i64.wrap (S + y) = S + y := IntWalk.i64_in _ (by have := HN8.out; have := HLT.out; omega)
    have HSS : Hid (sumW wt (k + 1) = S + y) := Lib.hid (by rw [hS, ← HGI.out]; rfl)
    obtain ⟨av, cv, rfl, q1, q2, q3⟩ := hmk.row.shape
    have hbk := hmk.blk
    rw [← hS] at hbk
    have g0 : wr.cell? ⟨g, 0, none⟩ = some (.slice av k cv) := cell_at hbk 0
    have hBx : Below wr.heap.size wr (wr.alloc (.cells #[.int .u8 y, .int .u16 0, .bool false] 112)) := alloc_b _ _
    have HKS := Lib.hid (hbk.step hBx)
    have HROW := Lib.hid (hmk.row.congr (w' := wr.alloc (.cells #[.int .u8 y, .int .u16 0, .bool false] 112)) fun q e => by subst e; exact hBx.block q hmk.row.lt)
    have hNB : ∀ q, ob = some q → g ≠ q := fun q e => by have hr := hmk.row; subst e; exact row_blk_ne hr hbk (by decide)
    have hNT : ∀ q, ob = some q → ft ≠ q := fun q e he => by
      have hr := hmk.row
      subst e
      obtain ⟨ct, hct⟩ := blk_row hmk.tg
      exact row_blk_ne hr hct (by decide) he
    have HNB := Lib.hid hNB
    have HNT := Lib.hid hNT
    have HBX := Lib.hid (hmk.b.trans (hBx.mono hmk.b.size))
    have HTG := Lib.hid (hmk.tg.congr (w' := wr.alloc (.cells #[.int .u8 y, .int .u16 0, .bool false] 112)) fun q e => by obtain rfl := Option.some.inj e; exact hBx.block _ hmk.tg.lt)
    have HSZ : Hid (w.heap.size ≤ wr.heap.size) := Lib.hid hmk.b.size
    clear hmk hS hsb hbk hNB hNT hBx hyb hbad q3
    go_wp2_with (at_builtin; refine wpList_append_row _ rfl (.tmp 37) (.tmp 41) 96 rfl 112 i0 _ 3 6 Try.underlying96 HI.out HZ0.out HZ1.out HZ2.out rfl (by decide) _ ob k (flL wt k) rfl HROW.out ⟨wr.heap.size, 0, none⟩ 1 1 [.int .u8 y, .int .u16 0, .bool false] rfl (by decide) rfl ?c1 ?c2 ?c3 ?c4 ?_)
    case c1 =>
      intro q u hu
      have hk9 := blk_new wr #[.int .u8 y, .int .u16 0, .bool false] 112
      rw [addr_add, cell_at hk9, Nat.zero_add, List.getElem?_toArray]
      exact hu
    case c2 => intro u hu; exact (List.all_eq_true (p := fun u : Value => u.oneCell')).1 rfl u hu
    case c3 => have := HN8.out; have := HLT.out; unfold maxLen; omega
    case c4 => have := HN8.out; have := HLT.out; omega
    intro v' ob' W6 hrow4 hg4 hob4
    have hk6 : Blk W6 g #[.slice av k cv, .int .i64 S, .int .i64 0, .slice (some ⟨ft, 0, none⟩) n c2] 101 := (hg4.block g HKS.out.lt (fun e => HNB.out g e.symm rfl)).trans HKS.out
    have g0 : W6.cell? ⟨g, 0, none⟩ = some (.slice av k cv) := cell_at hk6 0
    have gz : ∀ j, W6.frozen? ⟨g, j, none⟩ = false := fun j => free_at hk6 j
    have gl : g < W6.heap.size := hk6.lt
    have htg6 := HTG.out.congr (w' := W6) fun q e => by obtain rfl := Option.some.inj e; exact hg4.block _ HTG.out.lt (fun e => HNT.out ft e.symm rfl)
    have hob6 : w.heap.size ≤ ob' := by
      rcases hob4 with h | h
      · exact HMK.out.ge.2.2 _ h
      · have := HSZ.out; first | omega | (simp at h; omega)
    have hB6 : Below w.heap.size w W6 := HBX.out.grown hg4 (by have := HSZ.out; first | omega | (simp; omega)) (fun q e => HMK.out.ge.2.2 q e)
    have hne6 : g ≠ ob' := row_blk_ne hrow4 hk6 (by decide)
    obtain ⟨av6, cv6, rfl, h61, h62, h63⟩ := hrow4.shape
    obtain ⟨W7, hW7⟩ : ∃ X, X = W6.setCell ⟨g, 0, none⟩ (.slice av6 (k + 1) cv6) := ⟨_, rfl⟩
    have hk7 : Blk W7 g #[.slice av6 (k + 1) cv6, .int .i64 S, .int .i64 0, .slice (some ⟨ft, 0, none⟩) n c2] 101 := by rw [hW7]; exact hk6.set 0 _
    have s1 : W7.cell? ⟨g, 1, none⟩ = some (.int .i64 S) := cell_at hk7 1
    have sz : ∀ j, W7.frozen? ⟨g, j, none⟩ = false := fun j => free_at hk7 j
    have sl : g < W7.heap.size := hk7.lt
    obtain ⟨W8, hW8⟩ : ∃ X, X = W7.setCell ⟨g, 1, none⟩ (.int .i64 (S + y)) := ⟨_, rfl⟩
    have hf8 : Fr [g] W6 W8 := by rw [hW8, hW7]; exact ((Fr.refl _ _).setCell _ (.inl (by simp)) _).setCell _ (.inl (by simp)) _
    have htn : ft ≠ g := by
      rintro rfl
      obtain ⟨ct, hct⟩ := blk_row htg6
      have := hct.symm.trans hk6
      injection this with e'
      injection e' with _ e2
      revert e2
      decide
    have HMK8 := Lib.hid (show MkAt w W8 g ft n c2 (.slice av6 (k + 1) cv6) (some ob') wt (k + 1) from ⟨by rw [HSS.out, hW8]; exact hk7.set 1 _, by
      rw [flL_succ, HGI.out]
      exact hrow4.congr fun q e => by obtain rfl := Option.some.inj e; exact hf8.block _ hrow4.lt (by simpa using fun e => hne6 e.symm), htg6.congr fun q e => by obtain rfl := Option.some.inj e; exact hf8.block _ htg6.lt (by simpa using htn), hB6.trans (hf8.below hB6.size (by simp; exact HMK.out.ge.1)), HMK.out.ge.1, HMK.out.ge.2.1, fun q e => by obtain rfl := Option.some.inj e; exact hob6⟩)
    clear hk6 htg6 hob6 hB6 hne6 hk7 hf8 htn h63 hrow4 hg4 hob4
    go_upto_region 11 with fail
    rw [← hW7]
    clear hW7 g0 gz gl
    go_upto_region 12 with fail
    rw [← hW8]
    clear hW8 s1 sz sl
    go_wp2_with fail
    go_roundw
    case rel => exact ⟨k + 1, _, some ob', by have := HLT.out; omega, by go_num, (fun j hj => by
      by_cases hjk : j = k
      · subst hjk; rw [HGI.out]; exact HYB.out
      · exact HO.out j (by omega)), HMK8.out⟩
    case measure => (have h8 := HLT.out; first | (simp [intOf]; done) | (simp [intOf]; omega))
end Go.Proofs.Ytoodmocapagapaa
namespace Go.Proofs.Ytoodmocapagapaa
open Go.RowKit
set_option linter.unusedSimpArgs false
set_option linter.unusedVariables false

/-- rows of rows of ints in memory -/
structure QIn (W : World) (a : Option Addr) (len cap b o : Nat) (vs : Nat → Value) (Q : Nat → List Int) : Prop where
  le : len ≤ cap
  max : cap ≤ maxLen
  at_ : 0 < len → a = some ⟨b, o, none⟩ ∧ b < W.heap.size
  cell : ∀ k, k < len → W.cell? ⟨b, o + k, none⟩ = some (vs k)
  inv : ∀ k, k < len → InV W (vs k) (Q k)
theorem QIn.below {W W' : World} {a : Option Addr} {len cap b o : Nat} {vs : Nat → Value} {Q : Nat → List Int} (h : QIn W a len cap b o vs Q) (hB : Below W.heap.size W W') : QIn W' a len cap b o vs Q :=
  ⟨h.le, h.max, fun hk => ⟨(h.at_ hk).1, by have := (h.at_ hk).2; have := hB.size; omega⟩, fun k hk => (hB.cell (p := ⟨b, _, none⟩) (h.at_ (by omega)).2).trans (h.cell k hk), fun k hk => (h.inv k hk).below hB⟩
theorem q_cells (W : World) {a : Option Addr} {len cap : Nat} {xs : List Dt} (h : SliceFits Try.prog W 76 a len cap xs) : ∃ (b o : Nat) (vs : Nat → Value) (Q : Nat → List Int), QIn W a len cap b o vs Q := by
  have hc : Try.prog.cellsOf 76 = 1 := by kernel_rfl
  obtain ⟨b, o, h1, h2⟩ := h.spot (by rw [hc]; omega)
  have hex : ∀ k, ∃ q : Value × List Int, k < len → W.cell? ⟨b, o + k, none⟩ = some q.1 ∧ InV W q.1 q.2 := fun k => by
    by_cases hk : k < len
    · have hl := h.length
      have hx := List.getElem?_eq_getElem (l := xs) (i := k) (by omega)
      obtain ⟨a1, n1, c1, ys, e0, f0⟩ := (h.each k _ hx).1.slice_inv Try.underlying76
      obtain ⟨L, _, hL⟩ := inv_cells W f0
      have hcell := h2 k _ hx
      rw [e0, hc] at hcell
      exact ⟨(.slice a1 n1 c1, L), fun _ => ⟨by have := hcell 0 _ rfl; rwa [Nat.mul_one] at this, hL⟩⟩
    · exact ⟨(.slice none 0 0, []), fun h => absurd h hk⟩
  have hg := fun k => Classical.choose_spec (hex k)
  exact ⟨b, o, fun k => (Classical.choose (hex k)).1, fun k => (Classical.choose (hex k)).2, h.le, h.max, h1, fun k hk => (hg k hk).1, fun k hk => (hg k hk).2⟩
/-- heads of queues of which so many went -/
def hdQ (Q : Nat → List Int) (at_ : Nat → Nat) (k : Nat) : Int := gI (Q k) (at_ k)
theorem gI_out {L : List Int} {k : Nat} (h : L.length ≤ k) : gI L k = 0 := by unfold gI; rw [List.getElem?_eq_none h]; rfl
def runF (n : Nat) (wt : Nat → Int) (al : Int) (Q : Nat → List Int) : Nat → FS → (Nat → Nat) → List Nat
  | 0, _, _ => []
  | f + 1, s, at_ => match pkK n wt al (hdQ Q at_) s with
    | none => []
    | some k => k :: runF n wt al Q f (pkS n wt al (hdQ Q at_) s) (upf at_ k (at_ k + 1))
def totQ (Q : Nat → List Int) : Nat → Nat
  | 0 => 0
  | k + 1 => totQ Q k + (Q k).length
def leftQ (Q : Nat → List Int) (at_ : Nat → Nat) : Nat → Nat
  | 0 => 0
  | k + 1 => leftQ Q at_ k + ((Q k).length - at_ k)
theorem leftQ_zero (Q : Nat → List Int) : ∀ n, leftQ Q (fun _ => 0) n = totQ Q n
  | 0 => rfl
  | n + 1 => by simp only [leftQ, totQ, leftQ_zero Q n]; omega
theorem leftQ_none {Q : Nat → List Int} {at_ : Nat → Nat} : ∀ {n : Nat}, (∀ k, k < n → (Q k).length ≤ at_ k) → leftQ Q at_ n = 0
  | 0, _ => rfl
  | n + 1, h => by simp only [leftQ, leftQ_none (n := n) (fun k hk => h k (by omega))]; have := h n (by omega); omega
theorem leftQ_ge {Q : Nat → List Int} {at_ : Nat → Nat} {k m : Nat} (hk : m ≤ k) : leftQ Q (upf at_ k (at_ k + 1)) m = leftQ Q at_ m := by
  induction m with
  | zero => rfl
  | succ m ih => simp only [leftQ]; rw [ih (by omega), upf_ne _ _ (by omega)]
theorem leftQ_up {Q : Nat → List Int} {at_ : Nat → Nat} {k : Nat} (h : at_ k < (Q k).length) : ∀ {n : Nat}, k < n → leftQ Q (upf at_ k (at_ k + 1)) n + 1 = leftQ Q at_ n
  | 0, hk => by omega
  | n + 1, hk => by
    simp only [leftQ]
    by_cases hkn : k = n
    · subst hkn
      rw [leftQ_ge (Nat.le_refl _), upf_at]
      omega
    · rw [upf_ne _ _ (fun e => hkn e.symm)]
      have := leftQ_up (n := n) h (by omega)
      omega
def okQ (Q : Nat → List Int) (n : Nat) : Prop := totQ Q n ≤ 1000 ∧ ∀ k, k < n → ∀ x ∈ Q k, 1 ≤ x ∧ x ≤ 1500
theorem okQ.hd {Q : Nat → List Int} {n : Nat} (h : okQ Q n) (at_ : Nat → Nat) : okHd (hdQ Q at_) n := by
  intro k hk
  unfold hdQ
  by_cases hl : at_ k < (Q k).length
  · have := h.2 k hk _ (List.mem_of_getElem? (gI_lt hl)); omega
  · rw [gI_out (by omega)]; omega
theorem okQ.pos {Q : Nat → List Int} {n : Nat} (h : okQ Q n) (at_ : Nat → Nat) {k : Nat} (hk : k < n) : 0 < hdQ Q at_ k ↔ at_ k < (Q k).length := by
  unfold hdQ
  by_cases hl : at_ k < (Q k).length
  · have := h.2 k hk _ (List.mem_of_getElem? (gI_lt hl))
    exact ⟨fun _ => hl, fun _ => by omega⟩
  · rw [gI_out (by omega)]; exact ⟨fun h => by omega, fun h => absurd h hl⟩
theorem totQ_mono (Q : Nat → List Int) : ∀ {k n : Nat}, k ≤ n → totQ Q k ≤ totQ Q n
  | k, 0, h => by have : k = 0 := by omega
                  subst this; exact Nat.le_refl _
  | k, n + 1, h => by
    by_cases hk : k = n + 1
    · subst hk; exact Nat.le_refl _
    · have := totQ_mono Q (k := k) (n := n) (by omega); simp only [totQ]; omega
end Go.Proofs.Ytoodmocapagapaa
namespace Go.Proofs.Ytoodmocapagapaa
open Go.RowKit
set_option linter.unusedSimpArgs false
set_option linter.unusedVariables false

theorem in_grow {W : World} {M b : Nat} {ty : TypeId} {v : Value} {ob : Option Nat} {L : List Int} {x : Int} (h : InO M W v ob L) (hb : Blk W b #[.int .i64 x] 3) (ho : -9223372036854775808 ≤ x ∧ x ≤ 9223372036854775807) (hM : M ≤ W.heap.size) (hn : L.length ≤ 1000000) :
    ∃ v' ob' w', (Builtin.append_ #[76, 76] ty #[v, .slice (some ⟨b, 0, none⟩) 1 1]).run Try.prog W = .ok v' w' ∧ InO M w' v' (some ob') (L ++ [x]) ∧ W.grownBy w' ob ∧ (ob = some ob' ∨ ob' = W.heap.size) ∧ Below M W w' := by
  obtain ⟨r1, r4, r5⟩ := h
  obtain ⟨i0, hi, hz0, hz1, hz2⟩ := info_parts inZero
  obtain ⟨v', ob', w', hrun, s1, s2, s3⟩ := run_append_row (P := Try.prog) W 76 ty 3 i0 _ 1 8 Try.underlying76 hi hz0 hz1 hz2 rfl (by decide) v ob L.length (inL L) r1 ⟨b, 0, none⟩ 1 1 (inL [x]) (by decide) rfl (fun j u hu => by
    rw [addr_add, cell_at hb]
    have hj : j < 1 := (List.getElem?_eq_some_iff.1 hu).1
    obtain rfl : j = 0 := by omega
    simpa [inL] using hu) (inL_ones _) (by unfold maxLen; omega) (by omega)
  refine ⟨v', ob', w', hrun, ⟨by rw [List.length_append, inL_append]; exact s1, fun y hy => ?_, fun g e => ?_⟩, s2, s3, (Below.refl M W).grown s2 hM r5⟩
  · rcases List.mem_append.1 hy with h | h
    · exact r4 y h
    · simp at h; subst h; exact ho
  · obtain rfl := Option.some.inj e
    rcases s3 with h | h
    · exact r5 _ h
    · omega

def vsL (vq : Nat → Value) (n : Nat) : List Value := (List.range n).map vq
theorem vsL_len (vq : Nat → Value) (n : Nat) : (vsL vq n).length = n := by simp [vsL]
theorem vsL_at (vq : Nat → Value) {n k : Nat} (hk : k < n) : (vsL vq n)[k]? = some (vq k) := by simp [vsL, hk]
theorem vsL_set (vq : Nat → Value) {n k : Nat} (x : Value) : (vsL vq n).set k x = vsL (upf vq k x) n := by
  apply List.ext_getElem?
  intro i
  rw [List.getElem?_set]
  by_cases hi : i < n
  · by_cases hk : k = i
    · subst hk
      rw [if_pos rfl, if_pos (by rw [vsL_len]; exact hi), vsL_at _ hi, upf_at]
    · rw [if_neg hk, vsL_at _ hi, vsL_at _ hi, upf_ne _ _ (fun e => hk e.symm)]
  · rw [List.getElem?_eq_none (l := vsL (upf vq k x) n) (by rw [vsL_len]; omega), List.getElem?_eq_none (l := vsL vq n) (by rw [vsL_len]; omega), vsL_len]
    split
    · rw [if_neg (by omega)]
    · rfl
theorem sliInfo : (Try.prog.info? 76).map (fun i => (i.zero, i.size, i.bytes)) = some (some (.slice none 0 0), 1, 24) := by kernel_rfl
theorem inv_cell1 {W : World} {v : Value} {L : List Int} (h : InV W v L) : v.oneCell' = true := by
  obtain ⟨a, n, c, rfl, _⟩ := h.sh
  rfl
def QClP (w : World) (n : Nat) (vq : Nat → Value) (r : Ending) (w' : World) : Prop := ∃ a c ob, r = .returned (.slice a n c) ∧ Row w' (.slice a n c) ob 76 1 n (vsL vq n) ∧ Below w.heap.size w w' ∧ ∀ g, ob = some g → w.heap.size ≤ g
theorem sizeIn : ∀ W : World, (sizeOf (Try.prog.elem 76)).run Try.prog W = .ok 1 W := fun W => by kernel_rfl
theorem elemIn : Try.prog.underlying 76 = some (.slice (Try.prog.elem 76)) := by kernel_rfl
def tailA (a : Option Addr) (c : Nat) : Option Addr := if c = 1 then a else a.map (·.add (1 * 1))
theorem inv_tail {W : World} {a : Option Addr} {ln c : Nat} {L : List Int} (h : InV W (.slice a ln c) L) (hl : 1 ≤ ln) :
    (∀ W' : World, (Instr.slice 76 (.slice a ln c) (some (.int .i64 1)) none none).run Try.prog W' = .ok (.slice (tailA a c) (ln - 1) (c - 1)) W') ∧ InV W (.slice (tailA a c) (ln - 1) (c - 1)) (L.drop 1) := by
  refine ⟨fun W' => ?_, ?_⟩
  · rw [run_slice_l W' 76 a ln c elemIn .i64 1 (by omega) (by omega), sizeIn]
    rfl
  · obtain ⟨a', b, o, c', e, h1⟩ := h
    injection e with e1 e2 e3
    subst e1 e2 e3
    have hll : (L.drop 1).length = L.length - 1 := by simp
    refine ⟨tailA a c, b, o + 1, c - 1, by rw [hll], by rw [hll]; have := h1.le; omega, by have := h1.max; omega, fun h0 => ?_, fun k hk => ?_, fun k hk => ?_⟩
    · rw [hll] at h0
      obtain ⟨ea, hb⟩ := h1.at_ (by omega)
      refine ⟨?_, hb⟩
      unfold tailA
      rw [if_neg (by have := h1.le; omega), ea]
      show some ((⟨b, o, none⟩ : Addr).add (1 * 1)) = _
      rw [addr_add]
    · rw [hll] at hk
      have := h1.cell (k + 1) (by omega)
      rw [show o + 1 + k = o + (k + 1) by omega, this]
      unfold gI
      rw [List.getElem?_drop, Nat.add_comm 1 k]
    · rw [hll] at hk
      have := h1.bd (k + 1) (by omega)
      have e : gI (L.drop 1) k = gI L (k + 1) := by unfold gI; rw [List.getElem?_drop, Nat.add_comm 1 k]
      rw [e]
      exact this
/-- heads of the call's own -/
structure HeAt (W : World) (HB n : Nat) (m : Nat → Int) : Prop where
  ex : ∃ cs, Blk W HB cs 104 ∧ ∀ k, k < n → cs[k * 2]? = some (.int .i64 (m k)) ∧ cs[k * 2 + 1]? = some (.int .i64 0)
theorem hdInfo : (Try.prog.info? 104).map (fun i => (i.zero, i.size, i.bytes)) = some (some (.agg #[.int .i64 0, .int .i64 0]), 2, 16) := by kernel_rfl
theorem make_heads (k : Nat) (h8 : k ≤ 8) (w : World) : (Instr.makeSlice 69 (.int .i64 (k : Int)) (.int .i64 (k : Int))).run Try.prog w = .ok (.slice (some ⟨w.heap.size, 0, none⟩) k k) (w.alloc (.cells (madeCells (Value.agg #[.int .i64 0, .int .i64 0]).cells (k * 2)) 104)) := by
  obtain ⟨i0, hi, hz0, hz1, hz2⟩ := info_parts hdInfo
  have hr := run_makeSlice (P := Try.prog) w 69 104 i0 _ Try.underlying69 hi hz0 .i64 .i64 k k (by omega) (Int.le_refl _) (by rw [hz1]; simp; omega) (by rw [hz2]; omega) (by omega)
  rw [hz1] at hr
  simpa only [Int.toNat_natCast] using hr
theorem made_at (n j : Nat) (hj : j < n * 2) : (madeCells (Value.agg #[.int .i64 0, .int .i64 0]).cells (n * 2))[j]? = some (.int .i64 0) := by
  rcases (show j % 2 = 0 ∨ j % 2 = 1 by omega) with e | e
  · simp [madeCells, hj, e, Value.cells]
  · simp [madeCells, hj, e, Value.cells]
theorem HeAt.new (w : World) (n : Nat) : HeAt (w.alloc (.cells (madeCells (Value.agg #[.int .i64 0, .int .i64 0]).cells (n * 2)) 104)) w.heap.size n (fun _ => 0) :=
  ⟨_, blk_new _ _ _, fun k hk => ⟨made_at n _ (by omega), made_at n _ (by omega)⟩⟩
theorem HeAt.lt {W : World} {HB n : Nat} {m : Nat → Int} (h : HeAt W HB n m) : HB < W.heap.size := by obtain ⟨cs, hb, _⟩ := h; exact hb.lt
theorem HeAt.free {W : World} {HB n : Nat} {m : Nat → Int} (h : HeAt W HB n m) (j : Nat) : W.frozen? ⟨HB, j, none⟩ = false := by obtain ⟨cs, hb, _⟩ := h; exact free_at hb j
theorem HeAt.cell {W : World} {HB n : Nat} {m : Nat → Int} (h : HeAt W HB n m) {k : Nat} (hk : k < n) : W.cell? ⟨HB, k * 2, none⟩ = some (.int .i64 (m k)) := by obtain ⟨cs, hb, hc⟩ := h; exact (cell_at hb _).trans (hc k hk).1
theorem HeAt.put {W W' : World} {HB n : Nat} {m : Nat → Int} (h : HeAt W HB n m) {k : Nat} (hk : k < n) (x : Int) (hW : W' = W.setCell ⟨HB, k * 2, none⟩ (.int .i64 x)) : HeAt W' HB n (upf m k x) ∧ Fr [HB] W W' := by
  obtain ⟨cs, hb, hc⟩ := h
  subst hW
  refine ⟨⟨_, hb.set _ _, fun j hj => ?_⟩, (Fr.refl _ _).setCell _ (.inl (by simp)) _⟩
  obtain ⟨c0, c1⟩ := hc j hj
  have hs := (Array.getElem?_eq_some_iff.1 (hc k hk).1).1
  simp only [Array.getElem?_setIfInBounds]
  by_cases hjk : j = k
  · subst hjk
    rw [upf_at]
    exact ⟨by rw [if_pos rfl, if_pos hs], by rw [if_neg (by omega)]; exact c1⟩
  · rw [upf_ne _ _ hjk]
    exact ⟨by rw [if_neg (by omega)]; exact c0, by rw [if_neg (by omega)]; exact c1⟩
theorem HeAt.in_ {W : World} {HB n : Nat} {m : Nat → Int} (h : HeAt W HB n m) (hm : okHd m n) (hn : n ≤ 8) : HdIn W (some ⟨HB, 0, none⟩) n n HB 0 (fun k => ⟨m k, 0⟩) := by
  obtain ⟨cs, hb, hc⟩ := h
  refine ⟨Nat.le_refl _, by unfold maxLen; omega, fun _ => ⟨rfl, hb.lt⟩, fun k hk => ?_, fun k hk => ?_⟩
  · rw [Nat.zero_add]
    exact ⟨(cell_at hb _).trans (hc k hk).1, (cell_at hb _).trans (hc k hk).2⟩
  · have := hm k hk
    simp [HdE.ok]
    omega
theorem HeAt.ty {W W' : World} {HB n : Nat} {m : Nat → Int} (h : HeAt W HB n m) {l : List TypeId} (ht : TyL l W W') (hn : 104 ∉ l) : HeAt W' HB n m := by
  obtain ⟨cs, hb, hc⟩ := h
  exact ⟨cs, ht _ _ _ hb hn, hc⟩
/-- memory of a run between two picks -/
structure RnAt (W0 W : World) (g fo ft n c1 c2 qb qc : Nat) (wt : Nat → Int) (al : Int) (s : FS) (vq : Nat → Value) (v7 : Value) (ob : Option Nat) (Q : Nat → List Int) (at_ : Nat → Nat) (O : List Int) : Prop where
  fr : FrAt W W0.heap.size g fo ft n c1 c2 wt al s
  iv : Inv n s
  qr : Row W (.slice (some ⟨qb, 0, none⟩) n qc) (some qb) 76 1 n (vsL vq n)
  qv : ∀ k, k < n → InV W0 (vq k) ((Q k).drop (at_ k))
  sv : InO W0.heap.size W v7 ob O
  b : Below W0.heap.size W0 W
  qge : W0.heap.size ≤ qb
section
variable {W0 W W' : World} {g fo ft n c1 c2 qb qc : Nat} {wt : Nat → Int} {al : Int} {s : FS} {vq : Nat → Value} {v7 : Value} {ob : Option Nat} {Q : Nat → List Int} {at_ : Nat → Nat} {O : List Int}
theorem row_frT {v : Value} {x : Nat} {e : TypeId} {sz m : Nat} {xs : List Value} {l : List Nat} (h : Row W v (some x) e sz m xs) (hf : Fr l W W') (hl : ∀ q ∈ l, ∃ cs ty, Blk W q cs ty ∧ ty ≠ e) : Row W' v (some x) e sz m xs :=
  h.congr fun q eq => by
    obtain rfl := Option.some.inj eq
    refine hf.block _ h.lt fun hm => ?_
    obtain ⟨cs, ty, hb, ht⟩ := hl _ hm
    exact row_blk_ne h hb ht rfl
theorem ino_frT {M : Nat} {v : Value} {o : Option Nat} {L : List Int} {l : List Nat} (h : InO M W v o L) (hf : Fr l W W') (hl : ∀ q ∈ l, ∃ cs ty, Blk W q cs ty ∧ ty ≠ 3) : InO M W' v o L := by
  refine ⟨?_, h.2⟩
  cases o with
  | none => exact h.1.congr fun q e => by cases e
  | some x => exact row_frT h.1 hf hl
theorem RnAt.step (h : RnAt W0 W g fo ft n c1 c2 qb qc wt al s vq v7 ob Q at_ O) (hB : Below W.heap.size W W') : RnAt W0 W' g fo ft n c1 c2 qb qc wt al s vq v7 ob Q at_ O :=
  ⟨h.fr.step hB, h.iv, row_frT h.qr (Fr.of_below hB) (by simp), h.qv, ino_frT h.sv (Fr.of_below hB) (by simp), h.b.trans (hB.mono h.b.size), h.qge⟩
theorem RnAt.other (h : RnAt W0 W g fo ft n c1 c2 qb qc wt al s vq v7 ob Q at_ O) {x : Nat} {cs : Array Value} {ty : TypeId} (hf : Fr [x] W W') (hb : Blk W x cs ty) (h1 : ty ∉ fTy) (h2 : ty ≠ 76) (h3 : ty ≠ 3) (hx : W0.heap.size ≤ x) : RnAt W0 W' g fo ft n c1 c2 qb qc wt al s vq v7 ob Q at_ O := by
  obtain ⟨n1, n2, n3⟩ := h.fr.ty hb h1
  have hl : ∀ (e : TypeId), ty ≠ e → ∀ q ∈ [x], ∃ cs ty, Blk W q cs ty ∧ ty ≠ e := fun e he q hq => by
    obtain rfl : q = x := by simpa using hq
    exact ⟨_, _, hb, he⟩
  exact ⟨h.fr.fr hf (by simpa using fun e => n1 e.symm) (by simpa using fun e => n2 e.symm) (by simpa using fun e => n3 e.symm), h.iv, row_frT h.qr hf (hl _ h2), h.qv, ino_frT h.sv hf (hl _ h3), h.b.trans (hf.below h.b.size (by simpa using hx)), h.qge⟩
theorem RnAt.pick (h : RnAt W0 W g fo ft n c1 c2 qb qc wt al s vq v7 ob Q at_ O) {s' : FS} (hp : PkP W0.heap.size g fo ft n c1 wt al s' W W') (hi : Inv n s') : ∃ ft' c', RnAt W0 W' g fo ft' n c1 c' qb qc wt al s' vq v7 ob Q at_ O := by
  obtain ⟨ft', c', hf, hr, _⟩ := hp.ex
  obtain ⟨cf, hcf, _⟩ := h.fr.fl
  obtain ⟨ct, hct⟩ := blk_row h.fr.tg
  have hl : ∀ (e : TypeId), e ∉ fTy → ∀ q ∈ [g, fo, ft], ∃ cs ty, Blk W q cs ty ∧ ty ≠ e := fun e he q hq => by
    simp only [List.mem_cons, List.not_mem_nil, or_false] at hq
    rcases hq with rfl | rfl | rfl
    · exact ⟨_, _, h.fr.blk, fun e' => he (by rw [← e']; simp [fTy])⟩
    · exact ⟨_, _, hcf, fun e' => he (by rw [← e']; simp [fTy])⟩
    · exact ⟨_, _, hct, fun e' => he (by rw [← e']; simp [fTy])⟩
  exact ⟨ft', c', hf, hi, row_frT h.qr hr (hl _ (by decide)), h.qv, ino_frT h.sv hr (hl _ (by decide)), h.b.trans (h.fr.frame hr (by simp)).b, h.qge⟩
/-- a queue's first goes -/
theorem RnAt.cut (h : RnAt W0 W g fo ft n c1 c2 qb qc wt al s vq v7 ob Q at_ O) {k : Nat} (hk : k < n) {x : Value} (hx : InV W0 x ((Q k).drop (at_ k + 1))) (hW : W' = W.setCell ⟨qb, k, none⟩ x) : RnAt W0 W' g fo ft n c1 c2 qb qc wt al s (upf vq k x) v7 ob Q (upf at_ k (at_ k + 1)) O := by
  have hf : Fr [qb] W W' := by rw [hW]; exact (Fr.refl _ _).setCell _ (.inl (by simp)) _
  obtain ⟨cq, hcq⟩ := blk_row h.qr
  obtain ⟨n1, n2, n3⟩ := h.fr.ty hcq (by decide)
  refine ⟨h.fr.fr hf (by simpa using fun e => n1 e.symm) (by simpa using fun e => n2 e.symm) (by simpa using fun e => n3 e.symm), h.iv, ?_, fun j hj => ?_, ino_frT h.sv hf (fun q hq => by
    obtain rfl : q = qb := by simpa using hq
    exact ⟨_, _, hcq, by decide⟩), h.b.trans (hf.below h.b.size (by simpa using h.qge)), h.qge⟩
  · have h1 := row_setCell h.qr k x
    rw [← hW, vsL_set] at h1
    exact h1
  · by_cases hjk : j = k
    · subst hjk
      rw [upf_at, upf_at]
      exact hx
    · rw [upf_ne _ _ hjk, upf_ne _ _ hjk]
      exact h.qv j hj
theorem RnAt.serve (h : RnAt W0 W g fo ft n c1 c2 qb qc wt al s vq v7 ob Q at_ O) {W1 : World} {v' : Value} {ob' : Nat} {O' : List Int} (hB : Below W.heap.size W W1) (hi : InO W0.heap.size W' v' (some ob') O') (hg : W1.grownBy W' ob) (hlo : Below W0.heap.size W1 W') : RnAt W0 W' g fo ft n c1 c2 qb qc wt al s vq v' (some ob') Q at_ O' := by
  have h1 := h.step hB
  obtain ⟨cf, hcf, _⟩ := h1.fr.fl
  obtain ⟨ct, hct⟩ := blk_row h1.fr.tg
  obtain ⟨cq, hcq⟩ := blk_row h1.qr
  have ne : ∀ {q : Nat} {cs : Array Value} {ty : TypeId}, Blk W1 q cs ty → ty ≠ 3 → q ∉ ob.toList := fun {q cs ty} hb ht hm => by
    have e : ob = some q := by simpa using hm
    have hr := h1.sv.1
    subst e
    exact row_blk_ne hr hb ht rfl
  have hf : Fr ob.toList W1 W' := ⟨hg.os, hg.tape, hg.output, hg.size, fun i hi hq => hg.block i hi (fun e => hq (by rw [← e]; simp))⟩
  exact ⟨h1.fr.fr hf (ne h1.fr.blk (by decide)) (ne hcf (by decide)) (ne hct (by decide)), h.iv, h1.qr.congr fun q e => by
    obtain rfl := Option.some.inj e
    exact hf.block _ h1.qr.lt (ne hcq (by decide)), h.qv, hi, h1.b.trans hlo, h.qge⟩
end
end Go.Proofs.Ytoodmocapagapaa
namespace Go.Proofs.Ytoodmocapagapaa
open Go.RowKit
set_option linter.unusedSimpArgs false
set_option linter.unusedVariables false

set_option maxRecDepth 100000 in
set_option maxHeartbeats 4000000 in
theorem fnew_len (va : Value) (L : List Int) (w : World) (hv : InV w va L) (hl : L.length < 1 ∨ 8 < L.length) :
    Calls Try.prog 36 #[va] w fun e w' => e = .returned (.tuple #[.pointer none, .int .i64 2]) ∧ Below w.heap.size w w' := by
  obtain ⟨xa, n, xc, rfl, HN, m1, m2⟩ := hv.sh
  have hn : n = L.length := HN.out
  have NW := Lib.hid (new_bad (n : Int) w (by omega))
  clear hn hv hl
  go_enter Try.func36, Try.ntmps36
  go_wp2_with fail
  go_at_call 59
  go_fit (NW.out)
  rintro e W1 ⟨v, rfl, av, cv, ob, rfl, _, _, hB1⟩
  have HB1 := Lib.hid hB1
  clear hB1
  go_wp2_with fail
  exact bodyPost_ret (v := .tuple #[.pointer none, .int .i64 2]) (by simp [results, Try.results36, go_sem]) rfl ⟨rfl, HB1.out.alloc HB1.out.size _⟩
def natL (l : List Nat) : List Int := l.map fun x : Nat => (x : Int)
theorem natL_append (a b : List Nat) : natL (a ++ b) = natL a ++ natL b := by simp [natL]
def slLen : Value → Nat
  | .slice _ n _ => n
  | _ => 0
/-- what a run serves -/
def okRun (L : List Int) (Q : Nat → List Int) (n : Nat) : Prop := okWt L ∧ L.length = n ∧ okQ Q n
def runL (L : List Int) (Q : Nat → List Int) (n : Nat) : List Nat := runF n (gI L) (sumW (gI L) n) Q (totQ Q n + 1) s0F (fun _ => 0)
structure RunP (L : List Int) (Q : Nat → List Int) (n : Nat) (w : World) (v : Value) (w' : World) : Prop where
  ex : ∃ ob R, InO w.heap.size w' v ob R ∧ ((okRun L Q n ∧ R = natL (runL L Q n)) ∨ (¬ okRun L Q n ∧ R = []))
  b : Below w.heap.size w w'
theorem runF_some {n : Nat} {wt : Nat → Int} {al : Int} {Q : Nat → List Int} {f : Nat} {s : FS} {at_ : Nat → Nat} {k : Nat} (h : pkK n wt al (hdQ Q at_) s = some k) : runF n wt al Q (f + 1) s at_ = k :: runF n wt al Q f (pkS n wt al (hdQ Q at_) s) (upf at_ k (at_ k + 1)) := by rw [runF, h]
theorem runF_len {n : Nat} {wt : Nat → Int} {al : Int} {Q : Nat → List Int} (hw : WtOk n wt al) (hq : okQ Q n) : ∀ (f : Nat) {s : FS} {at_ : Nat → Nat}, Inv n s → leftQ Q at_ n < f → (runF n wt al Q f s at_).length = leftQ Q at_ n
  | 0, _, _, _, h => by omega
  | f + 1, s, at_, hi, h => by
    obtain ⟨h1, h2⟩ := inv_pk hw (hq.hd at_) hi
    unfold runF
    cases hp : pkK n wt al (hdQ Q at_) s with
    | none =>
      have := pk_none hp
      simp only [List.length_nil]
      exact (leftQ_none fun k hk => Nat.le_of_not_lt (fun hlt => this k hk ((hq.pos at_ hk).2 hlt))).symm
    | some k =>
      obtain ⟨hk, hz⟩ := h2 k hp
      have hlt := (hq.pos at_ hk).1 hz
      have hu := leftQ_up hlt hk
      simp only [List.length_cons]
      rw [runF_len hw hq f h1 (by omega)]
      omega
end Go.Proofs.Ytoodmocapagapaa
