/-
  What is told of a flow's head: the program.
-/
import Derived.Test.YtnainlemnkfpkaaFa2
namespace Go.Proofs.Ytnainlemnkfpkaa
open Go.RowKit
set_option linter.unusedSimpArgs false
set_option linter.unusedVariables false

theorem next_ok (V : Int) (ft n c2 : Nat) (T : Nat → TagsE) (k : Nat) (m wt al : Int) (w : World) (hs : TagsIn w (some ⟨ft, 0, none⟩) n c2 ft 0 T) (hn : n ≤ 8) (hk : k < n) (hg : goodTag V n T k (costS m wt al) (T k).f = true) :
    Calls Try.prog 40 #[.agg #[.int .i64 V, .slice (some ⟨ft, 0, none⟩) n c2], .int .i64 k, .int .i64 m, .int .i64 wt, .int .i64 al] w fun e w' => ∃ ft' c', e = .returned (.tuple #[.agg #[.int .i64 V, .slice (some ⟨ft', 0, none⟩) n c'], .int .i64 0]) ∧ Row w' (.slice (some ⟨ft', 0, none⟩) n c') (some ft') 80 2 n (tagsL (updT T k ⟨(T k).f, (T k).f + costS m wt al⟩) n) ∧ w.heap.size ≤ ft' ∧ Below w.heap.size w w' := by
  refine (next_any V _ n c2 ft 0 T k m wt al w hs (by omega)).mono fun e w' h => ?_
  unfold TagP at h
  simp only [headF, Int.toNat_natCast] at h
  rw [hg] at h
  obtain ⟨v, rfl, hv⟩ := h
  obtain ⟨ft', c', rfl, h1, h2, h3⟩ := vout_own hv (by omega)
  exact ⟨ft', c', rfl, h1, h2, h3⟩
theorem wake_ok (V : Int) (ft n c2 : Nat) (T : Nat → TagsE) (k : Nat) (m wt al : Int) (w : World) (hs : TagsIn w (some ⟨ft, 0, none⟩) n c2 ft 0 T) (hn : n ≤ 8) (hk : k < n) (hg : goodTag V n T k (costS m wt al) (max (T k).f V) = true) :
    Calls Try.prog 41 #[.agg #[.int .i64 V, .slice (some ⟨ft, 0, none⟩) n c2], .int .i64 k, .int .i64 m, .int .i64 wt, .int .i64 al] w fun e w' => ∃ ft' c', e = .returned (.tuple #[.agg #[.int .i64 V, .slice (some ⟨ft', 0, none⟩) n c'], .int .i64 0]) ∧ Row w' (.slice (some ⟨ft', 0, none⟩) n c') (some ft') 80 2 n (tagsL (updT T k ⟨max (T k).f V, max (T k).f V + costS m wt al⟩) n) ∧ w.heap.size ≤ ft' ∧ Below w.heap.size w w' := by
  refine (wake_any V _ n c2 ft 0 T k m wt al w hs (by omega)).mono fun e w' h => ?_
  unfold TagP at h
  simp only [headF, Int.toNat_natCast] at h
  rw [hg] at h
  obtain ⟨v, rfl, hv⟩ := h
  obtain ⟨ft', c', rfl, h1, h2, h3⟩ := vout_own hv (by omega)
  exact ⟨ft', c', rfl, h1, h2, h3⟩
/-- a flow's tags end where they start -/
theorem FrAt.cut {W W' : World} {M g fo ft n c1 c2 : Nat} {wt : Nat → Int} {al : Int} {s : FS} (h : FrAt W M g fo ft n c1 c2 wt al s) {k : Nat} (hk : k < n) (hW : W' = W.setCell ⟨ft, k * 2 + 1, none⟩ (.int .i64 (s.T k).s)) : FrAt W' M g fo ft n c1 c2 wt al ⟨s.V, updT s.T k ⟨(s.T k).s, (s.T k).s⟩, s.z, s.sv⟩ ∧ BF M W W' ∧ Fr [ft] W W' := by
  have hf : Fr [ft] W W' := by rw [hW]; exact (Fr.refl _ _).setCell _ (.inl (by simp)) _
  have hne := h.ne
  refine ⟨⟨(hf.block g h.blk.lt (by simpa using hne.2.1)).trans h.blk, h.fl.fr hf (by simpa using hne.2.2), h.cp, ?_, h.ge⟩, h.frame hf (by simp), hf⟩
  have h1 := h.tg.set (k * 2 + 1) (.int .i64 (s.T k).s)
  rw [← hW] at h1
  have hl : (tagsL s.T n).set (k * 2 + 1) (.int .i64 (s.T k).s) = tagsL (updT s.T k ⟨(s.T k).s, (s.T k).s⟩) n := by
    rw [← tagsL_upd s.T k _ _ n hk]
    congr 1
    have hg : (tagsL s.T n)[k * 2]? = some (.int .i64 (s.T k).s) := by
      have := tagsL_at s.T n k 0 hk (by omega)
      simpa [TagsE.cells] using this
    apply List.ext_getElem?
    intro i
    rw [List.getElem?_set]
    by_cases hi : k * 2 = i
    · subst hi
      rw [if_pos rfl, hg]
      have := (List.getElem?_eq_some_iff.1 hg).1
      rw [if_pos this]
    · rw [if_neg hi]
  rw [hl] at h1
  exact h1
structure HrP (M g fo ft n c1 : Nat) (wt : Nat → Int) (al : Int) (s' : FS) (w w' : World) : Prop where
  ex : ∃ ft' c', FrAt w' M g fo ft' n c1 c' wt al s' ∧ Fr [g, fo, ft] w w' ∧ (ft' = ft ∨ w.heap.size ≤ ft')
  b : BF M w w'
theorem hearS_T (wt al : Int) (k : Nat) (m : Int) (s : FS) (T : Nat → TagsE) (h : (if hNew k m s = true then updT (hT1 k m s) k ⟨hAt k m s, hAt k m s + costS m wt al⟩ else hT1 k m s) = T) : hearS wt al k m s = ⟨s.V, T, upf s.z k m, upf s.sv k false⟩ := by
  unfold hearS
  rw [h]
set_option maxRecDepth 100000 in
set_option maxHeartbeats 8000000 in
theorem hear_n (k : Nat) (m : Int) (M g fo ft n c1 c2 : Nat) (wt : Nat → Int) (al : Int) (s : FS) (w : World) (h : FrAt w M g fo ft n c1 c2 wt al s) (hi : Inv n s) (hw : WtOk n wt al) (hk : k < n) (hm : 0 ≤ m ∧ m ≤ 1500) (hc : (s.sv k = true ∧ m = 0) ∨ (s.sv k = false ∧ s.z k = m)) :
    Calls Try.prog 27 #[.pointer (some ⟨g, 0, none⟩), .int .i64 k, .pointer (some ⟨fo, k * 3, none⟩), .int .i64 m] w fun e w' => e = .returned (.tuple #[]) ∧ HrP M g fo ft n c1 wt al (hearS (wt k) al k m s) w w' := by
  have hn8 := hi.n8
  have hwk := hw.w k hk
  have hzk := (hi.k k hk).z0
  obtain ⟨f0, f1, f2, fz⟩ := h.fl.cell hk
  have fl := h.fl.lt
  obtain ⟨WT, hWT⟩ : ∃ x, x = wt k := ⟨_, rfl⟩
  obtain ⟨Z, hZ⟩ : ∃ x, x = s.z k := ⟨_, rfl⟩
  rw [← hWT] at f0 hwk
  rw [← hZ] at f1 hzk
  have w1 : IntKind.i64.wrap WT = WT := IntWalk.i64_in _ (by omega)
  have w2 : IntKind.i64.wrap Z = Z := IntWalk.i64_in _ (by omega)
  have w3 : IntKind.u16.wrap m = m := by first | exact IntWalk.u16_in _ (by omega) | (simp [IntKind.wrap]; omega)
  have HH := Lib.hid h
  have HI := Lib.hid hi
  have HW := Lib.hid hw
  have HK := Lib.hid hk
  have HM := Lib.hid hm
  have HWT := Lib.hid hWT
  have HZ := Lib.hid hZ
  have HE := Lib.hid (hearS_T (wt k) al k m s s.T (by
    rcases hc with ⟨h1, h2⟩ | ⟨h1, h2⟩
    · unfold hNew hT1; simp [h1, h2]
    · unfold hNew hT1; simp [h1, h2]))
  have HBB : Hid (BF M w w) := Lib.hid (BF.refl _ _)
  have HFF : Hid (Fr [g, fo, ft] w w) := Lib.hid (Fr.refl _ _)
  rw [← hZ] at hc
  rcases hc with ⟨hs, h0⟩ | ⟨hs, h0⟩
  · rw [hs] at f2
    have d1 : decide (0 < m) = false := decide_eq_false (by omega)
    clear hi hw hm h hWT hZ hn8 hwk hzk h0
    go_enter Try.func27, Try.ntmps27
    go_upto_region 8 with fail
    clear f0 f1 f2 fz fl w3
    obtain ⟨W8, hW8⟩ : ∃ W, W = (w.setCell ⟨fo, k * 3 + 1, none⟩ (.int .u16 m)).setCell ⟨fo, k * 3 + 2, none⟩ (.bool false) := ⟨_, rfl⟩
    obtain ⟨p8, q8⟩ := HH.out.fl.put HK.out m false hW8
    have hne8 := HH.out.ne
    have HR := Lib.hid (show FrAt W8 M g fo _ n c1 _ wt al (hearS (wt k) al k m s) ∧ BF M w W8 from ⟨by
      rw [HE.out]
      exact ⟨(q8.block g HH.out.blk.lt (by simpa using hne8.1)).trans HH.out.blk, p8, HH.out.cp, HH.out.tg.congr fun q e => by obtain rfl := Option.some.inj e; exact q8.block _ HH.out.tg.lt (by simpa using fun e => hne8.2.2 e.symm), HH.out.ge⟩, HBB.out.trans (HH.out.frame q8 (by simp))⟩)
    obtain ⟨g0, g1, g2, gz⟩ := HH.out.fl.cell HK.out
    have gl := HH.out.fl.lt
    have w3 : IntKind.u16.wrap m = m := IntWalk.u16_in _ (by have := HM.out; omega)
    have HF8 := Lib.hid (HFF.out.trans q8 (by simp))
    clear p8 q8 hne8 g0
    go_wp2_with fail
    rw [← hW8]
    go_end0
    exact ⟨rfl, ⟨_, _, HR.out.1, HF8.out, (Or.inl rfl)⟩, HR.out.2⟩
  · rw [hs] at f2
    have d1 : (m == Z) = true := by simp [h0]
    have d2 : (m != Z) = false := by simp [h0]
    clear hi hw hm h hWT hZ hn8 hwk hzk h0
    go_enter Try.func27, Try.ntmps27
    go_upto_region 8 with fail
    clear f0 f1 f2 fz fl w3
    obtain ⟨W8, hW8⟩ : ∃ W, W = (w.setCell ⟨fo, k * 3 + 1, none⟩ (.int .u16 m)).setCell ⟨fo, k * 3 + 2, none⟩ (.bool false) := ⟨_, rfl⟩
    obtain ⟨p8, q8⟩ := HH.out.fl.put HK.out m false hW8
    have hne8 := HH.out.ne
    have HR := Lib.hid (show FrAt W8 M g fo _ n c1 _ wt al (hearS (wt k) al k m s) ∧ BF M w W8 from ⟨by
      rw [HE.out]
      exact ⟨(q8.block g HH.out.blk.lt (by simpa using hne8.1)).trans HH.out.blk, p8, HH.out.cp, HH.out.tg.congr fun q e => by obtain rfl := Option.some.inj e; exact q8.block _ HH.out.tg.lt (by simpa using fun e => hne8.2.2 e.symm), HH.out.ge⟩, HBB.out.trans (HH.out.frame q8 (by simp))⟩)
    obtain ⟨g0, g1, g2, gz⟩ := HH.out.fl.cell HK.out
    have gl := HH.out.fl.lt
    have w3 : IntKind.u16.wrap m = m := IntWalk.u16_in _ (by have := HM.out; omega)
    have HF8 := Lib.hid (HFF.out.trans q8 (by simp))
    clear p8 q8 hne8 g0
    go_wp2_with fail
    rw [← hW8]
    go_end0
    exact ⟨rfl, ⟨_, _, HR.out.1, HF8.out, (Or.inl rfl)⟩, HR.out.2⟩
set_option maxRecDepth 100000 in
set_option maxHeartbeats 8000000 in
theorem hear_a (k : Nat) (m : Int) (M g fo ft n c1 c2 : Nat) (wt : Nat → Int) (al : Int) (s : FS) (w : World) (h : FrAt w M g fo ft n c1 c2 wt al s) (hi : Inv n s) (hw : WtOk n wt al) (hk : k < n) (hm : 0 ≤ m ∧ m ≤ 1500) (hs : s.sv k = true) (h0 : 0 < m) :
    Calls Try.prog 27 #[.pointer (some ⟨g, 0, none⟩), .int .i64 k, .pointer (some ⟨fo, k * 3, none⟩), .int .i64 m] w fun e w' => e = .returned (.tuple #[]) ∧ HrP M g fo ft n c1 wt al (hearS (wt k) al k m s) w w' := by
  have hn8 := hi.n8
  have hwk := hw.w k hk
  have hzk := (hi.k k hk).z0
  obtain ⟨f0, f1, f2, fz⟩ := h.fl.cell hk
  have fl := h.fl.lt
  obtain ⟨WT, hWT⟩ : ∃ x, x = wt k := ⟨_, rfl⟩
  obtain ⟨Z, hZ⟩ : ∃ x, x = s.z k := ⟨_, rfl⟩
  rw [← hWT] at f0 hwk
  rw [← hZ] at f1 hzk
  have w1 : IntKind.i64.wrap WT = WT := IntWalk.i64_in _ (by omega)
  have w2 : IntKind.i64.wrap Z = Z := IntWalk.i64_in _ (by omega)
  have w3 : IntKind.u16.wrap m = m := by first | exact IntWalk.u16_in _ (by omega) | (simp [IntKind.wrap]; omega)
  have HH := Lib.hid h
  have HI := Lib.hid hi
  have HW := Lib.hid hw
  have HK := Lib.hid hk
  have HM := Lib.hid hm
  have HWT := Lib.hid hWT
  have HZ := Lib.hid hZ
  have hnew : hNew k m s = true := by unfold hNew; simp [hs]; omega
  have hT : hT1 k m s = s.T := by unfold hT1; rw [if_neg (by simp [hs])]
  have hA : hAt k m s = (s.T k).f := by unfold hAt; rw [if_pos hs]
  have HE := Lib.hid (hearS_T (wt k) al k m s (updT s.T k ⟨(s.T k).f, (s.T k).f + costS m (wt k) al⟩) (by rw [if_pos hnew, hT, hA]))
  have hg := hear_good hi hk (m := m) (by omega) (hw.w k hk) hw.a hnew
  rw [hT, hA] at hg
  have NX := Lib.hid (fun W hs => next_ok s.V ft n c2 s.T k m (wt k) al W hs hn8 hk hg)
  rw [← hWT] at NX
  have HBB : Hid (BF M w w) := Lib.hid (BF.refl _ _)
  have HFF : Hid (Fr [g, fo, ft] w w) := Lib.hid (Fr.refl _ _)
  rw [hs] at f2
  have d1 : decide (0 < m) = true := decide_eq_true h0
  clear hi hw hm h hZ hn8 hwk hzk h0 hnew hT hA hg hs hWT
  go_enter Try.func27, Try.ntmps27
  go_upto_region 1 with fail
  clear f1 f2 w2 w3 fz fl f0
  refine wp_region_held_drew (S := fun X => X.cell? ⟨g, 1, none⟩ = some (.int .i64 al) ∧ X.cell? ⟨fo, k * 3, none⟩ = some (.int .u8 WT)) (by kernel_rfl) ⟨cell_at HH.out.blk 1, by rw [HWT.out]; exact (HH.out.fl.cell HK.out).1⟩ (fun hHeld => ?_)
  try simp only [Act.put, List.setIfInBounds_toArray, List.set_cons_zero, List.set_cons_succ]
  have Bz := belowN (Below.refl w.heap.size w) 1
  have HX1 : Hid (FrAt w.drew M g fo ft n c1 c2 wt al s) := Lib.hid (HH.out.step Bz)
  have HB1 : Hid (BF M w w.drew) := Lib.hid (HBB.out.trans (BF.new Bz HH.out.size))
  have HF1 : Hid (Fr [g, fo, ft] w w.drew) := Lib.hid (HFF.out.trans (Fr.of_below Bz) (by simp))
  clear Bz
  ((refine wpAnyH_take (i := 0) (v := ?_) (by (simp only [List.getElem?_toArray, List.getElem?_cons_succ, List.getElem?_cons_zero]); rfl) (by kernel_rfl) (by kernel_rfl) (by kernel_rfl) (by exact fun _ _ _ h => h) (Or.inl ⟨by rfl, ?_⟩) (by assumption) ?_); rotate_left; focus (intro wS hSw; (try dsimp only at hSw); go_simp; first | done | with_reducible rfl); try simp only [Act.put, List.setIfInBounds_toArray, List.set_cons_zero, List.set_cons_succ])
  ((refine wpAnyH_take (i := 1) (v := ?_) (by (simp only [List.getElem?_toArray, List.getElem?_cons_succ, List.getElem?_cons_zero]); rfl) (by kernel_rfl) (by kernel_rfl) (by kernel_rfl) (by exact fun _ _ _ h => h) (Or.inl ⟨by rfl, ?_⟩) (by assumption) ?_); rotate_left; focus (intro wS hSw; (try dsimp only at hSw); go_simp; first | done | with_reducible rfl); try simp only [Act.put, List.setIfInBounds_toArray, List.set_cons_zero, List.set_cons_succ])
  ((refine wpAnyH_take (i := 2) (v := ?_) (by (simp only [List.getElem?_toArray, List.getElem?_cons_succ, List.getElem?_cons_zero]); rfl) (by kernel_rfl) (by kernel_rfl) (by kernel_rfl) (by exact fun _ _ _ h => h) (Or.inl ⟨by rfl, ?_⟩) (by assumption) ?_); rotate_left; focus (intro wS hSw; (try dsimp only at hSw); go_simp; first | done | with_reducible rfl); try simp only [Act.put, List.setIfInBounds_toArray, List.set_cons_zero, List.set_cons_succ])
  ((refine wpAnyH_take (i := 3) (v := ?_) (by (simp only [List.getElem?_toArray, List.getElem?_cons_succ, List.getElem?_cons_zero]); rfl) (by kernel_rfl) (by kernel_rfl) (by kernel_rfl) (by exact fun _ _ _ h => h) (Or.inl ⟨by rfl, ?_⟩) (by assumption) ?_); rotate_left; focus (intro wS hSw; (try dsimp only at hSw); go_simp; first | done | with_reducible rfl); try simp only [Act.put, List.setIfInBounds_toArray, List.set_cons_zero, List.set_cons_succ])
  ((refine wpAnyH_take (i := 5) (v := ?_) (by (simp only [List.getElem?_toArray, List.getElem?_cons_succ, List.getElem?_cons_zero]); rfl) (by kernel_rfl) (by kernel_rfl) (by kernel_rfl) (by exact fun _ _ _ h => h) (Or.inl ⟨by rfl, ?_⟩) (by assumption) ?_); rotate_left; focus (intro wS hSw; (try dsimp only at hSw); go_simp; first | done | with_reducible rfl); try simp only [Act.put, List.setIfInBounds_toArray, List.set_cons_zero, List.set_cons_succ])
  ((refine wpAnyH_take (i := 6) (v := ?_) (by (simp only [List.getElem?_toArray, List.getElem?_cons_succ, List.getElem?_cons_zero]); rfl) (by kernel_rfl) (by kernel_rfl) (by kernel_rfl) (by exact fun _ _ _ h => h) (Or.inl ⟨by rfl, ?_⟩) (by assumption) ?_); rotate_left; focus (intro wS hSw; (try dsimp only at hSw); go_simp; first | done | with_reducible rfl); try simp only [Act.put, List.setIfInBounds_toArray, List.set_cons_zero, List.set_cons_succ])
  ((refine wpAnyH_take (i := 7) (v := ?_) (by (simp only [List.getElem?_toArray, List.getElem?_cons_succ, List.getElem?_cons_zero]); rfl) (by kernel_rfl) (by kernel_rfl) (by kernel_rfl) (by exact fun _ _ _ h => h) (Or.inl ⟨by rfl, ?_⟩) (by assumption) ?_); rotate_left; focus (intro wS hSw; (try dsimp only at hSw); go_simp; first | done | with_reducible rfl); try simp only [Act.put, List.setIfInBounds_toArray, List.set_cons_zero, List.set_cons_succ])
  ((refine wpAnyH_take (i := 8) (v := ?_) (by (simp only [List.getElem?_toArray, List.getElem?_cons_succ, List.getElem?_cons_zero]); rfl) (by kernel_rfl) (by kernel_rfl) (by kernel_rfl) (by exact fun _ _ _ h => h) (Or.inl ⟨by rfl, ?_⟩) (by assumption) ?_); rotate_left; focus (intro wS hSw; (try dsimp only at hSw); go_simp; first | done | with_reducible rfl); try simp only [Act.put, List.setIfInBounds_toArray, List.set_cons_zero, List.set_cons_succ])
  ((refine wpAnyH_take (i := 9) (v := ?_) (by (simp only [List.getElem?_toArray, List.getElem?_cons_succ, List.getElem?_cons_zero]); rfl) (by kernel_rfl) (by kernel_rfl) (by kernel_rfl) (by exact fun _ _ _ h => h) (Or.inl ⟨by rfl, ?_⟩) (by assumption) ?_); rotate_left; focus (intro wS hSw; (try dsimp only at hSw); go_simp; first | done | with_reducible rfl); try simp only [Act.put, List.setIfInBounds_toArray, List.set_cons_zero, List.set_cons_succ])
  ((refine wpAnyH_take (i := 10) (v := ?_) (by (simp only [List.getElem?_toArray, List.getElem?_cons_succ, List.getElem?_cons_zero]); rfl) (by kernel_rfl) (by kernel_rfl) (by kernel_rfl) (by exact fun _ _ _ h => h) (Or.inl ⟨by rfl, ?_⟩) (by assumption) ?_); rotate_left; focus (intro wS hSw; (try dsimp only at hSw); go_simp; first | done | with_reducible rfl); try simp only [Act.put, List.setIfInBounds_toArray, List.set_cons_zero, List.set_cons_succ])
  ((refine wpAnyH_take (i := 11) (v := ?_) (by (simp only [List.getElem?_toArray, List.getElem?_cons_succ, List.getElem?_cons_zero]); rfl) (by kernel_rfl) (by kernel_rfl) (by kernel_rfl) (by exact fun _ _ _ h => h) (Or.inl ⟨by rfl, ?_⟩) (by assumption) ?_); rotate_left; focus (intro wS hSw; (try dsimp only at hSw); go_simp; first | done | with_reducible rfl); try simp only [Act.put, List.setIfInBounds_toArray, List.set_cons_zero, List.set_cons_succ])
  ((refine wpAnyH_take (i := 12) (v := ?_) (by (simp only [List.getElem?_toArray, List.getElem?_cons_succ, List.getElem?_cons_zero]); rfl) (by kernel_rfl) (by kernel_rfl) (by kernel_rfl) (by exact fun _ _ _ h => h) (Or.inl ⟨by rfl, ?_⟩) (by assumption) ?_); rotate_left; focus (intro wS hSw; (try dsimp only at hSw); go_simp; first | done | with_reducible rfl); try simp only [Act.put, List.setIfInBounds_toArray, List.set_cons_zero, List.set_cons_succ])
  ((refine wpAnyH_take (i := 13) (v := ?_) (by (simp only [List.getElem?_toArray, List.getElem?_cons_succ, List.getElem?_cons_zero]); rfl) (by kernel_rfl) (by kernel_rfl) (by kernel_rfl) (by exact fun _ _ _ h => h) (Or.inl ⟨by rfl, ?_⟩) (by assumption) ?_); rotate_left; focus (intro wS hSw; (try dsimp only at hSw); go_simp; first | done | with_reducible rfl); try simp only [Act.put, List.setIfInBounds_toArray, List.set_cons_zero, List.set_cons_succ])
  ((refine wpAnyH_take (i := 14) (v := ?_) (by (simp only [List.getElem?_toArray, List.getElem?_cons_succ, List.getElem?_cons_zero]); rfl) (by kernel_rfl) (by kernel_rfl) (by kernel_rfl) (by exact fun _ _ _ h => h) (Or.inl ⟨by rfl, ?_⟩) (by assumption) ?_); rotate_left; focus (intro wS hSw; (try dsimp only at hSw); go_simp; first | done | with_reducible rfl); try simp only [Act.put, List.setIfInBounds_toArray, List.set_cons_zero, List.set_cons_succ])
  ((refine wpAnyH_take (i := 15) (v := ?_) (by (simp only [List.getElem?_toArray, List.getElem?_cons_succ, List.getElem?_cons_zero]); rfl) (by kernel_rfl) (by kernel_rfl) (by kernel_rfl) (by exact fun _ _ _ h => h) (Or.inl ⟨by rfl, ?_⟩) (by assumption) ?_); rotate_left; focus (intro wS hSw; (try dsimp only at hSw); go_simp; first | done | with_reducible rfl); try simp only [Act.put, List.setIfInBounds_toArray, List.set_cons_zero, List.set_cons_succ])
  refine wpAnyH_ready (rs := [4]) (by kernel_rfl) (by simp) ?_
  refine AllReadyH.cons (by (simp only [List.getElem?_toArray, List.getElem?_cons_succ, List.getElem?_cons_zero]); rfl) (fun K hK => ?_) AllReadyH.nil
  have e2 : w.drew.cell? ⟨g, 2, none⟩ = some (.int .i64 s.V) := cell_at HX1.out.blk 2
  have e3 : w.drew.cell? ⟨g, 3, none⟩ = some (.slice (some ⟨ft, 0, none⟩) n c2) := cell_at HX1.out.blk 3
  go_simp
  refine hK _ _ ⟨cell_at HX1.out.blk 1, by rw [HWT.out]; exact (HX1.out.fl.cell HK.out).1⟩ (fun hHeld => ?_)
  clear hK K e2 e3
  try simp only [Act.put, List.setIfInBounds_toArray, List.set_cons_zero, List.set_cons_succ]
  ((refine wpAnyH_ready (rs := [16]) (by kernel_rfl) (by simp) ?_); (refine AllReadyH.cons (by (simp only [List.getElem?_toArray, List.getElem?_cons_succ, List.getElem?_cons_zero]); rfl) (fun K hK => ?_) AllReadyH.nil); go_simp; go_fit (NX.out _ (HX1.out.tags HI.out)))
  rintro e W2 ⟨ft', c', rfl, hr2, hl2, hB2⟩
  have HX2 := Lib.hid (HX1.out.step hB2)
  have HB2 := Lib.hid (HB1.out.trans (BF.new hB2 HX1.out.size))
  have HR2 := Lib.hid hr2
  have HL2 : Hid (M ≤ ft') := Lib.hid (Nat.le_trans HX1.out.size hl2)
  have HF2 := Lib.hid (HF1.out.trans (Fr.of_below hB2) (by simp))
  have HFT : Hid (ft' = ft ∨ w.heap.size ≤ ft') := Lib.hid (.inr (Nat.le_trans HF1.out.size hl2))
  clear hr2 hl2 hB2
  go_wp2_with fail
  refine hK.out _ _ ⟨cell_at HX2.out.blk 1, by rw [HWT.out]; exact (HX2.out.fl.cell HK.out).1⟩ (fun hHeld => ?_)
  clear hK K
  try simp only [Act.put, List.setIfInBounds_toArray, List.set_cons_zero, List.set_cons_succ]
  ((refine wpAnyH_take (i := 17) (v := ?_) (by (simp only [List.getElem?_toArray, List.getElem?_cons_succ, List.getElem?_cons_zero]); rfl) (by kernel_rfl) (by kernel_rfl) (by kernel_rfl) (by exact fun _ _ _ h => h) (Or.inl ⟨by rfl, ?_⟩) (by assumption) ?_); rotate_left; focus (intro wS hSw; (try dsimp only at hSw); go_simp; first | done | with_reducible rfl); try simp only [Act.put, List.setIfInBounds_toArray, List.set_cons_zero, List.set_cons_succ])
  ((refine wpAnyH_take (i := 18) (v := ?_) (by (simp only [List.getElem?_toArray, List.getElem?_cons_succ, List.getElem?_cons_zero]); rfl) (by kernel_rfl) (by kernel_rfl) (by kernel_rfl) (by exact fun _ _ _ h => h) (Or.inl ⟨by rfl, ?_⟩) (by assumption) ?_); rotate_left; focus (intro wS hSw; (try dsimp only at hSw); go_simp; first | done | with_reducible rfl); try simp only [Act.put, List.setIfInBounds_toArray, List.set_cons_zero, List.set_cons_succ])
  ((refine wpAnyH_ready (rs := [19]) (by kernel_rfl) (by simp) ?_); (refine AllReadyH.cons (by (simp only [List.getElem?_toArray, List.getElem?_cons_succ, List.getElem?_cons_zero]); rfl) (fun K hK => ?_) AllReadyH.nil); go_simp; go_fit (set_ok _ _ _ _ M g fo ft n c1 c2 wt al _ _ HX2.out HR2.out HL2.out))
  rintro e W3 ⟨rfl, hx3, hb3, hf3⟩
  have HF3 := Lib.hid (HF2.out.trans hf3 (by simp))
  have HX3 := Lib.hid hx3
  have HB3 := Lib.hid (HB2.out.trans hb3)
  clear hx3 hb3 hf3
  go_wp2_with fail
  refine hK.out _ _ ⟨cell_at HX3.out.blk 1, by rw [HWT.out]; exact (HX3.out.fl.cell HK.out).1⟩ (fun hHeld => ?_)
  clear hK K
  try simp only [Act.put, List.setIfInBounds_toArray, List.set_cons_zero, List.set_cons_succ]
  refine wpAnyH_done (by kernel_rfl) ?_ _
  try simp only [Act.put, List.setIfInBounds_toArray, List.set_cons_zero, List.set_cons_succ]
  rw [HWT.out] at HX3
  go_upto_region 8 with fail
  obtain ⟨W8, hW8⟩ : ∃ W, W = (W3.setCell ⟨fo, k * 3 + 1, none⟩ (.int .u16 m)).setCell ⟨fo, k * 3 + 2, none⟩ (.bool false) := ⟨_, rfl⟩
  obtain ⟨p8, q8⟩ := HX3.out.fl.put HK.out m false hW8
  have hne8 := HX3.out.ne
  have HR := Lib.hid (show FrAt W8 M g fo _ n c1 _ wt al (hearS (wt k) al k m s) ∧ BF M w W8 from ⟨by
    rw [HE.out]
    exact ⟨(q8.block g HX3.out.blk.lt (by simpa using hne8.1)).trans HX3.out.blk, p8, HX3.out.cp, HX3.out.tg.congr fun q e => by obtain rfl := Option.some.inj e; exact q8.block _ HX3.out.tg.lt (by simpa using fun e => hne8.2.2 e.symm), HX3.out.ge⟩, HB3.out.trans (HX3.out.frame q8 (by simp))⟩)
  obtain ⟨g0, g1, g2, gz⟩ := HX3.out.fl.cell HK.out
  have gl := HX3.out.fl.lt
  have w3 : IntKind.u16.wrap m = m := IntWalk.u16_in _ (by have := HM.out; omega)
  have HF8 := Lib.hid (HF3.out.trans q8 (by simp))
  clear p8 q8 hne8 g0
  go_wp2_with fail
  rw [← hW8]
  go_end0
  exact ⟨rfl, ⟨_, _, HR.out.1, HF8.out, HFT.out⟩, HR.out.2⟩
set_option maxRecDepth 100000 in
set_option maxHeartbeats 8000000 in
theorem hear_d (k : Nat) (m : Int) (M g fo ft n c1 c2 : Nat) (wt : Nat → Int) (al : Int) (s : FS) (w : World) (h : FrAt w M g fo ft n c1 c2 wt al s) (hi : Inv n s) (hw : WtOk n wt al) (hk : k < n) (hm : 0 ≤ m ∧ m ≤ 1500) (hs : s.sv k = false) (hzm : s.z k ≠ m) (hz0 : 0 < s.z k) :
    Calls Try.prog 27 #[.pointer (some ⟨g, 0, none⟩), .int .i64 k, .pointer (some ⟨fo, k * 3, none⟩), .int .i64 m] w fun e w' => e = .returned (.tuple #[]) ∧ HrP M g fo ft n c1 wt al (hearS (wt k) al k m s) w w' := by
  have hn8 := hi.n8
  have hwk := hw.w k hk
  have hzk := (hi.k k hk).z0
  obtain ⟨f0, f1, f2, fz⟩ := h.fl.cell hk
  have fl := h.fl.lt
  obtain ⟨WT, hWT⟩ : ∃ x, x = wt k := ⟨_, rfl⟩
  obtain ⟨Z, hZ⟩ : ∃ x, x = s.z k := ⟨_, rfl⟩
  rw [← hWT] at f0 hwk
  rw [← hZ] at f1 hzk
  have w1 : IntKind.i64.wrap WT = WT := IntWalk.i64_in _ (by omega)
  have w2 : IntKind.i64.wrap Z = Z := IntWalk.i64_in _ (by omega)
  have w3 : IntKind.u16.wrap m = m := by first | exact IntWalk.u16_in _ (by omega) | (simp [IntKind.wrap]; omega)
  have HH := Lib.hid h
  have HI := Lib.hid hi
  have HW := Lib.hid hw
  have HK := Lib.hid hk
  have HM := Lib.hid hm
  have HWT := Lib.hid hWT
  have HZ := Lib.hid hZ
  have hT : hT1 k m s = updT s.T k ⟨(s.T k).s, (s.T k).s⟩ := by unfold hT1; rw [if_pos ⟨hs, hzm, hz0⟩]
  obtain ⟨W5, hW5⟩ : ∃ W, W = (w.setCell ⟨ft, k * 2 + 1, none⟩ (.int .i64 (s.T k).s)).drew := ⟨_, rfl⟩
  obtain ⟨hx5', hb5', hf5'⟩ := h.cut hk rfl
  have hx5 := hx5'.step (belowN (Below.refl _ _) 1)
  have hb5 := hb5'.trans (BF.new (belowN (Below.refl _ _) 1) hx5'.size)
  have hW5' : W5 = ((w.setCell ⟨ft, k * 2 + 1, none⟩ (.int .i64 (s.T k).s)).drewN 1) := hW5
  rw [← hW5'] at hx5 hb5
  have HX5 := Lib.hid hx5
  have HB5 := Lib.hid hb5
  have HF5 : Hid (Fr [g, fo, ft] w W5) := Lib.hid (by rw [hW5']; exact (((Fr.refl [g, fo, ft] w).trans hf5' (by simp))).trans (Fr.of_below (belowN (Below.refl _ _) 1)) (by simp))
  clear hW5' hx5' hb5' hf5'
  have e3 : w.cell? ⟨g, 3, none⟩ = some (.slice (some ⟨ft, 0, none⟩) n c2) := cell_at h.blk 3
  obtain ⟨g', eg, _, el4, e4, e5, e6, e7⟩ := own_k h.tg hk
  obtain rfl := Option.some.inj eg
  obtain ⟨SS, hSS⟩ : ∃ x, x = (s.T k).s := ⟨_, rfl⟩
  rw [← hSS] at e4 hW5
  have hgl := h.blk.lt
  have bk1 : (k < n) = True := eq_true hk
  have bk2 : ((k : Int) < (n : Int)) = True := eq_true (by omega)
  have bk0 : ((0 : Int) ≤ (k : Int)) = True := eq_true (by omega)
  have d2 : (m != Z) = true := by rw [hZ]; simp; omega
  have d3 : decide (0 < Z) = true := decide_eq_true (by omega)
  have dz : ∀ j, w.frozen? ⟨ft, j, none⟩ = false := by
    obtain ⟨cs, hb⟩ := blk_row h.tg
    exact fun j => free_at hb j
  have HF1 := Lib.hid f1
  by_cases h0 : 0 < m
  · have hnew : hNew k m s = true := by unfold hNew; simp [hs, hzm]; omega
    have hA : hAt k m s = max (s.T k).s s.V := by unfold hAt; rw [if_neg (by simp [hs]), hT, updT_at]
    have hE := hearS_T (wt k) al k m s (updT (updT s.T k ⟨(s.T k).s, (s.T k).s⟩) k ⟨max (s.T k).s s.V, max (s.T k).s s.V + costS m (wt k) al⟩) (by rw [if_pos hnew, hT, hA])
    have hg := hear_good hi hk (m := m) (by omega) (hw.w k hk) hw.a hnew
    rw [hT, hA] at hg
    have hi5 : ∀ j, j < n → (updT s.T k ⟨(s.T k).s, (s.T k).s⟩ j).ok := fun j hj => by
      have h1 := hi.tok j hj
      by_cases hjk : j = k
      · subst hjk; rw [updT_at]; unfold TagsE.ok at h1 ⊢; exact ⟨h1.1, h1.1⟩
      · rw [updT_ne _ _ hjk]; exact h1
    have hu : (updT s.T k ⟨(s.T k).s, (s.T k).s⟩ k).f = (s.T k).s := by rw [updT_at]
    have NX := Lib.hid (fun W hs => wake_ok s.V ft n c2 (updT s.T k ⟨(s.T k).s, (s.T k).s⟩) k m (wt k) al W hs hn8 hk (by rw [hu]; exact hg))
    rw [hu] at NX
    have HTG : Hid (∀ W, FrAt W M g fo ft n c1 c2 wt al ⟨s.V, updT s.T k ⟨(s.T k).s, (s.T k).s⟩, s.z, s.sv⟩ → TagsIn W (some ⟨ft, 0, none⟩) n c2 ft 0 (updT s.T k ⟨(s.T k).s, (s.T k).s⟩)) := Lib.hid (fun W hx => by
      obtain ⟨a', c', he, ht⟩ := tags_row hx.tg hi5
      injection he with e1 e2 e3
      subst e1 e3
      exact ht)
    rw [← hWT] at NX
    have HE := Lib.hid hE
    rw [hs] at f2
    have d1 : decide (0 < m) = true := decide_eq_true h0
    clear hi hw hm h hZ hn8 hwk hzk h0 hnew hT hA hg hs hWT hzm hz0 hx5 hb5 hSS hi5 hu hE hk HH
    go_enter Try.func27, Try.ntmps27
    go_upto_region 5 with fail
    go_still_tail 17, (by kernel_rfl)
    change wpList _ _ _ _ _ w.drew
    go_upto_region 6 with fail
    rw [← hW5]
    clear hW5 e3 e4 e5 e6 e7 dz
    go_upto_region 7 with fail
    clear f1 f2 w2 w3 fz fl f0
    refine wp_region_held_drew (S := fun X => X.cell? ⟨g, 1, none⟩ = some (.int .i64 al) ∧ X.cell? ⟨fo, k * 3, none⟩ = some (.int .u8 WT)) (by kernel_rfl) ⟨cell_at HX5.out.blk 1, by rw [HWT.out]; exact (HX5.out.fl.cell HK.out).1⟩ (fun hHeld => ?_)
    try simp only [Act.put, List.setIfInBounds_toArray, List.set_cons_zero, List.set_cons_succ]
    have Bz := belowN (Below.refl W5.heap.size W5) 1
    have HX1 : Hid (FrAt W5.drew M g fo ft n c1 c2 wt al ⟨s.V, updT s.T k ⟨(s.T k).s, (s.T k).s⟩, s.z, s.sv⟩) := Lib.hid (HX5.out.step Bz)
    have HB1 : Hid (BF M w W5.drew) := Lib.hid (HB5.out.trans (BF.new Bz HX5.out.size))
    have HF1 : Hid (Fr [g, fo, ft] w W5.drew) := Lib.hid (HF5.out.trans (Fr.of_below Bz) (by simp))
    clear Bz
    ((refine wpAnyH_take (i := 0) (v := ?_) (by (simp only [List.getElem?_toArray, List.getElem?_cons_succ, List.getElem?_cons_zero]); rfl) (by kernel_rfl) (by kernel_rfl) (by kernel_rfl) (by exact fun _ _ _ h => h) (Or.inl ⟨by rfl, ?_⟩) (by assumption) ?_); rotate_left; focus (intro wS hSw; (try dsimp only at hSw); go_simp; first | done | with_reducible rfl); try simp only [Act.put, List.setIfInBounds_toArray, List.set_cons_zero, List.set_cons_succ])
    ((refine wpAnyH_take (i := 1) (v := ?_) (by (simp only [List.getElem?_toArray, List.getElem?_cons_succ, List.getElem?_cons_zero]); rfl) (by kernel_rfl) (by kernel_rfl) (by kernel_rfl) (by exact fun _ _ _ h => h) (Or.inl ⟨by rfl, ?_⟩) (by assumption) ?_); rotate_left; focus (intro wS hSw; (try dsimp only at hSw); go_simp; first | done | with_reducible rfl); try simp only [Act.put, List.setIfInBounds_toArray, List.set_cons_zero, List.set_cons_succ])
    ((refine wpAnyH_take (i := 2) (v := ?_) (by (simp only [List.getElem?_toArray, List.getElem?_cons_succ, List.getElem?_cons_zero]); rfl) (by kernel_rfl) (by kernel_rfl) (by kernel_rfl) (by exact fun _ _ _ h => h) (Or.inl ⟨by rfl, ?_⟩) (by assumption) ?_); rotate_left; focus (intro wS hSw; (try dsimp only at hSw); go_simp; first | done | with_reducible rfl); try simp only [Act.put, List.setIfInBounds_toArray, List.set_cons_zero, List.set_cons_succ])
    ((refine wpAnyH_take (i := 3) (v := ?_) (by (simp only [List.getElem?_toArray, List.getElem?_cons_succ, List.getElem?_cons_zero]); rfl) (by kernel_rfl) (by kernel_rfl) (by kernel_rfl) (by exact fun _ _ _ h => h) (Or.inl ⟨by rfl, ?_⟩) (by assumption) ?_); rotate_left; focus (intro wS hSw; (try dsimp only at hSw); go_simp; first | done | with_reducible rfl); try simp only [Act.put, List.setIfInBounds_toArray, List.set_cons_zero, List.set_cons_succ])
    ((refine wpAnyH_take (i := 5) (v := ?_) (by (simp only [List.getElem?_toArray, List.getElem?_cons_succ, List.getElem?_cons_zero]); rfl) (by kernel_rfl) (by kernel_rfl) (by kernel_rfl) (by exact fun _ _ _ h => h) (Or.inl ⟨by rfl, ?_⟩) (by assumption) ?_); rotate_left; focus (intro wS hSw; (try dsimp only at hSw); go_simp; first | done | with_reducible rfl); try simp only [Act.put, List.setIfInBounds_toArray, List.set_cons_zero, List.set_cons_succ])
    ((refine wpAnyH_take (i := 6) (v := ?_) (by (simp only [List.getElem?_toArray, List.getElem?_cons_succ, List.getElem?_cons_zero]); rfl) (by kernel_rfl) (by kernel_rfl) (by kernel_rfl) (by exact fun _ _ _ h => h) (Or.inl ⟨by rfl, ?_⟩) (by assumption) ?_); rotate_left; focus (intro wS hSw; (try dsimp only at hSw); go_simp; first | done | with_reducible rfl); try simp only [Act.put, List.setIfInBounds_toArray, List.set_cons_zero, List.set_cons_succ])
    ((refine wpAnyH_take (i := 7) (v := ?_) (by (simp only [List.getElem?_toArray, List.getElem?_cons_succ, List.getElem?_cons_zero]); rfl) (by kernel_rfl) (by kernel_rfl) (by kernel_rfl) (by exact fun _ _ _ h => h) (Or.inl ⟨by rfl, ?_⟩) (by assumption) ?_); rotate_left; focus (intro wS hSw; (try dsimp only at hSw); go_simp; first | done | with_reducible rfl); try simp only [Act.put, List.setIfInBounds_toArray, List.set_cons_zero, List.set_cons_succ])
    ((refine wpAnyH_take (i := 8) (v := ?_) (by (simp only [List.getElem?_toArray, List.getElem?_cons_succ, List.getElem?_cons_zero]); rfl) (by kernel_rfl) (by kernel_rfl) (by kernel_rfl) (by exact fun _ _ _ h => h) (Or.inl ⟨by rfl, ?_⟩) (by assumption) ?_); rotate_left; focus (intro wS hSw; (try dsimp only at hSw); go_simp; first | done | with_reducible rfl); try simp only [Act.put, List.setIfInBounds_toArray, List.set_cons_zero, List.set_cons_succ])
    ((refine wpAnyH_take (i := 9) (v := ?_) (by (simp only [List.getElem?_toArray, List.getElem?_cons_succ, List.getElem?_cons_zero]); rfl) (by kernel_rfl) (by kernel_rfl) (by kernel_rfl) (by exact fun _ _ _ h => h) (Or.inl ⟨by rfl, ?_⟩) (by assumption) ?_); rotate_left; focus (intro wS hSw; (try dsimp only at hSw); go_simp; first | done | with_reducible rfl); try simp only [Act.put, List.setIfInBounds_toArray, List.set_cons_zero, List.set_cons_succ])
    ((refine wpAnyH_take (i := 10) (v := ?_) (by (simp only [List.getElem?_toArray, List.getElem?_cons_succ, List.getElem?_cons_zero]); rfl) (by kernel_rfl) (by kernel_rfl) (by kernel_rfl) (by exact fun _ _ _ h => h) (Or.inl ⟨by rfl, ?_⟩) (by assumption) ?_); rotate_left; focus (intro wS hSw; (try dsimp only at hSw); go_simp; first | done | with_reducible rfl); try simp only [Act.put, List.setIfInBounds_toArray, List.set_cons_zero, List.set_cons_succ])
    ((refine wpAnyH_take (i := 11) (v := ?_) (by (simp only [List.getElem?_toArray, List.getElem?_cons_succ, List.getElem?_cons_zero]); rfl) (by kernel_rfl) (by kernel_rfl) (by kernel_rfl) (by exact fun _ _ _ h => h) (Or.inl ⟨by rfl, ?_⟩) (by assumption) ?_); rotate_left; focus (intro wS hSw; (try dsimp only at hSw); go_simp; first | done | with_reducible rfl); try simp only [Act.put, List.setIfInBounds_toArray, List.set_cons_zero, List.set_cons_succ])
    ((refine wpAnyH_take (i := 12) (v := ?_) (by (simp only [List.getElem?_toArray, List.getElem?_cons_succ, List.getElem?_cons_zero]); rfl) (by kernel_rfl) (by kernel_rfl) (by kernel_rfl) (by exact fun _ _ _ h => h) (Or.inl ⟨by rfl, ?_⟩) (by assumption) ?_); rotate_left; focus (intro wS hSw; (try dsimp only at hSw); go_simp; first | done | with_reducible rfl); try simp only [Act.put, List.setIfInBounds_toArray, List.set_cons_zero, List.set_cons_succ])
    ((refine wpAnyH_take (i := 13) (v := ?_) (by (simp only [List.getElem?_toArray, List.getElem?_cons_succ, List.getElem?_cons_zero]); rfl) (by kernel_rfl) (by kernel_rfl) (by kernel_rfl) (by exact fun _ _ _ h => h) (Or.inl ⟨by rfl, ?_⟩) (by assumption) ?_); rotate_left; focus (intro wS hSw; (try dsimp only at hSw); go_simp; first | done | with_reducible rfl); try simp only [Act.put, List.setIfInBounds_toArray, List.set_cons_zero, List.set_cons_succ])
    ((refine wpAnyH_take (i := 14) (v := ?_) (by (simp only [List.getElem?_toArray, List.getElem?_cons_succ, List.getElem?_cons_zero]); rfl) (by kernel_rfl) (by kernel_rfl) (by kernel_rfl) (by exact fun _ _ _ h => h) (Or.inl ⟨by rfl, ?_⟩) (by assumption) ?_); rotate_left; focus (intro wS hSw; (try dsimp only at hSw); go_simp; first | done | with_reducible rfl); try simp only [Act.put, List.setIfInBounds_toArray, List.set_cons_zero, List.set_cons_succ])
    ((refine wpAnyH_take (i := 15) (v := ?_) (by (simp only [List.getElem?_toArray, List.getElem?_cons_succ, List.getElem?_cons_zero]); rfl) (by kernel_rfl) (by kernel_rfl) (by kernel_rfl) (by exact fun _ _ _ h => h) (Or.inl ⟨by rfl, ?_⟩) (by assumption) ?_); rotate_left; focus (intro wS hSw; (try dsimp only at hSw); go_simp; first | done | with_reducible rfl); try simp only [Act.put, List.setIfInBounds_toArray, List.set_cons_zero, List.set_cons_succ])
    refine wpAnyH_ready (rs := [4]) (by kernel_rfl) (by simp) ?_
    refine AllReadyH.cons (by (simp only [List.getElem?_toArray, List.getElem?_cons_succ, List.getElem?_cons_zero]); rfl) (fun K hK => ?_) AllReadyH.nil
    have e2 : W5.drew.cell? ⟨g, 2, none⟩ = some (.int .i64 s.V) := cell_at HX1.out.blk 2
    have e3 : W5.drew.cell? ⟨g, 3, none⟩ = some (.slice (some ⟨ft, 0, none⟩) n c2) := cell_at HX1.out.blk 3
    go_simp
    refine hK _ _ ⟨cell_at HX1.out.blk 1, by rw [HWT.out]; exact (HX1.out.fl.cell HK.out).1⟩ (fun hHeld => ?_)
    clear hK K e2 e3
    try simp only [Act.put, List.setIfInBounds_toArray, List.set_cons_zero, List.set_cons_succ]
    ((refine wpAnyH_ready (rs := [16]) (by kernel_rfl) (by simp) ?_); (refine AllReadyH.cons (by (simp only [List.getElem?_toArray, List.getElem?_cons_succ, List.getElem?_cons_zero]); rfl) (fun K hK => ?_) AllReadyH.nil); go_simp; go_fit (NX.out _ (HTG.out _ HX1.out)))
    rintro e W2 ⟨ft', c', rfl, hr2, hl2, hB2⟩
    have HX2 := Lib.hid (HX1.out.step hB2)
    have HB2 := Lib.hid (HB1.out.trans (BF.new hB2 HX1.out.size))
    have HR2 := Lib.hid hr2
    have HL2 : Hid (M ≤ ft') := Lib.hid (Nat.le_trans HX1.out.size hl2)
    have HF2 := Lib.hid (HF1.out.trans (Fr.of_below hB2) (by simp))
    have HFT : Hid (ft' = ft ∨ w.heap.size ≤ ft') := Lib.hid (.inr (Nat.le_trans HF1.out.size hl2))
    clear hr2 hl2 hB2
    go_wp2_with fail
    refine hK.out _ _ ⟨cell_at HX2.out.blk 1, by rw [HWT.out]; exact (HX2.out.fl.cell HK.out).1⟩ (fun hHeld => ?_)
    clear hK K
    try simp only [Act.put, List.setIfInBounds_toArray, List.set_cons_zero, List.set_cons_succ]
    ((refine wpAnyH_take (i := 17) (v := ?_) (by (simp only [List.getElem?_toArray, List.getElem?_cons_succ, List.getElem?_cons_zero]); rfl) (by kernel_rfl) (by kernel_rfl) (by kernel_rfl) (by exact fun _ _ _ h => h) (Or.inl ⟨by rfl, ?_⟩) (by assumption) ?_); rotate_left; focus (intro wS hSw; (try dsimp only at hSw); go_simp; first | done | with_reducible rfl); try simp only [Act.put, List.setIfInBounds_toArray, List.set_cons_zero, List.set_cons_succ])
    ((refine wpAnyH_take (i := 18) (v := ?_) (by (simp only [List.getElem?_toArray, List.getElem?_cons_succ, List.getElem?_cons_zero]); rfl) (by kernel_rfl) (by kernel_rfl) (by kernel_rfl) (by exact fun _ _ _ h => h) (Or.inl ⟨by rfl, ?_⟩) (by assumption) ?_); rotate_left; focus (intro wS hSw; (try dsimp only at hSw); go_simp; first | done | with_reducible rfl); try simp only [Act.put, List.setIfInBounds_toArray, List.set_cons_zero, List.set_cons_succ])
    ((refine wpAnyH_ready (rs := [19]) (by kernel_rfl) (by simp) ?_); (refine AllReadyH.cons (by (simp only [List.getElem?_toArray, List.getElem?_cons_succ, List.getElem?_cons_zero]); rfl) (fun K hK => ?_) AllReadyH.nil); go_simp; go_fit (set_ok _ _ _ _ M g fo ft n c1 c2 wt al _ _ HX2.out HR2.out HL2.out))
    rintro e W3 ⟨rfl, hx3, hb3, hf3⟩
    have HF3 := Lib.hid (HF2.out.trans hf3 (by simp))
    have HX3 := Lib.hid hx3
    have HB3 := Lib.hid (HB2.out.trans hb3)
    clear hx3 hb3 hf3
    go_wp2_with fail
    refine hK.out _ _ ⟨cell_at HX3.out.blk 1, by rw [HWT.out]; exact (HX3.out.fl.cell HK.out).1⟩ (fun hHeld => ?_)
    clear hK K
    try simp only [Act.put, List.setIfInBounds_toArray, List.set_cons_zero, List.set_cons_succ]
    refine wpAnyH_done (by kernel_rfl) ?_ _
    try simp only [Act.put, List.setIfInBounds_toArray, List.set_cons_zero, List.set_cons_succ]
    rw [HWT.out] at HX3
    go_upto_region 8 with fail
    obtain ⟨W8, hW8⟩ : ∃ W, W = (W3.setCell ⟨fo, k * 3 + 1, none⟩ (.int .u16 m)).setCell ⟨fo, k * 3 + 2, none⟩ (.bool false) := ⟨_, rfl⟩
    obtain ⟨p8, q8⟩ := HX3.out.fl.put HK.out m false hW8
    have hne8 := HX3.out.ne
    have HR := Lib.hid (show FrAt W8 M g fo _ n c1 _ wt al (hearS (wt k) al k m s) ∧ BF M w W8 from ⟨by
      rw [HE.out]
      exact ⟨(q8.block g HX3.out.blk.lt (by simpa using hne8.1)).trans HX3.out.blk, p8, HX3.out.cp, HX3.out.tg.congr fun q e => by obtain rfl := Option.some.inj e; exact q8.block _ HX3.out.tg.lt (by simpa using fun e => hne8.2.2 e.symm), HX3.out.ge⟩, HB3.out.trans (HX3.out.frame q8 (by simp))⟩)
    obtain ⟨g0, g1, g2, gz⟩ := HX3.out.fl.cell HK.out
    have gl := HX3.out.fl.lt
    have w3 : IntKind.u16.wrap m = m := IntWalk.u16_in _ (by have := HM.out; omega)
    have HF8 := Lib.hid (HF3.out.trans q8 (by simp))
    clear p8 q8 hne8 g0
    go_wp2_with fail
    rw [← hW8]
    go_end0
    exact ⟨rfl, ⟨_, _, HR.out.1, HF8.out, HFT.out⟩, HR.out.2⟩
  · have h00 : m = 0 := by omega
    have hnew : hNew k m s = false := by unfold hNew; simp [h00]
    have HE := Lib.hid (hearS_T (wt k) al k m s (updT s.T k ⟨(s.T k).s, (s.T k).s⟩) (by rw [if_neg (by rw [hnew]; simp), hT]))
    rw [hs] at f2
    have d1 : decide (0 < m) = false := decide_eq_false h0
    clear hi hw hm h hZ hn8 hwk hzk h0 hnew hT hs hWT hzm hz0 hx5 hb5 hSS hk h00 HH
    go_enter Try.func27, Try.ntmps27
    go_upto_region 5 with fail
    go_still_tail 17, (by kernel_rfl)
    change wpList _ _ _ _ _ w.drew
    go_upto_region 6 with fail
    rw [← hW5]
    clear hW5 e3 e4 e5 e6 e7 dz
    go_upto_region 8 with fail
    clear f0 f1 f2 fz fl w3
    obtain ⟨W8, hW8⟩ : ∃ W, W = (W5.setCell ⟨fo, k * 3 + 1, none⟩ (.int .u16 m)).setCell ⟨fo, k * 3 + 2, none⟩ (.bool false) := ⟨_, rfl⟩
    obtain ⟨p8, q8⟩ := HX5.out.fl.put HK.out m false hW8
    have hne8 := HX5.out.ne
    have HR := Lib.hid (show FrAt W8 M g fo _ n c1 _ wt al (hearS (wt k) al k m s) ∧ BF M w W8 from ⟨by
      rw [HE.out]
      exact ⟨(q8.block g HX5.out.blk.lt (by simpa using hne8.1)).trans HX5.out.blk, p8, HX5.out.cp, HX5.out.tg.congr fun q e => by obtain rfl := Option.some.inj e; exact q8.block _ HX5.out.tg.lt (by simpa using fun e => hne8.2.2 e.symm), HX5.out.ge⟩, HB5.out.trans (HX5.out.frame q8 (by simp))⟩)
    obtain ⟨g0, g1, g2, gz⟩ := HX5.out.fl.cell HK.out
    have gl := HX5.out.fl.lt
    have w3 : IntKind.u16.wrap m = m := IntWalk.u16_in _ (by have := HM.out; omega)
    have HF8 := Lib.hid (HF5.out.trans q8 (by simp))
    clear p8 q8 hne8 g0
    go_wp2_with fail
    rw [← hW8]
    go_end0
    exact ⟨rfl, ⟨_, _, HR.out.1, HF8.out, (Or.inl rfl)⟩, HR.out.2⟩
set_option maxRecDepth 100000 in
set_option maxHeartbeats 8000000 in
theorem hear_e (k : Nat) (m : Int) (M g fo ft n c1 c2 : Nat) (wt : Nat → Int) (al : Int) (s : FS) (w : World) (h : FrAt w M g fo ft n c1 c2 wt al s) (hi : Inv n s) (hw : WtOk n wt al) (hk : k < n) (hm : 0 ≤ m ∧ m ≤ 1500) (hs : s.sv k = false) (hzm : s.z k ≠ m) (hz0 : s.z k = 0) :
    Calls Try.prog 27 #[.pointer (some ⟨g, 0, none⟩), .int .i64 k, .pointer (some ⟨fo, k * 3, none⟩), .int .i64 m] w fun e w' => e = .returned (.tuple #[]) ∧ HrP M g fo ft n c1 wt al (hearS (wt k) al k m s) w w' := by
  have hn8 := hi.n8
  have hwk := hw.w k hk
  have hzk := (hi.k k hk).z0
  obtain ⟨f0, f1, f2, fz⟩ := h.fl.cell hk
  have fl := h.fl.lt
  obtain ⟨WT, hWT⟩ : ∃ x, x = wt k := ⟨_, rfl⟩
  obtain ⟨Z, hZ⟩ : ∃ x, x = s.z k := ⟨_, rfl⟩
  rw [← hWT] at f0 hwk
  rw [← hZ] at f1 hzk
  have w1 : IntKind.i64.wrap WT = WT := IntWalk.i64_in _ (by omega)
  have w2 : IntKind.i64.wrap Z = Z := IntWalk.i64_in _ (by omega)
  have w3 : IntKind.u16.wrap m = m := by first | exact IntWalk.u16_in _ (by omega) | (simp [IntKind.wrap]; omega)
  have HH := Lib.hid h
  have HI := Lib.hid hi
  have HW := Lib.hid hw
  have HK := Lib.hid hk
  have HM := Lib.hid hm
  have HWT := Lib.hid hWT
  have HZ := Lib.hid hZ
  have h0 : 0 < m := by omega
  have hnew : hNew k m s = true := by unfold hNew; simp [hs, hzm]; omega
  have hT : hT1 k m s = s.T := by unfold hT1; rw [if_neg (by simp [hz0])]
  have hA : hAt k m s = max (s.T k).f s.V := by unfold hAt; rw [if_neg (by simp [hs]), hT]
  have HE := Lib.hid (hearS_T (wt k) al k m s (updT s.T k ⟨max (s.T k).f s.V, max (s.T k).f s.V + costS m (wt k) al⟩) (by rw [if_pos hnew, hT, hA]))
  have hg := hear_good hi hk (m := m) (by omega) (hw.w k hk) hw.a hnew
  rw [hT, hA] at hg
  have NX := Lib.hid (fun W hs => wake_ok s.V ft n c2 s.T k m (wt k) al W hs hn8 hk hg)
  rw [← hWT] at NX
  have HBB : Hid (BF M w w) := Lib.hid (BF.refl _ _)
  have HFF : Hid (Fr [g, fo, ft] w w) := Lib.hid (Fr.refl _ _)
  rw [hs] at f2
  have d1 : decide (0 < m) = true := decide_eq_true h0
  have d2 : (m != Z) = true := by rw [hZ]; simp; omega
  have d3 : decide (0 < Z) = false := decide_eq_false (by omega)
  clear hi hw hm h hZ hn8 hwk hzk h0 hnew hT hA hg hs hWT hzm hz0
  go_enter Try.func27, Try.ntmps27
  go_upto_region 7 with fail
  clear f1 f2 w2 w3 fz fl f0
  refine wp_region_held_drew (S := fun X => X.cell? ⟨g, 1, none⟩ = some (.int .i64 al) ∧ X.cell? ⟨fo, k * 3, none⟩ = some (.int .u8 WT)) (by kernel_rfl) ⟨cell_at HH.out.blk 1, by rw [HWT.out]; exact (HH.out.fl.cell HK.out).1⟩ (fun hHeld => ?_)
  try simp only [Act.put, List.setIfInBounds_toArray, List.set_cons_zero, List.set_cons_succ]
  have Bz := belowN (Below.refl w.heap.size w) 1
  have HX1 : Hid (FrAt w.drew M g fo ft n c1 c2 wt al s) := Lib.hid (HH.out.step Bz)
  have HB1 : Hid (BF M w w.drew) := Lib.hid (HBB.out.trans (BF.new Bz HH.out.size))
  have HF1 : Hid (Fr [g, fo, ft] w w.drew) := Lib.hid (HFF.out.trans (Fr.of_below Bz) (by simp))
  clear Bz
  ((refine wpAnyH_take (i := 0) (v := ?_) (by (simp only [List.getElem?_toArray, List.getElem?_cons_succ, List.getElem?_cons_zero]); rfl) (by kernel_rfl) (by kernel_rfl) (by kernel_rfl) (by exact fun _ _ _ h => h) (Or.inl ⟨by rfl, ?_⟩) (by assumption) ?_); rotate_left; focus (intro wS hSw; (try dsimp only at hSw); go_simp; first | done | with_reducible rfl); try simp only [Act.put, List.setIfInBounds_toArray, List.set_cons_zero, List.set_cons_succ])
  ((refine wpAnyH_take (i := 1) (v := ?_) (by (simp only [List.getElem?_toArray, List.getElem?_cons_succ, List.getElem?_cons_zero]); rfl) (by kernel_rfl) (by kernel_rfl) (by kernel_rfl) (by exact fun _ _ _ h => h) (Or.inl ⟨by rfl, ?_⟩) (by assumption) ?_); rotate_left; focus (intro wS hSw; (try dsimp only at hSw); go_simp; first | done | with_reducible rfl); try simp only [Act.put, List.setIfInBounds_toArray, List.set_cons_zero, List.set_cons_succ])
  ((refine wpAnyH_take (i := 2) (v := ?_) (by (simp only [List.getElem?_toArray, List.getElem?_cons_succ, List.getElem?_cons_zero]); rfl) (by kernel_rfl) (by kernel_rfl) (by kernel_rfl) (by exact fun _ _ _ h => h) (Or.inl ⟨by rfl, ?_⟩) (by assumption) ?_); rotate_left; focus (intro wS hSw; (try dsimp only at hSw); go_simp; first | done | with_reducible rfl); try simp only [Act.put, List.setIfInBounds_toArray, List.set_cons_zero, List.set_cons_succ])
  ((refine wpAnyH_take (i := 3) (v := ?_) (by (simp only [List.getElem?_toArray, List.getElem?_cons_succ, List.getElem?_cons_zero]); rfl) (by kernel_rfl) (by kernel_rfl) (by kernel_rfl) (by exact fun _ _ _ h => h) (Or.inl ⟨by rfl, ?_⟩) (by assumption) ?_); rotate_left; focus (intro wS hSw; (try dsimp only at hSw); go_simp; first | done | with_reducible rfl); try simp only [Act.put, List.setIfInBounds_toArray, List.set_cons_zero, List.set_cons_succ])
  ((refine wpAnyH_take (i := 5) (v := ?_) (by (simp only [List.getElem?_toArray, List.getElem?_cons_succ, List.getElem?_cons_zero]); rfl) (by kernel_rfl) (by kernel_rfl) (by kernel_rfl) (by exact fun _ _ _ h => h) (Or.inl ⟨by rfl, ?_⟩) (by assumption) ?_); rotate_left; focus (intro wS hSw; (try dsimp only at hSw); go_simp; first | done | with_reducible rfl); try simp only [Act.put, List.setIfInBounds_toArray, List.set_cons_zero, List.set_cons_succ])
  ((refine wpAnyH_take (i := 6) (v := ?_) (by (simp only [List.getElem?_toArray, List.getElem?_cons_succ, List.getElem?_cons_zero]); rfl) (by kernel_rfl) (by kernel_rfl) (by kernel_rfl) (by exact fun _ _ _ h => h) (Or.inl ⟨by rfl, ?_⟩) (by assumption) ?_); rotate_left; focus (intro wS hSw; (try dsimp only at hSw); go_simp; first | done | with_reducible rfl); try simp only [Act.put, List.setIfInBounds_toArray, List.set_cons_zero, List.set_cons_succ])
  ((refine wpAnyH_take (i := 7) (v := ?_) (by (simp only [List.getElem?_toArray, List.getElem?_cons_succ, List.getElem?_cons_zero]); rfl) (by kernel_rfl) (by kernel_rfl) (by kernel_rfl) (by exact fun _ _ _ h => h) (Or.inl ⟨by rfl, ?_⟩) (by assumption) ?_); rotate_left; focus (intro wS hSw; (try dsimp only at hSw); go_simp; first | done | with_reducible rfl); try simp only [Act.put, List.setIfInBounds_toArray, List.set_cons_zero, List.set_cons_succ])
  ((refine wpAnyH_take (i := 8) (v := ?_) (by (simp only [List.getElem?_toArray, List.getElem?_cons_succ, List.getElem?_cons_zero]); rfl) (by kernel_rfl) (by kernel_rfl) (by kernel_rfl) (by exact fun _ _ _ h => h) (Or.inl ⟨by rfl, ?_⟩) (by assumption) ?_); rotate_left; focus (intro wS hSw; (try dsimp only at hSw); go_simp; first | done | with_reducible rfl); try simp only [Act.put, List.setIfInBounds_toArray, List.set_cons_zero, List.set_cons_succ])
  ((refine wpAnyH_take (i := 9) (v := ?_) (by (simp only [List.getElem?_toArray, List.getElem?_cons_succ, List.getElem?_cons_zero]); rfl) (by kernel_rfl) (by kernel_rfl) (by kernel_rfl) (by exact fun _ _ _ h => h) (Or.inl ⟨by rfl, ?_⟩) (by assumption) ?_); rotate_left; focus (intro wS hSw; (try dsimp only at hSw); go_simp; first | done | with_reducible rfl); try simp only [Act.put, List.setIfInBounds_toArray, List.set_cons_zero, List.set_cons_succ])
  ((refine wpAnyH_take (i := 10) (v := ?_) (by (simp only [List.getElem?_toArray, List.getElem?_cons_succ, List.getElem?_cons_zero]); rfl) (by kernel_rfl) (by kernel_rfl) (by kernel_rfl) (by exact fun _ _ _ h => h) (Or.inl ⟨by rfl, ?_⟩) (by assumption) ?_); rotate_left; focus (intro wS hSw; (try dsimp only at hSw); go_simp; first | done | with_reducible rfl); try simp only [Act.put, List.setIfInBounds_toArray, List.set_cons_zero, List.set_cons_succ])
  ((refine wpAnyH_take (i := 11) (v := ?_) (by (simp only [List.getElem?_toArray, List.getElem?_cons_succ, List.getElem?_cons_zero]); rfl) (by kernel_rfl) (by kernel_rfl) (by kernel_rfl) (by exact fun _ _ _ h => h) (Or.inl ⟨by rfl, ?_⟩) (by assumption) ?_); rotate_left; focus (intro wS hSw; (try dsimp only at hSw); go_simp; first | done | with_reducible rfl); try simp only [Act.put, List.setIfInBounds_toArray, List.set_cons_zero, List.set_cons_succ])
  ((refine wpAnyH_take (i := 12) (v := ?_) (by (simp only [List.getElem?_toArray, List.getElem?_cons_succ, List.getElem?_cons_zero]); rfl) (by kernel_rfl) (by kernel_rfl) (by kernel_rfl) (by exact fun _ _ _ h => h) (Or.inl ⟨by rfl, ?_⟩) (by assumption) ?_); rotate_left; focus (intro wS hSw; (try dsimp only at hSw); go_simp; first | done | with_reducible rfl); try simp only [Act.put, List.setIfInBounds_toArray, List.set_cons_zero, List.set_cons_succ])
  ((refine wpAnyH_take (i := 13) (v := ?_) (by (simp only [List.getElem?_toArray, List.getElem?_cons_succ, List.getElem?_cons_zero]); rfl) (by kernel_rfl) (by kernel_rfl) (by kernel_rfl) (by exact fun _ _ _ h => h) (Or.inl ⟨by rfl, ?_⟩) (by assumption) ?_); rotate_left; focus (intro wS hSw; (try dsimp only at hSw); go_simp; first | done | with_reducible rfl); try simp only [Act.put, List.setIfInBounds_toArray, List.set_cons_zero, List.set_cons_succ])
  ((refine wpAnyH_take (i := 14) (v := ?_) (by (simp only [List.getElem?_toArray, List.getElem?_cons_succ, List.getElem?_cons_zero]); rfl) (by kernel_rfl) (by kernel_rfl) (by kernel_rfl) (by exact fun _ _ _ h => h) (Or.inl ⟨by rfl, ?_⟩) (by assumption) ?_); rotate_left; focus (intro wS hSw; (try dsimp only at hSw); go_simp; first | done | with_reducible rfl); try simp only [Act.put, List.setIfInBounds_toArray, List.set_cons_zero, List.set_cons_succ])
  ((refine wpAnyH_take (i := 15) (v := ?_) (by (simp only [List.getElem?_toArray, List.getElem?_cons_succ, List.getElem?_cons_zero]); rfl) (by kernel_rfl) (by kernel_rfl) (by kernel_rfl) (by exact fun _ _ _ h => h) (Or.inl ⟨by rfl, ?_⟩) (by assumption) ?_); rotate_left; focus (intro wS hSw; (try dsimp only at hSw); go_simp; first | done | with_reducible rfl); try simp only [Act.put, List.setIfInBounds_toArray, List.set_cons_zero, List.set_cons_succ])
  refine wpAnyH_ready (rs := [4]) (by kernel_rfl) (by simp) ?_
  refine AllReadyH.cons (by (simp only [List.getElem?_toArray, List.getElem?_cons_succ, List.getElem?_cons_zero]); rfl) (fun K hK => ?_) AllReadyH.nil
  have e2 : w.drew.cell? ⟨g, 2, none⟩ = some (.int .i64 s.V) := cell_at HX1.out.blk 2
  have e3 : w.drew.cell? ⟨g, 3, none⟩ = some (.slice (some ⟨ft, 0, none⟩) n c2) := cell_at HX1.out.blk 3
  go_simp
  refine hK _ _ ⟨cell_at HX1.out.blk 1, by rw [HWT.out]; exact (HX1.out.fl.cell HK.out).1⟩ (fun hHeld => ?_)
  clear hK K e2 e3
  try simp only [Act.put, List.setIfInBounds_toArray, List.set_cons_zero, List.set_cons_succ]
  ((refine wpAnyH_ready (rs := [16]) (by kernel_rfl) (by simp) ?_); (refine AllReadyH.cons (by (simp only [List.getElem?_toArray, List.getElem?_cons_succ, List.getElem?_cons_zero]); rfl) (fun K hK => ?_) AllReadyH.nil); go_simp; go_fit (NX.out _ (HX1.out.tags HI.out)))
  rintro e W2 ⟨ft', c', rfl, hr2, hl2, hB2⟩
  have HX2 := Lib.hid (HX1.out.step hB2)
  have HB2 := Lib.hid (HB1.out.trans (BF.new hB2 HX1.out.size))
  have HR2 := Lib.hid hr2
  have HL2 : Hid (M ≤ ft') := Lib.hid (Nat.le_trans HX1.out.size hl2)
  have HF2 := Lib.hid (HF1.out.trans (Fr.of_below hB2) (by simp))
  have HFT : Hid (ft' = ft ∨ w.heap.size ≤ ft') := Lib.hid (.inr (Nat.le_trans HF1.out.size hl2))
  clear hr2 hl2 hB2
  go_wp2_with fail
  refine hK.out _ _ ⟨cell_at HX2.out.blk 1, by rw [HWT.out]; exact (HX2.out.fl.cell HK.out).1⟩ (fun hHeld => ?_)
  clear hK K
  try simp only [Act.put, List.setIfInBounds_toArray, List.set_cons_zero, List.set_cons_succ]
  ((refine wpAnyH_take (i := 17) (v := ?_) (by (simp only [List.getElem?_toArray, List.getElem?_cons_succ, List.getElem?_cons_zero]); rfl) (by kernel_rfl) (by kernel_rfl) (by kernel_rfl) (by exact fun _ _ _ h => h) (Or.inl ⟨by rfl, ?_⟩) (by assumption) ?_); rotate_left; focus (intro wS hSw; (try dsimp only at hSw); go_simp; first | done | with_reducible rfl); try simp only [Act.put, List.setIfInBounds_toArray, List.set_cons_zero, List.set_cons_succ])
  ((refine wpAnyH_take (i := 18) (v := ?_) (by (simp only [List.getElem?_toArray, List.getElem?_cons_succ, List.getElem?_cons_zero]); rfl) (by kernel_rfl) (by kernel_rfl) (by kernel_rfl) (by exact fun _ _ _ h => h) (Or.inl ⟨by rfl, ?_⟩) (by assumption) ?_); rotate_left; focus (intro wS hSw; (try dsimp only at hSw); go_simp; first | done | with_reducible rfl); try simp only [Act.put, List.setIfInBounds_toArray, List.set_cons_zero, List.set_cons_succ])
  ((refine wpAnyH_ready (rs := [19]) (by kernel_rfl) (by simp) ?_); (refine AllReadyH.cons (by (simp only [List.getElem?_toArray, List.getElem?_cons_succ, List.getElem?_cons_zero]); rfl) (fun K hK => ?_) AllReadyH.nil); go_simp; go_fit (set_ok _ _ _ _ M g fo ft n c1 c2 wt al _ _ HX2.out HR2.out HL2.out))
  rintro e W3 ⟨rfl, hx3, hb3, hf3⟩
  have HF3 := Lib.hid (HF2.out.trans hf3 (by simp))
  have HX3 := Lib.hid hx3
  have HB3 := Lib.hid (HB2.out.trans hb3)
  clear hx3 hb3 hf3
  go_wp2_with fail
  refine hK.out _ _ ⟨cell_at HX3.out.blk 1, by rw [HWT.out]; exact (HX3.out.fl.cell HK.out).1⟩ (fun hHeld => ?_)
  clear hK K
  try simp only [Act.put, List.setIfInBounds_toArray, List.set_cons_zero, List.set_cons_succ]
  refine wpAnyH_done (by kernel_rfl) ?_ _
  try simp only [Act.put, List.setIfInBounds_toArray, List.set_cons_zero, List.set_cons_succ]
  rw [HWT.out] at HX3
  go_upto_region 8 with fail
  obtain ⟨W8, hW8⟩ : ∃ W, W = (W3.setCell ⟨fo, k * 3 + 1, none⟩ (.int .u16 m)).setCell ⟨fo, k * 3 + 2, none⟩ (.bool false) := ⟨_, rfl⟩
  obtain ⟨p8, q8⟩ := HX3.out.fl.put HK.out m false hW8
  have hne8 := HX3.out.ne
  have HR := Lib.hid (show FrAt W8 M g fo _ n c1 _ wt al (hearS (wt k) al k m s) ∧ BF M w W8 from ⟨by
    rw [HE.out]
    exact ⟨(q8.block g HX3.out.blk.lt (by simpa using hne8.1)).trans HX3.out.blk, p8, HX3.out.cp, HX3.out.tg.congr fun q e => by obtain rfl := Option.some.inj e; exact q8.block _ HX3.out.tg.lt (by simpa using fun e => hne8.2.2 e.symm), HX3.out.ge⟩, HB3.out.trans (HX3.out.frame q8 (by simp))⟩)
  obtain ⟨g0, g1, g2, gz⟩ := HX3.out.fl.cell HK.out
  have gl := HX3.out.fl.lt
  have w3 : IntKind.u16.wrap m = m := IntWalk.u16_in _ (by have := HM.out; omega)
  have HF8 := Lib.hid (HF3.out.trans q8 (by simp))
  clear p8 q8 hne8 g0
  go_wp2_with fail
  rw [← hW8]
  go_end0
  exact ⟨rfl, ⟨_, _, HR.out.1, HF8.out, HFT.out⟩, HR.out.2⟩
theorem hear_ok (k : Nat) (m : Int) (M g fo ft n c1 c2 : Nat) (wt : Nat → Int) (al : Int) (s : FS) (w : World) (h : FrAt w M g fo ft n c1 c2 wt al s) (hi : Inv n s) (hw : WtOk n wt al) (hk : k < n) (hm : 0 ≤ m ∧ m ≤ 1500) :
    Calls Try.prog 27 #[.pointer (some ⟨g, 0, none⟩), .int .i64 k, .pointer (some ⟨fo, k * 3, none⟩), .int .i64 m] w fun e w' => e = .returned (.tuple #[]) ∧ HrP M g fo ft n c1 wt al (hearS (wt k) al k m s) w w' := by
  cases hs : s.sv k
  · by_cases hz : s.z k = m
    · exact hear_n k m M g fo ft n c1 c2 wt al s w h hi hw hk hm (.inr ⟨hs, hz⟩)
    · by_cases h0 : 0 < s.z k
      · exact hear_d k m M g fo ft n c1 c2 wt al s w h hi hw hk hm hs hz h0
      · exact hear_e k m M g fo ft n c1 c2 wt al s w h hi hw hk hm hs hz (by have := (hi.k k hk).z0; omega)
  · by_cases h0 : 0 < m
    · exact hear_a k m M g fo ft n c1 c2 wt al s w h hi hw hk hm hs h0
    · exact hear_n k m M g fo ft n c1 c2 wt al s w h hi hw hk hm (.inl ⟨hs, by omega⟩)
end Go.Proofs.Ytnainlemnkfpkaa
