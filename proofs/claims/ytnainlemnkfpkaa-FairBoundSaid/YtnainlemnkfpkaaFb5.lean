/-
  A new one, the document: the walk.
-/
import Derived.Test.YtnainlemnkfpkaaFb4
namespace Go.Proofs.Ytnainlemnkfpkaa
open Go.RowKit
set_option linter.unusedSimpArgs false
set_option linter.unusedVariables false

theorem RMk.grb {W0 W W' : World} {g : Nat} {vw vz vv : Value} {ow oz ov : Option Nat} {wt : Nat → Int} {a s b c : Nat} (h : RMk W0 W g vw vz vv ow oz ov wt a s b c) (hg : W.grownBy W' ow) : Blk W' g #[vw, .int .i64 (sumW wt s), .int .i64 0, .slice none 0 0, vz, vv] 43 :=
  (hg.block g h.blk.lt (fun e => by
    have hr := h.w.1
    rw [← e] at hr
    exact row_blk_ne hr h.blk (by decide) rfl)).trans h.blk
theorem RMk.grz {W0 W W' : World} {g : Nat} {vw vz vv : Value} {ow oz ov : Option Nat} {wt : Nat → Int} {a s b c : Nat} (h : RMk W0 W g vw vz vv ow oz ov wt a s b c) (hg : W.grownBy W' oz) : Blk W' g #[vw, .int .i64 (sumW wt s), .int .i64 0, .slice none 0 0, vz, vv] 43 :=
  (hg.block g h.blk.lt (fun e => by
    have hr := h.z.1
    rw [← e] at hr
    exact row_blk_ne hr h.blk (by decide) rfl)).trans h.blk
theorem RMk.grv {W0 W W' : World} {g : Nat} {vw vz vv : Value} {ow oz ov : Option Nat} {wt : Nat → Int} {a s b c : Nat} (h : RMk W0 W g vw vz vv ow oz ov wt a s b c) (hg : W.grownBy W' ov) : Blk W' g #[vw, .int .i64 (sumW wt s), .int .i64 0, .slice none 0 0, vz, vv] 43 :=
  (hg.block g h.blk.lt (fun e => by
    have hr := h.v
    rw [← e] at hr
    exact row_blk_ne hr h.blk (by decide) rfl)).trans h.blk
set_option maxRecDepth 100000 in
set_option maxHeartbeats 40000000 in
theorem rfnew_any (va : Value) (L : List Int) (w : World) (hv : InV w va L) (h1 : 1 ≤ L.length) (h8 : L.length ≤ 8) :
    Calls Try.prog 9 #[va] w fun e w' => (okWt L ∧ ∃ (x : RL) (ft c2 : Nat), e = .returned (.tuple #[.pointer (some ⟨x.g, 0, none⟩), .int .i64 0]) ∧ x.n = L.length ∧ RfAt w' w.heap.size x ft c2 (gI L) (sumW (gI L) L.length) s0F ∧ Below w.heap.size w w') ∨ (¬ okWt L ∧ e = .returned (.tuple #[.pointer none, .int .i64 2]) ∧ Below w.heap.size w w') := by
  obtain ⟨xa, n, xc, rfl, HN, m1, m2⟩ := hv.sh
  have hn : n = L.length := HN.out
  rw [← hn] at h1 h8 ⊢
  have HV := Lib.hid hv
  have NW := Lib.hid (fun W => rnew_good n W h1 h8)
  have HN1 := Lib.hid h1
  have HN8 := Lib.hid h8
  obtain ⟨wt, hwt⟩ : ∃ f, f = gI L := ⟨_, rfl⟩
  have HWT := Lib.hid hwt
  rw [← hwt]
  obtain ⟨OK, hOK⟩ : ∃ P, P = okWt L := ⟨_, rfl⟩
  have HOK : Hid (OK ↔ ∀ k, k < n → 1 ≤ wt k ∧ wt k ≤ 16) := Lib.hid (by rw [hOK, hwt, hn]; unfold okWt; rw [← hn]; exact ⟨fun h => h.2.2, fun h => ⟨h1, h8, h⟩⟩)
  rw [← hOK]
  have d0 : decide ((n : Int) < 1) = false := decide_eq_false (by omega)
  have d9 : decide (8 < (n : Int)) = false := decide_eq_false (by omega)
  clear hv hn hwt hOK h1 h8
  go_enter Try.func9, Try.ntmps9
  obtain ⟨g, hg⟩ : ∃ N, N = w.heap.size := ⟨_, rfl⟩
  obtain ⟨W3, hW3⟩ : ∃ W, W = w.alloc (.cells #[.slice none 0 0, .int .i64 0, .int .i64 0, .slice none 0 0, .slice none 0 0, .slice none 0 0] 43) := ⟨_, rfl⟩
  have hB3 : Below w.heap.size w W3 := by rw [hW3]; exact alloc_b _ _
  have HMK := Lib.hid (show RMk w W3 g (.slice none 0 0) (.slice none 0 0) (.slice none 0 0) none none none wt 0 0 0 0 from ⟨by rw [hW3, hg]; exact blk_new _ _ _, ⟨Row.nil _ _ _, (fun x h => by cases h), (fun q e => by cases e)⟩, ⟨Row.nil _ _ _, (fun x h => by cases h), (fun q e => by cases e)⟩, Row.nil _ _ _, (fun q e => by cases e), hB3, by rw [hg]; exact Nat.le_refl _, (fun p q e => by cases e)⟩)
  clear hB3
  go_upto_region 4 with fail
  rw [← hg, ← hW3]
  clear hg hW3 d0 d9
  go_wp2_with fail
  go_loopw [5] (fun i wr => ∃ (k : Nat) (vw vz vv : Value) (ow oz ov : Option Nat), k ≤ n ∧ i = .int .i64 k ∧ (∀ j, j < k → 1 ≤ wt j ∧ wt j ≤ 16) ∧ RMk w wr g vw vz vv ow oz ov wt k k k k) (fun i _ => n - (intOf i).toNat)
  case atStart => exact ⟨0, _, _, _, _, _, _, Nat.zero_le _, rfl, (fun j h => by omega), HMK.out⟩
  case round =>
    clear HMK
    obtain ⟨k, vw, vz, vv, ow, oz, ov, hk, rfl, hok, hmk⟩ := hrel
    have HMK := Lib.hid hmk
    have HO := Lib.hid hok
    by_cases hlt : k < n
    rotate_left
    · obtain rfl : k = n := by omega
      clear hmk hok
      go_wp2_with fail
      go_at_call 21
      go_fit (NW.out _)
      rintro e W1 ⟨v, rfl, hvo⟩
      obtain ⟨ft, c2, rfl, hr1, hg1, hB1⟩ := vout_own hvo (by have := HN1.out; omega)
      have hm1 := HMK.out.step hB1
      have gz : ∀ j, W1.frozen? ⟨g, j, none⟩ = false := fun j => free_at hm1.blk j
      have gl : g < W1.heap.size := hm1.blk.lt
      have g2 : W1.cell? ⟨g, 2, none⟩ = some (.int .i64 0) := cell_at hm1.blk 2
      have g3 : W1.cell? ⟨g, 3, none⟩ = some (.slice none 0 0) := cell_at hm1.blk 3
      have HM1 := Lib.hid hm1
      have HR1 := Lib.hid hr1
      have HG1 : Hid (w.heap.size ≤ ft) := Lib.hid (Nat.le_trans HMK.out.b.size hg1)
      clear hm1 hr1 hg1 hvo hB1
      go_upto_region 14 with fail
      generalize hW2' : (W1.setCell ⟨g, 2, none⟩ (.int .i64 0)).setCell ⟨g, 3, none⟩ (.slice (some ⟨ft, 0, none⟩) k c2) = W2
      obtain ⟨x, xg, xn, hx, hBx⟩ := HM1.out.done HN1.out HR1.out HG1.out hW2'.symm
      subst xg
      have HX := Lib.hid hx
      have HBX := Lib.hid hBx
      clear hW2' hx hBx g2 g3 gz gl
      go_wp2_with fail
      try rw [Exit.noGoto_ret]
      exact bodyPost_ret (v := .tuple #[.pointer (some ⟨x.g, 0, none⟩), .int .i64 0]) (by simp [results, Try.results9, go_sem]) rfl (.inl ⟨HOK.out.2 HO.out, x, ft, c2, rfl, xn, HX.out, HBX.out⟩)
    obtain ⟨gx, ox, y, ea, l1, hy, c0⟩ := HV.out.at k hlt
    subst ea
    have HC0 : Hid (∀ W', Below w.heap.size w W' → W'.cell? ⟨gx, ox + k, none⟩ = some (.int .i64 y)) := Lib.hid (fun W' hB => (hB.cell (p := ⟨gx, ox + k, none⟩) l1).trans c0.1)
    replace c0 := HC0.out wr hmk.b
    have hgi : wt k = y := by rw [HWT.out]; unfold gI; rw [hy]; rfl
    have HGI := Lib.hid hgi
    have ww5 : IntKind.i64.wrap ((k : Int) + 1) = (k : Int) + 1 := IntWalk.i64_in _ (by omega)
    have b9 : ((k : Int) < (n : Int)) = True := eq_true (by omega)
    have bk1 : (k < n) = True := eq_true hlt
    have HLT := Lib.hid hlt
    clear hy hgi hok hlt
    by_cases hbad : y < 1 ∨ 16 < y
    · have HNO : Hid (¬ OK) := Lib.hid (fun h => by have := HOK.out.1 h k HLT.out; rw [HGI.out] at this; omega)
      have HBB := Lib.hid hmk.b
      clear hmk
      rcases hbad with hb | hb
      · have d1 : decide (y < 1) = true := decide_eq_true hb
        clear hb
        go_wp2_with fail
        try rw [Exit.noGoto_ret]
        exact bodyPost_ret (v := .tuple #[.pointer none, .int .i64 2]) (by simp [results, Try.results9, go_sem]) rfl (.inr ⟨HNO.out, rfl, HBB.out⟩)
      · have d1 : decide (y < 1) = false := decide_eq_false (by omega)
        have d2 : decide (16 < y) = true := decide_eq_true hb
        clear hb
        go_wp2_with fail
        try rw [Exit.noGoto_ret]
        exact bodyPost_ret (v := .tuple #[.pointer none, .int .i64 2]) (by simp [results, Try.results9, go_sem]) rfl (.inr ⟨HNO.out, rfl, HBB.out⟩)
    have hyb : 1 ≤ y ∧ y ≤ 16 := by omega
    have HYB := Lib.hid hyb
    have d1 : decide (y < 1) = false := decide_eq_false (by omega)
    have d2 : decide (16 < y) = false := decide_eq_false (by omega)
    have hsb := sumW_bd k HO.out
    obtain ⟨S, hS⟩ : ∃ S, S = sumW wt k := ⟨_, rfl⟩
    rw [← hS] at hsb
    have HWS : Hid (IntKind.i64.wrap (S + y) = S + y) := Lib.hid (IntWalk.i64_in _ (by have := HN8.out; have := HLT.out; omega))
    have HSS : Hid (sumW wt (k + 1) = S + y) := Lib.hid (by rw [hS, ← HGI.out]; rfl)
    have HS0 := Lib.hid hS
    have hrz := hmk.z.1
    rw [List.length_replicate] at hrz
    obtain ⟨az, cz, rfl, -, -, -⟩ := hrz.shape
    have hrv := hmk.v
    obtain ⟨ab, cb, rfl, -, -, -⟩ := hrv.shape
    clear hrz hrv hsb hS
    have hrw := hmk.w.1
    rw [wtL_len] at hrw
    obtain ⟨av, cv, rfl, -, -, -⟩ := hrw.shape
    clear hrw hmk hyb hbad
    go_upto_region 9 with fail
    clear c0 d1 d2
    refine wp_region_held_drew (S := fun X => X.cell? ⟨gx, ox + k, none⟩ = some (.int .i64 y)) (by kernel_rfl) (HC0.out wr HMK.out.b) (fun hHeld => ?_)
    try simp only [Act.put, List.setIfInBounds_toArray, List.set_cons_zero, List.set_cons_succ]
    have HM2 := Lib.hid (show RMk w wr.drew g (.slice av k cv) (.slice az k cz) (.slice ab k cb) ow oz ov wt k k k k from HMK.out.step (belowN (Below.refl wr.heap.size wr) 1))
    ((refine wpAnyH_take (i := 0) (v := ?_) (by (simp only [List.getElem?_toArray, List.getElem?_cons_succ, List.getElem?_cons_zero]); rfl) (by kernel_rfl) (by kernel_rfl) (by kernel_rfl) (by exact fun _ _ _ h => h) (Or.inl ⟨by rfl, ?_⟩) (by assumption) ?_); rotate_left; focus (intro wS hSw; (try dsimp only at hSw); go_simp; first | done | with_reducible rfl); try simp only [Act.put, List.setIfInBounds_toArray, List.set_cons_zero, List.set_cons_succ])
    ((refine wpAnyH_take (i := 1) (v := ?_) (by (simp only [List.getElem?_toArray, List.getElem?_cons_succ, List.getElem?_cons_zero]); rfl) (by kernel_rfl) (by kernel_rfl) (by kernel_rfl) (by exact fun _ _ _ h => h) (Or.inl ⟨by rfl, ?_⟩) (by assumption) ?_); rotate_left; focus (intro wS hSw; (try dsimp only at hSw); go_simp; first | done | with_reducible rfl); try simp only [Act.put, List.setIfInBounds_toArray, List.set_cons_zero, List.set_cons_succ])
    ((refine wpAnyH_take (i := 2) (v := ?_) (by (simp only [List.getElem?_toArray, List.getElem?_cons_succ, List.getElem?_cons_zero]); rfl) (by kernel_rfl) (by kernel_rfl) (by kernel_rfl) (by exact fun _ _ _ h => h) (Or.inl ⟨by rfl, ?_⟩) (by assumption) ?_); rotate_left; focus (intro wS hSw; (try dsimp only at hSw); go_simp; first | done | with_reducible rfl); try simp only [Act.put, List.setIfInBounds_toArray, List.set_cons_zero, List.set_cons_succ])
    ((refine wpAnyH_take (i := 3) (v := ?_) (by (simp only [List.getElem?_toArray, List.getElem?_cons_succ, List.getElem?_cons_zero]); rfl) (by kernel_rfl) (by kernel_rfl) (by kernel_rfl) (by exact fun _ _ _ h => h) (Or.inl ⟨by rfl, ?_⟩) (by assumption) ?_); rotate_left; focus (intro wS hSw; (try dsimp only at hSw); go_simp; first | done | with_reducible rfl); try simp only [Act.put, List.setIfInBounds_toArray, List.set_cons_zero, List.set_cons_succ])
    ((refine wpAnyH_take (i := 5) (v := ?_) (by (simp only [List.getElem?_toArray, List.getElem?_cons_succ, List.getElem?_cons_zero]); rfl) (by kernel_rfl) (by kernel_rfl) (by kernel_rfl) (by exact fun _ _ _ h => h) (Or.inl ⟨by rfl, ?_⟩) (by assumption) ?_); rotate_left; focus (intro wS hSw; (try dsimp only at hSw); go_simp; first | done | with_reducible rfl); try simp only [Act.put, List.setIfInBounds_toArray, List.set_cons_zero, List.set_cons_succ])
    ((refine wpAnyH_take (i := 6) (v := ?_) (by (simp only [List.getElem?_toArray, List.getElem?_cons_succ, List.getElem?_cons_zero]); rfl) (by kernel_rfl) (by kernel_rfl) (by kernel_rfl) (by exact fun _ _ _ h => h) (Or.inl ⟨by rfl, ?_⟩) (by assumption) ?_); rotate_left; focus (intro wS hSw; (try dsimp only at hSw); go_simp; first | done | with_reducible rfl); try simp only [Act.put, List.setIfInBounds_toArray, List.set_cons_zero, List.set_cons_succ])
    ((refine wpAnyH_take (i := 7) (v := ?_) (by (simp only [List.getElem?_toArray, List.getElem?_cons_succ, List.getElem?_cons_zero]); rfl) (by kernel_rfl) (by kernel_rfl) (by kernel_rfl) (by exact fun _ _ _ h => h) (Or.inl ⟨by rfl, ?_⟩) (by assumption) ?_); rotate_left; focus (intro wS hSw; (try dsimp only at hSw); go_simp; first | done | with_reducible rfl); try simp only [Act.put, List.setIfInBounds_toArray, List.set_cons_zero, List.set_cons_succ])
    ((refine wpAnyH_take (i := 8) (v := ?_) (by (simp only [List.getElem?_toArray, List.getElem?_cons_succ, List.getElem?_cons_zero]); rfl) (by kernel_rfl) (by kernel_rfl) (by kernel_rfl) (by exact fun _ _ _ h => h) (Or.inl ⟨by rfl, ?_⟩) (by assumption) ?_); rotate_left; focus (intro wS hSw; (try dsimp only at hSw); go_simp; first | done | with_reducible rfl); try simp only [Act.put, List.setIfInBounds_toArray, List.set_cons_zero, List.set_cons_succ])
    refine wpAnyH_ready (rs := [4, 9]) (by kernel_rfl) (by simp) ?_
    refine AllReadyH.cons (by (simp only [List.getElem?_toArray, List.getElem?_cons_succ, List.getElem?_cons_zero]); rfl) (fun K hK => ?_) (AllReadyH.cons (by (simp only [List.getElem?_toArray, List.getElem?_cons_succ, List.getElem?_cons_zero]); rfl) (fun K hK => ?_) AllReadyH.nil)
    · skip
      have e0 : wr.drew.cell? ⟨g, 0, none⟩ = some (.slice av k cv) := cell_at HM2.out.blk 0
      go_simp
      (first | refine hK.out _ _ (HC0.out _ HM2.out.b) (fun hHeld => ?_) | refine hK _ _ (HC0.out _ HM2.out.b) (fun hHeld => ?_))
      clear hK K e0
      try simp only [Act.put, List.setIfInBounds_toArray, List.set_cons_zero, List.set_cons_succ]
      refine wpAnyH_ready (rs := [9]) (by kernel_rfl) (by simp) ?_
      refine AllReadyH.cons (by (simp only [List.getElem?_toArray, List.getElem?_cons_succ, List.getElem?_cons_zero]); rfl) (fun K hK => ?_) AllReadyH.nil
      go_simp
      obtain ⟨NB, hNB⟩ : ∃ N, N = wr.heap.size := ⟨_, rfl⟩
      obtain ⟨W4, hW4⟩ : ∃ W, W = (wr.alloc (.cells #[.int .i64 y] 3)).drew := ⟨_, rfl⟩
      have k9 : Blk W4 NB #[.int .i64 y] 3 := by rw [hW4, hNB]; exact blk_new wr _ _
      have hB9 : Below wr.drew.heap.size wr.drew W4 := by rw [hW4]; exact alloc_b wr.drew _
      have HM4 := Lib.hid (HM2.out.step hB9)
      have HK4 := Lib.hid k9
      rw [← hNB, ← hW4]
      (first | refine hK.out _ _ (HC0.out _ HM4.out.b) (fun hHeld => ?_) | refine hK _ _ (HC0.out _ HM4.out.b) (fun hHeld => ?_))
      clear hK K k9 hB9 hNB hW4
      try simp only [Act.put, List.setIfInBounds_toArray, List.set_cons_zero, List.set_cons_succ]
      obtain ⟨v5, ob5, W5, hrun, hio, hgr, hs, hlo⟩ := in_grow (M := w.heap.size) (ty := 22) HM4.out.w HK4.out (by have := HYB.out; omega) HM4.out.b.size (by rw [wtL_len]; have := HN8.out; have := HLT.out; omega)
      rw [← HGI.out, ← wtL_succ] at hio
      have hr5 := hio.1
      rw [wtL_len] at hr5
      obtain ⟨a5, c5, rfl, -, -, -⟩ := hr5.shape
      have hb5 := HM4.out.grb hgr
      have HRUN := Lib.hid hrun
      have HB5 := Lib.hid hb5
      have HIO := Lib.hid hio
      have HGR := Lib.hid hgr
      have HS5 := Lib.hid hs
      have HLO := Lib.hid hlo
      clear hrun hio hgr hs hlo hr5 hb5
      have hBw5 : Hid (Below w.heap.size w W5) := Lib.hid (HM4.out.b.trans HLO.out)
      refine wpAnyH_ready (rs := [10]) (by kernel_rfl) (by simp) ?_
      refine AllReadyH.cons (by (simp only [List.getElem?_toArray, List.getElem?_cons_succ, List.getElem?_cons_zero]); rfl) (fun K hK => ?_) AllReadyH.nil
      rw [if_pos (by rfl)]
      refine op_append_run (.tmp 38) (.tmp 43) 22 (by kernel_rfl) (by kernel_rfl) (by kernel_rfl) HRUN.out ?_
      (first | refine hK.out _ _ (HC0.out _ hBw5.out) (fun hHeld => ?_) | refine hK _ _ (HC0.out _ hBw5.out) (fun hHeld => ?_))
      clear hK K
      try simp only [Act.put, List.setIfInBounds_toArray, List.set_cons_zero, List.set_cons_succ]
      ((refine wpAnyH_take (i := 11) (v := ?_) (by (simp only [List.getElem?_toArray, List.getElem?_cons_succ, List.getElem?_cons_zero]); rfl) (by kernel_rfl) (by kernel_rfl) (by kernel_rfl) (by exact fun _ _ _ h => h) (Or.inl ⟨by rfl, ?_⟩) (by assumption) ?_); rotate_left; focus (intro wS hSw; (try dsimp only at hSw); go_simp; first | done | with_reducible rfl); try simp only [Act.put, List.setIfInBounds_toArray, List.set_cons_zero, List.set_cons_succ])
      ((refine wpAnyH_take (i := 12) (v := ?_) (by (simp only [List.getElem?_toArray, List.getElem?_cons_succ, List.getElem?_cons_zero]); rfl) (by kernel_rfl) (by kernel_rfl) (by kernel_rfl) (by exact fun _ _ _ h => h) (Or.inl ⟨by rfl, ?_⟩) (by assumption) ?_); rotate_left; focus (intro wS hSw; (try dsimp only at hSw); go_simp; first | done | with_reducible rfl); try simp only [Act.put, List.setIfInBounds_toArray, List.set_cons_zero, List.set_cons_succ])
      have g0 : W5.cell? ⟨g, 0, none⟩ = some (.slice av k cv) := cell_at HB5.out 0
      have gz : ∀ j, W5.frozen? ⟨g, j, none⟩ = false := fun j => free_at HB5.out j
      have gl : g < W5.heap.size := HB5.out.lt
      refine wpAnyH_ready (rs := [13]) (by kernel_rfl) (by simp) ?_
      refine AllReadyH.cons (by (simp only [List.getElem?_toArray, List.getElem?_cons_succ, List.getElem?_cons_zero]); rfl) (fun K hK => ?_) AllReadyH.nil
      generalize hW6' : W5.setCell ⟨g, 0, none⟩ (.slice a5 (k + 1) c5) = W6
      have hW6 := hW6'.symm
      clear hW6'
      have HM6 := Lib.hid (HM4.out.pushW HIO.out HGR.out HS5.out HLO.out hW6)
      go_simp
      rw [← hW6]
      (first | refine hK.out _ _ (HC0.out _ HM6.out.b) (fun hHeld => ?_) | refine hK _ _ (HC0.out _ HM6.out.b) (fun hHeld => ?_))
      clear hK K g0 gz gl hW6
      try simp only [Act.put, List.setIfInBounds_toArray, List.set_cons_zero, List.set_cons_succ]
      refine wpAnyH_done (by kernel_rfl) ?_ _
      try simp only [Act.put, List.setIfInBounds_toArray, List.set_cons_zero, List.set_cons_succ]
      clear HM2 HM4 HK4 HRUN HB5 HIO HGR HS5 HLO hBw5
      go_upto_region 10 with fail
      refine wp_region_held_drew (S := fun X => X.cell? ⟨gx, ox + k, none⟩ = some (.int .i64 y)) (by kernel_rfl) (HC0.out W6 HM6.out.b) (fun hHeld => ?_)
      try simp only [Act.put, List.setIfInBounds_toArray, List.set_cons_zero, List.set_cons_succ]
      have HM7 := Lib.hid (show RMk w W6.drew g (.slice a5 (k + 1) c5) (.slice az k cz) (.slice ab k cb) (some ob5) oz ov wt (k + 1) k k k from HM6.out.step (belowN (Below.refl W6.heap.size W6) 1))
      ((refine wpAnyH_take (i := 0) (v := ?_) (by (simp only [List.getElem?_toArray, List.getElem?_cons_succ, List.getElem?_cons_zero]); rfl) (by kernel_rfl) (by kernel_rfl) (by kernel_rfl) (by exact fun _ _ _ h => h) (Or.inl ⟨by rfl, ?_⟩) (by assumption) ?_); rotate_left; focus (intro wS hSw; (try dsimp only at hSw); go_simp; first | done | with_reducible rfl); try simp only [Act.put, List.setIfInBounds_toArray, List.set_cons_zero, List.set_cons_succ])
      ((refine wpAnyH_take (i := 1) (v := ?_) (by (simp only [List.getElem?_toArray, List.getElem?_cons_succ, List.getElem?_cons_zero]); rfl) (by kernel_rfl) (by kernel_rfl) (by kernel_rfl) (by exact fun _ _ _ h => h) (Or.inl ⟨by rfl, ?_⟩) (by assumption) ?_); rotate_left; focus (intro wS hSw; (try dsimp only at hSw); go_simp; first | done | with_reducible rfl); try simp only [Act.put, List.setIfInBounds_toArray, List.set_cons_zero, List.set_cons_succ])
      ((refine wpAnyH_take (i := 2) (v := ?_) (by (simp only [List.getElem?_toArray, List.getElem?_cons_succ, List.getElem?_cons_zero]); rfl) (by kernel_rfl) (by kernel_rfl) (by kernel_rfl) (by exact fun _ _ _ h => h) (Or.inl ⟨by rfl, ?_⟩) (by assumption) ?_); rotate_left; focus (intro wS hSw; (try dsimp only at hSw); go_simp; first | done | with_reducible rfl); try simp only [Act.put, List.setIfInBounds_toArray, List.set_cons_zero, List.set_cons_succ])
      ((refine wpAnyH_take (i := 3) (v := ?_) (by (simp only [List.getElem?_toArray, List.getElem?_cons_succ, List.getElem?_cons_zero]); rfl) (by kernel_rfl) (by kernel_rfl) (by kernel_rfl) (by exact fun _ _ _ h => h) (Or.inl ⟨by rfl, ?_⟩) (by assumption) ?_); rotate_left; focus (intro wS hSw; (try dsimp only at hSw); go_simp; first | done | with_reducible rfl); try simp only [Act.put, List.setIfInBounds_toArray, List.set_cons_zero, List.set_cons_succ])
      ((refine wpAnyH_take (i := 5) (v := ?_) (by (simp only [List.getElem?_toArray, List.getElem?_cons_succ, List.getElem?_cons_zero]); rfl) (by kernel_rfl) (by kernel_rfl) (by kernel_rfl) (by exact fun _ _ _ h => h) (Or.inl ⟨by rfl, ?_⟩) (by assumption) ?_); rotate_left; focus (intro wS hSw; (try dsimp only at hSw); go_simp; first | done | with_reducible rfl); try simp only [Act.put, List.setIfInBounds_toArray, List.set_cons_zero, List.set_cons_succ])
      ((refine wpAnyH_take (i := 6) (v := ?_) (by (simp only [List.getElem?_toArray, List.getElem?_cons_succ, List.getElem?_cons_zero]); rfl) (by kernel_rfl) (by kernel_rfl) (by kernel_rfl) (by exact fun _ _ _ h => h) (Or.inl ⟨by rfl, ?_⟩) (by assumption) ?_); rotate_left; focus (intro wS hSw; (try dsimp only at hSw); go_simp; first | done | with_reducible rfl); try simp only [Act.put, List.setIfInBounds_toArray, List.set_cons_zero, List.set_cons_succ])
      ((refine wpAnyH_take (i := 7) (v := ?_) (by (simp only [List.getElem?_toArray, List.getElem?_cons_succ, List.getElem?_cons_zero]); rfl) (by kernel_rfl) (by kernel_rfl) (by kernel_rfl) (by exact fun _ _ _ h => h) (Or.inl ⟨by rfl, ?_⟩) (by assumption) ?_); rotate_left; focus (intro wS hSw; (try dsimp only at hSw); go_simp; first | done | with_reducible rfl); try simp only [Act.put, List.setIfInBounds_toArray, List.set_cons_zero, List.set_cons_succ])
      ((refine wpAnyH_take (i := 8) (v := ?_) (by (simp only [List.getElem?_toArray, List.getElem?_cons_succ, List.getElem?_cons_zero]); rfl) (by kernel_rfl) (by kernel_rfl) (by kernel_rfl) (by exact fun _ _ _ h => h) (Or.inl ⟨by rfl, ?_⟩) (by assumption) ?_); rotate_left; focus (intro wS hSw; (try dsimp only at hSw); go_simp; first | done | with_reducible rfl); try simp only [Act.put, List.setIfInBounds_toArray, List.set_cons_zero, List.set_cons_succ])
      have e1 : W6.drew.cell? ⟨g, 1, none⟩ = some (.int .i64 S) := by rw [HS0.out]; exact cell_at HM7.out.blk 1
      refine wpAnyH_ready (rs := [4]) (by kernel_rfl) (by simp) ?_
      refine AllReadyH.cons (by (simp only [List.getElem?_toArray, List.getElem?_cons_succ, List.getElem?_cons_zero]); rfl) (fun K hK => ?_) AllReadyH.nil
      go_simp
      (first | refine hK.out _ _ (HC0.out _ HM7.out.b) (fun hHeld => ?_) | refine hK _ _ (HC0.out _ HM7.out.b) (fun hHeld => ?_))
      clear hK K
      try simp only [Act.put, List.setIfInBounds_toArray, List.set_cons_zero, List.set_cons_succ]
      have ws := HWS.out
      ((refine wpAnyH_take (i := 9) (v := ?_) (by (simp only [List.getElem?_toArray, List.getElem?_cons_succ, List.getElem?_cons_zero]); rfl) (by kernel_rfl) (by kernel_rfl) (by kernel_rfl) (by exact fun _ _ _ h => h) (Or.inl ⟨by rfl, ?_⟩) (by assumption) ?_); rotate_left; focus (intro wS hSw; (try dsimp only at hSw); go_simp; first | done | with_reducible rfl); try simp only [Act.put, List.setIfInBounds_toArray, List.set_cons_zero, List.set_cons_succ])
      ((refine wpAnyH_take (i := 10) (v := ?_) (by (simp only [List.getElem?_toArray, List.getElem?_cons_succ, List.getElem?_cons_zero]); rfl) (by kernel_rfl) (by kernel_rfl) (by kernel_rfl) (by exact fun _ _ _ h => h) (Or.inl ⟨by rfl, ?_⟩) (by assumption) ?_); rotate_left; focus (intro wS hSw; (try dsimp only at hSw); go_simp; first | done | with_reducible rfl); try simp only [Act.put, List.setIfInBounds_toArray, List.set_cons_zero, List.set_cons_succ])
      ((refine wpAnyH_take (i := 11) (v := ?_) (by (simp only [List.getElem?_toArray, List.getElem?_cons_succ, List.getElem?_cons_zero]); rfl) (by kernel_rfl) (by kernel_rfl) (by kernel_rfl) (by exact fun _ _ _ h => h) (Or.inl ⟨by rfl, ?_⟩) (by assumption) ?_); rotate_left; focus (intro wS hSw; (try dsimp only at hSw); go_simp; first | done | with_reducible rfl); try simp only [Act.put, List.setIfInBounds_toArray, List.set_cons_zero, List.set_cons_succ])
      have gz : ∀ j, W6.drew.frozen? ⟨g, j, none⟩ = false := fun j => free_at HM7.out.blk j
      have gl : g < W6.drew.heap.size := HM7.out.blk.lt
      refine wpAnyH_ready (rs := [12]) (by kernel_rfl) (by simp) ?_
      refine AllReadyH.cons (by (simp only [List.getElem?_toArray, List.getElem?_cons_succ, List.getElem?_cons_zero]); rfl) (fun K hK => ?_) AllReadyH.nil
      generalize hW8' : (W6.setCell ⟨g, 1, none⟩ (.int .i64 (S + y))).drew = W8
      have hW8 := hW8'.symm
      clear hW8'
      have HM8 := Lib.hid (show RMk w W8 g (.slice a5 (k + 1) c5) (.slice az k cz) (.slice ab k cb) (some ob5) oz ov wt (k + 1) (k + 1) k k by rw [hW8, ← HSS.out]; exact (HM6.out.setS rfl).step (belowN (Below.refl _ _) 1))
      go_simp
      rw [← hW8]
      (first | refine hK.out _ _ (HC0.out _ HM8.out.b) (fun hHeld => ?_) | refine hK _ _ (HC0.out _ HM8.out.b) (fun hHeld => ?_))
      clear hK K e1 gz gl ws hW8
      try simp only [Act.put, List.setIfInBounds_toArray, List.set_cons_zero, List.set_cons_succ]
      refine wpAnyH_done (by kernel_rfl) ?_ _
      try simp only [Act.put, List.setIfInBounds_toArray, List.set_cons_zero, List.set_cons_succ]
      clear HM6 HM7
      have e4 : W8.cell? ⟨g, 4, none⟩ = some (.slice az k cz) := cell_at HM8.out.blk 4
      have hBx : Below W8.heap.size W8 (W8.alloc (.cells #[.int .i64 0] 3)) := alloc_b _ _
      have HM9 := Lib.hid (HM8.out.step hBx)
      obtain ⟨v6, ob6, W9, hrun, hio, hgr, hs, hlo⟩ := in_grow (M := w.heap.size) (ty := 22) (x := 0) HM9.out.z (blk_new W8 #[.int .i64 0] 3) (by omega) HM9.out.b.size (by rw [List.length_replicate]; have := HN8.out; have := HLT.out; omega)
      rw [← List.replicate_succ'] at hio
      have hr5 := hio.1
      rw [List.length_replicate] at hr5
      obtain ⟨a6, c6, rfl, -, -, -⟩ := hr5.shape
      have hb5 := HM9.out.grz hgr
      have HRUN := Lib.hid hrun
      have h4 : W9.cell? ⟨g, 4, none⟩ = some (.slice az k cz) := cell_at hb5 4
      have gz : ∀ j, W9.frozen? ⟨g, j, none⟩ = false := fun j => free_at hb5 j
      have gl : g < W9.heap.size := hb5.lt
      have HIO := Lib.hid hio
      have HGR := Lib.hid hgr
      have HS5 := Lib.hid hs
      have HLO := Lib.hid hlo
      clear hrun hio hgr hs hlo hr5 hb5 hBx
      go_upto_region 12 with (at_builtin; refine Lib.wpList_append_run _ rfl (.tmp 63) (.tmp 64) 22 22 rfl _ _ rfl rfl _ _ HRUN.out ?_)
      generalize hW10' : W9.setCell ⟨g, 4, none⟩ (.slice a6 (k + 1) c6) = W10
      have HM10 := Lib.hid (HM9.out.pushZ HIO.out HGR.out HS5.out HLO.out hW10'.symm)
      clear hW10' e4 h4 gz gl HRUN HIO HGR HS5 HLO HM8 HM9
      have e5 : W10.cell? ⟨g, 5, none⟩ = some (.slice ab k cb) := cell_at HM10.out.blk 5
      have hBx : Below W10.heap.size W10 (W10.alloc (.cells #[.bool false] 4)) := alloc_b _ _
      have HM11 := Lib.hid (HM10.out.step hBx)
      obtain ⟨v7, ob7, W11, hrun, hio, hgr, hs, hlo, hmx⟩ := bo_grow (M := w.heap.size) (ty := 41) (R := fun _ => false) (n := k) HM11.out.v HM11.out.vo (blk_new W10 #[.bool false] 4) HM11.out.b.size (by have := HN8.out; have := HLT.out; omega)
      obtain ⟨a7, c7, rfl, -, -, -⟩ := hio.shape
      have hb5 := HM11.out.grv hgr
      have HRUN := Lib.hid hrun
      have h5 : W11.cell? ⟨g, 5, none⟩ = some (.slice ab k cb) := cell_at hb5 5
      have gz : ∀ j, W11.frozen? ⟨g, j, none⟩ = false := fun j => free_at hb5 j
      have gl : g < W11.heap.size := hb5.lt
      have HIO := Lib.hid hio
      have HGR := Lib.hid hgr
      have HMX := Lib.hid hmx
      have HLO := Lib.hid hlo
      clear hrun hio hgr hs hlo hb5 hBx hmx
      go_upto_region 6 with (at_builtin; refine Lib.wpList_append_run _ rfl (.tmp 72) (.tmp 73) 41 41 rfl _ _ rfl rfl _ _ HRUN.out ?_)
      generalize hW12' : W11.setCell ⟨g, 5, none⟩ (.slice a7 (k + 1) c7) = W12
      have HM12 := Lib.hid (HM11.out.pushV HIO.out HMX.out HGR.out HLO.out hW12'.symm)
      clear hW12' e5 h5 gz gl HRUN HIO HGR HMX HLO HM10 HM11
      go_wp2_with fail
      go_roundw
      case rel => exact ⟨k + 1, _, _, _, _, _, _, by have := HLT.out; omega, by go_num, (fun j hj => by
        by_cases hjk : j = k
        · subst hjk; rw [HGI.out]; exact HYB.out
        · exact HO.out j (by omega)), HM12.out⟩
      case measure => (have h8 := HLT.out; first | (simp [intOf]; done) | (simp [intOf]; omega))
    · skip
      go_simp
      obtain ⟨NB, hNB⟩ : ∃ N, N = wr.heap.size := ⟨_, rfl⟩
      obtain ⟨W4, hW4⟩ : ∃ W, W = (wr.alloc (.cells #[.int .i64 y] 3)).drew := ⟨_, rfl⟩
      have k9 : Blk W4 NB #[.int .i64 y] 3 := by rw [hW4, hNB]; exact blk_new wr _ _
      have hB9 : Below wr.drew.heap.size wr.drew W4 := by rw [hW4]; exact alloc_b wr.drew _
      have HM4 := Lib.hid (HM2.out.step hB9)
      have HK4 := Lib.hid k9
      rw [← hNB, ← hW4]
      (first | refine hK.out _ _ (HC0.out _ HM4.out.b) (fun hHeld => ?_) | refine hK _ _ (HC0.out _ HM4.out.b) (fun hHeld => ?_))
      clear hK K k9 hB9 hNB hW4
      try simp only [Act.put, List.setIfInBounds_toArray, List.set_cons_zero, List.set_cons_succ]
      refine wpAnyH_ready (rs := [4]) (by kernel_rfl) (by simp) ?_
      refine AllReadyH.cons (by (simp only [List.getElem?_toArray, List.getElem?_cons_succ, List.getElem?_cons_zero]); rfl) (fun K hK => ?_) AllReadyH.nil
      have e0 : W4.cell? ⟨g, 0, none⟩ = some (.slice av k cv) := cell_at HM4.out.blk 0
      go_simp
      (first | refine hK.out _ _ (HC0.out _ HM4.out.b) (fun hHeld => ?_) | refine hK _ _ (HC0.out _ HM4.out.b) (fun hHeld => ?_))
      clear hK K e0
      try simp only [Act.put, List.setIfInBounds_toArray, List.set_cons_zero, List.set_cons_succ]
      obtain ⟨v5, ob5, W5, hrun, hio, hgr, hs, hlo⟩ := in_grow (M := w.heap.size) (ty := 22) HM4.out.w HK4.out (by have := HYB.out; omega) HM4.out.b.size (by rw [wtL_len]; have := HN8.out; have := HLT.out; omega)
      rw [← HGI.out, ← wtL_succ] at hio
      have hr5 := hio.1
      rw [wtL_len] at hr5
      obtain ⟨a5, c5, rfl, -, -, -⟩ := hr5.shape
      have hb5 := HM4.out.grb hgr
      have HRUN := Lib.hid hrun
      have HB5 := Lib.hid hb5
      have HIO := Lib.hid hio
      have HGR := Lib.hid hgr
      have HS5 := Lib.hid hs
      have HLO := Lib.hid hlo
      clear hrun hio hgr hs hlo hr5 hb5
      have hBw5 : Hid (Below w.heap.size w W5) := Lib.hid (HM4.out.b.trans HLO.out)
      refine wpAnyH_ready (rs := [10]) (by kernel_rfl) (by simp) ?_
      refine AllReadyH.cons (by (simp only [List.getElem?_toArray, List.getElem?_cons_succ, List.getElem?_cons_zero]); rfl) (fun K hK => ?_) AllReadyH.nil
      rw [if_pos (by rfl)]
      refine op_append_run (.tmp 38) (.tmp 43) 22 (by kernel_rfl) (by kernel_rfl) (by kernel_rfl) HRUN.out ?_
      (first | refine hK.out _ _ (HC0.out _ hBw5.out) (fun hHeld => ?_) | refine hK _ _ (HC0.out _ hBw5.out) (fun hHeld => ?_))
      clear hK K
      try simp only [Act.put, List.setIfInBounds_toArray, List.set_cons_zero, List.set_cons_succ]
      ((refine wpAnyH_take (i := 11) (v := ?_) (by (simp only [List.getElem?_toArray, List.getElem?_cons_succ, List.getElem?_cons_zero]); rfl) (by kernel_rfl) (by kernel_rfl) (by kernel_rfl) (by exact fun _ _ _ h => h) (Or.inl ⟨by rfl, ?_⟩) (by assumption) ?_); rotate_left; focus (intro wS hSw; (try dsimp only at hSw); go_simp; first | done | with_reducible rfl); try simp only [Act.put, List.setIfInBounds_toArray, List.set_cons_zero, List.set_cons_succ])
      ((refine wpAnyH_take (i := 12) (v := ?_) (by (simp only [List.getElem?_toArray, List.getElem?_cons_succ, List.getElem?_cons_zero]); rfl) (by kernel_rfl) (by kernel_rfl) (by kernel_rfl) (by exact fun _ _ _ h => h) (Or.inl ⟨by rfl, ?_⟩) (by assumption) ?_); rotate_left; focus (intro wS hSw; (try dsimp only at hSw); go_simp; first | done | with_reducible rfl); try simp only [Act.put, List.setIfInBounds_toArray, List.set_cons_zero, List.set_cons_succ])
      have g0 : W5.cell? ⟨g, 0, none⟩ = some (.slice av k cv) := cell_at HB5.out 0
      have gz : ∀ j, W5.frozen? ⟨g, j, none⟩ = false := fun j => free_at HB5.out j
      have gl : g < W5.heap.size := HB5.out.lt
      refine wpAnyH_ready (rs := [13]) (by kernel_rfl) (by simp) ?_
      refine AllReadyH.cons (by (simp only [List.getElem?_toArray, List.getElem?_cons_succ, List.getElem?_cons_zero]); rfl) (fun K hK => ?_) AllReadyH.nil
      generalize hW6' : W5.setCell ⟨g, 0, none⟩ (.slice a5 (k + 1) c5) = W6
      have hW6 := hW6'.symm
      clear hW6'
      have HM6 := Lib.hid (HM4.out.pushW HIO.out HGR.out HS5.out HLO.out hW6)
      go_simp
      rw [← hW6]
      (first | refine hK.out _ _ (HC0.out _ HM6.out.b) (fun hHeld => ?_) | refine hK _ _ (HC0.out _ HM6.out.b) (fun hHeld => ?_))
      clear hK K g0 gz gl hW6
      try simp only [Act.put, List.setIfInBounds_toArray, List.set_cons_zero, List.set_cons_succ]
      refine wpAnyH_done (by kernel_rfl) ?_ _
      try simp only [Act.put, List.setIfInBounds_toArray, List.set_cons_zero, List.set_cons_succ]
      clear HM2 HM4 HK4 HRUN HB5 HIO HGR HS5 HLO hBw5
      go_upto_region 10 with fail
      refine wp_region_held_drew (S := fun X => X.cell? ⟨gx, ox + k, none⟩ = some (.int .i64 y)) (by kernel_rfl) (HC0.out W6 HM6.out.b) (fun hHeld => ?_)
      try simp only [Act.put, List.setIfInBounds_toArray, List.set_cons_zero, List.set_cons_succ]
      have HM7 := Lib.hid (show RMk w W6.drew g (.slice a5 (k + 1) c5) (.slice az k cz) (.slice ab k cb) (some ob5) oz ov wt (k + 1) k k k from HM6.out.step (belowN (Below.refl W6.heap.size W6) 1))
      ((refine wpAnyH_take (i := 0) (v := ?_) (by (simp only [List.getElem?_toArray, List.getElem?_cons_succ, List.getElem?_cons_zero]); rfl) (by kernel_rfl) (by kernel_rfl) (by kernel_rfl) (by exact fun _ _ _ h => h) (Or.inl ⟨by rfl, ?_⟩) (by assumption) ?_); rotate_left; focus (intro wS hSw; (try dsimp only at hSw); go_simp; first | done | with_reducible rfl); try simp only [Act.put, List.setIfInBounds_toArray, List.set_cons_zero, List.set_cons_succ])
      ((refine wpAnyH_take (i := 1) (v := ?_) (by (simp only [List.getElem?_toArray, List.getElem?_cons_succ, List.getElem?_cons_zero]); rfl) (by kernel_rfl) (by kernel_rfl) (by kernel_rfl) (by exact fun _ _ _ h => h) (Or.inl ⟨by rfl, ?_⟩) (by assumption) ?_); rotate_left; focus (intro wS hSw; (try dsimp only at hSw); go_simp; first | done | with_reducible rfl); try simp only [Act.put, List.setIfInBounds_toArray, List.set_cons_zero, List.set_cons_succ])
      ((refine wpAnyH_take (i := 2) (v := ?_) (by (simp only [List.getElem?_toArray, List.getElem?_cons_succ, List.getElem?_cons_zero]); rfl) (by kernel_rfl) (by kernel_rfl) (by kernel_rfl) (by exact fun _ _ _ h => h) (Or.inl ⟨by rfl, ?_⟩) (by assumption) ?_); rotate_left; focus (intro wS hSw; (try dsimp only at hSw); go_simp; first | done | with_reducible rfl); try simp only [Act.put, List.setIfInBounds_toArray, List.set_cons_zero, List.set_cons_succ])
      ((refine wpAnyH_take (i := 3) (v := ?_) (by (simp only [List.getElem?_toArray, List.getElem?_cons_succ, List.getElem?_cons_zero]); rfl) (by kernel_rfl) (by kernel_rfl) (by kernel_rfl) (by exact fun _ _ _ h => h) (Or.inl ⟨by rfl, ?_⟩) (by assumption) ?_); rotate_left; focus (intro wS hSw; (try dsimp only at hSw); go_simp; first | done | with_reducible rfl); try simp only [Act.put, List.setIfInBounds_toArray, List.set_cons_zero, List.set_cons_succ])
      ((refine wpAnyH_take (i := 5) (v := ?_) (by (simp only [List.getElem?_toArray, List.getElem?_cons_succ, List.getElem?_cons_zero]); rfl) (by kernel_rfl) (by kernel_rfl) (by kernel_rfl) (by exact fun _ _ _ h => h) (Or.inl ⟨by rfl, ?_⟩) (by assumption) ?_); rotate_left; focus (intro wS hSw; (try dsimp only at hSw); go_simp; first | done | with_reducible rfl); try simp only [Act.put, List.setIfInBounds_toArray, List.set_cons_zero, List.set_cons_succ])
      ((refine wpAnyH_take (i := 6) (v := ?_) (by (simp only [List.getElem?_toArray, List.getElem?_cons_succ, List.getElem?_cons_zero]); rfl) (by kernel_rfl) (by kernel_rfl) (by kernel_rfl) (by exact fun _ _ _ h => h) (Or.inl ⟨by rfl, ?_⟩) (by assumption) ?_); rotate_left; focus (intro wS hSw; (try dsimp only at hSw); go_simp; first | done | with_reducible rfl); try simp only [Act.put, List.setIfInBounds_toArray, List.set_cons_zero, List.set_cons_succ])
      ((refine wpAnyH_take (i := 7) (v := ?_) (by (simp only [List.getElem?_toArray, List.getElem?_cons_succ, List.getElem?_cons_zero]); rfl) (by kernel_rfl) (by kernel_rfl) (by kernel_rfl) (by exact fun _ _ _ h => h) (Or.inl ⟨by rfl, ?_⟩) (by assumption) ?_); rotate_left; focus (intro wS hSw; (try dsimp only at hSw); go_simp; first | done | with_reducible rfl); try simp only [Act.put, List.setIfInBounds_toArray, List.set_cons_zero, List.set_cons_succ])
      ((refine wpAnyH_take (i := 8) (v := ?_) (by (simp only [List.getElem?_toArray, List.getElem?_cons_succ, List.getElem?_cons_zero]); rfl) (by kernel_rfl) (by kernel_rfl) (by kernel_rfl) (by exact fun _ _ _ h => h) (Or.inl ⟨by rfl, ?_⟩) (by assumption) ?_); rotate_left; focus (intro wS hSw; (try dsimp only at hSw); go_simp; first | done | with_reducible rfl); try simp only [Act.put, List.setIfInBounds_toArray, List.set_cons_zero, List.set_cons_succ])
      have e1 : W6.drew.cell? ⟨g, 1, none⟩ = some (.int .i64 S) := by rw [HS0.out]; exact cell_at HM7.out.blk 1
      refine wpAnyH_ready (rs := [4]) (by kernel_rfl) (by simp) ?_
      refine AllReadyH.cons (by (simp only [List.getElem?_toArray, List.getElem?_cons_succ, List.getElem?_cons_zero]); rfl) (fun K hK => ?_) AllReadyH.nil
      go_simp
      (first | refine hK.out _ _ (HC0.out _ HM7.out.b) (fun hHeld => ?_) | refine hK _ _ (HC0.out _ HM7.out.b) (fun hHeld => ?_))
      clear hK K
      try simp only [Act.put, List.setIfInBounds_toArray, List.set_cons_zero, List.set_cons_succ]
      have ws := HWS.out
      ((refine wpAnyH_take (i := 9) (v := ?_) (by (simp only [List.getElem?_toArray, List.getElem?_cons_succ, List.getElem?_cons_zero]); rfl) (by kernel_rfl) (by kernel_rfl) (by kernel_rfl) (by exact fun _ _ _ h => h) (Or.inl ⟨by rfl, ?_⟩) (by assumption) ?_); rotate_left; focus (intro wS hSw; (try dsimp only at hSw); go_simp; first | done | with_reducible rfl); try simp only [Act.put, List.setIfInBounds_toArray, List.set_cons_zero, List.set_cons_succ])
      ((refine wpAnyH_take (i := 10) (v := ?_) (by (simp only [List.getElem?_toArray, List.getElem?_cons_succ, List.getElem?_cons_zero]); rfl) (by kernel_rfl) (by kernel_rfl) (by kernel_rfl) (by exact fun _ _ _ h => h) (Or.inl ⟨by rfl, ?_⟩) (by assumption) ?_); rotate_left; focus (intro wS hSw; (try dsimp only at hSw); go_simp; first | done | with_reducible rfl); try simp only [Act.put, List.setIfInBounds_toArray, List.set_cons_zero, List.set_cons_succ])
      ((refine wpAnyH_take (i := 11) (v := ?_) (by (simp only [List.getElem?_toArray, List.getElem?_cons_succ, List.getElem?_cons_zero]); rfl) (by kernel_rfl) (by kernel_rfl) (by kernel_rfl) (by exact fun _ _ _ h => h) (Or.inl ⟨by rfl, ?_⟩) (by assumption) ?_); rotate_left; focus (intro wS hSw; (try dsimp only at hSw); go_simp; first | done | with_reducible rfl); try simp only [Act.put, List.setIfInBounds_toArray, List.set_cons_zero, List.set_cons_succ])
      have gz : ∀ j, W6.drew.frozen? ⟨g, j, none⟩ = false := fun j => free_at HM7.out.blk j
      have gl : g < W6.drew.heap.size := HM7.out.blk.lt
      refine wpAnyH_ready (rs := [12]) (by kernel_rfl) (by simp) ?_
      refine AllReadyH.cons (by (simp only [List.getElem?_toArray, List.getElem?_cons_succ, List.getElem?_cons_zero]); rfl) (fun K hK => ?_) AllReadyH.nil
      generalize hW8' : (W6.setCell ⟨g, 1, none⟩ (.int .i64 (S + y))).drew = W8
      have hW8 := hW8'.symm
      clear hW8'
      have HM8 := Lib.hid (show RMk w W8 g (.slice a5 (k + 1) c5) (.slice az k cz) (.slice ab k cb) (some ob5) oz ov wt (k + 1) (k + 1) k k by rw [hW8, ← HSS.out]; exact (HM6.out.setS rfl).step (belowN (Below.refl _ _) 1))
      go_simp
      rw [← hW8]
      (first | refine hK.out _ _ (HC0.out _ HM8.out.b) (fun hHeld => ?_) | refine hK _ _ (HC0.out _ HM8.out.b) (fun hHeld => ?_))
      clear hK K e1 gz gl ws hW8
      try simp only [Act.put, List.setIfInBounds_toArray, List.set_cons_zero, List.set_cons_succ]
      refine wpAnyH_done (by kernel_rfl) ?_ _
      try simp only [Act.put, List.setIfInBounds_toArray, List.set_cons_zero, List.set_cons_succ]
      clear HM6 HM7
      have e4 : W8.cell? ⟨g, 4, none⟩ = some (.slice az k cz) := cell_at HM8.out.blk 4
      have hBx : Below W8.heap.size W8 (W8.alloc (.cells #[.int .i64 0] 3)) := alloc_b _ _
      have HM9 := Lib.hid (HM8.out.step hBx)
      obtain ⟨v6, ob6, W9, hrun, hio, hgr, hs, hlo⟩ := in_grow (M := w.heap.size) (ty := 22) (x := 0) HM9.out.z (blk_new W8 #[.int .i64 0] 3) (by omega) HM9.out.b.size (by rw [List.length_replicate]; have := HN8.out; have := HLT.out; omega)
      rw [← List.replicate_succ'] at hio
      have hr5 := hio.1
      rw [List.length_replicate] at hr5
      obtain ⟨a6, c6, rfl, -, -, -⟩ := hr5.shape
      have hb5 := HM9.out.grz hgr
      have HRUN := Lib.hid hrun
      have h4 : W9.cell? ⟨g, 4, none⟩ = some (.slice az k cz) := cell_at hb5 4
      have gz : ∀ j, W9.frozen? ⟨g, j, none⟩ = false := fun j => free_at hb5 j
      have gl : g < W9.heap.size := hb5.lt
      have HIO := Lib.hid hio
      have HGR := Lib.hid hgr
      have HS5 := Lib.hid hs
      have HLO := Lib.hid hlo
      clear hrun hio hgr hs hlo hr5 hb5 hBx
      go_upto_region 12 with (at_builtin; refine Lib.wpList_append_run _ rfl (.tmp 63) (.tmp 64) 22 22 rfl _ _ rfl rfl _ _ HRUN.out ?_)
      generalize hW10' : W9.setCell ⟨g, 4, none⟩ (.slice a6 (k + 1) c6) = W10
      have HM10 := Lib.hid (HM9.out.pushZ HIO.out HGR.out HS5.out HLO.out hW10'.symm)
      clear hW10' e4 h4 gz gl HRUN HIO HGR HS5 HLO HM8 HM9
      have e5 : W10.cell? ⟨g, 5, none⟩ = some (.slice ab k cb) := cell_at HM10.out.blk 5
      have hBx : Below W10.heap.size W10 (W10.alloc (.cells #[.bool false] 4)) := alloc_b _ _
      have HM11 := Lib.hid (HM10.out.step hBx)
      obtain ⟨v7, ob7, W11, hrun, hio, hgr, hs, hlo, hmx⟩ := bo_grow (M := w.heap.size) (ty := 41) (R := fun _ => false) (n := k) HM11.out.v HM11.out.vo (blk_new W10 #[.bool false] 4) HM11.out.b.size (by have := HN8.out; have := HLT.out; omega)
      obtain ⟨a7, c7, rfl, -, -, -⟩ := hio.shape
      have hb5 := HM11.out.grv hgr
      have HRUN := Lib.hid hrun
      have h5 : W11.cell? ⟨g, 5, none⟩ = some (.slice ab k cb) := cell_at hb5 5
      have gz : ∀ j, W11.frozen? ⟨g, j, none⟩ = false := fun j => free_at hb5 j
      have gl : g < W11.heap.size := hb5.lt
      have HIO := Lib.hid hio
      have HGR := Lib.hid hgr
      have HMX := Lib.hid hmx
      have HLO := Lib.hid hlo
      clear hrun hio hgr hs hlo hb5 hBx hmx
      go_upto_region 6 with (at_builtin; refine Lib.wpList_append_run _ rfl (.tmp 72) (.tmp 73) 41 41 rfl _ _ rfl rfl _ _ HRUN.out ?_)
      generalize hW12' : W11.setCell ⟨g, 5, none⟩ (.slice a7 (k + 1) c7) = W12
      have HM12 := Lib.hid (HM11.out.pushV HIO.out HMX.out HGR.out HLO.out hW12'.symm)
      clear hW12' e5 h5 gz gl HRUN HIO HGR HMX HLO HM10 HM11
      go_wp2_with fail
      go_roundw
      case rel => exact ⟨k + 1, _, _, _, _, _, _, by have := HLT.out; omega, by go_num, (fun j hj => by
        by_cases hjk : j = k
        · subst hjk; rw [HGI.out]; exact HYB.out
        · exact HO.out j (by omega)), HM12.out⟩
      case measure => (have h8 := HLT.out; first | (simp [intOf]; done) | (simp [intOf]; omega))
end Go.Proofs.Ytnainlemnkfpkaa
