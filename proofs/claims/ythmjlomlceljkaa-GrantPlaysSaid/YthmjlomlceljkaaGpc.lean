/-
  What a leader's desk tells: the law.
-/
import Derived.Test.YthmjlomlceljkaaGpb
import Derived.Deep.DeepFit
import Derived.Maps.AppendAt
namespace Go.Proofs.Ythmjlomlceljkaa
open Go.RowKit
set_option linter.unusedSimpArgs false
set_option linter.unusedVariables false

theorem leInfo : (Try.prog.info? 36).map (fun i => (i.zero, i.size, i.bytes)) = some (some (.agg #[.int .i64 0, .int .i64 0, .int .i64 0, .int .i64 0, .int .i64 0, .int .i64 0, .int .i64 0]), 7, 56) := by kernel_rfl
def gF (xs : List Int) (k : Nat) : LeE := ⟨gI xs k, 0, 0, 0, 0, 0, 0⟩
theorem gF_ok (xs : List Int) (h : okI xs) (k : Nat) (hk : k < xs.length) : (gF xs k).ok := by
  have := h _ (List.mem_of_getElem? (gI_lt hk))
  simp [LeE.ok, gF]
  omega
theorem mdE_02 (el lease t : Int) : mdE el lease t = 0 ∨ mdE el lease t = 2 := by unfold mdE; split <;> simp
set_option maxRecDepth 100000 in
set_option maxHeartbeats 40000000 in
theorem grantPlays_walk (tk rho now : Int) (hnow : now ≤ 9223372036854775807) (a : Option Addr) (n cap bl o : Nat) (A : Nat → GaE) (w : World) (hs : GaIn w a n cap bl o A) :
    Calls Try.prog 3 #[.int .i64 tk, .int .i64 rho, .int .i64 now, .slice a n cap] w fun e w' => e = .returned (.bool true) ∧ Below w.heap.size w w' := by
  have m1 := hs.le
  have m2 := hs.max
  unfold maxLen at m2
  have HS := Lib.hid hs
  clear hs
  have WK := Lib.hid (fun W => gwakes_any W)
  by_cases hn : 100 < n
  · have t1 : decide ((100 : Int) < (n : Int)) = true := decide_eq_true (by omega)
    clear hn
    go_enter Try.func3, Try.ntmps3
    go_wp2_with fail
    go_at_call 9
    go_fit (WK.out _)
    rintro e W1 ⟨rfl, hB⟩
    have HB := Lib.hid hB
    clear hB
    go_wp2_with fail
    try rw [Exit.noGoto_ret]
    go_ret
    exact ⟨rfl, HB.out⟩
  have t1 : decide ((100 : Int) < (n : Int)) = false := decide_eq_false (by omega)
  by_cases hnew : newB tk rho now = false
  · have NP := Lib.hid (fun W => snew_no tk rho now hnew W)
    have NR := Lib.hid (fun W => rnew_no tk rho now hnew W)
    have OV := Lib.hid (fun s0 s1 s2 t v1 v2 v3 v4 W => sover_nil s0 s1 s2 t v1 v2 v3 v4 W)
    clear hnew hn
    go_enter Try.func3, Try.ntmps3
    go_wp2_with fail
    go_at_call 10
    go_fit (NP.out _)
    rintro e W1 ⟨rfl, rfl⟩
    go_wp2_with fail
    go_at_call 11
    go_fit (NR.out _)
    rintro e W1 ⟨rfl, rfl⟩
    go_wp2_with fail
    go_at_call 12
    go_fit (smade_nil _ _ _)
    rintro e W1 ⟨rfl, rfl⟩
    go_wp2_with fail
    go_at_call 13
    go_fit (sgone_nil _ _)
    rintro e W1 ⟨rfl, hW1⟩
    have HB : Hid (Below w.heap.size w W1) := Lib.hid (by rw [← hW1]; exact (Below.refl _ _).alloc (Nat.le_refl _) _)
    clear hW1
    go_wp2_with fail
    go_at_call 14
    go_fit (OV.out _ _ _ _ _ _ _ _ _)
    rintro e W2 ⟨rfl, hB⟩
    have HB2 : Hid (Below w.heap.size w W2) := Lib.hid ((HB.out.alloc HB.out.size _).trans (hB.mono (by have := HB.out.size; simp; omega)))
    clear hB HB
    go_wp2_with fail
    go_at_call 9
    go_fit (WK.out _)
    rintro e W3 ⟨rfl, hB⟩
    have HB3 := Lib.hid (HB2.out.trans (hB.mono HB2.out.size))
    clear hB HB2
    go_wp2_with fail
    try rw [Exit.noGoto_ret]
    go_ret
    exact ⟨rfl, HB3.out⟩
  have hnw : 1 ≤ tk ∧ tk ≤ 1099511627776 ∧ 0 ≤ rho ∧ rho ≤ 200 ∧ 0 ≤ now := by
    unfold newB at hnew
    simp at hnew
    omega
  have HNW := Lib.hid hnw
  have NP := Lib.hid (snew_ok tk rho now hnw.1 hnw.2.1 hnw.2.2.1 hnw.2.2.2.1 hnw.2.2.2.2 w)
  have HN := Lib.hid hn
  have HNO := Lib.hid hnow
  clear hnew hnw hn hnow
  go_enter Try.func3, Try.ntmps3
  go_wp2_with fail
  go_at_call 10
  go_fit (NP.out)
  rintro e W1 ⟨g, b, rfl, hd, hg0, hb0, hB1⟩
  obtain ⟨M, hM⟩ : ∃ M, M = W1.heap.size := ⟨_, rfl⟩
  have hgm : g < M ∧ b < M ∧ w.heap.size ≤ g ∧ w.heap.size ≤ b ∧ w.heap.size ≤ M := by have := hd.blk.lt; have := hd.map.lt; omega
  have HGM := Lib.hid hgm
  have HD := Lib.hid hd
  have HB1 := Lib.hid hB1
  have NR := Lib.hid (rnew_ok tk rho now HNW.out.1 HNW.out.2.1 HNW.out.2.2.1 HNW.out.2.2.2.1 HNW.out.2.2.2.2 M W1 (by omega))
  have HMM : Hid (M = W1.heap.size) := Lib.hid hM
  clear hd hg0 hb0 hB1 hgm hM NP
  go_wp2_with fail
  go_at_call 11
  go_fit (NR.out)
  rintro e W2 ⟨gr, rfl, hr, hgr, hB2⟩
  have HG0 : Hid (GB W2 M g b gr tk rho now now 0) := Lib.hid ⟨⟨_, _, _, _, _, _, _, HD.out.below hB2, hr, rel_nil, Nat.le_refl _⟩, ⟨HNW.out.2.2.2.2, HNO.out⟩, ⟨HGM.out.1, HGM.out.2.1⟩⟩
  have HB0 := Lib.hid (HB1.out.trans (hB2.mono HB1.out.size))
  have HGR : Hid (M ≤ gr) := Lib.hid (by rw [HMM.out]; exact hgr)
  clear hr hgr hB2 NR HD HB1 HMM
  go_wp2_with fail
  go_loopw [14, 15, 17, 71] (fun _ _ _ i wr => ∃ (k : Nat) (nw : Int), k ≤ n ∧ i = .int .i64 k ∧ GB wr M g b gr tk rho now nw k ∧ Below w.heap.size w wr) (fun _ _ _ i _ => n - (intOf i).toNat)
  case atStart => exact ⟨0, now, Nat.zero_le _, rfl, HG0.out, HB0.out⟩
  case round =>
    clear HG0 HB0
    obtain ⟨k, nw, hk, rfl, hG, hB⟩ := hrel
    have HG := Lib.hid hG
    have HB := Lib.hid hB
    by_cases hlt : k < n
    rotate_left
    · obtain rfl : k = n := by omega
      clear hG hB
      go_wp2_with fail
      go_at_call 9
      go_fit (WK.out _)
      rintro e W3 ⟨rfl, hB⟩
      have HB3 := Lib.hid (HB.out.trans (hB.mono HB.out.size))
      clear hB
      go_wp2_with fail
      try rw [Exit.noGoto_ret]
      go_ret
      exact ⟨rfl, HB3.out⟩
    have hS := HS.out.below hB
    obtain ⟨ea, hbl⟩ := hS.at_ (by omega)
    subst ea
    obtain ⟨c0, c1, c2, c3⟩ := hS.cell k hlt
    have hld := HS.out.ld k hlt
    obtain ⟨hb1, hb2⟩ := hS.bd k hlt
    obtain ⟨x, hx⟩ : ∃ x, x = A k := ⟨_, rfl⟩
    rw [← hx] at c0 c1 c2 c3 hld hb1 hb2
    obtain ⟨xk, xl, xt, xv, xs⟩ := x
    simp only at c0 c1 c2 c3 hld hb1 hb2
    obtain ⟨xa, xn, xc, rfl, HXN, x1, x2⟩ := hld.sh
    have HLD := Lib.hid hld
    have HB1 := Lib.hid hb1
    have HB2 := Lib.hid hb2
    obtain ⟨N, hN⟩ : ∃ N, N = wr.heap.size := ⟨_, rfl⟩
    obtain ⟨W3, hW3⟩ : ∃ W, W = wr.alloc (.cells #[.int .i64 xk, .int .i64 xl, .int .i64 xt, .slice xa xn xc] 44) := ⟨_, rfl⟩
    have hB3 : Below wr.heap.size wr W3 := by rw [hW3]; exact (Below.refl _ _).alloc (Nat.le_refl _) _
    have HK3 := Lib.hid (show Blk W3 N #[.int .i64 xk, .int .i64 xl, .int .i64 xt, .slice xa xn xc] 44 by rw [hW3, hN]; exact blk_new _ _ _)
    have HG3 := Lib.hid (hG.below hB3)
    have HB3 := Lib.hid (hB.trans (hB3.mono hB.size))
    have HMN : Hid (M ≤ N) := Lib.hid (by rw [hN]; exact hG.size)
    have ww5 : IntKind.i64.wrap ((k : Int) + 1) = (k : Int) + 1 := IntWalk.i64_in _ (by omega)
    have b9 : ((k : Int) < (n : Int)) = True := eq_true (by omega)
    have bk1 : (k < n) = True := eq_true hlt
    have HLT := Lib.hid hlt
    clear hG hB hS hbl hld hb1 hb2 hx hB3 hlt HG HB
    go_upto_region 12 with fail
    rw [← hN, ← hW3]
    clear hW3 hN c0 c1 c2 c3
    have d0 : W3.cell? ⟨N, 0, none⟩ = some (.int .i64 xk) := cell_at HK3.out 0
    have d3 : W3.cell? ⟨N, 3, none⟩ = some (.slice xa xn xc) := cell_at HK3.out 3
    by_cases hx2 : 200 < xn
    · have u1 : decide ((200 : Int) < (xn : Int)) = true := decide_eq_true (by omega)
      clear hx2
      go_wp2_with fail
      go_roundw
      case rel => exact ⟨k + 1, nw, by have := HLT.out; omega, by go_num, HG3.out.mono (by omega), HB3.out⟩
      case measure => (have h8 := HLT.out; first | (simp [intOf]; done) | (simp [intOf]; omega))
    have u1 : decide ((200 : Int) < (xn : Int)) = false := decide_eq_false (by omega)
    have HX2 := Lib.hid hx2
    clear hx2
    by_cases hk0 : xk = 0
    · have k0 : (xk == 0) = true := by simp [hk0]
      have GM := Lib.hid (fun W h => gb_made xl xt HB1.out HB2.out M g b gr tk rho now nw k (by have := HLT.out; have := HN.out; omega) HNW.out.2.2.2.2 W h)
      obtain ⟨E, hE⟩ : ∃ E, E = mdE now xl xt := ⟨_, rfl⟩
      rw [← hE] at GM
      clear hk0 hE
      go_upto_region 23 with fail
      clear d0 d3
      refine wp_region_held_drew (S := fun X => X.cell? ⟨N, 1, none⟩ = some (.int .i64 xl) ∧ X.cell? ⟨N, 2, none⟩ = some (.int .i64 xt)) (by kernel_rfl) ⟨cell_at HK3.out 1, cell_at HK3.out 2⟩ (fun hHeld => ?_)
      try simp only [Act.put, List.setIfInBounds_toArray, List.set_cons_zero, List.set_cons_succ]
      have Bz := belowN (Below.refl W3.heap.size W3) 1
      have HG4 : Hid (GB W3.drew M g b gr tk rho now nw k) := Lib.hid (HG3.out.below Bz)
      have HK4 : Hid (Blk W3.drew N #[.int .i64 xk, .int .i64 xl, .int .i64 xt, .slice xa xn xc] 44) := Lib.hid (HK3.out.step Bz)
      have HB4 : Hid (Below w.heap.size w W3.drew) := Lib.hid (HB3.out.trans (Bz.mono HB3.out.size))
      clear Bz HG3 HK3 HB3
      ((refine wpAnyH_take (i := 0) (v := ?_) (by (simp only [List.getElem?_toArray, List.getElem?_cons_succ, List.getElem?_cons_zero]); rfl) (by kernel_rfl) (by kernel_rfl) (by kernel_rfl) (by exact fun _ _ _ h => h) (Or.inl ⟨by rfl, ?_⟩) (by assumption) ?_); rotate_left; focus (intro wS hSw; (try dsimp only at hSw); go_simp; first | done | with_reducible rfl); try simp only [Act.put, List.setIfInBounds_toArray, List.set_cons_zero, List.set_cons_succ])
      ((refine wpAnyH_take (i := 1) (v := ?_) (by (simp only [List.getElem?_toArray, List.getElem?_cons_succ, List.getElem?_cons_zero]); rfl) (by kernel_rfl) (by kernel_rfl) (by kernel_rfl) (by exact fun _ _ _ h => h) (Or.inl ⟨by rfl, ?_⟩) (by assumption) ?_); rotate_left; focus (intro wS hSw; (try dsimp only at hSw); go_simp; first | done | with_reducible rfl); try simp only [Act.put, List.setIfInBounds_toArray, List.set_cons_zero, List.set_cons_succ])
      ((refine wpAnyH_take (i := 2) (v := ?_) (by (simp only [List.getElem?_toArray, List.getElem?_cons_succ, List.getElem?_cons_zero]); rfl) (by kernel_rfl) (by kernel_rfl) (by kernel_rfl) (by exact fun _ _ _ h => h) (Or.inl ⟨by rfl, ?_⟩) (by assumption) ?_); rotate_left; focus (intro wS hSw; (try dsimp only at hSw); go_simp; first | done | with_reducible rfl); try simp only [Act.put, List.setIfInBounds_toArray, List.set_cons_zero, List.set_cons_succ])
      ((refine wpAnyH_take (i := 3) (v := ?_) (by (simp only [List.getElem?_toArray, List.getElem?_cons_succ, List.getElem?_cons_zero]); rfl) (by kernel_rfl) (by kernel_rfl) (by kernel_rfl) (by exact fun _ _ _ h => h) (Or.inl ⟨by rfl, ?_⟩) (by assumption) ?_); rotate_left; focus (intro wS hSw; (try dsimp only at hSw); go_simp; first | done | with_reducible rfl); try simp only [Act.put, List.setIfInBounds_toArray, List.set_cons_zero, List.set_cons_succ])
      ((refine wpAnyH_take (i := 4) (v := ?_) (by (simp only [List.getElem?_toArray, List.getElem?_cons_succ, List.getElem?_cons_zero]); rfl) (by kernel_rfl) (by kernel_rfl) (by kernel_rfl) (by exact fun _ _ _ h => h) (Or.inl ⟨by rfl, ?_⟩) (by assumption) ?_); rotate_left; focus (intro wS hSw; (try dsimp only at hSw); go_simp; first | done | with_reducible rfl); try simp only [Act.put, List.setIfInBounds_toArray, List.set_cons_zero, List.set_cons_succ])
      ((refine wpAnyH_take (i := 6) (v := ?_) (by (simp only [List.getElem?_toArray, List.getElem?_cons_succ, List.getElem?_cons_zero]); rfl) (by kernel_rfl) (by kernel_rfl) (by kernel_rfl) (by exact fun _ _ _ h => h) (Or.inl ⟨by rfl, ?_⟩) (by assumption) ?_); rotate_left; focus (intro wS hSw; (try dsimp only at hSw); go_simp; first | done | with_reducible rfl); try simp only [Act.put, List.setIfInBounds_toArray, List.set_cons_zero, List.set_cons_succ])
      ((refine wpAnyH_take (i := 7) (v := ?_) (by (simp only [List.getElem?_toArray, List.getElem?_cons_succ, List.getElem?_cons_zero]); rfl) (by kernel_rfl) (by kernel_rfl) (by kernel_rfl) (by exact fun _ _ _ h => h) (Or.inl ⟨by rfl, ?_⟩) (by assumption) ?_); rotate_left; focus (intro wS hSw; (try dsimp only at hSw); go_simp; first | done | with_reducible rfl); try simp only [Act.put, List.setIfInBounds_toArray, List.set_cons_zero, List.set_cons_succ])
      ((refine wpAnyH_take (i := 8) (v := ?_) (by (simp only [List.getElem?_toArray, List.getElem?_cons_succ, List.getElem?_cons_zero]); rfl) (by kernel_rfl) (by kernel_rfl) (by kernel_rfl) (by exact fun _ _ _ h => h) (Or.inl ⟨by rfl, ?_⟩) (by assumption) ?_); rotate_left; focus (intro wS hSw; (try dsimp only at hSw); go_simp; first | done | with_reducible rfl); try simp only [Act.put, List.setIfInBounds_toArray, List.set_cons_zero, List.set_cons_succ])
      ((refine wpAnyH_take (i := 9) (v := ?_) (by (simp only [List.getElem?_toArray, List.getElem?_cons_succ, List.getElem?_cons_zero]); rfl) (by kernel_rfl) (by kernel_rfl) (by kernel_rfl) (by exact fun _ _ _ h => h) (Or.inl ⟨by rfl, ?_⟩) (by assumption) ?_); rotate_left; focus (intro wS hSw; (try dsimp only at hSw); go_simp; first | done | with_reducible rfl); try simp only [Act.put, List.setIfInBounds_toArray, List.set_cons_zero, List.set_cons_succ])
      ((refine wpAnyH_take (i := 10) (v := ?_) (by (simp only [List.getElem?_toArray, List.getElem?_cons_succ, List.getElem?_cons_zero]); rfl) (by kernel_rfl) (by kernel_rfl) (by kernel_rfl) (by exact fun _ _ _ h => h) (Or.inl ⟨by rfl, ?_⟩) (by assumption) ?_); rotate_left; focus (intro wS hSw; (try dsimp only at hSw); go_simp; first | done | with_reducible rfl); try simp only [Act.put, List.setIfInBounds_toArray, List.set_cons_zero, List.set_cons_succ])
      ((refine wpAnyH_ready (rs := [5]) (by kernel_rfl) (by simp) ?_); (refine AllReadyH.cons (by (simp only [List.getElem?_toArray, List.getElem?_cons_succ, List.getElem?_cons_zero]); rfl) (fun K hK => ?_) AllReadyH.nil); go_simp; go_fit (GM.out _ HG4.out))
      rintro e W5 ⟨rfl, hf5, hnx⟩
      have NX := Lib.hid hnx
      have HK5 := Lib.hid (HK4.out.frS hf5 (by have := HMN.out; have := HGM.out; simp; omega))
      have HB5 := Lib.hid (HB4.out.trans (hf5.below HB4.out.size (by have := HGM.out; simp; omega)))
      clear hf5 hnx
      go_wp2_with fail
      refine hK.out _ _ ⟨cell_at HK5.out 1, cell_at HK5.out 2⟩ (fun hHeld => ?_)
      clear hK K
      try simp only [Act.put, List.setIfInBounds_toArray, List.set_cons_zero, List.set_cons_succ]
      ((refine wpAnyH_ready (rs := [11]) (by kernel_rfl) (by simp) ?_); (refine AllReadyH.cons (by (simp only [List.getElem?_toArray, List.getElem?_cons_succ, List.getElem?_cons_zero]); rfl) (fun K hK => ?_) AllReadyH.nil); go_simp; go_fit (NX.out _ (Below.refl _ _)))
      rintro e W6 ⟨rfl, hT6, nw', hG6⟩
      have HK6 := Lib.hid (hT6.t _ _ _ HK5.out (by decide) (by decide))
      have HG6 := Lib.hid hG6
      have HB6 := Lib.hid (HB5.out.trans (hT6.b.mono HGM.out.2.2.2.2))
      clear hT6 hG6
      go_wp2_with fail
      refine hK.out _ _ ⟨cell_at HK6.out 1, cell_at HK6.out 2⟩ (fun hHeld => ?_)
      clear hK K
      try simp only [Act.put, List.setIfInBounds_toArray, List.set_cons_zero, List.set_cons_succ]
      ((refine wpAnyH_take (i := 12) (v := ?_) (by (simp only [List.getElem?_toArray, List.getElem?_cons_succ, List.getElem?_cons_zero]); rfl) (by kernel_rfl) (by kernel_rfl) (by kernel_rfl) (by exact fun _ _ _ h => h) (Or.inl ⟨by rfl, ?_⟩) (by assumption) ?_); rotate_left; focus (intro wS hSw; (try dsimp only at hSw); go_simp; first | done | with_reducible rfl); try simp only [Act.put, List.setIfInBounds_toArray, List.set_cons_zero, List.set_cons_succ])
      refine wpAnyH_done (by kernel_rfl) ?_ _
      try simp only [Act.put, List.setIfInBounds_toArray, List.set_cons_zero, List.set_cons_succ]
      go_wp2_with fail
      go_roundw
      case rel => exact ⟨k + 1, nw', by have := HLT.out; omega, by go_num, HG6.out, HB6.out⟩
      case measure => (have h8 := HLT.out; first | (simp [intOf]; done) | (simp [intOf]; omega))
    have k0 : (xk == 0) = false := by simp [hk0]
    by_cases hk1 : xk = 1
    · have k1 : (xk == 1) = true := by simp [hk1]
      have GM := Lib.hid (fun W hw h => gb_gone w (.slice xa xn xc) xs HLD.out M g b gr tk rho now nw k (by have := HLT.out; have := HN.out; omega) HGM.out.2.2.2.2 W hw ⟨HGM.out.2.2.1, HGM.out.2.2.2.1⟩ h)
      clear hk0 hk1
      go_upto_region 26 with fail
      clear d0 d3
      refine wp_region_held_drew (S := fun X => X.cell? ⟨N, 3, none⟩ = some (.slice xa xn xc)) (by kernel_rfl) (cell_at HK3.out 3) (fun hHeld => ?_)
      try simp only [Act.put, List.setIfInBounds_toArray, List.set_cons_zero, List.set_cons_succ]
      have Bz := belowN (Below.refl W3.heap.size W3) 1
      have HG4 : Hid (GB W3.drew M g b gr tk rho now nw k) := Lib.hid (HG3.out.below Bz)
      have HK4 : Hid (Blk W3.drew N #[.int .i64 xk, .int .i64 xl, .int .i64 xt, .slice xa xn xc] 44) := Lib.hid (HK3.out.step Bz)
      have HB4 : Hid (Below w.heap.size w W3.drew) := Lib.hid (HB3.out.trans (Bz.mono HB3.out.size))
      clear Bz HG3 HK3 HB3
      ((refine wpAnyH_take (i := 0) (v := ?_) (by (simp only [List.getElem?_toArray, List.getElem?_cons_succ, List.getElem?_cons_zero]); rfl) (by kernel_rfl) (by kernel_rfl) (by kernel_rfl) (by exact fun _ _ _ h => h) (Or.inl ⟨by rfl, ?_⟩) (by assumption) ?_); rotate_left; focus (intro wS hSw; (try dsimp only at hSw); go_simp; first | done | with_reducible rfl); try simp only [Act.put, List.setIfInBounds_toArray, List.set_cons_zero, List.set_cons_succ])
      ((refine wpAnyH_take (i := 1) (v := ?_) (by (simp only [List.getElem?_toArray, List.getElem?_cons_succ, List.getElem?_cons_zero]); rfl) (by kernel_rfl) (by kernel_rfl) (by kernel_rfl) (by exact fun _ _ _ h => h) (Or.inl ⟨by rfl, ?_⟩) (by assumption) ?_); rotate_left; focus (intro wS hSw; (try dsimp only at hSw); go_simp; first | done | with_reducible rfl); try simp only [Act.put, List.setIfInBounds_toArray, List.set_cons_zero, List.set_cons_succ])
      ((refine wpAnyH_take (i := 2) (v := ?_) (by (simp only [List.getElem?_toArray, List.getElem?_cons_succ, List.getElem?_cons_zero]); rfl) (by kernel_rfl) (by kernel_rfl) (by kernel_rfl) (by exact fun _ _ _ h => h) (Or.inl ⟨by rfl, ?_⟩) (by assumption) ?_); rotate_left; focus (intro wS hSw; (try dsimp only at hSw); go_simp; first | done | with_reducible rfl); try simp only [Act.put, List.setIfInBounds_toArray, List.set_cons_zero, List.set_cons_succ])
      ((refine wpAnyH_take (i := 4) (v := ?_) (by (simp only [List.getElem?_toArray, List.getElem?_cons_succ, List.getElem?_cons_zero]); rfl) (by kernel_rfl) (by kernel_rfl) (by kernel_rfl) (by exact fun _ _ _ h => h) (Or.inl ⟨by rfl, ?_⟩) (by assumption) ?_); rotate_left; focus (intro wS hSw; (try dsimp only at hSw); go_simp; first | done | with_reducible rfl); try simp only [Act.put, List.setIfInBounds_toArray, List.set_cons_zero, List.set_cons_succ])
      ((refine wpAnyH_take (i := 5) (v := ?_) (by (simp only [List.getElem?_toArray, List.getElem?_cons_succ, List.getElem?_cons_zero]); rfl) (by kernel_rfl) (by kernel_rfl) (by kernel_rfl) (by exact fun _ _ _ h => h) (Or.inl ⟨by rfl, ?_⟩) (by assumption) ?_); rotate_left; focus (intro wS hSw; (try dsimp only at hSw); go_simp; first | done | with_reducible rfl); try simp only [Act.put, List.setIfInBounds_toArray, List.set_cons_zero, List.set_cons_succ])
      ((refine wpAnyH_take (i := 6) (v := ?_) (by (simp only [List.getElem?_toArray, List.getElem?_cons_succ, List.getElem?_cons_zero]); rfl) (by kernel_rfl) (by kernel_rfl) (by kernel_rfl) (by exact fun _ _ _ h => h) (Or.inl ⟨by rfl, ?_⟩) (by assumption) ?_); rotate_left; focus (intro wS hSw; (try dsimp only at hSw); go_simp; first | done | with_reducible rfl); try simp only [Act.put, List.setIfInBounds_toArray, List.set_cons_zero, List.set_cons_succ])
      ((refine wpAnyH_ready (rs := [3]) (by kernel_rfl) (by simp) ?_); (refine AllReadyH.cons (by (simp only [List.getElem?_toArray, List.getElem?_cons_succ, List.getElem?_cons_zero]); rfl) (fun K hK => ?_) AllReadyH.nil); go_simp; go_fit (GM.out _ HB4.out HG4.out))
      rintro e W5 ⟨rfl, hf5, hnx⟩
      have NX := Lib.hid hnx
      have HK5 := Lib.hid (HK4.out.frS hf5 (by have := HMN.out; have := HGM.out; simp; omega))
      have HB5 := Lib.hid (HB4.out.trans (hf5.below HB4.out.size (by have := HGM.out; simp; omega)))
      clear hf5 hnx
      go_wp2_with fail
      refine hK.out _ _ (cell_at HK5.out 3) (fun hHeld => ?_)
      clear hK K
      try simp only [Act.put, List.setIfInBounds_toArray, List.set_cons_zero, List.set_cons_succ]
      ((refine wpAnyH_ready (rs := [7]) (by kernel_rfl) (by simp) ?_); (refine AllReadyH.cons (by (simp only [List.getElem?_toArray, List.getElem?_cons_succ, List.getElem?_cons_zero]); rfl) (fun K hK => ?_) AllReadyH.nil); go_simp; go_fit (NX.out _ (Below.refl _ _)))
      rintro e W6 ⟨rfl, hT6, hG6⟩
      have HK6 := Lib.hid (hT6.t _ _ _ HK5.out (by decide) (by decide))
      have HG6 := Lib.hid hG6
      have HB6 := Lib.hid (HB5.out.trans (hT6.b.mono HGM.out.2.2.2.2))
      clear hT6 hG6
      go_wp2_with fail
      refine hK.out _ _ (cell_at HK6.out 3) (fun hHeld => ?_)
      clear hK K
      try simp only [Act.put, List.setIfInBounds_toArray, List.set_cons_zero, List.set_cons_succ]
      ((refine wpAnyH_take (i := 8) (v := ?_) (by (simp only [List.getElem?_toArray, List.getElem?_cons_succ, List.getElem?_cons_zero]); rfl) (by kernel_rfl) (by kernel_rfl) (by kernel_rfl) (by exact fun _ _ _ h => h) (Or.inl ⟨by rfl, ?_⟩) (by assumption) ?_); rotate_left; focus (intro wS hSw; (try dsimp only at hSw); go_simp; first | done | with_reducible rfl); try simp only [Act.put, List.setIfInBounds_toArray, List.set_cons_zero, List.set_cons_succ])
      refine wpAnyH_done (by kernel_rfl) ?_ _
      try simp only [Act.put, List.setIfInBounds_toArray, List.set_cons_zero, List.set_cons_succ]
      go_wp2_with fail
      go_roundw
      case rel => exact ⟨k + 1, nw, by have := HLT.out; omega, by go_num, HG6.out.mono (by omega), HB6.out⟩
      case measure => (have h8 := HLT.out; first | (simp [intOf]; done) | (simp [intOf]; omega))
    have k1 : (xk == 1) = false := by simp [hk1]
    clear hk0 hk1
    obtain ⟨NS, hNS⟩ : ∃ N, N = W3.heap.size := ⟨_, rfl⟩
    obtain ⟨W4, hW4⟩ : ∃ W, W = W3.alloc (.cells #[.int .i64 0, .int .i64 0, .int .i64 0, .slice none 0 0, .slice none 0 0, .slice none 0 0, .slice none 0 0] 42) := ⟨_, rfl⟩
    have hB4 : Below W3.heap.size W3 W4 := by rw [hW4]; exact (Below.refl _ _).alloc (Nat.le_refl _) _
    have HK4 := Lib.hid (show Blk W4 NS #[.int .i64 0, .int .i64 0, .int .i64 0, .slice none 0 0, .slice none 0 0, .slice none 0 0, .slice none 0 0] 42 by rw [hW4, hNS]; exact blk_new _ _ _)
    have HB4 : Hid (Below NS W3 W4) := Lib.hid (by rw [hNS]; exact hB4)
    have HNS : Hid (NS = W3.heap.size) := Lib.hid hNS
    have HNN : Hid (N < NS ∧ M ≤ NS ∧ g < NS ∧ gr < NS) := Lib.hid (by
      have h1 := HK3.out.lt
      have h2 := HG3.out.size
      have h3 := HGM.out
      obtain ⟨⟨_, _, _, _, _, _, _, _, hq, _, _⟩, _, _⟩ := HG3.out
      have h4 := hq.blk.lt
      omega)
    go_upto_region 15 with fail
    rw [← hNS, ← hW4]
    clear hNS hW4 hB4 d0 d3
    have d3 : W4.cell? ⟨N, 3, none⟩ = some (.slice xa xn xc) := cell_at (HK3.out.stepM HB4.out HNN.out.1) 3
    go_wp2_with fail
    clear d3
    obtain ⟨i0, hi, hz0, hz1, hz2⟩ := info_parts leInfo
    have HI := Lib.hid hi
    have HZ0 := Lib.hid hz0
    have HZ1 := Lib.hid hz1
    have HZ2 := Lib.hid hz2
    clear hi hz0 hz1 hz2
    go_loopw [17, 84] (fun _ i wq => ∃ (j : Nat) (v : Value) (ob : Option Nat), j ≤ xn ∧ i = .int .i64 j ∧ Blk wq NS #[.int .i64 0, .int .i64 0, .int .i64 0, .slice none 0 0, v, .slice none 0 0, .slice none 0 0] 42 ∧ Row wq v ob 36 7 j (leL (gF xs) j) ∧ (∀ q, ob = some q → NS ≤ q) ∧ Below NS W3 wq) (fun _ i _ => xn - (intOf i).toNat)
    case atStart => exact ⟨0, .slice none 0 0, none, Nat.zero_le _, rfl, HK4.out, Row.nil _ _ _, (fun _ e => by cases e), HB4.out⟩
    case round =>
      clear HK4 HB4
      obtain ⟨j, v, ob, hj, rfl, hkS, hrow, hob, hB⟩ := hrel
      have HOB := Lib.hid hob
      have hBw : Below w.heap.size w wr := HB3.out.trans (hB.mono (by have := HB3.out.size; rw [HNS.out]; exact this))
      by_cases hlj : j < xn
      · obtain ⟨gy, oy, y, ea, l1, hy, c0⟩ := (HLD.out.below hBw).at j hlj
        subst ea
        replace c0 := c0.1
        have hgi : gI xs j = y := by unfold gI; rw [hy]; rfl
        have HGI := Lib.hid hgi
        obtain ⟨av, cv, rfl, h1, h2, h3⟩ := hrow.shape
        have f4 : wr.cell? ⟨NS, 4, none⟩ = some (.slice av j cv) := cell_at hkS 4
        have hBx : Below wr.heap.size wr (wr.alloc (.cells #[.int .i64 y, .int .i64 0, .int .i64 0, .int .i64 0, .int .i64 0, .int .i64 0, .int .i64 0] 36)) := (Below.refl _ _).alloc (Nat.le_refl _) _
        have HKS := Lib.hid (hkS.step hBx)
        have HROW := Lib.hid (hrow.congr (w' := wr.alloc (.cells #[.int .i64 y, .int .i64 0, .int .i64 0, .int .i64 0, .int .i64 0, .int .i64 0, .int .i64 0] 36)) fun q e => by subst e; exact hBx.block q hrow.lt)
        have hNB : ∀ q, ob = some q → NS ≠ q := fun q e => by subst e; exact row_blk_ne hrow hkS (by decide)
        have HNB := Lib.hid hNB
        have HBX := Lib.hid (hB.trans (hBx.mono (by have := hkS.lt; omega)))
        have HSZ : Hid (NS < wr.heap.size) := Lib.hid hkS.lt
        have wj5 : IntKind.i64.wrap ((j : Int) + 1) = (j : Int) + 1 := IntWalk.i64_in _ (by omega)
        have bj9 : ((j : Int) < (xn : Int)) = True := eq_true (by omega)
        have bj1 : (j < xn) = True := eq_true hlj
        have HLJ := Lib.hid hlj
        clear hkS hrow hob hB hBw hy hgi h3 hNB hBx hlj
        go_wp2_with (at_builtin; refine wpList_append_row _ rfl (.tmp 89) (.tmp 92) 37 rfl 36 i0 _ 7 56 Try.underlying37 HI.out HZ0.out HZ1.out HZ2.out rfl (by decide) _ ob j (leL (gF xs) j) rfl HROW.out ⟨wr.heap.size, 0, none⟩ 1 1 [.int .i64 y, .int .i64 0, .int .i64 0, .int .i64 0, .int .i64 0, .int .i64 0, .int .i64 0] rfl (by decide) rfl ?c1 ?c2 ?c3 ?c4 ?_)
        case c1 =>
          intro q u hu
          have hk9 := blk_new wr #[.int .i64 y, .int .i64 0, .int .i64 0, .int .i64 0, .int .i64 0, .int .i64 0, .int .i64 0] 36
          have hq : q < 7 := by have := (List.getElem?_eq_some_iff.1 hu).1; simpa using this
          rw [addr_add, cell_at hk9, Nat.zero_add]
          rw [List.getElem?_toArray]
          exact hu
        case c2 => intro u hu; exact (List.all_eq_true (p := fun u : Value => u.oneCell')).1 rfl u hu
        case c3 => have := HX2.out; have := HLJ.out; unfold maxLen; omega
        case c4 => have := HX2.out; have := HLJ.out; omega
        intro v' ob' W6 hrow4 hg4 hob4
        have hk6 : Blk W6 NS #[.int .i64 0, .int .i64 0, .int .i64 0, .slice none 0 0, .slice av j cv, .slice none 0 0, .slice none 0 0] 42 := (hg4.block NS HKS.out.lt (fun e => HNB.out NS e.symm rfl)).trans HKS.out
        have g4 : W6.cell? ⟨NS, 4, none⟩ = some (.slice av j cv) := cell_at hk6 4
        have gz : ∀ j, W6.frozen? ⟨NS, j, none⟩ = false := fun j => free_at hk6 j
        have gl : NS < W6.heap.size := hk6.lt
        have hob6 : NS ≤ ob' := by
          rcases hob4 with h | h
          · exact HOB.out _ h
          · have := HSZ.out; first | omega | (simp at h; omega)
        have hB6 : Below NS W3 W6 := HBX.out.grown hg4 (by have := HSZ.out; first | omega | (simp; omega)) (fun q e => HOB.out q e)
        have hne6 : NS ≠ ob' := row_blk_ne hrow4 hk6 (by decide)
        obtain ⟨av6, cv6, rfl, h61, h62, h63⟩ := hrow4.shape
        obtain ⟨W7, hW7⟩ : ∃ X, X = W6.setCell ⟨NS, 4, none⟩ (.slice av6 (j + 1) cv6) := ⟨_, rfl⟩
        have hf7 : Fr [NS] W6 W7 := by rw [hW7]; exact (Fr.refl _ _).setCell _ (.inl (by simp)) _
        have HK7 := Lib.hid (show Blk W7 NS _ 42 by rw [hW7]; exact hk6.set 4 _)
        have HROW7 := Lib.hid (hrow4.congr (w' := W7) fun q e => by obtain rfl := Option.some.inj e; exact hf7.block _ hrow4.lt (by simpa using fun e => hne6 e.symm))
        have HB7 := Lib.hid (hB6.trans (hf7.below (Nat.le_of_lt gl) (by simp)))
        clear hrow4 hg4 hob4 hk6 hB6 hf7 h63
        go_upto_region 19 with fail
        rw [← hW7]
        clear hW7 g4 gz gl f4
        go_wp2_with fail
        go_roundw
        case rel =>
          refine ⟨j + 1, .slice av6 (j + 1) cv6, some ob', by have := HLJ.out; omega, by go_num, HK7.out, ?_, fun q e => by obtain rfl := Option.some.inj e; exact hob6, HB7.out⟩
          rw [leL_succ, show (gF xs j).cells = [.int .i64 y, .int .i64 0, .int .i64 0, .int .i64 0, .int .i64 0, .int .i64 0, .int .i64 0] by simp [LeE.cells, gF, HGI.out]]
          exact HROW7.out
        case measure => (have h8 := HLJ.out; first | (simp [intOf]; done) | (simp [intOf]; omega))
      obtain rfl : j = xn := by omega
      obtain ⟨av, cv, rfl, hLe⟩ := le_row hrow (fun k hk => gF_ok xs HLD.out.ok k (by rw [← HXN.out]; exact hk))
      obtain ⟨bs, hLs, hb1, hb2⟩ : ∃ bs, LeIn wr av j cv bs 0 (gF xs) ∧ bs ≠ g ∧ bs ≠ gr := by
        cases ob with
        | none =>
          have hj0 : j = 0 := by
            rcases hrow.cases with ⟨_, _, e, _⟩ | ⟨_, _, _, e, _⟩
            · exact e
            · cases e
          exact ⟨NS, ⟨hLe.le, hLe.max, fun h => absurd h (by omega), fun k h => absurd h (by omega), fun k h => absurd h (by omega)⟩, by have := HNN.out; omega, by have := HNN.out; omega⟩
        | some q =>
          have := HOB.out q rfl
          exact ⟨q, hLe, by have := HNN.out; omega, by have := HNN.out; omega⟩
      have hGx := HG3.out.below (by rw [← HNS.out]; exact hB)
      have hKx := HK3.out.stepM hB HNN.out.1
      have HX2' : Hid (j ≤ 200) := Lib.hid (by have := HX2.out; omega)
      have GO := Lib.hid (fun W hs h => gb_over xt 0 0 0 HB2.out av j cv bs 0 (gF xs) M g b gr tk rho now nw k ⟨HNW.out.2.2.2.2, HNO.out⟩ (by have := HX2'.out; omega) W hs ⟨hb1, hb2⟩ h)
      have HLS := Lib.hid hLs
      have HGX := Lib.hid hGx
      have HKX := Lib.hid hKx
      have HKS := Lib.hid hkS
      have HBW := Lib.hid hBw
      have HSB : Hid (NS ≠ g ∧ NS ≠ gr ∧ N ≠ g ∧ N ≠ gr) := Lib.hid (by
        have h1 := HNN.out
        have h2 := HMN.out
        have h3 := HGM.out
        obtain ⟨⟨_, _, _, _, _, _, _, _, hq, _, _⟩, _, _⟩ := HG3.out
        have h4 := hq.blk.lt
        refine ⟨by omega, by omega, by omega, ?_⟩
        rintro rfl
        have := hq.blk.symm.trans HK3.out
        injection this with e'
        injection e' with e1 e2
        revert e2
        decide)
      clear hrow hob hB hBw hLe hLs hb1 hb2 hGx hKx hkS hj
      go_upto_region 20 with fail
      refine wp_region_held_drew (S := fun X => (X.cell? ⟨NS, 0, none⟩ = some (.int .i64 0) ∧ X.cell? ⟨NS, 1, none⟩ = some (.int .i64 0) ∧ X.cell? ⟨NS, 2, none⟩ = some (.int .i64 0) ∧ X.cell? ⟨NS, 3, none⟩ = some (.slice none 0 0) ∧ X.cell? ⟨NS, 4, none⟩ = some (.slice av j cv) ∧ X.cell? ⟨NS, 5, none⟩ = some (.slice none 0 0) ∧ X.cell? ⟨NS, 6, none⟩ = some (.slice none 0 0)) ∧ X.cell? ⟨N, 2, none⟩ = some (.int .i64 xt)) (by kernel_rfl) ⟨⟨cell_at HKS.out 0, cell_at HKS.out 1, cell_at HKS.out 2, cell_at HKS.out 3, cell_at HKS.out 4, cell_at HKS.out 5, cell_at HKS.out 6⟩, cell_at HKX.out 2⟩ (fun hHeld => ?_)
      try simp only [Act.put, List.setIfInBounds_toArray, List.set_cons_zero, List.set_cons_succ]
      have Bz := belowN (Below.refl wr.heap.size wr) 1
      have HG4 : Hid (GB wr.drew M g b gr tk rho now nw k) := Lib.hid (HGX.out.below Bz)
      have HKX4 := Lib.hid (HKX.out.step Bz)
      have HKS4 := Lib.hid (HKS.out.step Bz)
      have HLS4 := Lib.hid (HLS.out.below Bz)
      have HB4 := Lib.hid (HBW.out.trans (Bz.mono HBW.out.size))
      clear Bz HGX HKX HKS HLS HBW
      ((refine wpAnyH_take (i := 0) (v := ?_) (by (simp only [List.getElem?_toArray, List.getElem?_cons_succ, List.getElem?_cons_zero]); rfl) (by kernel_rfl) (by kernel_rfl) (by kernel_rfl) (by exact fun _ _ _ h => h) (Or.inl ⟨by rfl, ?_⟩) (by assumption) ?_); rotate_left; focus (intro wS hSw; (try dsimp only at hSw); go_simp; first | done | with_reducible rfl); try simp only [Act.put, List.setIfInBounds_toArray, List.set_cons_zero, List.set_cons_succ])
      ((refine wpAnyH_take (i := 1) (v := ?_) (by (simp only [List.getElem?_toArray, List.getElem?_cons_succ, List.getElem?_cons_zero]); rfl) (by kernel_rfl) (by kernel_rfl) (by kernel_rfl) (by exact fun _ _ _ h => h) (Or.inl ⟨by rfl, ?_⟩) (by assumption) ?_); rotate_left; focus (intro wS hSw; (try dsimp only at hSw); go_simp; first | done | with_reducible rfl); try simp only [Act.put, List.setIfInBounds_toArray, List.set_cons_zero, List.set_cons_succ])
      ((refine wpAnyH_take (i := 2) (v := ?_) (by (simp only [List.getElem?_toArray, List.getElem?_cons_succ, List.getElem?_cons_zero]); rfl) (by kernel_rfl) (by kernel_rfl) (by kernel_rfl) (by exact fun _ _ _ h => h) (Or.inl ⟨by rfl, ?_⟩) (by assumption) ?_); rotate_left; focus (intro wS hSw; (try dsimp only at hSw); go_simp; first | done | with_reducible rfl); try simp only [Act.put, List.setIfInBounds_toArray, List.set_cons_zero, List.set_cons_succ])
      ((refine wpAnyH_take (i := 3) (v := ?_) (by (simp only [List.getElem?_toArray, List.getElem?_cons_succ, List.getElem?_cons_zero]); rfl) (by kernel_rfl) (by kernel_rfl) (by kernel_rfl) (by exact fun _ _ _ h => h) (Or.inl ⟨by rfl, ?_⟩) (by assumption) ?_); rotate_left; focus (intro wS hSw; (try dsimp only at hSw); go_simp; first | done | with_reducible rfl); try simp only [Act.put, List.setIfInBounds_toArray, List.set_cons_zero, List.set_cons_succ])
      ((refine wpAnyH_take (i := 5) (v := ?_) (by (simp only [List.getElem?_toArray, List.getElem?_cons_succ, List.getElem?_cons_zero]); rfl) (by kernel_rfl) (by kernel_rfl) (by kernel_rfl) (by exact fun _ _ _ h => h) (Or.inl ⟨by rfl, ?_⟩) (by assumption) ?_); rotate_left; focus (intro wS hSw; (try dsimp only at hSw); go_simp; first | done | with_reducible rfl); try simp only [Act.put, List.setIfInBounds_toArray, List.set_cons_zero, List.set_cons_succ])
      ((refine wpAnyH_take (i := 6) (v := ?_) (by (simp only [List.getElem?_toArray, List.getElem?_cons_succ, List.getElem?_cons_zero]); rfl) (by kernel_rfl) (by kernel_rfl) (by kernel_rfl) (by exact fun _ _ _ h => h) (Or.inl ⟨by rfl, ?_⟩) (by assumption) ?_); rotate_left; focus (intro wS hSw; (try dsimp only at hSw); go_simp; first | done | with_reducible rfl); try simp only [Act.put, List.setIfInBounds_toArray, List.set_cons_zero, List.set_cons_succ])
      ((refine wpAnyH_take (i := 7) (v := ?_) (by (simp only [List.getElem?_toArray, List.getElem?_cons_succ, List.getElem?_cons_zero]); rfl) (by kernel_rfl) (by kernel_rfl) (by kernel_rfl) (by exact fun _ _ _ h => h) (Or.inl ⟨by rfl, ?_⟩) (by assumption) ?_); rotate_left; focus (intro wS hSw; (try dsimp only at hSw); go_simp; first | done | with_reducible rfl); try simp only [Act.put, List.setIfInBounds_toArray, List.set_cons_zero, List.set_cons_succ])
      ((refine wpAnyH_take (i := 8) (v := ?_) (by (simp only [List.getElem?_toArray, List.getElem?_cons_succ, List.getElem?_cons_zero]); rfl) (by kernel_rfl) (by kernel_rfl) (by kernel_rfl) (by exact fun _ _ _ h => h) (Or.inl ⟨by rfl, ?_⟩) (by assumption) ?_); rotate_left; focus (intro wS hSw; (try dsimp only at hSw); go_simp; first | done | with_reducible rfl); try simp only [Act.put, List.setIfInBounds_toArray, List.set_cons_zero, List.set_cons_succ])
      ((refine wpAnyH_ready (rs := [4]) (by kernel_rfl) (by simp) ?_); (refine AllReadyH.cons (by (simp only [List.getElem?_toArray, List.getElem?_cons_succ, List.getElem?_cons_zero]); rfl) (fun K hK => ?_) AllReadyH.nil); go_simp; go_fit (GO.out _ HLS4.out HG4.out))
      rintro e W5 ⟨v1, rfl, hf5, hnx⟩
      have NX := Lib.hid hnx
      have HKX5 := Lib.hid (HKX4.out.frS hf5 (by simpa using HSB.out.2.2.1))
      have HKS5 := Lib.hid (HKS4.out.frS hf5 (by simpa using HSB.out.1))
      have HB5 := Lib.hid (HB4.out.trans (hf5.below HB4.out.size (by have := HGM.out; simp; omega)))
      clear hf5 hnx
      go_wp2_with fail
      refine hK.out _ _ ⟨⟨cell_at HKS5.out 0, cell_at HKS5.out 1, cell_at HKS5.out 2, cell_at HKS5.out 3, cell_at HKS5.out 4, cell_at HKS5.out 5, cell_at HKS5.out 6⟩, cell_at HKX5.out 2⟩ (fun hHeld => ?_)
      clear hK K
      try simp only [Act.put, List.setIfInBounds_toArray, List.set_cons_zero, List.set_cons_succ]
      ((refine wpAnyH_ready (rs := [9]) (by kernel_rfl) (by simp) ?_); (refine AllReadyH.cons (by (simp only [List.getElem?_toArray, List.getElem?_cons_succ, List.getElem?_cons_zero]); rfl) (fun K hK => ?_) AllReadyH.nil); go_simp; go_fit (NX.out _ (Below.refl _ _)))
      rintro e W6 ⟨v2, L, rfl, hf6, hv1, hv2, nw', hG6⟩
      have HG6 := Lib.hid hG6
      have HV1 := Lib.hid hv1
      have HV2 := Lib.hid hv2
      have HKX6 := Lib.hid (HKX5.out.frS hf6 (by simpa using HSB.out.2.2.2))
      have HKS6 := Lib.hid (HKS5.out.frS hf6 (by simpa using HSB.out.2.1))
      have HB6 := Lib.hid (HB5.out.trans (hf6.below HB5.out.size (by have := HGM.out; have := HGR.out; simp; omega)))
      clear hf6 hG6 hv1 hv2
      go_wp2_with fail
      refine hK.out _ _ ⟨⟨cell_at HKS6.out 0, cell_at HKS6.out 1, cell_at HKS6.out 2, cell_at HKS6.out 3, cell_at HKS6.out 4, cell_at HKS6.out 5, cell_at HKS6.out 6⟩, cell_at HKX6.out 2⟩ (fun hHeld => ?_)
      clear hK K
      try simp only [Act.put, List.setIfInBounds_toArray, List.set_cons_zero, List.set_cons_succ]
      ((refine wpAnyH_ready (rs := [10]) (by kernel_rfl) (by simp) ?_); (refine AllReadyH.cons (by (simp only [List.getElem?_toArray, List.getElem?_cons_succ, List.getElem?_cons_zero]); rfl) (fun K hK => ?_) AllReadyH.nil); go_simp; go_fit (grow_any v1 v2 L _ HV1.out HV2.out))
      rintro e W7 ⟨rfl, hB7⟩
      have HKX7 := Lib.hid (HKX6.out.step hB7)
      have HKS7 := Lib.hid (HKS6.out.step hB7)
      have HG7 := Lib.hid (HG6.out.below hB7)
      have HB7 := Lib.hid (HB6.out.trans (hB7.mono HB6.out.size))
      clear hB7
      go_wp2_with fail
      refine hK.out _ _ ⟨⟨cell_at HKS7.out 0, cell_at HKS7.out 1, cell_at HKS7.out 2, cell_at HKS7.out 3, cell_at HKS7.out 4, cell_at HKS7.out 5, cell_at HKS7.out 6⟩, cell_at HKX7.out 2⟩ (fun hHeld => ?_)
      clear hK K
      try simp only [Act.put, List.setIfInBounds_toArray, List.set_cons_zero, List.set_cons_succ]
      ((refine wpAnyH_take (i := 11) (v := ?_) (by (simp only [List.getElem?_toArray, List.getElem?_cons_succ, List.getElem?_cons_zero]); rfl) (by kernel_rfl) (by kernel_rfl) (by kernel_rfl) (by exact fun _ _ _ h => h) (Or.inl ⟨by rfl, ?_⟩) (by assumption) ?_); rotate_left; focus (intro wS hSw; (try dsimp only at hSw); go_simp; first | done | with_reducible rfl); try simp only [Act.put, List.setIfInBounds_toArray, List.set_cons_zero, List.set_cons_succ])
      refine wpAnyH_done (by kernel_rfl) ?_ _
      try simp only [Act.put, List.setIfInBounds_toArray, List.set_cons_zero, List.set_cons_succ]
      go_wp2_with fail
      go_roundw
      case rel => exact ⟨k + 1, nw', by have := HLT.out; omega, by go_num, HG7.out.mono (by omega), HB7.out⟩
      case measure => (have h8 := HLT.out; first | (simp [intOf]; done) | (simp [intOf]; omega))
theorem grantPlays_dt (tk rho now : Int) (hnow : -9223372036854775808 ≤ now ∧ now ≤ 9223372036854775807) (a : Option Addr) (n c : Nat) (xs : List Dt) (w : World) (h : SliceFits Try.prog w 44 a n c xs) : Calls Try.prog 3 #[.int .i64 tk, .int .i64 rho, .int .i64 now, .slice a n c] w fun e w' => e = .returned (.bool true) ∧ Below w.heap.size w w' := by
  obtain ⟨b, o, A, hA⟩ := ga_cells w h
  exact grantPlays_walk tk rho now hnow.2 a n c b o A w hA
end Go.Proofs.Ythmjlomlceljkaa
