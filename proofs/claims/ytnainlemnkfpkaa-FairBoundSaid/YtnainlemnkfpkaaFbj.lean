/-
  Is the bound kept since a place?
-/
import Derived.Test.YtnainlemnkfpkaaFbi
namespace Go.Proofs.Ytnainlemnkfpkaa
open Go.RowKit
set_option linter.unusedSimpArgs false
set_option linter.unusedVariables false


theorem hold_ok {al wt own most mn mk an ak : Int} (h : -(wt * (most * 720720)) - 2 * (own * 720720 * (al - wt)) ≤ (al * 720720 * mn - wt * 720720 * an) - (al * 720720 * mk - wt * 720720 * ak)) : ¬ ((mn - mk) * al < wt * (an - ak) - (2 * own * al + (most - 2 * own) * wt)) := by
  have e1 : wt * (most * 720720) = 720720 * (wt * most) := by rw [← Int.mul_assoc, Int.mul_comm]
  have e2 : own * 720720 * (al - wt) = 720720 * (own * al) - 720720 * (own * wt) := by rw [Int.mul_comm own 720720, Int.mul_assoc, Int.mul_sub, Int.mul_sub]
  have e3 : ∀ x : Int, al * 720720 * x = 720720 * (al * x) := fun x => by rw [Int.mul_comm al 720720, Int.mul_assoc]
  have e4 : ∀ x : Int, wt * 720720 * x = 720720 * (wt * x) := fun x => by rw [Int.mul_comm wt 720720, Int.mul_assoc]
  have e5 : (mn - mk) * al = al * mn - al * mk := by rw [Int.sub_mul, Int.mul_comm mn, Int.mul_comm mk]
  have e6 : (most - 2 * own) * wt = wt * most - 2 * (own * wt) := by rw [Int.sub_mul, Int.mul_comm most, Int.mul_assoc]
  have e7 : 2 * own * al = 2 * (own * al) := Int.mul_assoc _ _ _
  rw [e1, e2, e3, e3, e4, e4] at h
  rw [e5, e6, e7, Int.mul_sub]
  omega
theorem mul_bd {x y a b : Int} (hx : 0 ≤ x ∧ x ≤ a) (hy : 0 ≤ y ∧ y ≤ b) : 0 ≤ x * y ∧ x * y ≤ a * b :=
  ⟨Int.mul_nonneg hx.1 hy.1, Int.le_trans (Int.mul_le_mul_of_nonneg_right hx.2 hy.1) (Int.mul_le_mul_of_nonneg_left hy.2 (by omega))⟩
theorem gI_at {L : List Int} {k : Nat} {y : Int} (h : L[k]? = some y) : gI L k = y := by unfold gI; rw [h]; rfl
set_option maxRecDepth 100000 in
set_option maxHeartbeats 16000000 in
theorem holds_any (va vm : Value) (A M : List Int) (fr N : Nat) (wt al own most : Int) (w : World) (hm : InV w vm M) (ha : InV w va A) (hlm : M.length = N + 1) (hla : A.length = N + 1) (hN : N ≤ 1000) (hbd : ∀ k, k ≤ N → (0 ≤ gI M k ∧ gI M k ≤ 2000000) ∧ (0 ≤ gI A k ∧ gI A k ≤ 2000000)) (hmo : ∀ k, k ≤ N → gI M k ≤ gI M N ∧ gI A k ≤ gI A N) (hw : 1 ≤ wt ∧ wt ≤ 16) (hal : 1 ≤ al ∧ al ≤ 128) (ho : 0 ≤ own ∧ own ≤ 1500) (hmm : 0 ≤ most ∧ most ≤ 1500)
    (hok : ∀ k, fr ≤ k → k < N → ¬ ((gI M N - gI M k) * al < wt * (gI A N - gI A k) - (2 * own * al + (most - 2 * own) * wt))) :
    Calls Try.prog 19 #[.agg #[vm, va, .int .i64 (fr : Nat)], .int .i64 wt, .int .i64 al, .int .i64 own, .int .i64 most] w fun e w' => e = .returned (.bool true) ∧ Below w.heap.size w w' := by
  obtain ⟨xm, nm, cm, rfl, HNM, m1, m2⟩ := hm.sh
  obtain ⟨xa, na, ca, rfl, HNA, a1, a2⟩ := ha.sh
  have HM := Lib.hid hm
  have HA := Lib.hid ha
  have HBD := Lib.hid hbd
  have HMO := Lib.hid hmo
  have HOK := Lib.hid hok
  have HW := Lib.hid hw
  have HAL := Lib.hid hal
  have HO := Lib.hid ho
  have HMM := Lib.hid hmm
  have hnm : nm = N + 1 := HNM.out.trans hlm
  have hna : na = N + 1 := HNA.out.trans hla
  obtain rfl : nm = na := hnm.trans hna.symm
  have HNN : Hid (nm = N + 1) := Lib.hid hnm
  have hnm2 := hnm
  obtain ⟨NB, hNB⟩ : ∃ N, N = w.heap.size := ⟨_, rfl⟩
  obtain ⟨W1, hW1⟩ : ∃ W, W = w.alloc (.cells #[.slice xm nm cm, .slice xa nm ca, .int .i64 (fr : Nat)] 51) := ⟨_, rfl⟩
  have hB1 : Below w.heap.size w W1 := by rw [hW1]; exact alloc_b _ _
  have HX := Lib.hid (show Blk W1 NB #[.slice xm nm cm, .slice xa nm ca, .int .i64 (fr : Nat)] 51 by rw [hW1, hNB]; exact blk_new _ _ _)
  have HB1 := Lib.hid hB1
  have ws : IntKind.i64.wrap ((nm : Int) - 1) = (N : Int) := (IntWalk.i64_in _ (by omega)).trans (by omega)
  have HN : Hid (N ≤ 1000) := Lib.hid hN
  clear hm ha hbd hmo hok hw hal ho hmm hB1 hlm hla hnm hna hnm2
  go_enter Try.func19, Try.ntmps19
  go_upto_region 1 with fail
  rw [← hNB, ← hW1]
  clear hNB hW1
  have x1 : W1.cell? ⟨NB, 1, none⟩ = some (.slice xa nm ca) := cell_at HX.out 1
  have x2 : W1.cell? ⟨NB, 2, none⟩ = some (.int .i64 (fr : Nat)) := cell_at HX.out 2
  go_wp2_with fail
  clear x1 x2
  go_loopw [12, 13, 14] (fun vi _ _ wq => ∃ k : Nat, fr ≤ k ∧ vi = .int .i64 k ∧ Below W1.heap.size W1 wq ∧ (k ≤ N ∨ k = fr)) (fun vi _ _ _ => N - (intOf vi).toNat)
  case atStart => exact ⟨fr, Nat.le_refl _, rfl, Below.refl _ _, .inr rfl⟩
  case round =>
    obtain ⟨k, hk, rfl, hB, hkN⟩ := hrel
    have HB := Lib.hid hB
    by_cases hlt : k < N
    · have d0 : decide ((k : Int) < (N : Int)) = true := decide_eq_true (by omega)
      have d0' : decide (k < N) = true := decide_eq_true hlt
      have hBw := HB1.out.trans (hB.mono HB1.out.size)
      obtain ⟨g1, o1, MN, e1, _, hMN, cMN, _⟩ := (HM.out.below hBw).at N (by have := HNN.out; omega)
      obtain ⟨g1', o1', MK, e1', _, hMK, cMK, _⟩ := (HM.out.below hBw).at k (by have := HNN.out; omega)
      obtain ⟨g2, o2, AN, e2, _, hAN, cAN, _⟩ := (HA.out.below hBw).at N (by have := HNN.out; omega)
      obtain ⟨g2', o2', AK, e2', _, hAK, cAK, _⟩ := (HA.out.below hBw).at k (by have := HNN.out; omega)
      subst e1 e2
      obtain ⟨rfl, rfl⟩ : g1 = g1' ∧ o1 = o1' := by injection e1' with e; injection e with a b c; exact ⟨a, b⟩
      obtain ⟨rfl, rfl⟩ : g2 = g2' ∧ o2 = o2' := by injection e2' with e; injection e with a b c; exact ⟨a, b⟩
      have qm := gI_at hMN
      have qk := gI_at hMK
      have qa := gI_at hAN
      have qb := gI_at hAK
      have hb1 := HBD.out N (Nat.le_refl _)
      have hb2 := HBD.out k (by omega)
      have hmo := HMO.out k (by omega)
      have hok := HOK.out k hk hlt
      rw [qm, qk, qa, qb] at hok
      rw [qm, qa] at hb1
      rw [qk, qb] at hb2
      rw [qm, qk, qa, qb] at hmo
      have HWW := HW.out
      have HAA := HAL.out
      have HOO := HO.out
      have HMN := HMM.out
      obtain ⟨D1, hD1⟩ : ∃ D, D = MN - MK := ⟨_, rfl⟩
      obtain ⟨D2, hD2⟩ : ∃ D, D = AN - AK := ⟨_, rfl⟩
      rw [← hD1, ← hD2] at hok
      have w1 : IntKind.i64.wrap (MN - MK) = D1 := (IntWalk.i64_in _ (by omega)).trans (by omega)
      have w2 : IntKind.i64.wrap (AN - AK) = D2 := (IntWalk.i64_in _ (by omega)).trans (by omega)
      have p1b := mul_bd (x := D1) (y := al) (a := 2000000) (b := 128) (by omega) (by omega)
      have p2b := mul_bd (x := wt) (y := D2) (a := 16) (b := 2000000) (by omega) (by omega)
      obtain ⟨P1, hP1⟩ : ∃ P, P = D1 * al := ⟨_, rfl⟩
      obtain ⟨P2, hP2⟩ : ∃ P, P = wt * D2 := ⟨_, rfl⟩
      obtain ⟨O2, hO2⟩ : ∃ P, P = 2 * own := ⟨_, rfl⟩
      have p3b := mul_bd (x := O2) (y := al) (a := 3000) (b := 128) (by omega) (by omega)
      obtain ⟨P3, hP3⟩ : ∃ P, P = O2 * al := ⟨_, rfl⟩
      obtain ⟨S1, hS1⟩ : ∃ P, P = most - O2 := ⟨_, rfl⟩
      have p4b : -48000 ≤ S1 * wt ∧ S1 * wt ≤ 24000 := by
        have h1 := mul_bd (x := most) (y := wt) (a := 1500) (b := 16) (by omega) (by omega)
        have h2 := mul_bd (x := O2) (y := wt) (a := 3000) (b := 16) (by omega) (by omega)
        rw [hS1, Int.sub_mul]
        omega
      obtain ⟨P4, hP4⟩ : ∃ P, P = S1 * wt := ⟨_, rfl⟩
      rw [← hP1, ← hP2, ← hO2, ← hP3, ← hS1, ← hP4] at hok
      rw [← hP1] at p1b
      rw [← hP2] at p2b
      rw [← hP3] at p3b
      rw [← hP4] at p4b
      obtain ⟨S2, hS2⟩ : ∃ P, P = P3 + P4 := ⟨_, rfl⟩
      obtain ⟨S3, hS3⟩ : ∃ P, P = P2 - S2 := ⟨_, rfl⟩
      rw [← hS2, ← hS3] at hok
      have w3 : IntKind.i64.wrap (D1 * al) = P1 := by rw [← hP1]; exact IntWalk.i64_in _ (by omega)
      have w4 : IntKind.i64.wrap (wt * D2) = P2 := by rw [← hP2]; exact IntWalk.i64_in _ (by omega)
      have w5 : IntKind.i64.wrap (2 * own) = O2 := by rw [← hO2]; exact IntWalk.i64_in _ (by omega)
      have w6 : IntKind.i64.wrap (O2 * al) = P3 := by rw [← hP3]; exact IntWalk.i64_in _ (by omega)
      have w7 : IntKind.i64.wrap (most - O2) = S1 := by rw [← hS1]; exact IntWalk.i64_in _ (by omega)
      have w8 : IntKind.i64.wrap (S1 * wt) = P4 := by rw [← hP4]; exact IntWalk.i64_in _ (by omega)
      have w9 : IntKind.i64.wrap (P3 + P4) = S2 := by rw [← hS2]; exact IntWalk.i64_in _ (by omega)
      have w10 : IntKind.i64.wrap (P2 - S2) = S3 := by rw [← hS3]; exact IntWalk.i64_in _ (by omega)
      have dz : decide (P1 < S3) = false := decide_eq_false (by omega)
      have ww5 : IntKind.i64.wrap ((k : Int) + 1) = (k : Int) + 1 := IntWalk.i64_in _ (by have := HN.out; omega)
      have x0 : wr.cell? ⟨NB, 0, none⟩ = some (.slice (some ⟨g1, o1, none⟩) nm cm) := cell_at (HX.out.step hB) 0
      have x1 : wr.cell? ⟨NB, 1, none⟩ = some (.slice (some ⟨g2, o2, none⟩) nm ca) := cell_at (HX.out.step hB) 1
      have b1 : (N < nm) = True := eq_true (by have := HNN.out; omega)
      have b2 : (k < nm) = True := eq_true (by have := HNN.out; omega)
      have b3 : ((N : Int) < (nm : Int)) = True := eq_true (by have := HNN.out; omega)
      have b4 : ((k : Int) < (nm : Int)) = True := eq_true (by have := HNN.out; omega)
      have b5 : ((0 : Int) ≤ (k : Int)) = True := eq_true (by omega)
      have b6 : ((0 : Int) ≤ (N : Int)) = True := eq_true (by omega)
      have HLT := Lib.hid hlt
      have HK := Lib.hid hk
      clear hP1 hP2 hP3 hP4 hO2 hS1 hS2 hS3 hD1 hD2 p1b p2b p3b p4b hok hb1 hb2 hmo qm qk qa qb hMN hMK hAN hAK hBw e1' e2' hB hkN hlt hk HWW HAA HOO HMN
      go_wp2_with fail
      (refine wp_region_quiet_lit (by kernel_rfl) (by kernel_rfl) ?_; (repeat (first | go_big_quiet_step (fail) | (refine BigFrame.wpQuiet_skip (by rfl) ?_; try simp only [Act.put, List.setIfInBounds_toArray, List.set_cons_zero, List.set_cons_succ]))); refine wpQuiet_nil ?_; intro _ hw9; obtain ⟨nq, hw8⟩ := hw9; subst hw8)
      obtain ⟨W4, hW4⟩ : ∃ X, X = wr.drewN nq := ⟨_, rfl⟩
      rw [← hW4]
      have hB4 : Below wr.heap.size wr W4 := by rw [hW4]; exact dN _ _
      have HB4 := Lib.hid (HB.out.trans (hB4.mono HB.out.size))
      clear hW4 hB4 cMN cMK cAN cAK x0 x1
      go_wp2_with fail
      go_roundw
      case rel => exact ⟨k + 1, by have := HK.out; omega, by go_num, HB4.out, .inl (by have := HLT.out; omega)⟩
      case measure => (have h8 := HLT.out; first | (simp [intOf]; done) | (simp [intOf]; omega))
    · have d0 : decide ((k : Int) < (N : Int)) = false := decide_eq_false (by omega)
      have d0' : decide (k < N) = false := decide_eq_false hlt
      clear hB hlt hk hkN
      go_wp2_with fail
      try rw [Exit.noGoto_ret]
      go_ret
      exact ⟨rfl, HB1.out.trans (HB.out.mono HB1.out.size)⟩
end Go.Proofs.Ytnainlemnkfpkaa
