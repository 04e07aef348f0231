/-
  May a table be: the document.
-/
import Derived.Test.YthmjlomlceljkaaHi2
import Derived.Deep.DeepFit
import Derived.Lib.AppendZeros
import Derived.Deep.RegionLaw
import Derived.Deep.RegionWith
import Derived.Lib.EndianBits
namespace Go.Proofs.Ythmjlomlceljkaa
open Go.RowKit
set_option linter.unusedSimpArgs false
set_option linter.unusedVariables false

theorem quiet_left {P : Program} {f : FuncId} {args : Array Value} {w : World} {n : Nat} {v : Value}
    (h : Calls P f args (w.drewN n) fun e w' => e = .returned v ∧ w.drewN n = w') : Calls P f args (w.drewN n) fun e w'' => e = .returned v ∧ ∃ m, w'' = w.drewN m :=
  h.mono fun _ _ ⟨he, hm⟩ => ⟨he, n, hm.symm⟩
set_option maxRecDepth 100000 in
set_option maxHeartbeats 16000000 in
theorem rtable_any (v : Value) (L : List FcE) (w : World) (h : FcV w v L) : Calls Try.prog 48 #[v] w fun e w' => e = .returned (.bool (tblB 0 L)) ∧ Below w.heap.size w w' := by
  obtain ⟨a, n, cap, rfl, HN, m1, m2⟩ := h.sh
  have H1 := Lib.hid h
  clear h
  go_enter Try.func48, Try.ntmps48
  go_wp2_with fail
  go_loopw [3] (fun i wr => ∃ k : Nat, k ≤ n ∧ i = .int .i64 k ∧ tblB (pten L k) (L.drop k) = tblB 0 L ∧ (∀ j, k = j + 1 → 1 ≤ pten L k) ∧ Below w.heap.size w wr) (fun i _ => n - (intOf i).toNat)
  case atStart => exact ⟨0, Nat.zero_le _, rfl, rfl, (fun j h => by cases h), Below.refl _ _⟩
  case round =>
    obtain ⟨k, hk, rfl, hc, hp1, hB⟩ := hrel
    have HB := Lib.hid hB
    have HC := Lib.hid hc
    clear hB hc
    by_cases hlt : k < n
    · obtain ⟨g, o, x, ea, g1, hx, c0, c1, c2, c3⟩ := (H1.out.below HB.out).at k hlt
      have hxe : gFc L k = x := gFc_of hx
      have HST : Hid (tblB 0 L = (frcB (pten L k) x && tblB x.tenant (L.drop (k + 1)))) := Lib.hid (by rw [← HC.out, ← hxe]; exact tbl_step _ (by rw [← HN.out]; exact hlt))
      have HPS := Lib.hid (show pten L (k + 1) = x.tenant by rw [pten_succ, hxe])
      have HM := Lib.hid (fun W => rmay_any x.rate x.burst W)
      clear hx hxe HC
      have ww5 : IntKind.i64.wrap ((k : Int) + 1) = (k : Int) + 1 := IntWalk.i64_in _ (by omega)
      have b9 : ((k : Int) < (n : Int)) = True := eq_true (by omega)
      have bk1 : (k < n) = True := eq_true hlt
      have HHT := Lib.hid hlt
      obtain ⟨C2, hC2⟩ : ∃ C, C = mayR x.rate x.burst := ⟨_, rfl⟩
      rw [← hC2] at HM
      have HFR : Hid (∀ p, frcB p x = (decide (x.tick = 0) && decide (p < x.tenant) && (decide (1 ≤ x.tenant) && decide (x.tenant ≤ 16)) && C2)) := Lib.hid (fun p => by unfold frcB tenB; rw [hC2])
      clear hC2
      have HP1 := Lib.hid hp1
      clear hp1
      rcases Nat.eq_zero_or_pos k with rfl | hpos
      · skip
        have hp : pten L 0 = 0 := rfl
        rw [hp] at HST
        subst ea
        have d0 : decide ((0 : Int) < 0) = false := rfl
        have d0' : decide (0 < 0) = false := rfl
        simp only [Nat.zero_mul, Nat.add_zero] at c0 c1 c2 c3
        by_cases t0 : x.tick = 0
        rotate_left
        · have HCC : Hid (decide (x.tick = 0) = false) := Lib.hid (decide_eq_false t0)
          have q0 : (x.tick != 0) = true := by simp; omega
          go_wp2_with fail
          (refine wp_region_quiet_lit (by kernel_rfl) (by kernel_rfl) ?_; (repeat (first | go_big_quiet_step ((go_at_call 51; exact quiet_left (HM.out _))) | (refine BigFrame.wpQuiet_skip (by rfl) ?_; try simp only [Act.put, List.setIfInBounds_toArray, List.set_cons_zero, List.set_cons_succ]))); refine wpQuiet_nil ?_; intro _ hw9; obtain ⟨nq, hw8⟩ := hw9; subst hw8)
          go_wp2_with fail
          go_ret
          exact ⟨ret_bool (by rw [HST.out, HFR.out, HCC.out]; simp), HB.out.trans ((dN _ _).mono HB.out.size)⟩
        have HCC0 : Hid (decide (x.tick = 0) = true) := Lib.hid (decide_eq_true t0)
        by_cases t1 : 1 ≤ x.tenant
        rotate_left
        · have HCC : Hid (decide (1 ≤ x.tenant) = false) := Lib.hid (decide_eq_false t1)
          have q0 : (x.tick != 0) = false := by simp; omega
          have q1 : decide (x.tenant < 1) = true := decide_eq_true (by omega)
          go_wp2_with fail
          (refine wp_region_quiet_lit (by kernel_rfl) (by kernel_rfl) ?_; (repeat (first | go_big_quiet_step ((go_at_call 51; exact quiet_left (HM.out _))) | (refine BigFrame.wpQuiet_skip (by rfl) ?_; try simp only [Act.put, List.setIfInBounds_toArray, List.set_cons_zero, List.set_cons_succ]))); refine wpQuiet_nil ?_; intro _ hw9; obtain ⟨nq, hw8⟩ := hw9; subst hw8)
          go_wp2_with fail
          go_ret
          exact ⟨ret_bool (by rw [HST.out, HFR.out, HCC.out]; simp), HB.out.trans ((dN _ _).mono HB.out.size)⟩
        have HCC1 : Hid (decide (1 ≤ x.tenant) = true) := Lib.hid (decide_eq_true t1)
        by_cases t2 : x.tenant ≤ 16
        rotate_left
        · have HCC : Hid (decide (x.tenant ≤ 16) = false) := Lib.hid (decide_eq_false t2)
          have q0 : (x.tick != 0) = false := by simp; omega
          have q1 : decide (x.tenant < 1) = false := decide_eq_false (by omega)
          have q2 : decide (16 < x.tenant) = true := decide_eq_true (by omega)
          go_wp2_with fail
          (refine wp_region_quiet_lit (by kernel_rfl) (by kernel_rfl) ?_; (repeat (first | go_big_quiet_step ((go_at_call 51; exact quiet_left (HM.out _))) | (refine BigFrame.wpQuiet_skip (by rfl) ?_; try simp only [Act.put, List.setIfInBounds_toArray, List.set_cons_zero, List.set_cons_succ]))); refine wpQuiet_nil ?_; intro _ hw9; obtain ⟨nq, hw8⟩ := hw9; subst hw8)
          go_wp2_with fail
          go_ret
          exact ⟨ret_bool (by rw [HST.out, HFR.out, HCC.out]; simp), HB.out.trans ((dN _ _).mono HB.out.size)⟩
        have HCC2 : Hid (decide (x.tenant ≤ 16) = true) := Lib.hid (decide_eq_true t2)
        cases C2
        · have HCC : Hid (true = true) := Lib.hid rfl
          have q0 : (x.tick != 0) = false := by simp; omega
          have q1 : decide (x.tenant < 1) = false := decide_eq_false (by omega)
          have q2 : decide (16 < x.tenant) = false := decide_eq_false (by omega)
          go_wp2_with fail
          (refine wp_region_quiet_lit (by kernel_rfl) (by kernel_rfl) ?_; (repeat (first | go_big_quiet_step ((go_at_call 51; exact quiet_left (HM.out _))) | (refine BigFrame.wpQuiet_skip (by rfl) ?_; try simp only [Act.put, List.setIfInBounds_toArray, List.set_cons_zero, List.set_cons_succ]))); refine wpQuiet_nil ?_; intro _ hw9; obtain ⟨nq, hw8⟩ := hw9; subst hw8)
          go_wp2_with fail
          go_ret
          exact ⟨ret_bool (by rw [HST.out, HFR.out]; simp), HB.out.trans ((dN _ _).mono HB.out.size)⟩
        · skip
          have q0 : (x.tick != 0) = false := by simp; omega
          have q1 : decide (x.tenant < 1) = false := decide_eq_false (by omega)
          have q2 : decide (16 < x.tenant) = false := decide_eq_false (by omega)
          go_wp2_with fail
          (refine wp_region_quiet_lit (by kernel_rfl) (by kernel_rfl) ?_; (repeat (first | go_big_quiet_step ((go_at_call 51; exact quiet_left (HM.out _))) | (refine BigFrame.wpQuiet_skip (by rfl) ?_; try simp only [Act.put, List.setIfInBounds_toArray, List.set_cons_zero, List.set_cons_succ]))); refine wpQuiet_nil ?_; intro _ hw9; obtain ⟨nq, hw8⟩ := hw9; subst hw8)
          go_wp2_with fail
          go_roundw
          case rel => exact ⟨0 + 1, by omega, by go_num, by rw [HPS.out, HST.out, HFR.out, HCC0.out, HCC1.out, HCC2.out, show decide ((0 : Int) < x.tenant) = true from decide_eq_true (by omega)]; simp, (fun j _ => by rw [HPS.out]; omega), HB.out.trans ((dN _ _).mono HB.out.size)⟩
          case measure => first | (simp [intOf]; done) | (simp [intOf]; omega)
      · skip
        obtain ⟨j, rfl⟩ : ∃ j, k = j + 1 := ⟨k - 1, by omega⟩
        obtain ⟨g', o', z, ea', g1', hz, z0, z1, z2, z3⟩ := (H1.out.below HB.out).at j (by omega)
        subst ea
        obtain ⟨rfl, rfl⟩ : g' = g ∧ o' = o := by injection ea' with e; injection e with e1 e2; exact ⟨e1.symm, e2.symm⟩
        have hzy : pten L (j + 1) = z.tenant := by rw [pten_succ]; rw [gFc_of hz]
        obtain ⟨y, hy⟩ : ∃ y, y = z.tenant := ⟨_, rfl⟩
        rw [← hy] at z1 hzy
        rw [hzy] at HST
        have hy1 : 1 ≤ y := by have := HP1.out j rfl; rwa [hzy] at this
        have hkp : (((j + 1 : Nat) : Int)) = (j : Int) + 1 := by omega
        have ww6 : IntKind.i64.wrap (((j + 1 : Nat) : Int) - 1) = (j : Int) := (IntWalk.i64_in _ (by omega)).trans (by omega)
        have b8 : ((j : Int) < (n : Int)) = True := eq_true (by omega)
        have bj : (j < n) = True := eq_true (by omega)
        have d0 : decide ((0 : Int) < ((j + 1 : Nat) : Int)) = true := decide_eq_true (by omega)
        have d0' : decide (0 < j + 1) = true := decide_eq_true (by omega)
        clear ea' hz hzy hy z0 z2 z3 hkp
        by_cases t0 : x.tick = 0
        rotate_left
        · have HCC : Hid (decide (x.tick = 0) = false) := Lib.hid (decide_eq_false t0)
          have q0 : (x.tick != 0) = true := by simp; omega
          go_wp2_with fail
          (refine wp_region_quiet_lit (by kernel_rfl) (by kernel_rfl) ?_; (repeat (first | go_big_quiet_step ((go_at_call 51; exact quiet_left (HM.out _))) | (refine BigFrame.wpQuiet_skip (by rfl) ?_; try simp only [Act.put, List.setIfInBounds_toArray, List.set_cons_zero, List.set_cons_succ]))); refine wpQuiet_nil ?_; intro _ hw9; obtain ⟨nq, hw8⟩ := hw9; subst hw8)
          go_wp2_with fail
          go_ret
          exact ⟨ret_bool (by rw [HST.out, HFR.out, HCC.out]; simp), HB.out.trans ((dN _ _).mono HB.out.size)⟩
        have HCC0 : Hid (decide (x.tick = 0) = true) := Lib.hid (decide_eq_true t0)
        by_cases t1 : 1 ≤ x.tenant
        rotate_left
        · have HCC : Hid (decide (1 ≤ x.tenant) = false) := Lib.hid (decide_eq_false t1)
          have q0 : (x.tick != 0) = false := by simp; omega
          have q1 : decide (x.tenant < 1) = true := decide_eq_true (by omega)
          go_wp2_with fail
          (refine wp_region_quiet_lit (by kernel_rfl) (by kernel_rfl) ?_; (repeat (first | go_big_quiet_step ((go_at_call 51; exact quiet_left (HM.out _))) | (refine BigFrame.wpQuiet_skip (by rfl) ?_; try simp only [Act.put, List.setIfInBounds_toArray, List.set_cons_zero, List.set_cons_succ]))); refine wpQuiet_nil ?_; intro _ hw9; obtain ⟨nq, hw8⟩ := hw9; subst hw8)
          go_wp2_with fail
          go_ret
          exact ⟨ret_bool (by rw [HST.out, HFR.out, HCC.out]; simp), HB.out.trans ((dN _ _).mono HB.out.size)⟩
        have HCC1 : Hid (decide (1 ≤ x.tenant) = true) := Lib.hid (decide_eq_true t1)
        by_cases t2 : x.tenant ≤ 16
        rotate_left
        · have HCC : Hid (decide (x.tenant ≤ 16) = false) := Lib.hid (decide_eq_false t2)
          have q0 : (x.tick != 0) = false := by simp; omega
          have q1 : decide (x.tenant < 1) = false := decide_eq_false (by omega)
          have q2 : decide (16 < x.tenant) = true := decide_eq_true (by omega)
          go_wp2_with fail
          (refine wp_region_quiet_lit (by kernel_rfl) (by kernel_rfl) ?_; (repeat (first | go_big_quiet_step ((go_at_call 51; exact quiet_left (HM.out _))) | (refine BigFrame.wpQuiet_skip (by rfl) ?_; try simp only [Act.put, List.setIfInBounds_toArray, List.set_cons_zero, List.set_cons_succ]))); refine wpQuiet_nil ?_; intro _ hw9; obtain ⟨nq, hw8⟩ := hw9; subst hw8)
          go_wp2_with fail
          go_ret
          exact ⟨ret_bool (by rw [HST.out, HFR.out, HCC.out]; simp), HB.out.trans ((dN _ _).mono HB.out.size)⟩
        have HCC2 : Hid (decide (x.tenant ≤ 16) = true) := Lib.hid (decide_eq_true t2)
        cases C2
        · have HCC : Hid (true = true) := Lib.hid rfl
          have q0 : (x.tick != 0) = false := by simp; omega
          have q1 : decide (x.tenant < 1) = false := decide_eq_false (by omega)
          have q2 : decide (16 < x.tenant) = false := decide_eq_false (by omega)
          go_wp2_with fail
          (refine wp_region_quiet_lit (by kernel_rfl) (by kernel_rfl) ?_; (repeat (first | go_big_quiet_step ((go_at_call 51; exact quiet_left (HM.out _))) | (refine BigFrame.wpQuiet_skip (by rfl) ?_; try simp only [Act.put, List.setIfInBounds_toArray, List.set_cons_zero, List.set_cons_succ]))); refine wpQuiet_nil ?_; intro _ hw9; obtain ⟨nq, hw8⟩ := hw9; subst hw8)
          go_wp2_with fail
          go_ret
          exact ⟨ret_bool (by rw [HST.out, HFR.out]; simp), HB.out.trans ((dN _ _).mono HB.out.size)⟩
        by_cases t4 : y < x.tenant
        rotate_left
        · have HCC : Hid (decide (y < x.tenant) = false) := Lib.hid (decide_eq_false t4)
          have q0 : (x.tick != 0) = false := by simp; omega
          have q1 : decide (x.tenant < 1) = false := decide_eq_false (by omega)
          have q2 : decide (16 < x.tenant) = false := decide_eq_false (by omega)
          have q4 : decide (x.tenant ≤ y) = true := decide_eq_true (by omega)
          go_wp2_with fail
          (refine wp_region_quiet_lit (by kernel_rfl) (by kernel_rfl) ?_; (repeat (first | go_big_quiet_step ((go_at_call 51; exact quiet_left (HM.out _))) | (refine BigFrame.wpQuiet_skip (by rfl) ?_; try simp only [Act.put, List.setIfInBounds_toArray, List.set_cons_zero, List.set_cons_succ]))); refine wpQuiet_nil ?_; intro _ hw9; obtain ⟨nq, hw8⟩ := hw9; subst hw8)
          go_wp2_with fail
          go_ret
          exact ⟨ret_bool (by rw [HST.out, HFR.out, HCC.out]; simp), HB.out.trans ((dN _ _).mono HB.out.size)⟩
        · skip
          have q0 : (x.tick != 0) = false := by simp; omega
          have q1 : decide (x.tenant < 1) = false := decide_eq_false (by omega)
          have q2 : decide (16 < x.tenant) = false := decide_eq_false (by omega)
          have q4 : decide (x.tenant ≤ y) = false := decide_eq_false (by omega)
          go_wp2_with fail
          (refine wp_region_quiet_lit (by kernel_rfl) (by kernel_rfl) ?_; (repeat (first | go_big_quiet_step ((go_at_call 51; exact quiet_left (HM.out _))) | (refine BigFrame.wpQuiet_skip (by rfl) ?_; try simp only [Act.put, List.setIfInBounds_toArray, List.set_cons_zero, List.set_cons_succ]))); refine wpQuiet_nil ?_; intro _ hw9; obtain ⟨nq, hw8⟩ := hw9; subst hw8)
          go_wp2_with fail
          go_roundw
          case rel => exact ⟨j + 1 + 1, by omega, by go_num, by rw [HPS.out, HST.out, HFR.out, HCC0.out, HCC1.out, HCC2.out, decide_eq_true t4]; simp, (fun j _ => by rw [HPS.out]; omega), HB.out.trans ((dN _ _).mono HB.out.size)⟩
          case measure => first | (simp [intOf]; done) | (simp [intOf]; omega)
    · obtain rfl : k = n := by omega
      have hE : tblB 0 L = true := by rw [← HC.out, HN.out]; exact tbl_end _ _
      go_wp2_with fail
      go_ret
      exact ⟨ret_bool hE.symm, HB.out⟩
end Go.Proofs.Ythmjlomlceljkaa
