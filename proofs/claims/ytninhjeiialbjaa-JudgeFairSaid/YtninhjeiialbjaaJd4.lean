/-
  weirref30.Check: the document's own answer of whether a record may be.
-/
import Derived.IntWalk
import Derived.Test.YtninhjeiialbjaaJd2
namespace Go.Proofs.Ytninhjeiialbjaa
open Go.RowKit
set_option linter.unusedSimpArgs false
set_option linter.unusedVariables false

theorem rsentOk_no {l : Int} {x : SentE} (h : sentOk l x = false) (hl : 1 ≤ l) : x.t < 1 ∨ (1 ≤ x.t ∧ 1099511627776 < x.t) ∨ (1 ≤ x.t ∧ x.t ≤ 1099511627776 ∧ x.t < l) ∨ (1 ≤ x.t ∧ l ≤ x.t ∧ x.t ≤ 1099511627776 ∧ x.sz < 1) ∨ (1 ≤ x.t ∧ l ≤ x.t ∧ x.t ≤ 1099511627776 ∧ 1 ≤ x.sz ∧ 1500 < x.sz) ∨
    (1 ≤ x.t ∧ l ≤ x.t ∧ x.t ≤ 1099511627776 ∧ 1 ≤ x.sz ∧ x.sz ≤ 1500 ∧ x.ten < 1) ∨ (1 ≤ x.t ∧ l ≤ x.t ∧ x.t ≤ 1099511627776 ∧ 1 ≤ x.sz ∧ x.sz ≤ 1500 ∧ 1 ≤ x.ten ∧ 16 < x.ten) := by
  rcases sentOk_no h with d | d | d | d | ⟨d1, d2, d3, d4, d5⟩
  · omega
  · omega
  · omega
  · omega
  · have : ¬ (1 ≤ x.ten ∧ x.ten ≤ 16) := by simpa [isT] using d5
    omega

theorem rforceOk_no {l : Int} {x : ForceE} (h : forceOk l x = false) (hl : 0 ≤ l) : x.t < 0 ∨ (0 ≤ x.t ∧ 1099511627776 < x.t) ∨ (0 ≤ x.t ∧ x.t ≤ 1099511627776 ∧ x.t < l) ∨ (0 ≤ x.t ∧ l ≤ x.t ∧ x.t ≤ 1099511627776 ∧ x.ten < 1) ∨ (0 ≤ x.t ∧ l ≤ x.t ∧ x.t ≤ 1099511627776 ∧ 1 ≤ x.ten ∧ 16 < x.ten) ∨ (0 ≤ x.t ∧ l ≤ x.t ∧ x.t ≤ 1099511627776 ∧ 1 ≤ x.ten ∧ x.ten ≤ 16 ∧ mayB x.r x.b = false) := by
  rcases forceOk_no h with d | d | ⟨d1, d2, d3⟩ | ⟨d1, d2, d3, d4⟩
  · omega
  · omega
  · have : ¬ (1 ≤ x.ten ∧ x.ten ≤ 16) := by simpa [isT] using d3
    omega
  · have : (1 ≤ x.ten ∧ x.ten ≤ 16) := by simpa [isT] using d3
    exact .inr (.inr (.inr (.inr (.inr ⟨by omega, d1, d2, this.1, this.2, d4⟩))))
theorem rforceOk_0 {x : ForceE} (h : forceOk 0 x = false) : x.t < 0 ∨ (0 ≤ x.t ∧ 1099511627776 < x.t) ∨ (0 ≤ x.t ∧ x.t ≤ 1099511627776 ∧ x.ten < 1) ∨ (0 ≤ x.t ∧ x.t ≤ 1099511627776 ∧ 1 ≤ x.ten ∧ 16 < x.ten) ∨ (0 ≤ x.t ∧ x.t ≤ 1099511627776 ∧ 1 ≤ x.ten ∧ x.ten ≤ 16 ∧ mayB x.r x.b = false) := by
  rcases rforceOk_no h (by omega) with d | d | d | ⟨d1, d2, d3, d4⟩ | ⟨d1, d2, d3, d4, d5⟩ | ⟨d1, d2, d3, d4, d5, d6⟩
  · exact .inl d
  · exact .inr (.inl d)
  · omega
  · exact .inr (.inr (.inl ⟨d1, d3, d4⟩))
  · exact .inr (.inr (.inr (.inl ⟨d1, d3, d4, d5⟩)))
  · exact .inr (.inr (.inr (.inr ⟨d1, d3, d4, d5, d6⟩)))
theorem quiet_left {P : Program} {f : FuncId} {args : Array Value} {w : World} {n : Nat} {v : Value}
    (h : Calls P f args (w.drewN n) fun e w' => e = .returned v ∧ w.drewN n = w') : Calls P f args (w.drewN n) fun e w'' => e = .returned v ∧ ∃ m, w'' = w.drewN m :=
  h.mono fun _ _ ⟨he, hm⟩ => ⟨he, n, hm.symm⟩
theorem rsentOk_0 {x : SentE} (h : sentOk 1 x = false) : x.t < 1 ∨ (1 ≤ x.t ∧ 1099511627776 < x.t) ∨ (1 ≤ x.t ∧ x.t ≤ 1099511627776 ∧ x.sz < 1) ∨ (1 ≤ x.t ∧ x.t ≤ 1099511627776 ∧ 1 ≤ x.sz ∧ 1500 < x.sz) ∨
    (1 ≤ x.t ∧ x.t ≤ 1099511627776 ∧ 1 ≤ x.sz ∧ x.sz ≤ 1500 ∧ x.ten < 1) ∨ (1 ≤ x.t ∧ x.t ≤ 1099511627776 ∧ 1 ≤ x.sz ∧ x.sz ≤ 1500 ∧ 1 ≤ x.ten ∧ 16 < x.ten) := by
  have := rsentOk_no h (by omega)
  omega
theorem isT_yes {n : Int} (h : isT n = true) : 1 ≤ n ∧ n ≤ 16 := by simpa [isT] using h
theorem isT_no {n : Int} (h : isT n = false) : n < 1 ∨ 16 < n := by
  have : ¬ (1 ≤ n ∧ n ≤ 16) := by simpa [isT] using h
  omega

set_option maxRecDepth 100000 in
set_option maxHeartbeats 16000000 in
theorem rcheck_any (a : Option Addr) (n c b o : Nat) (L : Nat → SentE) (a' : Option Addr) (m c' b' o' : Nat) (F : Nat → ForceE) (w : World) (h1 : SentIn w a n c b o L) (h2 : ForceIn w a' m c' b' o' F) :
    Calls Try.prog 86 #[.slice a n c, .slice a' m c'] w fun e w' => e = .returned (.bool (chkS L n && chkF F m)) ∧ Below w.heap.size w w' := by
  have hm1 := h1.max
  have hl1 := h1.le
  have hm2 := h2.max
  have hl2 := h2.le
  unfold maxLen at hm1 hm2
  have HS := Lib.hid h1
  have HF := Lib.hid h2
  obtain ⟨Q, hQ⟩ : ∃ Q, Q = (chkS L n && chkF F m) := ⟨_, rfl⟩
  have HQ := Lib.hid hQ
  rw [← hQ]
  clear h1 h2 hQ
  go_enter Try.func86, Try.ntmps86
  go_wp2_with fail
  go_loopw [5] (fun i wr => ∃ k : Nat, k ≤ n ∧ i = .int .i64 k ∧ chkS L k = true ∧ 1 ≤ lastS L k ∧ Below w.heap.size w wr) (fun i _ => n - (intOf i).toNat)
  case atStart => exact ⟨0, Nat.zero_le _, rfl, rfl, by simp [lastS], Below.refl _ _⟩
  case round =>
    obtain ⟨k, hk, rfl, hch, hl, hB⟩ := hrel
    have HB := Lib.hid hB
    have HCH := Lib.hid hch
    clear hB hch
    by_cases hlt : k < n
    · obtain ⟨e0, e1⟩ := HS.out.at_ (by omega)
      subst e0
      obtain ⟨c0, c1, c2, c3, c4, c5⟩ := (HS.out.below HB.out).cell k hlt
      have HBA : Hid (∀ o nq, Below w.heap.size w ((wr.alloc o).drewN nq)) := Lib.hid (fun o nq => below_drewN (HB.out.alloc HB.out.size o) nq)
      cases hok : sentOk (lastS L k) (L k)
      · have HQ2 : Hid (Q = false) := Lib.hid (by rw [HQ.out, chkS_false hok n hlt, Bool.false_and])
        by_cases hk0 : k = 0
        · have hl9 : lastS L k = 1 := by rw [hk0]; rfl
          rw [hl9] at hok
          have hc := rsentOk_0 hok
          have b0 : decide (0 < k) = false := by simp; omega
          clear hl9 hk0 hok hl
          rcases hc with d1 | ⟨d1, d2⟩ | ⟨d1, d2, d3⟩ | ⟨d1, d2, d3, d4⟩ | ⟨d1, d2, d3, d4, d5⟩ | ⟨d1, d2, d3, d4, d5, d6⟩
          · have g1 : decide ((L k).t < 1) = true := decide_eq_true (by omega)
            go_wp2_with fail
            (refine wp_region_quiet_lit (by kernel_rfl) (by kernel_rfl) ?_; (repeat (first | go_big_quiet_step (fail) | (refine BigFrame.wpQuiet_skip (by rfl) ?_; try simp only [Act.put, List.setIfInBounds_toArray, List.set_cons_zero, List.set_cons_succ]))); refine wpQuiet_nil ?_; intro _ hw9; obtain ⟨nq, hw8⟩ := hw9; subst hw8)
            go_wp2_with fail
            go_ret
            exact ⟨by rw [HQ2.out]; rfl, HBA.out _ _⟩
          · have g1 : decide ((L k).t < 1) = false := decide_eq_false (by omega)
            have g2 : decide (1099511627776 < (L k).t) = true := decide_eq_true (by omega)
            go_wp2_with fail
            (refine wp_region_quiet_lit (by kernel_rfl) (by kernel_rfl) ?_; (repeat (first | go_big_quiet_step (fail) | (refine BigFrame.wpQuiet_skip (by rfl) ?_; try simp only [Act.put, List.setIfInBounds_toArray, List.set_cons_zero, List.set_cons_succ]))); refine wpQuiet_nil ?_; intro _ hw9; obtain ⟨nq, hw8⟩ := hw9; subst hw8)
            go_wp2_with fail
            go_ret
            exact ⟨by rw [HQ2.out]; rfl, HBA.out _ _⟩
          · have g1 : decide ((L k).t < 1) = false := decide_eq_false (by omega)
            have g2 : decide (1099511627776 < (L k).t) = false := decide_eq_false (by omega)
            have g4 : decide ((L k).sz < 1) = true := decide_eq_true (by omega)
            go_wp2_with fail
            (refine wp_region_quiet_lit (by kernel_rfl) (by kernel_rfl) ?_; (repeat (first | go_big_quiet_step (fail) | (refine BigFrame.wpQuiet_skip (by rfl) ?_; try simp only [Act.put, List.setIfInBounds_toArray, List.set_cons_zero, List.set_cons_succ]))); refine wpQuiet_nil ?_; intro _ hw9; obtain ⟨nq, hw8⟩ := hw9; subst hw8)
            go_wp2_with fail
            go_ret
            exact ⟨by rw [HQ2.out]; rfl, HBA.out _ _⟩
          · have g1 : decide ((L k).t < 1) = false := decide_eq_false (by omega)
            have g2 : decide (1099511627776 < (L k).t) = false := decide_eq_false (by omega)
            have g4 : decide ((L k).sz < 1) = false := decide_eq_false (by omega)
            have g5 : decide (1500 < (L k).sz) = true := decide_eq_true (by omega)
            go_wp2_with fail
            (refine wp_region_quiet_lit (by kernel_rfl) (by kernel_rfl) ?_; (repeat (first | go_big_quiet_step (fail) | (refine BigFrame.wpQuiet_skip (by rfl) ?_; try simp only [Act.put, List.setIfInBounds_toArray, List.set_cons_zero, List.set_cons_succ]))); refine wpQuiet_nil ?_; intro _ hw9; obtain ⟨nq, hw8⟩ := hw9; subst hw8)
            go_wp2_with fail
            go_ret
            exact ⟨by rw [HQ2.out]; rfl, HBA.out _ _⟩
          · have g1 : decide ((L k).t < 1) = false := decide_eq_false (by omega)
            have g2 : decide (1099511627776 < (L k).t) = false := decide_eq_false (by omega)
            have g4 : decide ((L k).sz < 1) = false := decide_eq_false (by omega)
            have g5 : decide (1500 < (L k).sz) = false := decide_eq_false (by omega)
            have g6 : decide ((L k).ten < 1) = true := decide_eq_true (by omega)
            go_wp2_with fail
            (refine wp_region_quiet_lit (by kernel_rfl) (by kernel_rfl) ?_; (repeat (first | go_big_quiet_step (fail) | (refine BigFrame.wpQuiet_skip (by rfl) ?_; try simp only [Act.put, List.setIfInBounds_toArray, List.set_cons_zero, List.set_cons_succ]))); refine wpQuiet_nil ?_; intro _ hw9; obtain ⟨nq, hw8⟩ := hw9; subst hw8)
            go_wp2_with fail
            go_ret
            exact ⟨by rw [HQ2.out]; rfl, HBA.out _ _⟩
          · have g1 : decide ((L k).t < 1) = false := decide_eq_false (by omega)
            have g2 : decide (1099511627776 < (L k).t) = false := decide_eq_false (by omega)
            have g4 : decide ((L k).sz < 1) = false := decide_eq_false (by omega)
            have g5 : decide (1500 < (L k).sz) = false := decide_eq_false (by omega)
            have g6 : decide ((L k).ten < 1) = false := decide_eq_false (by omega)
            have g7 : decide (16 < (L k).ten) = true := decide_eq_true (by omega)
            go_wp2_with fail
            (refine wp_region_quiet_lit (by kernel_rfl) (by kernel_rfl) ?_; (repeat (first | go_big_quiet_step (fail) | (refine BigFrame.wpQuiet_skip (by rfl) ?_; try simp only [Act.put, List.setIfInBounds_toArray, List.set_cons_zero, List.set_cons_succ]))); refine wpQuiet_nil ?_; intro _ hw9; obtain ⟨nq, hw8⟩ := hw9; subst hw8)
            go_wp2_with fail
            go_ret
            exact ⟨by rw [HQ2.out]; rfl, HBA.out _ _⟩
        · obtain ⟨j, hj⟩ : ∃ j, k = j + 1 := ⟨k - 1, by omega⟩
          have hl9 : lastS L k = (L j).t := by rw [hj]; exact lastS_succ L j
          rw [hl9] at hok hl
          have hc := rsentOk_no hok hl
          have b0 : decide (0 < k) = true := by simp; omega
          have b1 : (k : Int) - 1 = (j : Int) := by omega
          have b2 : IntKind.i64.wrap (j : Int) = (j : Int) := IntWalk.i64_in _ (by omega)
          have b3 : j < n := by omega
          have b5 : b < wr.heap.size := Nat.lt_of_lt_of_le e1 HB.out.size
          obtain ⟨p0, _⟩ := (HS.out.below HB.out).cell j (by omega)
          clear hl9 hk0 hok hj
          rcases hc with d1 | ⟨d1, d2⟩ | ⟨d1, d2, d3⟩ | ⟨d1, d2, d3, d4⟩ | ⟨d1, d2, d3, d4, d5⟩ | ⟨d1, d2, d3, d4, d5, d6⟩ | ⟨d1, d2, d3, d4, d5, d6, d7⟩
          · have g1 : decide ((L k).t < 1) = true := decide_eq_true (by omega)
            go_wp2_with fail
            (refine wp_region_quiet_lit (by kernel_rfl) (by kernel_rfl) ?_; (repeat (first | go_big_quiet_step (fail) | (refine BigFrame.wpQuiet_skip (by rfl) ?_; try simp only [Act.put, List.setIfInBounds_toArray, List.set_cons_zero, List.set_cons_succ]))); refine wpQuiet_nil ?_; intro _ hw9; obtain ⟨nq, hw8⟩ := hw9; subst hw8)
            go_wp2_with fail
            go_ret
            exact ⟨by rw [HQ2.out]; rfl, HBA.out _ _⟩
          · have g1 : decide ((L k).t < 1) = false := decide_eq_false (by omega)
            have g2 : decide (1099511627776 < (L k).t) = true := decide_eq_true (by omega)
            go_wp2_with fail
            (refine wp_region_quiet_lit (by kernel_rfl) (by kernel_rfl) ?_; (repeat (first | go_big_quiet_step (fail) | (refine BigFrame.wpQuiet_skip (by rfl) ?_; try simp only [Act.put, List.setIfInBounds_toArray, List.set_cons_zero, List.set_cons_succ]))); refine wpQuiet_nil ?_; intro _ hw9; obtain ⟨nq, hw8⟩ := hw9; subst hw8)
            go_wp2_with fail
            go_ret
            exact ⟨by rw [HQ2.out]; rfl, HBA.out _ _⟩
          · have g1 : decide ((L k).t < 1) = false := decide_eq_false (by omega)
            have g2 : decide (1099511627776 < (L k).t) = false := decide_eq_false (by omega)
            have g3 : decide ((L k).t < (L j).t) = true := decide_eq_true (by omega)
            go_wp2_with fail
            (refine wp_region_quiet_lit (by kernel_rfl) (by kernel_rfl) ?_; (repeat (first | go_big_quiet_step (fail) | (refine BigFrame.wpQuiet_skip (by rfl) ?_; try simp only [Act.put, List.setIfInBounds_toArray, List.set_cons_zero, List.set_cons_succ]))); refine wpQuiet_nil ?_; intro _ hw9; obtain ⟨nq, hw8⟩ := hw9; subst hw8)
            go_wp2_with fail
            go_ret
            exact ⟨by rw [HQ2.out]; rfl, HBA.out _ _⟩
          · have g1 : decide ((L k).t < 1) = false := decide_eq_false (by omega)
            have g2 : decide (1099511627776 < (L k).t) = false := decide_eq_false (by omega)
            have g3 : decide ((L k).t < (L j).t) = false := decide_eq_false (by omega)
            have g4 : decide ((L k).sz < 1) = true := decide_eq_true (by omega)
            go_wp2_with fail
            (refine wp_region_quiet_lit (by kernel_rfl) (by kernel_rfl) ?_; (repeat (first | go_big_quiet_step (fail) | (refine BigFrame.wpQuiet_skip (by rfl) ?_; try simp only [Act.put, List.setIfInBounds_toArray, List.set_cons_zero, List.set_cons_succ]))); refine wpQuiet_nil ?_; intro _ hw9; obtain ⟨nq, hw8⟩ := hw9; subst hw8)
            go_wp2_with fail
            go_ret
            exact ⟨by rw [HQ2.out]; rfl, HBA.out _ _⟩
          · have g1 : decide ((L k).t < 1) = false := decide_eq_false (by omega)
            have g2 : decide (1099511627776 < (L k).t) = false := decide_eq_false (by omega)
            have g3 : decide ((L k).t < (L j).t) = false := decide_eq_false (by omega)
            have g4 : decide ((L k).sz < 1) = false := decide_eq_false (by omega)
            have g5 : decide (1500 < (L k).sz) = true := decide_eq_true (by omega)
            go_wp2_with fail
            (refine wp_region_quiet_lit (by kernel_rfl) (by kernel_rfl) ?_; (repeat (first | go_big_quiet_step (fail) | (refine BigFrame.wpQuiet_skip (by rfl) ?_; try simp only [Act.put, List.setIfInBounds_toArray, List.set_cons_zero, List.set_cons_succ]))); refine wpQuiet_nil ?_; intro _ hw9; obtain ⟨nq, hw8⟩ := hw9; subst hw8)
            go_wp2_with fail
            go_ret
            exact ⟨by rw [HQ2.out]; rfl, HBA.out _ _⟩
          · have g1 : decide ((L k).t < 1) = false := decide_eq_false (by omega)
            have g2 : decide (1099511627776 < (L k).t) = false := decide_eq_false (by omega)
            have g3 : decide ((L k).t < (L j).t) = false := decide_eq_false (by omega)
            have g4 : decide ((L k).sz < 1) = false := decide_eq_false (by omega)
            have g5 : decide (1500 < (L k).sz) = false := decide_eq_false (by omega)
            have g6 : decide ((L k).ten < 1) = true := decide_eq_true (by omega)
            go_wp2_with fail
            (refine wp_region_quiet_lit (by kernel_rfl) (by kernel_rfl) ?_; (repeat (first | go_big_quiet_step (fail) | (refine BigFrame.wpQuiet_skip (by rfl) ?_; try simp only [Act.put, List.setIfInBounds_toArray, List.set_cons_zero, List.set_cons_succ]))); refine wpQuiet_nil ?_; intro _ hw9; obtain ⟨nq, hw8⟩ := hw9; subst hw8)
            go_wp2_with fail
            go_ret
            exact ⟨by rw [HQ2.out]; rfl, HBA.out _ _⟩
          · have g1 : decide ((L k).t < 1) = false := decide_eq_false (by omega)
            have g2 : decide (1099511627776 < (L k).t) = false := decide_eq_false (by omega)
            have g3 : decide ((L k).t < (L j).t) = false := decide_eq_false (by omega)
            have g4 : decide ((L k).sz < 1) = false := decide_eq_false (by omega)
            have g5 : decide (1500 < (L k).sz) = false := decide_eq_false (by omega)
            have g6 : decide ((L k).ten < 1) = false := decide_eq_false (by omega)
            have g7 : decide (16 < (L k).ten) = true := decide_eq_true (by omega)
            go_wp2_with fail
            (refine wp_region_quiet_lit (by kernel_rfl) (by kernel_rfl) ?_; (repeat (first | go_big_quiet_step (fail) | (refine BigFrame.wpQuiet_skip (by rfl) ?_; try simp only [Act.put, List.setIfInBounds_toArray, List.set_cons_zero, List.set_cons_succ]))); refine wpQuiet_nil ?_; intro _ hw9; obtain ⟨nq, hw8⟩ := hw9; subst hw8)
            go_wp2_with fail
            go_ret
            exact ⟨by rw [HQ2.out]; rfl, HBA.out _ _⟩
      · obtain ⟨d1, d2, d3, d4, d5⟩ := sentOk_yes hok
        obtain ⟨d6, d7⟩ := isT_yes d5
        have HCH2 : Hid (chkS L (k + 1) = true) := Lib.hid (by unfold chkS; rw [HCH.out, hok]; rfl)
        have HL2 : Hid (1 ≤ lastS L (k + 1)) := Lib.hid (by rw [lastS_succ]; omega)
        by_cases hk0 : k = 0
        · have hl9 : lastS L k = 1 := by rw [hk0]; rfl
          rw [hl9] at d1
          have b0 : decide (0 < k) = false := by simp; omega
          clear hl9 hk0 hok hl d5
          have g1 : decide ((L k).t < 1) = false := decide_eq_false (by omega)
          have g2 : decide (1099511627776 < (L k).t) = false := decide_eq_false (by omega)
          have g4 : decide ((L k).sz < 1) = false := decide_eq_false (by omega)
          have g5 : decide (1500 < (L k).sz) = false := decide_eq_false (by omega)
          have g6 : decide ((L k).ten < 1) = false := decide_eq_false (by omega)
          have g7 : decide (16 < (L k).ten) = false := decide_eq_false (by omega)
          go_wp2_with fail
          (refine wp_region_quiet_lit (by kernel_rfl) (by kernel_rfl) ?_; (repeat (first | go_big_quiet_step (fail) | (refine BigFrame.wpQuiet_skip (by rfl) ?_; try simp only [Act.put, List.setIfInBounds_toArray, List.set_cons_zero, List.set_cons_succ]))); refine wpQuiet_nil ?_; intro _ hw9; obtain ⟨nq, hw8⟩ := hw9; subst hw8)
          go_wp2_with fail
          go_roundw
          case rel => exact ⟨k + 1, by omega, by go_num, HCH2.out, HL2.out, HBA.out _ _⟩
          case measure => first | (simp [intOf]; done) | (simp [intOf]; omega)
        · obtain ⟨j, hj⟩ : ∃ j, k = j + 1 := ⟨k - 1, by omega⟩
          have hl9 : lastS L k = (L j).t := by rw [hj]; exact lastS_succ L j
          rw [hl9] at d1 hl
          have b0 : decide (0 < k) = true := by simp; omega
          have b1 : (k : Int) - 1 = (j : Int) := by omega
          have b2 : IntKind.i64.wrap (j : Int) = (j : Int) := IntWalk.i64_in _ (by omega)
          have b3 : j < n := by omega
          have b5 : b < wr.heap.size := Nat.lt_of_lt_of_le e1 HB.out.size
          obtain ⟨p0, _⟩ := (HS.out.below HB.out).cell j (by omega)
          clear hl9 hk0 hok hj d5
          have g1 : decide ((L k).t < 1) = false := decide_eq_false (by omega)
          have g2 : decide (1099511627776 < (L k).t) = false := decide_eq_false (by omega)
          have g3 : decide ((L k).t < (L j).t) = false := decide_eq_false (by omega)
          have g4 : decide ((L k).sz < 1) = false := decide_eq_false (by omega)
          have g5 : decide (1500 < (L k).sz) = false := decide_eq_false (by omega)
          have g6 : decide ((L k).ten < 1) = false := decide_eq_false (by omega)
          have g7 : decide (16 < (L k).ten) = false := decide_eq_false (by omega)
          go_wp2_with fail
          (refine wp_region_quiet_lit (by kernel_rfl) (by kernel_rfl) ?_; (repeat (first | go_big_quiet_step (fail) | (refine BigFrame.wpQuiet_skip (by rfl) ?_; try simp only [Act.put, List.setIfInBounds_toArray, List.set_cons_zero, List.set_cons_succ]))); refine wpQuiet_nil ?_; intro _ hw9; obtain ⟨nq, hw8⟩ := hw9; subst hw8)
          go_wp2_with fail
          go_roundw
          case rel => exact ⟨k + 1, by omega, by go_num, HCH2.out, HL2.out, HBA.out _ _⟩
          case measure => first | (simp [intOf]; done) | (simp [intOf]; omega)
    · obtain rfl : k = n := by omega
      have HQ3 : Hid (Q = chkF F m) := Lib.hid (by rw [HQ.out, HCH.out, Bool.true_and])
      clear hl
      go_wp2_with fail
      go_loopw [7] (fun i wr => ∃ k : Nat, k ≤ m ∧ i = .int .i64 k ∧ chkF F k = true ∧ 0 ≤ lastF F k ∧ Below w.heap.size w wr) (fun i _ => m - (intOf i).toNat)
      case atStart => exact ⟨0, Nat.zero_le _, rfl, rfl, by simp [lastF], HB.out⟩
      case round =>
        clear HB HCH
        obtain ⟨k, hk, rfl, hch, hl, hB⟩ := hrel
        have HB := Lib.hid hB
        have HCH := Lib.hid hch
        clear hB hch
        by_cases hlt : k < m
        · obtain ⟨e0, e1⟩ := HF.out.at_ (by omega)
          subst e0
          obtain ⟨c0, c1, c2, c3⟩ := (HF.out.below HB.out).cell k hlt
          have HBA : Hid (∀ o nq, Below w.heap.size w ((wr.alloc o).drewN nq)) := Lib.hid (fun o nq => below_drewN (HB.out.alloc HB.out.size o) nq)
          have HM : Hid (∀ W, Calls Try.prog 109 #[.int .i64 (F k).r, .int .i64 (F k).b] W fun e w' => e = .returned (.bool (mayB (F k).r (F k).b)) ∧ W = w') := Lib.hid (fun W => rmay_any _ _ W)
          cases hok : forceOk (lastF F k) (F k)
          · have HQ2 : Hid (Q = false) := Lib.hid (by rw [HQ3.out, chkF_false hok m hlt])
            by_cases hk0 : k = 0
            · have hl9 : lastF F k = 0 := by rw [hk0]; rfl
              rw [hl9] at hok
              have hc := rforceOk_0 hok
              have b0 : decide (0 < k) = false := by simp; omega
              clear hl9 hk0 hok hl
              rcases hc with d1 | ⟨d1, d2⟩ | ⟨d1, d2, d3⟩ | ⟨d1, d2, d3, d4⟩ | ⟨d1, d2, d3, d4, d5⟩
              · have g1 : decide ((F k).t < 0) = true := decide_eq_true (by omega)
                go_wp2_with fail
                (refine wp_region_quiet_lit (by kernel_rfl) (by kernel_rfl) ?_; (repeat (first | go_big_quiet_step (fail) | (refine BigFrame.wpQuiet_skip (by rfl) ?_; try simp only [Act.put, List.setIfInBounds_toArray, List.set_cons_zero, List.set_cons_succ]))); refine wpQuiet_nil ?_; intro _ hw9; obtain ⟨nq, hw8⟩ := hw9; subst hw8)
                go_wp2_with fail
                go_ret
                exact ⟨by rw [HQ2.out]; rfl, HBA.out _ _⟩
              · have g1 : decide ((F k).t < 0) = false := decide_eq_false (by omega)
                have g2 : decide (1099511627776 < (F k).t) = true := decide_eq_true (by omega)
                go_wp2_with fail
                (refine wp_region_quiet_lit (by kernel_rfl) (by kernel_rfl) ?_; (repeat (first | go_big_quiet_step (fail) | (refine BigFrame.wpQuiet_skip (by rfl) ?_; try simp only [Act.put, List.setIfInBounds_toArray, List.set_cons_zero, List.set_cons_succ]))); refine wpQuiet_nil ?_; intro _ hw9; obtain ⟨nq, hw8⟩ := hw9; subst hw8)
                go_wp2_with fail
                go_ret
                exact ⟨by rw [HQ2.out]; rfl, HBA.out _ _⟩
              · have g1 : decide ((F k).t < 0) = false := decide_eq_false (by omega)
                have g2 : decide (1099511627776 < (F k).t) = false := decide_eq_false (by omega)
                have g6 : decide ((F k).ten < 1) = true := decide_eq_true (by omega)
                go_wp2_with fail
                (refine wp_region_quiet_lit (by kernel_rfl) (by kernel_rfl) ?_; (repeat (first | go_big_quiet_step (fail) | (refine BigFrame.wpQuiet_skip (by rfl) ?_; try simp only [Act.put, List.setIfInBounds_toArray, List.set_cons_zero, List.set_cons_succ]))); refine wpQuiet_nil ?_; intro _ hw9; obtain ⟨nq, hw8⟩ := hw9; subst hw8)
                go_wp2_with fail
                go_ret
                exact ⟨by rw [HQ2.out]; rfl, HBA.out _ _⟩
              · have g1 : decide ((F k).t < 0) = false := decide_eq_false (by omega)
                have g2 : decide (1099511627776 < (F k).t) = false := decide_eq_false (by omega)
                have g6 : decide ((F k).ten < 1) = false := decide_eq_false (by omega)
                have g7 : decide (16 < (F k).ten) = true := decide_eq_true (by omega)
                go_wp2_with fail
                (refine wp_region_quiet_lit (by kernel_rfl) (by kernel_rfl) ?_; (repeat (first | go_big_quiet_step (fail) | (refine BigFrame.wpQuiet_skip (by rfl) ?_; try simp only [Act.put, List.setIfInBounds_toArray, List.set_cons_zero, List.set_cons_succ]))); refine wpQuiet_nil ?_; intro _ hw9; obtain ⟨nq, hw8⟩ := hw9; subst hw8)
                go_wp2_with fail
                go_ret
                exact ⟨by rw [HQ2.out]; rfl, HBA.out _ _⟩
              · rw [d5] at HM
                have g1 : decide ((F k).t < 0) = false := decide_eq_false (by omega)
                have g2 : decide (1099511627776 < (F k).t) = false := decide_eq_false (by omega)
                have g6 : decide ((F k).ten < 1) = false := decide_eq_false (by omega)
                have g7 : decide (16 < (F k).ten) = false := decide_eq_false (by omega)
                clear d5
                go_wp2_with fail
                (refine wp_region_quiet_lit (by kernel_rfl) (by kernel_rfl) ?_; (repeat (first | go_big_quiet_step ((go_at_call 109; exact quiet_left (HM.out _))) | (refine BigFrame.wpQuiet_skip (by rfl) ?_; try simp only [Act.put, List.setIfInBounds_toArray, List.set_cons_zero, List.set_cons_succ]))); refine wpQuiet_nil ?_; intro _ hw9; obtain ⟨nq, hw8⟩ := hw9; subst hw8)
                go_wp2_with fail
                go_ret
                exact ⟨by rw [HQ2.out]; rfl, HBA.out _ _⟩
            · obtain ⟨j, hj⟩ : ∃ j, k = j + 1 := ⟨k - 1, by omega⟩
              have hl9 : lastF F k = (F j).t := by rw [hj]; exact lastF_succ F j
              rw [hl9] at hok hl
              have hc := rforceOk_no hok hl
              have b0 : decide (0 < k) = true := by simp; omega
              have b1 : (k : Int) - 1 = (j : Int) := by omega
              have b2 : IntKind.i64.wrap (j : Int) = (j : Int) := IntWalk.i64_in _ (by omega)
              have b3 : j < m := by omega
              have b5 : b' < wr.heap.size := Nat.lt_of_lt_of_le e1 HB.out.size
              obtain ⟨p0, _⟩ := (HF.out.below HB.out).cell j (by omega)
              clear hl9 hk0 hok hj
              rcases hc with d1 | ⟨d1, d2⟩ | ⟨d1, d2, d3⟩ | ⟨d1, d2, d3, d4⟩ | ⟨d1, d2, d3, d4, d5⟩ | ⟨d1, d2, d3, d4, d5, d6⟩
              · have g1 : decide ((F k).t < 0) = true := decide_eq_true (by omega)
                go_wp2_with fail
                (refine wp_region_quiet_lit (by kernel_rfl) (by kernel_rfl) ?_; (repeat (first | go_big_quiet_step (fail) | (refine BigFrame.wpQuiet_skip (by rfl) ?_; try simp only [Act.put, List.setIfInBounds_toArray, List.set_cons_zero, List.set_cons_succ]))); refine wpQuiet_nil ?_; intro _ hw9; obtain ⟨nq, hw8⟩ := hw9; subst hw8)
                go_wp2_with fail
                go_ret
                exact ⟨by rw [HQ2.out]; rfl, HBA.out _ _⟩
              · have g1 : decide ((F k).t < 0) = false := decide_eq_false (by omega)
                have g2 : decide (1099511627776 < (F k).t) = true := decide_eq_true (by omega)
                go_wp2_with fail
                (refine wp_region_quiet_lit (by kernel_rfl) (by kernel_rfl) ?_; (repeat (first | go_big_quiet_step (fail) | (refine BigFrame.wpQuiet_skip (by rfl) ?_; try simp only [Act.put, List.setIfInBounds_toArray, List.set_cons_zero, List.set_cons_succ]))); refine wpQuiet_nil ?_; intro _ hw9; obtain ⟨nq, hw8⟩ := hw9; subst hw8)
                go_wp2_with fail
                go_ret
                exact ⟨by rw [HQ2.out]; rfl, HBA.out _ _⟩
              · have g1 : decide ((F k).t < 0) = false := decide_eq_false (by omega)
                have g2 : decide (1099511627776 < (F k).t) = false := decide_eq_false (by omega)
                have g3 : decide ((F k).t < (F j).t) = true := decide_eq_true (by omega)
                go_wp2_with fail
                (refine wp_region_quiet_lit (by kernel_rfl) (by kernel_rfl) ?_; (repeat (first | go_big_quiet_step (fail) | (refine BigFrame.wpQuiet_skip (by rfl) ?_; try simp only [Act.put, List.setIfInBounds_toArray, List.set_cons_zero, List.set_cons_succ]))); refine wpQuiet_nil ?_; intro _ hw9; obtain ⟨nq, hw8⟩ := hw9; subst hw8)
                go_wp2_with fail
                go_ret
                exact ⟨by rw [HQ2.out]; rfl, HBA.out _ _⟩
              · have g1 : decide ((F k).t < 0) = false := decide_eq_false (by omega)
                have g2 : decide (1099511627776 < (F k).t) = false := decide_eq_false (by omega)
                have g3 : decide ((F k).t < (F j).t) = false := decide_eq_false (by omega)
                have g6 : decide ((F k).ten < 1) = true := decide_eq_true (by omega)
                go_wp2_with fail
                (refine wp_region_quiet_lit (by kernel_rfl) (by kernel_rfl) ?_; (repeat (first | go_big_quiet_step (fail) | (refine BigFrame.wpQuiet_skip (by rfl) ?_; try simp only [Act.put, List.setIfInBounds_toArray, List.set_cons_zero, List.set_cons_succ]))); refine wpQuiet_nil ?_; intro _ hw9; obtain ⟨nq, hw8⟩ := hw9; subst hw8)
                go_wp2_with fail
                go_ret
                exact ⟨by rw [HQ2.out]; rfl, HBA.out _ _⟩
              · have g1 : decide ((F k).t < 0) = false := decide_eq_false (by omega)
                have g2 : decide (1099511627776 < (F k).t) = false := decide_eq_false (by omega)
                have g3 : decide ((F k).t < (F j).t) = false := decide_eq_false (by omega)
                have g6 : decide ((F k).ten < 1) = false := decide_eq_false (by omega)
                have g7 : decide (16 < (F k).ten) = true := decide_eq_true (by omega)
                go_wp2_with fail
                (refine wp_region_quiet_lit (by kernel_rfl) (by kernel_rfl) ?_; (repeat (first | go_big_quiet_step (fail) | (refine BigFrame.wpQuiet_skip (by rfl) ?_; try simp only [Act.put, List.setIfInBounds_toArray, List.set_cons_zero, List.set_cons_succ]))); refine wpQuiet_nil ?_; intro _ hw9; obtain ⟨nq, hw8⟩ := hw9; subst hw8)
                go_wp2_with fail
                go_ret
                exact ⟨by rw [HQ2.out]; rfl, HBA.out _ _⟩
              · rw [d6] at HM
                have g1 : decide ((F k).t < 0) = false := decide_eq_false (by omega)
                have g2 : decide (1099511627776 < (F k).t) = false := decide_eq_false (by omega)
                have g3 : decide ((F k).t < (F j).t) = false := decide_eq_false (by omega)
                have g6 : decide ((F k).ten < 1) = false := decide_eq_false (by omega)
                have g7 : decide (16 < (F k).ten) = false := decide_eq_false (by omega)
                clear d6
                go_wp2_with fail
                (refine wp_region_quiet_lit (by kernel_rfl) (by kernel_rfl) ?_; (repeat (first | go_big_quiet_step ((go_at_call 109; exact quiet_left (HM.out _))) | (refine BigFrame.wpQuiet_skip (by rfl) ?_; try simp only [Act.put, List.setIfInBounds_toArray, List.set_cons_zero, List.set_cons_succ]))); refine wpQuiet_nil ?_; intro _ hw9; obtain ⟨nq, hw8⟩ := hw9; subst hw8)
                go_wp2_with fail
                go_ret
                exact ⟨by rw [HQ2.out]; rfl, HBA.out _ _⟩
          · obtain ⟨d1, d2, d5, d8⟩ := forceOk_yes hok
            obtain ⟨d6, d7⟩ := isT_yes d5
            have HCH2 : Hid (chkF F (k + 1) = true) := Lib.hid (by unfold chkF; rw [HCH.out, hok]; rfl)
            have HL2 : Hid (0 ≤ lastF F (k + 1)) := Lib.hid (by rw [lastF_succ]; omega)
            rw [d8] at HM
            by_cases hk0 : k = 0
            · have hl9 : lastF F k = 0 := by rw [hk0]; rfl
              rw [hl9] at d1
              have b0 : decide (0 < k) = false := by simp; omega
              clear hl9 hk0 hok hl d5 d8
              have g1 : decide ((F k).t < 0) = false := decide_eq_false (by omega)
              have g2 : decide (1099511627776 < (F k).t) = false := decide_eq_false (by omega)
              have g6 : decide ((F k).ten < 1) = false := decide_eq_false (by omega)
              have g7 : decide (16 < (F k).ten) = false := decide_eq_false (by omega)
              go_wp2_with fail
              (refine wp_region_quiet_lit (by kernel_rfl) (by kernel_rfl) ?_; (repeat (first | go_big_quiet_step ((go_at_call 109; exact quiet_left (HM.out _))) | (refine BigFrame.wpQuiet_skip (by rfl) ?_; try simp only [Act.put, List.setIfInBounds_toArray, List.set_cons_zero, List.set_cons_succ]))); refine wpQuiet_nil ?_; intro _ hw9; obtain ⟨nq, hw8⟩ := hw9; subst hw8)
              go_wp2_with fail
              go_roundw
              case rel => exact ⟨k + 1, by omega, by go_num, HCH2.out, HL2.out, HBA.out _ _⟩
              case measure => first | (simp [intOf]; done) | (simp [intOf]; omega)
            · obtain ⟨j, hj⟩ : ∃ j, k = j + 1 := ⟨k - 1, by omega⟩
              have hl9 : lastF F k = (F j).t := by rw [hj]; exact lastF_succ F j
              rw [hl9] at d1 hl
              have b0 : decide (0 < k) = true := by simp; omega
              have b1 : (k : Int) - 1 = (j : Int) := by omega
              have b2 : IntKind.i64.wrap (j : Int) = (j : Int) := IntWalk.i64_in _ (by omega)
              have b3 : j < m := by omega
              have b5 : b' < wr.heap.size := Nat.lt_of_lt_of_le e1 HB.out.size
              obtain ⟨p0, _⟩ := (HF.out.below HB.out).cell j (by omega)
              clear hl9 hk0 hok hj d5 d8
              have g1 : decide ((F k).t < 0) = false := decide_eq_false (by omega)
              have g2 : decide (1099511627776 < (F k).t) = false := decide_eq_false (by omega)
              have g3 : decide ((F k).t < (F j).t) = false := decide_eq_false (by omega)
              have g6 : decide ((F k).ten < 1) = false := decide_eq_false (by omega)
              have g7 : decide (16 < (F k).ten) = false := decide_eq_false (by omega)
              go_wp2_with fail
              (refine wp_region_quiet_lit (by kernel_rfl) (by kernel_rfl) ?_; (repeat (first | go_big_quiet_step ((go_at_call 109; exact quiet_left (HM.out _))) | (refine BigFrame.wpQuiet_skip (by rfl) ?_; try simp only [Act.put, List.setIfInBounds_toArray, List.set_cons_zero, List.set_cons_succ]))); refine wpQuiet_nil ?_; intro _ hw9; obtain ⟨nq, hw8⟩ := hw9; subst hw8)
              go_wp2_with fail
              go_roundw
              case rel => exact ⟨k + 1, by omega, by go_num, HCH2.out, HL2.out, HBA.out _ _⟩
              case measure => first | (simp [intOf]; done) | (simp [intOf]; omega)
        · obtain rfl : k = m := by omega
          have HQ4 : Hid (Q = true) := Lib.hid (by rw [HQ3.out, HCH.out])
          go_wp2_with fail
          go_ret
          exact ⟨by rw [HQ4.out]; rfl, HB.out⟩
end Go.Proofs.Ytninhjeiialbjaa
