/-
  May tenants be: the document.
-/
import Derived.Test.YtpgpcgpecpimlaaPo3
import Derived.Test.YtpgpcgpecpimlaaPo2
import Derived.Deep.RegionLaw
namespace Go.Proofs.Ytpgpcgpecpimlaa
open Go.RowKit
set_option linter.unusedSimpArgs false
set_option linter.unusedVariables false

theorem quiet_left {P : Program} {f : FuncId} {args : Array Value} {w : World} {n : Nat} {v : Value}
    (h : Calls P f args (w.drewN n) fun e w' => e = .returned v ∧ w.drewN n = w') : Calls P f args (w.drewN n) fun e w'' => e = .returned v ∧ ∃ m, w'' = w.drewN m :=
  h.mono fun _ _ ⟨he, hm⟩ => ⟨he, n, hm.symm⟩
theorem below_dN {B : Nat} {w X : World} (h : Below B w X) (n : Nat) : Below B w (X.drewN n) := ⟨h.os, h.tape, h.output, h.size, h.block⟩
set_option maxRecDepth 100000 in
set_option maxHeartbeats 16000000 in
theorem rcheck_any (v : Value) (L : List TnE) (w : World) (h : TV w v L) : Calls Try.prog 46 #[v] w fun e w' => e = .returned (.bool (chk L)) ∧ Below w.heap.size w w' := by
  obtain ⟨a, b, o, cap, rfl, h⟩ := h
  have m1 := h.le
  have m2 := h.max
  unfold maxLen at m2
  have H1 := Lib.hid h
  clear h
  obtain ⟨n, hn⟩ : ∃ n, n = L.length := ⟨_, rfl⟩
  have HN := Lib.hid hn
  rw [← hn] at m1 H1 ⊢
  clear hn
  go_enter Try.func46, Try.ntmps46
  go_wp2_with fail
  go_loopw [3] (fun i wr => ∃ k : Nat, k ≤ n ∧ i = .int .i64 k ∧ chkF (pid L k) (L.drop k) = chk L ∧ Below w.heap.size w wr) (fun i _ => n - (intOf i).toNat)
  case atStart => exact ⟨0, Nat.zero_le _, rfl, rfl, Below.refl _ _⟩
  case round =>
    obtain ⟨k, hk, rfl, hc, hB⟩ := hrel
    have HB := Lib.hid hB
    have HC := Lib.hid hc
    clear hB hc
    by_cases hlt : k < n
    · have hs1 := H1.out.below HB.out
      obtain ⟨e0, e1⟩ := hs1.at_ (by omega)
      subst e0
      obtain ⟨c0, c1, c2, c3, c4⟩ := hs1.cell k hlt
      have hpc : k ≠ 0 → wr.cell? ⟨b, o + (k - 1) * 5, none⟩ = some (.int .i64 (gt L (k - 1)).id) := fun h0 => (hs1.cell (k - 1) (by omega)).1
      have HST : Hid (chk L = (decide (pid L k < (gt L k).id) && mayT (gt L k) && chkF (gt L k).id (L.drop (k + 1)))) := Lib.hid (by rw [← HC.out]; exact chk_step _ (by rw [← HN.out]; exact hlt))
      have hps := pid_succ L k
      have HPC := Lib.hid hpc
      obtain ⟨x, hx⟩ : ∃ x, x = gt L k := ⟨_, rfl⟩
      rw [← hx] at c0 c1 c2 c3 c4 HST hps
      have HPS := Lib.hid hps
      obtain ⟨id, rate, burst, bkt, gone⟩ := x
      simp only at c0 c1 c2 c3 c4
      have HID := Lib.hid (fun W => rid_any id W)
      have HMY := Lib.hid (fun W => rmay16_any rate burst W)
      clear hs1 hx HC hps hpc
      go_upto_region 5 with fail
      obtain ⟨M, hM⟩ : ∃ M, M = wr.heap.size := ⟨_, rfl⟩
      obtain ⟨WX, hWX⟩ : ∃ W0, W0 = wr.alloc (.cells #[.int .i64 id, .int .i64 rate, .int .i64 burst, .int .i64 bkt, .bool gone] 72) := ⟨_, rfl⟩
      have HBX : Hid (Below w.heap.size w WX) := Lib.hid (by rw [hWX]; exact HB.out.alloc HB.out.size _)
      have HXX := Lib.hid (show Below wr.heap.size wr WX by rw [hWX]; exact (Below.refl _ _).alloc (Nat.le_refl _) _)
      have hkX : Blk WX M #[.int .i64 id, .int .i64 rate, .int .i64 burst, .int .i64 bkt, .bool gone] 72 := by rw [hWX, hM]; exact blk_new _ _ _
      have hMl : w.heap.size ≤ M := by rw [hM]; exact HB.out.size
      rw [← hM, ← hWX]
      clear hWX hM
      have r0 : WX.cell? ⟨M, 0, none⟩ = some (.int .i64 id) := cell_at hkX 0
      have r1 : WX.cell? ⟨M, 1, none⟩ = some (.int .i64 rate) := cell_at hkX 1
      have r2 : WX.cell? ⟨M, 2, none⟩ = some (.int .i64 burst) := cell_at hkX 2
      have r3 : WX.cell? ⟨M, 3, none⟩ = some (.int .i64 bkt) := cell_at hkX 3
      have r4 : WX.cell? ⟨M, 4, none⟩ = some (.bool gone) := cell_at hkX 4
      have HKX := Lib.hid hkX
      have hlX : M < WX.heap.size := hkX.lt
      clear hkX
      clear c0 c1 c2 c3 c4
      rcases Nat.eq_zero_or_pos k with hk0 | hk0
      · rw [show pid L k = 0 by rw [hk0]; rfl] at HST
        have b0 : decide (0 < k) = false := by simp; omega
        clear hk0 HXX HPC
        have hcs : (idB id = false) ∨ (idB id = true ∧ mayB rate burst = false) ∨ (idB id = true ∧ mayB rate burst = true ∧ bkt < 0) ∨ (idB id = true ∧ mayB rate burst = true ∧ ¬ bkt < 0 ∧ 1000000000 < bkt) ∨ (idB id = true ∧ mayB rate burst = true ∧ ¬ bkt < 0 ∧ ¬ 1000000000 < bkt ∧ gone = false) ∨ (idB id = true ∧ mayB rate burst = true ∧ ¬ bkt < 0 ∧ ¬ 1000000000 < bkt ∧ gone = true ∧ rate ≠ 0) ∨ (idB id = true ∧ mayB rate burst = true ∧ ¬ bkt < 0 ∧ ¬ 1000000000 < bkt ∧ gone = true ∧ rate = 0 ∧ burst ≠ 0) ∨ (idB id = true ∧ mayB rate burst = true ∧ ¬ bkt < 0 ∧ ¬ 1000000000 < bkt ∧ gone = true ∧ rate = 0 ∧ burst = 0 ∧ bkt ≠ 0) ∨ (idB id = true ∧ mayB rate burst = true ∧ ¬ bkt < 0 ∧ ¬ 1000000000 < bkt ∧ gone = true ∧ rate = 0 ∧ burst = 0 ∧ bkt = 0) := by
          cases idB id <;> cases mayB rate burst <;> cases gone <;> simp <;> omega
        rcases hcs with g0 | ⟨g0, g1⟩ | ⟨g0, g1, g2⟩ | ⟨g0, g1, g2, g3⟩ | ⟨g0, g1, g2, g3, g4⟩ | ⟨g0, g1, g2, g3, g4, g5⟩ | ⟨g0, g1, g2, g3, g4, g5, g6⟩ | ⟨g0, g1, g2, g3, g4, g5, g6, g7⟩ | ⟨g0, g1, g2, g3, g4, g5, g6, g7⟩
        · rw [g0] at HID
          have hval : (decide (0 < id) && mayT ⟨id, rate, burst, bkt, gone⟩) = false := by unfold mayT fullB zeroB; simp only [g0]; simp [] <;> (first | omega | (intros; omega))
          rw [hval] at HST
          clear hval
          go_wp2_with fail
          (refine wp_region_quiet_lit (by kernel_rfl) (by kernel_rfl) ?_; (repeat (first | go_big_quiet_step ((first | (go_at_call 82; exact quiet_left (HID.out _)) | (go_at_call 83; exact quiet_left (HMY.out _)))) | (refine BigFrame.wpQuiet_skip (by rfl) ?_; try simp only [Act.put, List.setIfInBounds_toArray, List.set_cons_zero, List.set_cons_succ]))); refine wpQuiet_nil ?_; intro _ hw9; obtain ⟨nq, hw8⟩ := hw9; subst hw8)
          go_wp2_with fail
          go_ret
          exact ⟨ret_bool (by rw [HST.out]; rfl), below_dN HBX.out nq⟩
        · rw [g0] at HID
          have hid : 1 ≤ id ∧ id ≤ 16 := by simpa [idB] using g0
          rw [g1] at HMY
          have hval : (decide (0 < id) && mayT ⟨id, rate, burst, bkt, gone⟩) = false := by unfold mayT fullB zeroB; simp only [g0, g1]; simp [] <;> (first | omega | (intros; omega))
          rw [hval] at HST
          clear hval hid
          go_wp2_with fail
          (refine wp_region_quiet_lit (by kernel_rfl) (by kernel_rfl) ?_; (repeat (first | go_big_quiet_step ((first | (go_at_call 82; exact quiet_left (HID.out _)) | (go_at_call 83; exact quiet_left (HMY.out _)))) | (refine BigFrame.wpQuiet_skip (by rfl) ?_; try simp only [Act.put, List.setIfInBounds_toArray, List.set_cons_zero, List.set_cons_succ]))); refine wpQuiet_nil ?_; intro _ hw9; obtain ⟨nq, hw8⟩ := hw9; subst hw8)
          go_wp2_with fail
          go_ret
          exact ⟨ret_bool (by rw [HST.out]; rfl), below_dN HBX.out nq⟩
        · rw [g0] at HID
          have hid : 1 ≤ id ∧ id ≤ 16 := by simpa [idB] using g0
          rw [g1] at HMY
          have hval : (decide (0 < id) && mayT ⟨id, rate, burst, bkt, gone⟩) = false := by unfold mayT fullB zeroB; simp only [g0, g1]; simp [g2] <;> (first | omega | (intros; omega))
          rw [hval] at HST
          have fg2 : decide (bkt < 0) = true := decide_eq_true (by omega)
          clear hval hid
          go_wp2_with fail
          (refine wp_region_quiet_lit (by kernel_rfl) (by kernel_rfl) ?_; (repeat (first | go_big_quiet_step ((first | (go_at_call 82; exact quiet_left (HID.out _)) | (go_at_call 83; exact quiet_left (HMY.out _)))) | (refine BigFrame.wpQuiet_skip (by rfl) ?_; try simp only [Act.put, List.setIfInBounds_toArray, List.set_cons_zero, List.set_cons_succ]))); refine wpQuiet_nil ?_; intro _ hw9; obtain ⟨nq, hw8⟩ := hw9; subst hw8)
          go_wp2_with fail
          go_ret
          exact ⟨ret_bool (by rw [HST.out]; rfl), below_dN HBX.out nq⟩
        · rw [g0] at HID
          have hid : 1 ≤ id ∧ id ≤ 16 := by simpa [idB] using g0
          rw [g1] at HMY
          have hval : (decide (0 < id) && mayT ⟨id, rate, burst, bkt, gone⟩) = false := by unfold mayT fullB zeroB; simp only [g0, g1]; simp [g2, g3] <;> (first | omega | (intros; omega))
          rw [hval] at HST
          have fg2 : decide (bkt < 0) = false := decide_eq_false (by omega)
          have fg3 : decide (1000000000 < bkt) = true := decide_eq_true (by omega)
          clear hval hid
          go_wp2_with fail
          (refine wp_region_quiet_lit (by kernel_rfl) (by kernel_rfl) ?_; (repeat (first | go_big_quiet_step ((first | (go_at_call 82; exact quiet_left (HID.out _)) | (go_at_call 83; exact quiet_left (HMY.out _)))) | (refine BigFrame.wpQuiet_skip (by rfl) ?_; try simp only [Act.put, List.setIfInBounds_toArray, List.set_cons_zero, List.set_cons_succ]))); refine wpQuiet_nil ?_; intro _ hw9; obtain ⟨nq, hw8⟩ := hw9; subst hw8)
          go_wp2_with fail
          go_ret
          exact ⟨ret_bool (by rw [HST.out]; rfl), below_dN HBX.out nq⟩
        · rw [g0] at HID
          have hid : 1 ≤ id ∧ id ≤ 16 := by simpa [idB] using g0
          rw [g1] at HMY
          have hval : (decide (0 < id) && mayT ⟨id, rate, burst, bkt, gone⟩) = true := by unfold mayT fullB zeroB; simp only [g0, g1]; simp [g2, g3, g4] <;> (first | omega | (intros; omega))
          rw [hval] at HST
          subst g4
          have fg2 : decide (bkt < 0) = false := decide_eq_false (by omega)
          have fg3 : decide (1000000000 < bkt) = false := decide_eq_false (by omega)
          clear hval hid
          go_wp2_with fail
          (refine wp_region_quiet_lit (by kernel_rfl) (by kernel_rfl) ?_; (repeat (first | go_big_quiet_step ((first | (go_at_call 82; exact quiet_left (HID.out _)) | (go_at_call 83; exact quiet_left (HMY.out _)))) | (refine BigFrame.wpQuiet_skip (by rfl) ?_; try simp only [Act.put, List.setIfInBounds_toArray, List.set_cons_zero, List.set_cons_succ]))); refine wpQuiet_nil ?_; intro _ hw9; obtain ⟨nq, hw8⟩ := hw9; subst hw8)
          go_wp2_with fail
          go_roundw
          case rel => exact ⟨k + 1, by omega, by go_num, by rw [HPS.out, HST.out]; simp, below_dN HBX.out nq⟩
          case measure => first | (simp [intOf]; done) | (simp [intOf]; omega)
        · rw [g0] at HID
          have hid : 1 ≤ id ∧ id ≤ 16 := by simpa [idB] using g0
          rw [g1] at HMY
          have hval : (decide (0 < id) && mayT ⟨id, rate, burst, bkt, gone⟩) = false := by unfold mayT fullB zeroB; simp only [g0, g1]; simp [g2, g3, g4, g5] <;> (first | omega | (intros; omega))
          rw [hval] at HST
          subst g4
          have fg2 : decide (bkt < 0) = false := decide_eq_false (by omega)
          have fg3 : decide (1000000000 < bkt) = false := decide_eq_false (by omega)
          have fg5 : (rate != 0) = true := bne_iff_ne.2 g5
          clear hval hid
          go_wp2_with fail
          (refine wp_region_quiet_lit (by kernel_rfl) (by kernel_rfl) ?_; (repeat (first | go_big_quiet_step ((first | (go_at_call 82; exact quiet_left (HID.out _)) | (go_at_call 83; exact quiet_left (HMY.out _)))) | (refine BigFrame.wpQuiet_skip (by rfl) ?_; try simp only [Act.put, List.setIfInBounds_toArray, List.set_cons_zero, List.set_cons_succ]))); refine wpQuiet_nil ?_; intro _ hw9; obtain ⟨nq, hw8⟩ := hw9; subst hw8)
          go_wp2_with fail
          go_ret
          exact ⟨ret_bool (by rw [HST.out]; rfl), below_dN HBX.out nq⟩
        · rw [g0] at HID
          have hid : 1 ≤ id ∧ id ≤ 16 := by simpa [idB] using g0
          rw [g1] at HMY
          have hval : (decide (0 < id) && mayT ⟨id, rate, burst, bkt, gone⟩) = false := by unfold mayT fullB zeroB; simp only [g0, g1]; simp [g2, g3, g4, g5, g6] <;> (first | omega | (intros; omega))
          rw [hval] at HST
          subst g4
          subst g5
          have fg2 : decide (bkt < 0) = false := decide_eq_false (by omega)
          have fg3 : decide (1000000000 < bkt) = false := decide_eq_false (by omega)
          have fg6 : (burst != 0) = true := bne_iff_ne.2 g6
          clear hval hid
          go_wp2_with fail
          (refine wp_region_quiet_lit (by kernel_rfl) (by kernel_rfl) ?_; (repeat (first | go_big_quiet_step ((first | (go_at_call 82; exact quiet_left (HID.out _)) | (go_at_call 83; exact quiet_left (HMY.out _)))) | (refine BigFrame.wpQuiet_skip (by rfl) ?_; try simp only [Act.put, List.setIfInBounds_toArray, List.set_cons_zero, List.set_cons_succ]))); refine wpQuiet_nil ?_; intro _ hw9; obtain ⟨nq, hw8⟩ := hw9; subst hw8)
          go_wp2_with fail
          go_ret
          exact ⟨ret_bool (by rw [HST.out]; rfl), below_dN HBX.out nq⟩
        · rw [g0] at HID
          have hid : 1 ≤ id ∧ id ≤ 16 := by simpa [idB] using g0
          rw [g1] at HMY
          have hval : (decide (0 < id) && mayT ⟨id, rate, burst, bkt, gone⟩) = false := by unfold mayT fullB zeroB; simp only [g0, g1]; simp [g2, g3, g4, g5, g6, g7] <;> (first | omega | (intros; omega))
          rw [hval] at HST
          subst g4
          subst g5
          subst g6
          have fg2 : decide (bkt < 0) = false := decide_eq_false (by omega)
          have fg3 : decide (1000000000 < bkt) = false := decide_eq_false (by omega)
          have fg7 : (bkt != 0) = true := bne_iff_ne.2 g7
          clear hval hid
          go_wp2_with fail
          (refine wp_region_quiet_lit (by kernel_rfl) (by kernel_rfl) ?_; (repeat (first | go_big_quiet_step ((first | (go_at_call 82; exact quiet_left (HID.out _)) | (go_at_call 83; exact quiet_left (HMY.out _)))) | (refine BigFrame.wpQuiet_skip (by rfl) ?_; try simp only [Act.put, List.setIfInBounds_toArray, List.set_cons_zero, List.set_cons_succ]))); refine wpQuiet_nil ?_; intro _ hw9; obtain ⟨nq, hw8⟩ := hw9; subst hw8)
          go_wp2_with fail
          go_ret
          exact ⟨ret_bool (by rw [HST.out]; rfl), below_dN HBX.out nq⟩
        · rw [g0] at HID
          have hid : 1 ≤ id ∧ id ≤ 16 := by simpa [idB] using g0
          rw [g1] at HMY
          have hval : (decide (0 < id) && mayT ⟨id, rate, burst, bkt, gone⟩) = true := by unfold mayT fullB zeroB; simp only [g0, g1]; simp [g2, g3, g4, g5, g6, g7] <;> (first | omega | (intros; omega))
          rw [hval] at HST
          subst g4
          subst g5
          subst g6
          subst g7
          clear hval hid
          go_wp2_with fail
          (refine wp_region_quiet_lit (by kernel_rfl) (by kernel_rfl) ?_; (repeat (first | go_big_quiet_step ((first | (go_at_call 82; exact quiet_left (HID.out _)) | (go_at_call 83; exact quiet_left (HMY.out _)))) | (refine BigFrame.wpQuiet_skip (by rfl) ?_; try simp only [Act.put, List.setIfInBounds_toArray, List.set_cons_zero, List.set_cons_succ]))); refine wpQuiet_nil ?_; intro _ hw9; obtain ⟨nq, hw8⟩ := hw9; subst hw8)
          go_wp2_with fail
          go_roundw
          case rel => exact ⟨k + 1, by omega, by go_num, by rw [HPS.out, HST.out]; simp, below_dN HBX.out nq⟩
          case measure => first | (simp [intOf]; done) | (simp [intOf]; omega)
      · obtain ⟨j, hj⟩ : ∃ j, k = j + 1 := ⟨k - 1, by omega⟩
        have cp : WX.cell? ⟨b, o + j * 5, none⟩ = some (.int .i64 (pid L k)) := (HXX.out.cell (p := ⟨b, _, none⟩) e1).trans (by have := HPC.out (by omega); subst hj; exact this)
        obtain ⟨p, hp⟩ : ∃ p, p = pid L k := ⟨_, rfl⟩
        rw [← hp] at HST cp
        clear hp hk0 HPC
        have b0 : decide (0 < k) = true := by simp; omega
        have b1 : (k : Int) - 1 = (j : Int) := by omega
        have b2 : IntKind.i64.wrap (j : Int) = (j : Int) := IntWalk.i64_in _ (by omega)
        have b3 : j < n := by omega
        have b5 : b < WX.heap.size := Nat.lt_of_lt_of_le e1 HXX.out.size
        clear hj
        have hcs : (idB id = false) ∨ (idB id = true ∧ id ≤ p) ∨ (idB id = true ∧ ¬ id ≤ p ∧ mayB rate burst = false) ∨ (idB id = true ∧ ¬ id ≤ p ∧ mayB rate burst = true ∧ bkt < 0) ∨ (idB id = true ∧ ¬ id ≤ p ∧ mayB rate burst = true ∧ ¬ bkt < 0 ∧ 1000000000 < bkt) ∨ (idB id = true ∧ ¬ id ≤ p ∧ mayB rate burst = true ∧ ¬ bkt < 0 ∧ ¬ 1000000000 < bkt ∧ gone = false) ∨ (idB id = true ∧ ¬ id ≤ p ∧ mayB rate burst = true ∧ ¬ bkt < 0 ∧ ¬ 1000000000 < bkt ∧ gone = true ∧ rate ≠ 0) ∨ (idB id = true ∧ ¬ id ≤ p ∧ mayB rate burst = true ∧ ¬ bkt < 0 ∧ ¬ 1000000000 < bkt ∧ gone = true ∧ rate = 0 ∧ burst ≠ 0) ∨ (idB id = true ∧ ¬ id ≤ p ∧ mayB rate burst = true ∧ ¬ bkt < 0 ∧ ¬ 1000000000 < bkt ∧ gone = true ∧ rate = 0 ∧ burst = 0 ∧ bkt ≠ 0) ∨ (idB id = true ∧ ¬ id ≤ p ∧ mayB rate burst = true ∧ ¬ bkt < 0 ∧ ¬ 1000000000 < bkt ∧ gone = true ∧ rate = 0 ∧ burst = 0 ∧ bkt = 0) := by
          cases idB id <;> cases mayB rate burst <;> cases gone <;> simp <;> omega
        rcases hcs with g0 | ⟨g0, g1⟩ | ⟨g0, g1, g2⟩ | ⟨g0, g1, g2, g3⟩ | ⟨g0, g1, g2, g3, g4⟩ | ⟨g0, g1, g2, g3, g4, g5⟩ | ⟨g0, g1, g2, g3, g4, g5, g6⟩ | ⟨g0, g1, g2, g3, g4, g5, g6, g7⟩ | ⟨g0, g1, g2, g3, g4, g5, g6, g7, g8⟩ | ⟨g0, g1, g2, g3, g4, g5, g6, g7, g8⟩
        · rw [g0] at HID
          have hval : (decide (p < id) && mayT ⟨id, rate, burst, bkt, gone⟩) = false := by unfold mayT fullB zeroB; simp only [g0]; simp [] <;> (first | omega | (intros; omega))
          rw [hval] at HST
          clear hval
          go_wp2_with fail
          (refine wp_region_quiet_lit (by kernel_rfl) (by kernel_rfl) ?_; (repeat (first | go_big_quiet_step ((first | (go_at_call 82; exact quiet_left (HID.out _)) | (go_at_call 83; exact quiet_left (HMY.out _)))) | (refine BigFrame.wpQuiet_skip (by rfl) ?_; try simp only [Act.put, List.setIfInBounds_toArray, List.set_cons_zero, List.set_cons_succ]))); refine wpQuiet_nil ?_; intro _ hw9; obtain ⟨nq, hw8⟩ := hw9; subst hw8)
          go_wp2_with fail
          go_ret
          exact ⟨ret_bool (by rw [HST.out]; rfl), below_dN HBX.out nq⟩
        · rw [g0] at HID
          have hid : 1 ≤ id ∧ id ≤ 16 := by simpa [idB] using g0
          have hval : (decide (p < id) && mayT ⟨id, rate, burst, bkt, gone⟩) = false := by unfold mayT fullB zeroB; simp only [g0]; simp [g1] <;> (first | omega | (intros; omega))
          rw [hval] at HST
          have fg1 : decide (id ≤ p) = true := decide_eq_true (by omega)
          clear hval hid
          go_wp2_with fail
          (refine wp_region_quiet_lit (by kernel_rfl) (by kernel_rfl) ?_; (repeat (first | go_big_quiet_step ((first | (go_at_call 82; exact quiet_left (HID.out _)) | (go_at_call 83; exact quiet_left (HMY.out _)))) | (refine BigFrame.wpQuiet_skip (by rfl) ?_; try simp only [Act.put, List.setIfInBounds_toArray, List.set_cons_zero, List.set_cons_succ]))); refine wpQuiet_nil ?_; intro _ hw9; obtain ⟨nq, hw8⟩ := hw9; subst hw8)
          go_wp2_with fail
          go_ret
          exact ⟨ret_bool (by rw [HST.out]; rfl), below_dN HBX.out nq⟩
        · rw [g0] at HID
          have hid : 1 ≤ id ∧ id ≤ 16 := by simpa [idB] using g0
          rw [g2] at HMY
          have hval : (decide (p < id) && mayT ⟨id, rate, burst, bkt, gone⟩) = false := by unfold mayT fullB zeroB; simp only [g0, g2]; simp [g1] <;> (first | omega | (intros; omega))
          rw [hval] at HST
          have fg1 : decide (id ≤ p) = false := decide_eq_false (by omega)
          clear hval hid
          go_wp2_with fail
          (refine wp_region_quiet_lit (by kernel_rfl) (by kernel_rfl) ?_; (repeat (first | go_big_quiet_step ((first | (go_at_call 82; exact quiet_left (HID.out _)) | (go_at_call 83; exact quiet_left (HMY.out _)))) | (refine BigFrame.wpQuiet_skip (by rfl) ?_; try simp only [Act.put, List.setIfInBounds_toArray, List.set_cons_zero, List.set_cons_succ]))); refine wpQuiet_nil ?_; intro _ hw9; obtain ⟨nq, hw8⟩ := hw9; subst hw8)
          go_wp2_with fail
          go_ret
          exact ⟨ret_bool (by rw [HST.out]; rfl), below_dN HBX.out nq⟩
        · rw [g0] at HID
          have hid : 1 ≤ id ∧ id ≤ 16 := by simpa [idB] using g0
          rw [g2] at HMY
          have hval : (decide (p < id) && mayT ⟨id, rate, burst, bkt, gone⟩) = false := by unfold mayT fullB zeroB; simp only [g0, g2]; simp [g1, g3] <;> (first | omega | (intros; omega))
          rw [hval] at HST
          have fg1 : decide (id ≤ p) = false := decide_eq_false (by omega)
          have fg3 : decide (bkt < 0) = true := decide_eq_true (by omega)
          clear hval hid
          go_wp2_with fail
          (refine wp_region_quiet_lit (by kernel_rfl) (by kernel_rfl) ?_; (repeat (first | go_big_quiet_step ((first | (go_at_call 82; exact quiet_left (HID.out _)) | (go_at_call 83; exact quiet_left (HMY.out _)))) | (refine BigFrame.wpQuiet_skip (by rfl) ?_; try simp only [Act.put, List.setIfInBounds_toArray, List.set_cons_zero, List.set_cons_succ]))); refine wpQuiet_nil ?_; intro _ hw9; obtain ⟨nq, hw8⟩ := hw9; subst hw8)
          go_wp2_with fail
          go_ret
          exact ⟨ret_bool (by rw [HST.out]; rfl), below_dN HBX.out nq⟩
        · rw [g0] at HID
          have hid : 1 ≤ id ∧ id ≤ 16 := by simpa [idB] using g0
          rw [g2] at HMY
          have hval : (decide (p < id) && mayT ⟨id, rate, burst, bkt, gone⟩) = false := by unfold mayT fullB zeroB; simp only [g0, g2]; simp [g1, g3, g4] <;> (first | omega | (intros; omega))
          rw [hval] at HST
          have fg1 : decide (id ≤ p) = false := decide_eq_false (by omega)
          have fg3 : decide (bkt < 0) = false := decide_eq_false (by omega)
          have fg4 : decide (1000000000 < bkt) = true := decide_eq_true (by omega)
          clear hval hid
          go_wp2_with fail
          (refine wp_region_quiet_lit (by kernel_rfl) (by kernel_rfl) ?_; (repeat (first | go_big_quiet_step ((first | (go_at_call 82; exact quiet_left (HID.out _)) | (go_at_call 83; exact quiet_left (HMY.out _)))) | (refine BigFrame.wpQuiet_skip (by rfl) ?_; try simp only [Act.put, List.setIfInBounds_toArray, List.set_cons_zero, List.set_cons_succ]))); refine wpQuiet_nil ?_; intro _ hw9; obtain ⟨nq, hw8⟩ := hw9; subst hw8)
          go_wp2_with fail
          go_ret
          exact ⟨ret_bool (by rw [HST.out]; rfl), below_dN HBX.out nq⟩
        · rw [g0] at HID
          have hid : 1 ≤ id ∧ id ≤ 16 := by simpa [idB] using g0
          rw [g2] at HMY
          have hval : (decide (p < id) && mayT ⟨id, rate, burst, bkt, gone⟩) = true := by unfold mayT fullB zeroB; simp only [g0, g2]; simp [g1, g3, g4, g5] <;> (first | omega | (intros; omega))
          rw [hval] at HST
          subst g5
          have fg1 : decide (id ≤ p) = false := decide_eq_false (by omega)
          have fg3 : decide (bkt < 0) = false := decide_eq_false (by omega)
          have fg4 : decide (1000000000 < bkt) = false := decide_eq_false (by omega)
          clear hval hid
          go_wp2_with fail
          (refine wp_region_quiet_lit (by kernel_rfl) (by kernel_rfl) ?_; (repeat (first | go_big_quiet_step ((first | (go_at_call 82; exact quiet_left (HID.out _)) | (go_at_call 83; exact quiet_left (HMY.out _)))) | (refine BigFrame.wpQuiet_skip (by rfl) ?_; try simp only [Act.put, List.setIfInBounds_toArray, List.set_cons_zero, List.set_cons_succ]))); refine wpQuiet_nil ?_; intro _ hw9; obtain ⟨nq, hw8⟩ := hw9; subst hw8)
          go_wp2_with fail
          go_roundw
          case rel => exact ⟨k + 1, by omega, by go_num, by rw [HPS.out, HST.out]; simp, below_dN HBX.out nq⟩
          case measure => first | (simp [intOf]; done) | (simp [intOf]; omega)
        · rw [g0] at HID
          have hid : 1 ≤ id ∧ id ≤ 16 := by simpa [idB] using g0
          rw [g2] at HMY
          have hval : (decide (p < id) && mayT ⟨id, rate, burst, bkt, gone⟩) = false := by unfold mayT fullB zeroB; simp only [g0, g2]; simp [g1, g3, g4, g5, g6] <;> (first | omega | (intros; omega))
          rw [hval] at HST
          subst g5
          have fg1 : decide (id ≤ p) = false := decide_eq_false (by omega)
          have fg3 : decide (bkt < 0) = false := decide_eq_false (by omega)
          have fg4 : decide (1000000000 < bkt) = false := decide_eq_false (by omega)
          have fg6 : (rate != 0) = true := bne_iff_ne.2 g6
          clear hval hid
          go_wp2_with fail
          (refine wp_region_quiet_lit (by kernel_rfl) (by kernel_rfl) ?_; (repeat (first | go_big_quiet_step ((first | (go_at_call 82; exact quiet_left (HID.out _)) | (go_at_call 83; exact quiet_left (HMY.out _)))) | (refine BigFrame.wpQuiet_skip (by rfl) ?_; try simp only [Act.put, List.setIfInBounds_toArray, List.set_cons_zero, List.set_cons_succ]))); refine wpQuiet_nil ?_; intro _ hw9; obtain ⟨nq, hw8⟩ := hw9; subst hw8)
          go_wp2_with fail
          go_ret
          exact ⟨ret_bool (by rw [HST.out]; rfl), below_dN HBX.out nq⟩
        · rw [g0] at HID
          have hid : 1 ≤ id ∧ id ≤ 16 := by simpa [idB] using g0
          rw [g2] at HMY
          have hval : (decide (p < id) && mayT ⟨id, rate, burst, bkt, gone⟩) = false := by unfold mayT fullB zeroB; simp only [g0, g2]; simp [g1, g3, g4, g5, g6, g7] <;> (first | omega | (intros; omega))
          rw [hval] at HST
          subst g5
          subst g6
          have fg1 : decide (id ≤ p) = false := decide_eq_false (by omega)
          have fg3 : decide (bkt < 0) = false := decide_eq_false (by omega)
          have fg4 : decide (1000000000 < bkt) = false := decide_eq_false (by omega)
          have fg7 : (burst != 0) = true := bne_iff_ne.2 g7
          clear hval hid
          go_wp2_with fail
          (refine wp_region_quiet_lit (by kernel_rfl) (by kernel_rfl) ?_; (repeat (first | go_big_quiet_step ((first | (go_at_call 82; exact quiet_left (HID.out _)) | (go_at_call 83; exact quiet_left (HMY.out _)))) | (refine BigFrame.wpQuiet_skip (by rfl) ?_; try simp only [Act.put, List.setIfInBounds_toArray, List.set_cons_zero, List.set_cons_succ]))); refine wpQuiet_nil ?_; intro _ hw9; obtain ⟨nq, hw8⟩ := hw9; subst hw8)
          go_wp2_with fail
          go_ret
          exact ⟨ret_bool (by rw [HST.out]; rfl), below_dN HBX.out nq⟩
        · rw [g0] at HID
          have hid : 1 ≤ id ∧ id ≤ 16 := by simpa [idB] using g0
          rw [g2] at HMY
          have hval : (decide (p < id) && mayT ⟨id, rate, burst, bkt, gone⟩) = false := by unfold mayT fullB zeroB; simp only [g0, g2]; simp [g1, g3, g4, g5, g6, g7, g8] <;> (first | omega | (intros; omega))
          rw [hval] at HST
          subst g5
          subst g6
          subst g7
          have fg1 : decide (id ≤ p) = false := decide_eq_false (by omega)
          have fg3 : decide (bkt < 0) = false := decide_eq_false (by omega)
          have fg4 : decide (1000000000 < bkt) = false := decide_eq_false (by omega)
          have fg8 : (bkt != 0) = true := bne_iff_ne.2 g8
          clear hval hid
          go_wp2_with fail
          (refine wp_region_quiet_lit (by kernel_rfl) (by kernel_rfl) ?_; (repeat (first | go_big_quiet_step ((first | (go_at_call 82; exact quiet_left (HID.out _)) | (go_at_call 83; exact quiet_left (HMY.out _)))) | (refine BigFrame.wpQuiet_skip (by rfl) ?_; try simp only [Act.put, List.setIfInBounds_toArray, List.set_cons_zero, List.set_cons_succ]))); refine wpQuiet_nil ?_; intro _ hw9; obtain ⟨nq, hw8⟩ := hw9; subst hw8)
          go_wp2_with fail
          go_ret
          exact ⟨ret_bool (by rw [HST.out]; rfl), below_dN HBX.out nq⟩
        · rw [g0] at HID
          have hid : 1 ≤ id ∧ id ≤ 16 := by simpa [idB] using g0
          rw [g2] at HMY
          have hval : (decide (p < id) && mayT ⟨id, rate, burst, bkt, gone⟩) = true := by unfold mayT fullB zeroB; simp only [g0, g2]; simp [g1, g3, g4, g5, g6, g7, g8] <;> (first | omega | (intros; omega))
          rw [hval] at HST
          subst g5
          subst g6
          subst g7
          subst g8
          have fg1 : decide (id ≤ p) = false := decide_eq_false (by omega)
          clear hval hid
          go_wp2_with fail
          (refine wp_region_quiet_lit (by kernel_rfl) (by kernel_rfl) ?_; (repeat (first | go_big_quiet_step ((first | (go_at_call 82; exact quiet_left (HID.out _)) | (go_at_call 83; exact quiet_left (HMY.out _)))) | (refine BigFrame.wpQuiet_skip (by rfl) ?_; try simp only [Act.put, List.setIfInBounds_toArray, List.set_cons_zero, List.set_cons_succ]))); refine wpQuiet_nil ?_; intro _ hw9; obtain ⟨nq, hw8⟩ := hw9; subst hw8)
          go_wp2_with fail
          go_roundw
          case rel => exact ⟨k + 1, by omega, by go_num, by rw [HPS.out, HST.out]; simp, below_dN HBX.out nq⟩
          case measure => first | (simp [intOf]; done) | (simp [intOf]; omega)
    · obtain rfl : k = n := by omega
      have hE : chk L = true := by rw [← HC.out, HN.out]; exact chk_end _ _
      go_wp2_with fail
      go_ret
      exact ⟨ret_bool hE.symm, HB.out⟩
end Go.Proofs.Ytpgpcgpecpimlaa
