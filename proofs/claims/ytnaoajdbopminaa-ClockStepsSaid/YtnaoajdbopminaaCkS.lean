/-
  The law ClockSteps, walked.
-/
import Derived.Test.YtnaoajdbopminaaCk4
import Derived.Deep.RegionHeld3
import Derived.Deep.DeepCutAuto
import Derived.OrdersHeld
namespace Go.Proofs.Ytnaoajdbopminaa
open Go.RowKit
set_option linter.unusedSimpArgs false
set_option linter.unusedVariables false

set_option maxRecDepth 100000 in
set_option maxHeartbeats 1000000 in
theorem csteps_out (rho : Int) (a : Option Addr) (len cap : Nat) (hcap : len ≤ cap) (hmax : cap ≤ maxLen) (w : World) (hg : 200 < len ∨ (len ≤ 200 ∧ (rho < 0 ∨ 200 < rho))) :
    Calls Try.prog 3 #[.int .i64 rho, .slice a len cap] w fun e w' => e = .returned (.bool true) ∧ Below w.heap.size w w' := by
  unfold maxLen at hmax
  rcases hg with h | ⟨h1, h⟩
  · go_enter Try.func3, Try.ntmps3
    go_wp2_with (first
      | (go_at_call 15; refine (wakes_any _).mono ?_; rintro e w1 ⟨rfl, hB1⟩))
    go_ret
    exact ⟨rfl, hB1⟩
  · go_enter Try.func3, Try.ntmps3
    go_wp2_with (first
      | (go_at_call 16; refine (new_bad _ h _).mono ?_; rintro e w' ⟨rfl, rfl⟩)
      | (go_at_call 17; refine (rnew_bad _ h _).mono ?_; rintro e w' ⟨rfl, rfl⟩)
      | (go_at_call 18; refine (now_nil _).mono ?_; rintro e w' ⟨rfl, rfl⟩)
      | (go_at_call 19; refine (true_nil _).mono ?_; rintro e w' ⟨rfl, rfl⟩)
      | (go_at_call 20; refine (step_nil _ _ _).mono ?_; rintro e w' ⟨rfl, rfl⟩)
      | (go_at_call 21; refine (copy_nil _).mono ?_; rintro e w' ⟨rfl, rfl⟩)
      | (go_at_call 15; refine (wakes_any _).mono ?_; rintro e w1 ⟨rfl, hB1⟩))
    go_ret
    exact ⟨rfl, hB1⟩

theorem cell_of_block {W W' : World} {b : Nat} (h : W'.heap[b]? = W.heap[b]?) (o : Nat) : W'.cell? ⟨b, o, none⟩ = W.cell? ⟨b, o, none⟩ := by simp [World.cell?, h]

/-- what holds in the worlds to come may be said more strongly, midway -/
theorem wpAnyH_imp {P : Program} {md : Region.Mode} {ops : Array Oper} {Q : Exit → Act → World → Prop} {S S' : World → Prop} (h : ∀ W, S' W → S W) : ∀ (fuel : Nat) (listed : Array Bool) (a : Act) (w : World), wpAnyH P md ops Q S' fuel listed a w → wpAnyH P md ops Q S fuel listed a w
  | 0, _, _, _, k => k
  | fuel + 1, _, _, _, k => ⟨k.1, fun i hi => wpOp_mono (fun a' w' q => ⟨h _ q.1, wpAnyH_imp h fuel _ a' w' q.2⟩) (k.2 i hi)⟩

theorem CkAt.drew {w : World} {g : Nat} {now ticks rho : Int} (h : CkAt w g now ticks rho) : CkAt w.drew g now ticks rho := h

set_option maxRecDepth 100000 in
set_option maxHeartbeats 60000000 in
theorem csteps_in (rho : Int) (a : Option Addr) (len cap gb go : Nat) (T S : Nat → Int) (w : World) (r0 : 0 ≤ rho) (r1 : rho ≤ 200) (hl : len ≤ 200) (hs : StepsIn w a len cap gb go T S) :
    Calls Try.prog 3 #[.int .i64 rho, .slice a len cap] w fun e w' => e = .returned (.bool true) ∧ Below w.heap.size w w' := by
  have HS := Lib.hid hs
  clear hs
  go_enter Try.func3, Try.ntmps3
  go_wp2_with (first
    | (go_at_call 16; refine (new_ok _ r0 r1 _).mono ?_; rintro e w' ⟨rfl, rfl⟩)
    | (go_at_call 17; refine (rnew_ok _ r0 r1 _).mono ?_; rintro e w' ⟨rfl, rfl⟩))
  go_loopw [5, 61] (fun vc vi wr => ∃ (k g : Nat) (now ticks : Int), k ≤ len ∧ vi = .int .i64 k ∧ vc = .pointer (some ⟨g, 0, none⟩) ∧ CkOk now ticks rho ∧ CkAt wr g now ticks rho ∧ RcAt wr (w.heap.size + 1) now ticks rho ∧ w.heap.size ≤ g ∧ g ≠ w.heap.size + 1 ∧ Below w.heap.size w wr) (fun _ vi _ => len - (intOf vi).toNat)
  case atStart => exact ⟨0, w.heap.size, 0, 0, Nat.zero_le _, rfl, rfl, CkOk.zero r0 r1, (Below.heap_alloc _ _ _ (by simp)).trans (heap_alloc_new w _), (by have h := heap_alloc_new (w.alloc (.cells #[.int .i64 0, .int .i64 0, .int .i64 rho] 96 (0, 0))) (.cells #[.int .i64 rho, .int .i64 0, .int .i64 0] 37 (0, 0)); simp only [World.size_alloc, Array.size_push, World.alloc] at h ⊢; exact h), Nat.le_refl _, by omega, ((Below.refl _ _).alloc (Nat.le_refl _) _).alloc (by simp) _⟩
  case round =>
    obtain ⟨k, g, now, ticks, hk, rfl, rfl, ok, hc, hr, gm, gne, hB⟩ := hrel
    by_cases hlt : k < len
    · obtain ⟨e0, e1, c0, c1⟩ := HS.out.in_ hB hlt
      subst e0
      have HC := Lib.hid hc
      have HR := Lib.hid hr
      clear hc hr
      have hm3 : Int.tmod (k : Int) 3 = ((k % 3 : Nat) : Int) := rfl
      have hgz := lt_of_block HC.out
      have hrz := lt_of_block HR.out
      have hC1 : CkAt (wr.alloc (.cells #[.int .i64 (T k), .int .i64 (S k)] 35)) g now ticks rho := (Below.heap_alloc _ _ _ hgz).trans HC.out
      have hR1 : RcAt (wr.alloc (.cells #[.int .i64 (T k), .int .i64 (S k)] 35)) (w.heap.size + 1) now ticks rho := (Below.heap_alloc _ _ _ hrz).trans HR.out
      have hX1 : (wr.alloc (.cells #[.int .i64 (T k), .int .i64 (S k)] 35)).heap[wr.heap.size]? = some (.cells #[.int .i64 (T k), .int .i64 (S k)] 35 (0, 0)) := heap_alloc_new _ _
      have hB1 : Below w.heap.size w (wr.alloc (.cells #[.int .i64 (T k), .int .i64 (S k)] 35)) := hB.alloc hB.size _
      have hz1 : (wr.alloc (.cells #[.int .i64 (T k), .int .i64 (S k)] 35)).heap.size = wr.heap.size + 1 := by simp
      have hwz := hB.size
      have HC1 := Lib.hid hC1
      have HR1 := Lib.hid hR1
      have HX1 := Lib.hid hX1
      clear hC1 hR1 hX1
      go_upto_if 68 with fail
      go_cut [5] (fun vc wx => ∃ g, vc = .pointer (some ⟨g, 0, none⟩) ∧ CkAt wx g now ticks rho ∧ RcAt wx (w.heap.size + 1) now ticks rho ∧ w.heap.size ≤ g ∧ g ≠ w.heap.size + 1 ∧ wx.cell? ⟨wr.heap.size, 0, none⟩ = some (.int .i64 (T k)) ∧ wx.cell? ⟨wr.heap.size, 1, none⟩ = some (.int .i64 (S k)) ∧ g ≠ wr.heap.size ∧ wr.heap.size < wx.heap.size ∧ Below w.heap.size w wx)
      case first =>
        by_cases h3 : k % 3 = 2
        · rw [h3] at hm3
          go_wp2_with (first
            | (go_at_call 21; refine (copy_any g now ticks rho _ HC1.out).mono ?_; rintro e W1 ⟨rfl, rfl⟩)
            | (go_at_call 20; refine (step_any g now ticks rho 5 5000 _ ((Below.heap_alloc _ _ _ (by omega)).trans HC1.out) ok).mono ?_; rintro e W2 ⟨rfl, hf2, hk2⟩))
          all_goals
            go_meet
            have hN : CkAt ((wr.alloc (.cells #[.int .i64 (T k), .int .i64 (S k)] 35)).alloc (.cells #[.int .i64 now, .int .i64 ticks, .int .i64 rho] 96)) (wr.heap.size + 1) now ticks rho := by
              have h := heap_alloc_new (wr.alloc (.cells #[.int .i64 (T k), .int .i64 (S k)] 35)) (.cells #[.int .i64 now, .int .i64 ticks, .int .i64 rho] 96 (0, 0))
              rw [hz1] at h
              exact h
            have hsz2 : ((wr.alloc (.cells #[.int .i64 (T k), .int .i64 (S k)] 35)).alloc (.cells #[.int .i64 now, .int .i64 ticks, .int .i64 rho] 96)).heap.size = wr.heap.size + 2 := by simp
            have hz2 := hf2.size
            have hX2 := (hf2.block wr.heap.size (by omega) (by simp; omega)).trans ((Below.heap_alloc _ _ _ (by omega)).trans HX1.out)
            have hB2 := hf2.below (B := w.heap.size) (by omega) (by simpa using gm)
            exact ⟨wr.heap.size + 1, by first | rfl | simp, (hf2.block (wr.heap.size + 1) (by omega) (by simp; omega)).trans hN, (hf2.block (w.heap.size + 1) (by omega) (by simp; omega)).trans ((Below.heap_alloc _ _ _ (by omega)).trans HR1.out), by omega, by omega, cell_at hX2 0, cell_at hX2 1, by omega, by omega, (hB1.alloc hB1.size _).trans hB2⟩
        · have hm4 : (((k % 3 : Nat) : Int) == 2) = false := by rw [beq_eq_false_iff_ne]; omega
          go_wp2_with fail
          all_goals
            go_meet
            exact ⟨g, rfl, HC1.out, HR1.out, gm, gne, cell_at HX1.out 0, cell_at HX1.out 1, by omega, by omega, hB1⟩
      case rest =>
        obtain ⟨g2, rfl, hc2, hr2, gm2, gne2, x0, x1, gx, hzx, hBx⟩ := hcut
        have okn := ok.any (T k) (S k)
        have hgz2 := lt_of_block hc2
        have hrz2 := lt_of_block hr2
        go_upto_region 18 with fail
        obtain ⟨n1, hn1⟩ : ∃ n, n = stepN now ticks rho (T k) (S k) := ⟨_, rfl⟩
        obtain ⟨t1, ht1⟩ : ∃ n, n = stepT ticks (T k) := ⟨_, rfl⟩
        obtain ⟨e1, he1⟩ : ∃ n, n = stepE ticks (T k) := ⟨_, rfl⟩
        have hnt : ∀ W, CkAt W g2 (stepN now ticks rho (T k) (S k)) (stepT ticks (T k)) rho → CkAt W g2 n1 t1 rho := fun W h => by rw [hn1, ht1]; exact h
        have hnt2 : ∀ W, RcAt W (w.heap.size + 1) (stepN now ticks rho (T k) (S k)) (stepT ticks (T k)) rho → RcAt W (w.heap.size + 1) n1 t1 rho := fun W h => by rw [hn1, ht1]; exact h
        rw [← hn1, ← ht1] at okn
        have HE1 := Lib.hid he1
        have HC2 := Lib.hid hc2
        have HR2 := Lib.hid hr2
        have hok := Lib.hid ok
        clear hn1 ht1 he1 hc2 hr2
        refine wp_region_held_drew (S := fun X => X.cell? ⟨wr.heap.size, 0, none⟩ = some (.int .i64 (T k)) ∧ X.cell? ⟨wr.heap.size, 1, none⟩ = some (.int .i64 (S k))) (by kernel_rfl) ⟨x0, x1⟩ (fun hHeld => ?_)
        ((refine wpAnyH_take (i := 0) (v := ?_) (by (simp only [List.getElem?_toArray, List.getElem?_cons_succ, List.getElem?_cons_zero]); rfl) (by kernel_rfl) (by kernel_rfl) (by kernel_rfl) (by exact fun _ _ _ h => h) (Or.inl ⟨by rfl, ?_⟩) (by assumption) ?_); rotate_left; focus (intro wS hSw; (try dsimp only at hSw); go_simp; first | done | with_reducible rfl); try simp only [Act.put, List.setIfInBounds_toArray, List.set_cons_zero, List.set_cons_succ])
        ((refine wpAnyH_take (i := 1) (v := ?_) (by (simp only [List.getElem?_toArray, List.getElem?_cons_succ, List.getElem?_cons_zero]); rfl) (by kernel_rfl) (by kernel_rfl) (by kernel_rfl) (by exact fun _ _ _ h => h) (Or.inl ⟨by rfl, ?_⟩) (by assumption) ?_); rotate_left; focus (intro wS hSw; (try dsimp only at hSw); go_simp; first | done | with_reducible rfl); try simp only [Act.put, List.setIfInBounds_toArray, List.set_cons_zero, List.set_cons_succ])
        ((refine wpAnyH_take (i := 2) (v := ?_) (by (simp only [List.getElem?_toArray, List.getElem?_cons_succ, List.getElem?_cons_zero]); rfl) (by kernel_rfl) (by kernel_rfl) (by kernel_rfl) (by exact fun _ _ _ h => h) (Or.inl ⟨by rfl, ?_⟩) (by assumption) ?_); rotate_left; focus (intro wS hSw; obtain ⟨q0, q1⟩ := hSw; go_simp; first | done | with_reducible rfl); try simp only [Act.put, List.setIfInBounds_toArray, List.set_cons_zero, List.set_cons_succ])
        ((refine wpAnyH_take (i := 3) (v := ?_) (by (simp only [List.getElem?_toArray, List.getElem?_cons_succ, List.getElem?_cons_zero]); rfl) (by kernel_rfl) (by kernel_rfl) (by kernel_rfl) (by exact fun _ _ _ h => h) (Or.inl ⟨by rfl, ?_⟩) (by assumption) ?_); rotate_left; focus (intro wS hSw; (try dsimp only at hSw); go_simp; first | done | with_reducible rfl); try simp only [Act.put, List.setIfInBounds_toArray, List.set_cons_zero, List.set_cons_succ])
        ((refine wpAnyH_take (i := 4) (v := ?_) (by (simp only [List.getElem?_toArray, List.getElem?_cons_succ, List.getElem?_cons_zero]); rfl) (by kernel_rfl) (by kernel_rfl) (by kernel_rfl) (by exact fun _ _ _ h => h) (Or.inl ⟨by rfl, ?_⟩) (by assumption) ?_); rotate_left; focus (intro wS hSw; obtain ⟨q0, q1⟩ := hSw; go_simp; first | done | with_reducible rfl); try simp only [Act.put, List.setIfInBounds_toArray, List.set_cons_zero, List.set_cons_succ])
        ((refine wpAnyH_take (i := 6) (v := ?_) (by (simp only [List.getElem?_toArray, List.getElem?_cons_succ, List.getElem?_cons_zero]); rfl) (by kernel_rfl) (by kernel_rfl) (by kernel_rfl) (by exact fun _ _ _ h => h) (Or.inl ⟨by rfl, ?_⟩) (by assumption) ?_); rotate_left; focus (intro wS hSw; (try dsimp only at hSw); go_simp; first | done | with_reducible rfl); try simp only [Act.put, List.setIfInBounds_toArray, List.set_cons_zero, List.set_cons_succ])
        ((refine wpAnyH_take (i := 7) (v := ?_) (by (simp only [List.getElem?_toArray, List.getElem?_cons_succ, List.getElem?_cons_zero]); rfl) (by kernel_rfl) (by kernel_rfl) (by kernel_rfl) (by exact fun _ _ _ h => h) (Or.inl ⟨by rfl, ?_⟩) (by assumption) ?_); rotate_left; focus (intro wS hSw; (try dsimp only at hSw); go_simp; first | done | with_reducible rfl); try simp only [Act.put, List.setIfInBounds_toArray, List.set_cons_zero, List.set_cons_succ])
        ((refine wpAnyH_take (i := 8) (v := ?_) (by (simp only [List.getElem?_toArray, List.getElem?_cons_succ, List.getElem?_cons_zero]); rfl) (by kernel_rfl) (by kernel_rfl) (by kernel_rfl) (by exact fun _ _ _ h => h) (Or.inl ⟨by rfl, ?_⟩) (by assumption) ?_); rotate_left; focus (intro wS hSw; obtain ⟨q0, q1⟩ := hSw; go_simp; first | done | with_reducible rfl); try simp only [Act.put, List.setIfInBounds_toArray, List.set_cons_zero, List.set_cons_succ])
        ((refine wpAnyH_take (i := 9) (v := ?_) (by (simp only [List.getElem?_toArray, List.getElem?_cons_succ, List.getElem?_cons_zero]); rfl) (by kernel_rfl) (by kernel_rfl) (by kernel_rfl) (by exact fun _ _ _ h => h) (Or.inl ⟨by rfl, ?_⟩) (by assumption) ?_); rotate_left; focus (intro wS hSw; (try dsimp only at hSw); go_simp; first | done | with_reducible rfl); try simp only [Act.put, List.setIfInBounds_toArray, List.set_cons_zero, List.set_cons_succ])
        ((refine wpAnyH_take (i := 10) (v := ?_) (by (simp only [List.getElem?_toArray, List.getElem?_cons_succ, List.getElem?_cons_zero]); rfl) (by kernel_rfl) (by kernel_rfl) (by kernel_rfl) (by exact fun _ _ _ h => h) (Or.inl ⟨by rfl, ?_⟩) (by assumption) ?_); rotate_left; focus (intro wS hSw; obtain ⟨q0, q1⟩ := hSw; go_simp; first | done | with_reducible rfl); try simp only [Act.put, List.setIfInBounds_toArray, List.set_cons_zero, List.set_cons_succ])
        ((refine wpAnyH_ready (rs := [5]) (by kernel_rfl) (by simp) ?_); (refine AllReadyH.cons (by (simp only [List.getElem?_toArray, List.getElem?_cons_succ, List.getElem?_cons_zero]); rfl) (fun K hK => ?_) AllReadyH.nil); go_simp; refine (step_any g2 now ticks rho (T k) (S k) _ (by exact HC2.out) hok.out).mono ?_)
        rw [← HE1.out]
        rintro e W1 ⟨rfl, hf1, hk1⟩
        have y0 := (cell_of_block (hf1.block wr.heap.size (by exact hzx) (by simp; omega)) 0).trans x0
        have y1 := (cell_of_block (hf1.block wr.heap.size (by exact hzx) (by simp; omega)) 1).trans x1
        have HF1 := Lib.hid hf1
        have HK1 := Lib.hid hk1
        clear hf1 hk1
        go_wp2_with fail
        refine hK.out _ _ ⟨y0, y1⟩ (fun hHeld => ?_)
        clear hK K
        try simp only [Act.put, List.setIfInBounds_toArray, List.set_cons_zero, List.set_cons_succ]
        have hr9 := (HF1.out.block _ (by exact hrz2) (by simp; omega)).trans HR2.out
        have HR9 := Lib.hid hr9
        clear hr9
        ((refine wpAnyH_ready (rs := [11]) (by kernel_rfl) (by simp) ?_); (refine AllReadyH.cons (by (simp only [List.getElem?_toArray, List.getElem?_cons_succ, List.getElem?_cons_zero]); rfl) (fun K hK => ?_) AllReadyH.nil); go_simp; refine (rstep_any (w.heap.size + 1) now ticks rho (T k) (S k) _ HR9.out hok.out).mono ?_)
        rw [← HE1.out]
        rintro e W2 ⟨rfl, hf2, hk2⟩
        have z0 := (cell_of_block (hf2.block wr.heap.size (by have := HF1.out.size; exact Nat.lt_of_lt_of_le hzx this) (by simp; omega)) 0).trans y0
        have z1 := (cell_of_block (hf2.block wr.heap.size (by have := HF1.out.size; exact Nat.lt_of_lt_of_le hzx this) (by simp; omega)) 1).trans y1
        have d1 : W2.cell? ⟨w.heap.size + 1, 1, none⟩ = some (.int .i64 t1) := cell_at (hnt2 _ hk2) 1
        have d2 : W2.cell? ⟨w.heap.size + 1, 2, none⟩ = some (.int .i64 n1) := cell_at (hnt2 _ hk2) 2
        have hk1' := (hf2.block g2 (Nat.lt_of_lt_of_le (by exact hgz2) HF1.out.size) (by simp; omega)).trans (hnt _ HK1.out)
        have HF2 := Lib.hid hf2
        have HK2 := Lib.hid hk2
        have HK1' := Lib.hid hk1'
        clear hf2 hk2 hk1'
        go_wp2_with fail
        refine hK.out _ _ ⟨z0, z1⟩ (fun hHeld => ?_)
        clear hK K hHeld
        try simp only [Act.put, List.setIfInBounds_toArray, List.set_cons_zero, List.set_cons_succ]
        refine wpAnyH_imp (S' := fun X => (X.cell? ⟨wr.heap.size, 0, none⟩ = some (.int .i64 (T k)) ∧ X.cell? ⟨wr.heap.size, 1, none⟩ = some (.int .i64 (S k))) ∧ X.cell? ⟨w.heap.size + 1, 1, none⟩ = some (.int .i64 t1) ∧ X.cell? ⟨w.heap.size + 1, 2, none⟩ = some (.int .i64 n1)) (fun _ h => h.1) _ _ _ _ ?_
        have hHeld : (W2.cell? ⟨wr.heap.size, 0, none⟩ = some (.int .i64 (T k)) ∧ W2.cell? ⟨wr.heap.size, 1, none⟩ = some (.int .i64 (S k))) ∧ W2.cell? ⟨w.heap.size + 1, 1, none⟩ = some (.int .i64 t1) ∧ W2.cell? ⟨w.heap.size + 1, 2, none⟩ = some (.int .i64 n1) := ⟨⟨z0, z1⟩, d1, d2⟩
        ((refine wpAnyH_take (i := 12) (v := ?_) (by (simp only [List.getElem?_toArray, List.getElem?_cons_succ, List.getElem?_cons_zero]); rfl) (by kernel_rfl) (by kernel_rfl) (by kernel_rfl) (by exact fun _ _ _ h => h) (Or.inl ⟨by rfl, ?_⟩) (by assumption) ?_); rotate_left; focus (intro wS hSw; (try dsimp only at hSw); go_simp; first | done | with_reducible rfl); try simp only [Act.put, List.setIfInBounds_toArray, List.set_cons_zero, List.set_cons_succ])
        ((refine wpAnyH_take (i := 13) (v := ?_) (by (simp only [List.getElem?_toArray, List.getElem?_cons_succ, List.getElem?_cons_zero]); rfl) (by kernel_rfl) (by kernel_rfl) (by kernel_rfl) (by exact fun _ _ _ h => h) (Or.inl ⟨by rfl, ?_⟩) (by assumption) ?_); rotate_left; focus (intro wS hSw; (try dsimp only at hSw); go_simp; first | done | with_reducible rfl); try simp only [Act.put, List.setIfInBounds_toArray, List.set_cons_zero, List.set_cons_succ])
        ((refine wpAnyH_take (i := 14) (v := ?_) (by (simp only [List.getElem?_toArray, List.getElem?_cons_succ, List.getElem?_cons_zero]); rfl) (by kernel_rfl) (by kernel_rfl) (by kernel_rfl) (by exact fun _ _ _ h => h) (Or.inl ⟨by (go_simp; try rfl), ?_⟩) (by assumption) ?_); rotate_left; focus (intro wS hSw; (try dsimp only at hSw); go_simp; first | done | with_reducible rfl); try simp only [Act.put, List.setIfInBounds_toArray, List.set_cons_zero, List.set_cons_succ])
        ((refine wpAnyH_take (i := 16) (v := ?_) (by (simp only [List.getElem?_toArray, List.getElem?_cons_succ, List.getElem?_cons_zero]); rfl) (by kernel_rfl) (by kernel_rfl) (by kernel_rfl) (by exact fun _ _ _ h => h) (Or.inl ⟨by (go_simp; try rfl), ?_⟩) (by assumption) ?_); rotate_left; focus (intro wS hSw; (try dsimp only at hSw); go_simp; first | done | with_reducible rfl); try simp only [Act.put, List.setIfInBounds_toArray, List.set_cons_zero, List.set_cons_succ])
        ((refine wpAnyH_take (i := 17) (v := ?_) (by (simp only [List.getElem?_toArray, List.getElem?_cons_succ, List.getElem?_cons_zero]); rfl) (by kernel_rfl) (by kernel_rfl) (by kernel_rfl) (by exact fun _ _ _ h => h) (Or.inl ⟨by (go_simp; try rfl), ?_⟩) (by assumption) ?_); rotate_left; focus (intro wS hSw; (try dsimp only at hSw); go_simp; first | done | with_reducible rfl); try simp only [Act.put, List.setIfInBounds_toArray, List.set_cons_zero, List.set_cons_succ])
        ((refine wpAnyH_take (i := 18) (v := ?_) (by (simp only [List.getElem?_toArray, List.getElem?_cons_succ, List.getElem?_cons_zero]); rfl) (by kernel_rfl) (by kernel_rfl) (by kernel_rfl) (by exact fun _ _ _ h => h) (Or.inl ⟨by (go_simp; try rfl), ?_⟩) (by assumption) ?_); rotate_left; focus (intro wS hSw; (try dsimp only at hSw); go_simp; first | done | with_reducible rfl); try simp only [Act.put, List.setIfInBounds_toArray, List.set_cons_zero, List.set_cons_succ])
        ((refine wpAnyH_take (i := 19) (v := ?_) (by (simp only [List.getElem?_toArray, List.getElem?_cons_succ, List.getElem?_cons_zero]); rfl) (by kernel_rfl) (by kernel_rfl) (by kernel_rfl) (by exact fun _ _ _ h => h) (Or.inl ⟨by (go_simp; try rfl), ?_⟩) (by assumption) ?_); rotate_left; focus (intro wS hSw; obtain ⟨⟨q0, q1⟩, q2, q3⟩ := hSw; go_simp; first | done | with_reducible rfl); try simp only [Act.put, List.setIfInBounds_toArray, List.set_cons_zero, List.set_cons_succ])
        ((refine wpAnyH_ready (rs := [15]) (by kernel_rfl) (by simp) ?_); (refine AllReadyH.cons (by (simp only [List.getElem?_toArray, List.getElem?_cons_succ, List.getElem?_cons_zero]); rfl) (fun K hK => ?_) AllReadyH.nil); go_simp; refine (now_any _ _ _ _ _ HK1'.out).mono ?_)
        rintro e w' ⟨rfl, rfl⟩
        go_wp2_with fail
        refine hK.out _ _ ⟨⟨z0, z1⟩, d1, d2⟩ (fun hHeld => ?_)
        clear hK K
        try simp only [Act.put, List.setIfInBounds_toArray, List.set_cons_zero, List.set_cons_succ]
        ((refine wpAnyH_take (i := 20) (v := ?_) (by (simp only [List.getElem?_toArray, List.getElem?_cons_succ, List.getElem?_cons_zero]); rfl) (by kernel_rfl) (by kernel_rfl) (by kernel_rfl) (by exact fun _ _ _ h => h) (Or.inl ⟨by (go_simp; try rfl), ?_⟩) (by assumption) ?_); rotate_left; focus (intro wS hSw; (try dsimp only at hSw); go_simp; first | done | with_reducible rfl); try simp only [Act.put, List.setIfInBounds_toArray, List.set_cons_zero, List.set_cons_succ])
        ((refine wpAnyH_take (i := 21) (v := ?_) (by (simp only [List.getElem?_toArray, List.getElem?_cons_succ, List.getElem?_cons_zero]); rfl) (by kernel_rfl) (by kernel_rfl) (by kernel_rfl) (by exact fun _ _ _ h => h) (Or.inl ⟨by rfl, ?_⟩) (by assumption) ?_); rotate_left; focus (intro wS hSw; (try dsimp only at hSw); go_simp; first | done | with_reducible rfl); try simp only [Act.put, List.setIfInBounds_toArray, List.set_cons_zero, List.set_cons_succ])
        ((refine wpAnyH_take (i := 22) (v := ?_) (by (simp only [List.getElem?_toArray, List.getElem?_cons_succ, List.getElem?_cons_zero]); rfl) (by kernel_rfl) (by kernel_rfl) (by kernel_rfl) (by exact fun _ _ _ h => h) (Or.inl ⟨by rfl, ?_⟩) (by assumption) ?_); rotate_left; focus (intro wS hSw; (try dsimp only at hSw); go_simp; first | done | with_reducible rfl); try simp only [Act.put, List.setIfInBounds_toArray, List.set_cons_zero, List.set_cons_succ])
        ((refine wpAnyH_take (i := 23) (v := ?_) (by (simp only [List.getElem?_toArray, List.getElem?_cons_succ, List.getElem?_cons_zero]); rfl) (by kernel_rfl) (by kernel_rfl) (by kernel_rfl) (by exact fun _ _ _ h => h) (Or.inl ⟨by (go_simp; try rfl), ?_⟩) (by assumption) ?_); rotate_left; focus (intro wS hSw; (try dsimp only at hSw); go_simp; first | done | with_reducible rfl); try simp only [Act.put, List.setIfInBounds_toArray, List.set_cons_zero, List.set_cons_succ])
        ((refine wpAnyH_take (i := 25) (v := ?_) (by (simp only [List.getElem?_toArray, List.getElem?_cons_succ, List.getElem?_cons_zero]); rfl) (by kernel_rfl) (by kernel_rfl) (by kernel_rfl) (by exact fun _ _ _ h => h) (Or.inl ⟨by (go_simp; try rfl), ?_⟩) (by assumption) ?_); rotate_left; focus (intro wS hSw; (try dsimp only at hSw); go_simp; first | done | with_reducible rfl); try simp only [Act.put, List.setIfInBounds_toArray, List.set_cons_zero, List.set_cons_succ])
        ((refine wpAnyH_take (i := 26) (v := ?_) (by (simp only [List.getElem?_toArray, List.getElem?_cons_succ, List.getElem?_cons_zero]); rfl) (by kernel_rfl) (by kernel_rfl) (by kernel_rfl) (by exact fun _ _ _ h => h) (Or.inl ⟨by (go_simp; try rfl), ?_⟩) (by assumption) ?_); rotate_left; focus (intro wS hSw; (try dsimp only at hSw); go_simp; first | done | with_reducible rfl); try simp only [Act.put, List.setIfInBounds_toArray, List.set_cons_zero, List.set_cons_succ])
        ((refine wpAnyH_take (i := 27) (v := ?_) (by (simp only [List.getElem?_toArray, List.getElem?_cons_succ, List.getElem?_cons_zero]); rfl) (by kernel_rfl) (by kernel_rfl) (by kernel_rfl) (by exact fun _ _ _ h => h) (Or.inl ⟨by (go_simp; try rfl), ?_⟩) (by assumption) ?_); rotate_left; focus (intro wS hSw; (try dsimp only at hSw); go_simp; first | done | with_reducible rfl); try simp only [Act.put, List.setIfInBounds_toArray, List.set_cons_zero, List.set_cons_succ])
        ((refine wpAnyH_take (i := 28) (v := ?_) (by (simp only [List.getElem?_toArray, List.getElem?_cons_succ, List.getElem?_cons_zero]); rfl) (by kernel_rfl) (by kernel_rfl) (by kernel_rfl) (by exact fun _ _ _ h => h) (Or.inl ⟨by (go_simp; try rfl), ?_⟩) (by assumption) ?_); rotate_left; focus (intro wS hSw; obtain ⟨⟨q0, q1⟩, q2, q3⟩ := hSw; go_simp; first | done | with_reducible rfl); try simp only [Act.put, List.setIfInBounds_toArray, List.set_cons_zero, List.set_cons_succ])
        ((refine wpAnyH_ready (rs := [24]) (by kernel_rfl) (by simp) ?_); (refine AllReadyH.cons (by (simp only [List.getElem?_toArray, List.getElem?_cons_succ, List.getElem?_cons_zero]); rfl) (fun K hK => ?_) AllReadyH.nil); go_simp; refine (true_any _ _ _ _ _ HK1'.out).mono ?_)
        rintro e w' ⟨rfl, rfl⟩
        go_wp2_with fail
        refine hK.out _ _ ⟨⟨z0, z1⟩, d1, d2⟩ (fun hHeld => ?_)
        clear hK K
        try simp only [Act.put, List.setIfInBounds_toArray, List.set_cons_zero, List.set_cons_succ]
        ((refine wpAnyH_take (i := 29) (v := ?_) (by (simp only [List.getElem?_toArray, List.getElem?_cons_succ, List.getElem?_cons_zero]); rfl) (by kernel_rfl) (by kernel_rfl) (by kernel_rfl) (by exact fun _ _ _ h => h) (Or.inl ⟨by (go_simp; try rfl), ?_⟩) (by assumption) ?_); rotate_left; focus (intro wS hSw; (try dsimp only at hSw); go_simp; first | done | with_reducible rfl); try simp only [Act.put, List.setIfInBounds_toArray, List.set_cons_zero, List.set_cons_succ])
        ((refine wpAnyH_take (i := 30) (v := ?_) (by (simp only [List.getElem?_toArray, List.getElem?_cons_succ, List.getElem?_cons_zero]); rfl) (by kernel_rfl) (by kernel_rfl) (by kernel_rfl) (by exact fun _ _ _ h => h) (Or.inl ⟨by rfl, ?_⟩) (by assumption) ?_); rotate_left; focus (intro wS hSw; (try dsimp only at hSw); go_simp; first | done | with_reducible rfl); try simp only [Act.put, List.setIfInBounds_toArray, List.set_cons_zero, List.set_cons_succ])
        refine wpAnyH_done (by kernel_rfl) ?_ _
        go_wp2_with fail
        go_roundw
        case rel => exact ⟨k + 1, g2, n1, t1, by omega, by go_num, rfl, okn, HK1'.out, hnt2 _ HK2.out, gm2, gne2, (hBx.drew.trans (HF1.out.below (by exact hBx.size) (by simpa using gm2))).trans (HF2.out.below (Nat.le_trans hBx.size (by exact HF1.out.size)) (by simp))⟩
        case measure => simp [intOf]; omega
    · have : k = len := by omega
      subst this
      go_wp2_with (go_at_call 15; refine (wakes_any _).mono ?_; rintro e w1 ⟨rfl, hB1⟩)
      go_ret
      exact ⟨rfl, hB.trans (hB1.mono hB.size)⟩
theorem clockSteps_dt (rho : Int) (a : Option Addr) (len cap : Nat) (xs : List Dt) (w : World) (h : SliceFits Try.prog w 35 a len cap xs) :
    Calls Try.prog 3 #[.int .i64 rho, .slice a len cap] w fun e w' => e = .returned (.bool true) ∧ Below w.heap.size w w' := by
  obtain ⟨gb, go, T, S, hS⟩ := steps_cells w h
  by_cases h1 : 200 < len
  · exact csteps_out rho a len cap h.le h.max w (.inl h1)
  · by_cases h2 : rho < 0 ∨ 200 < rho
    · exact csteps_out rho a len cap h.le h.max w (.inr ⟨by omega, h2⟩)
    · exact csteps_in rho a len cap gb go T S w (by omega) (by omega) (by omega) hS
end Go.Proofs.Ytnaoajdbopminaa
