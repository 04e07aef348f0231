/-
  Package judge: Bound.
-/
import Derived.Test.YtcimcmfibinehaaJd9
namespace Go.Proofs.Ytcimcmfibinehaa
open Go.RowKit
set_option linter.unusedSimpArgs false
set_option linter.unusedVariables false

theorem within_id (n : Int) (w : World) (h0 : 0 ≤ n) (h1 : n ≤ 1099511627776) : Calls Try.prog 23 #[.int .i64 n, .int .i64 1099511627776] w fun e w' => e = .returned (.int .i64 n) ∧ w = w' := by
  go_enter Try.func23, Try.ntmps23
  go_wp2_with fail
  go_ret
  exact ⟨rfl, rfl⟩

theorem SpanE.fine.ok {x : SpanE} (h : x.fine) : x.ok := by
  unfold SpanE.fine at h
  unfold SpanE.ok
  omega
def hitB (t sh : Int) (x : SpanE) : Bool := decide (x.b ≤ t ∧ sh ≤ x.e)
def rateS (S : Nat → SpanE) (t sh : Int) : Nat → Int
  | 0 => 0
  | n + 1 => if hitB t sh (S n) then max (rateS S t sh n) (S n).r else rateS S t sh n
def burstS (S : Nat → SpanE) (t sh : Int) : Nat → Int
  | 0 => 0
  | n + 1 => if hitB t sh (S n) then max (burstS S t sh n) (S n).u else burstS S t sh n
theorem rateS_bd {S : Nat → SpanE} {t sh : Int} : ∀ {n : Nat}, (∀ k, k < n → (S k).fine) → 0 ≤ rateS S t sh n ∧ rateS S t sh n ≤ 1000000
  | 0, _ => by simp [rateS]
  | n + 1, h => by
    have ih := rateS_bd (t := t) (sh := sh) (n := n) fun k hk => h k (by omega)
    have hn := h n (by omega)
    unfold SpanE.fine at hn
    rw [rateS]
    split <;> omega
theorem burstS_bd {S : Nat → SpanE} {t sh : Int} : ∀ {n : Nat}, (∀ k, k < n → (S k).fine) → 0 ≤ burstS S t sh n ∧ burstS S t sh n ≤ 1000000
  | 0, _ => by simp [burstS]
  | n + 1, h => by
    have ih := burstS_bd (t := t) (sh := sh) (n := n) fun k hk => h k (by omega)
    have hn := h n (by omega)
    unfold SpanE.fine at hn
    rw [burstS]
    split <;> omega
/-- the bound, by the spans -/
def boundC (S : Nat → SpanE) (n : Nat) (s t sh : Int) : Int := 1000 * burstS S t sh n + rateS S t sh n * (t - s)
theorem prod_bd {R d : Int} (h0 : 0 ≤ R) (h1 : R ≤ 1000000) (h2 : 0 ≤ d) (h3 : d ≤ 1099511627776) : 0 ≤ R * d ∧ R * d ≤ 1099511627776000000 := by
  refine ⟨Int.mul_nonneg h0 h2, ?_⟩
  have : R * d ≤ 1000000 * 1099511627776 := Int.mul_le_mul h1 h3 h2 (by omega)
  omega

set_option maxRecDepth 100000 in
set_option maxHeartbeats 8000000 in
theorem bound_H (T s t h H : Int) (a : Option Addr) (n c b o : Nat) (F : Nat → ForceE) (w : World) (hs : ForceIn w a n c b o F) (hn : n ≤ 60) (hch : chkF F n = true) (s0 : 0 ≤ s) (s1 : s ≤ 1099511627776) (t0 : 0 ≤ t) (t1 : t ≤ 1099511627776) (hh : h ≤ 9223372036854775807) (hH : (h < 0 ∧ H = 0) ∨ (0 ≤ h ∧ H = h)) :
    Calls Try.prog 10 #[.slice a n c, .int .i64 T, .int .i64 s, .int .i64 t, .int .i64 h] w fun e w' => e = .returned (.int .i64 (if t ≤ s then 0 else boundC (spanC F T n).2 (spanC F T n).1 s t (s - H))) ∧ Below w.heap.size w w' := by
  have hm := hs.max
  have hl := hs.le
  unfold maxLen at hm
  have HS := Lib.hid hs
  have HF := Lib.hid (spanC_fine (T := T) hch)
  have hcl := spanC_le F T n
  clear hs hch
  by_cases hts : t ≤ s
  · rw [if_pos hts]
    rcases hH with ⟨g, rfl⟩ | ⟨g, rfl⟩
    all_goals
      go_enter Try.func10, Try.ntmps10
      go_wp2_with fail
      go_at_call 23
      refine (within_id _ _ s0 s1).mono ?_
      rintro e W ⟨rfl, rfl⟩
      go_wp2_with fail
      go_at_call 23
      refine (within_id _ _ t0 t1).mono ?_
      rintro e W ⟨rfl, rfl⟩
      go_wp2_with fail
      go_ret
      exact ⟨rfl, Below.refl _ _⟩
  · rw [if_neg hts]
    have HCS : Hid (∀ W, Below w.heap.size w W → Calls Try.prog 20 #[.slice a n c, .int .i64 T] W fun e w' => ∃ v ob, e = .returned v ∧ Row w' v ob 65 4 (spanC F T n).1 (spanL (spanC F T n).2 (spanC F T n).1) ∧ (∀ g, ob = some g → W.heap.size ≤ g) ∧ Below W.heap.size W w') := Lib.hid (fun W hW => spans_any T a n c b o F W (HS.out.below hW) hn)
    obtain ⟨p, hp⟩ : ∃ p, p = spanC F T n := ⟨_, rfl⟩
    rw [← hp] at HCS HF hcl ⊢
    obtain ⟨m, S⟩ := p
    dsimp only at HCS HF hcl ⊢
    clear hp
    have dts : decide (t ≤ s) = false := decide_eq_false hts
    rcases hH with ⟨g, rfl⟩ | ⟨g, rfl⟩
    · rw [Int.sub_zero]
      go_enter Try.func10, Try.ntmps10
      go_wp2_with fail
      go_at_call 23
      refine (within_id _ _ s0 s1).mono ?_
      rintro e W ⟨rfl, rfl⟩
      go_wp2_with fail
      go_at_call 23
      refine (within_id _ _ t0 t1).mono ?_
      rintro e W ⟨rfl, rfl⟩
      go_wp2_with fail
      go_at_call 20
      refine Calls.mono (HCS.out _ (Below.refl _ _)) ?_
      rintro e W1 ⟨v, ob, rfl, hr, hob, hB⟩
      obtain ⟨av, cv, rfl, hin⟩ := span_row hr (fun k hk => (HF.out k hk).ok)
      obtain ⟨bb, oo, hin⟩ : ∃ bb oo, SpanIn W1 av m cv bb oo S := ⟨_, _, hin⟩
      have HIN := Lib.hid hin
      have HB1 := Lib.hid hB
      have hcv1 := hin.le
      have hcv2 := hin.max
      unfold maxLen at hcv2
      clear hr hob hB hin
      go_wp2_with fail
      go_loopw [11, 12, 28] (fun r u i wr => ∃ k : Nat, k ≤ m ∧ i = .int .i64 k ∧ r = .int .i64 (rateS S t s k) ∧ u = .int .i64 (burstS S t s k) ∧ Below W1.heap.size W1 wr) (fun _ _ i _ => m - (intOf i).toNat)
      case atStart => exact ⟨0, Nat.zero_le _, rfl, rfl, rfl, Below.refl _ _⟩
      case round =>
        obtain ⟨k, hk, rfl, rfl, rfl, hB⟩ := hrel
        have HB := Lib.hid hB
        clear hB
        have hrb := rateS_bd (t := t) (sh := s) (n := k) fun j hj => HF.out j (by omega)
        have hub := burstS_bd (t := t) (sh := s) (n := k) fun j hj => HF.out j (by omega)
        by_cases hlt : k < m
        · obtain ⟨e0, e1⟩ := HIN.out.at_ (by omega)
          subst e0
          obtain ⟨c0, c1, c2, c3⟩ := (HIN.out.below HB.out).cell k hlt
          have hfi := HF.out k hlt
          unfold SpanE.fine at hfi
          obtain ⟨f1, f2, f3, f4, f5, f6, f7, f8⟩ := hfi
          obtain ⟨R, hR⟩ : ∃ R, R = rateS S t s k := ⟨_, rfl⟩
          obtain ⟨U, hU⟩ : ∃ U, U = burstS S t s k := ⟨_, rfl⟩
          rw [← hR] at hrb
          rw [← hU] at hub
          rw [← hR, ← hU]
          obtain ⟨r1, r2⟩ := hrb
          obtain ⟨u1, u2⟩ := hub
          by_cases hb1 : (S k).b ≤ t
          · have g1 : decide ((S k).b ≤ t) = true := decide_eq_true hb1
            by_cases hb2 : s ≤ (S k).e
            · have g2 : decide (s ≤ (S k).e) = true := decide_eq_true hb2
              have hhit : hitB t s (S k) = true := decide_eq_true ⟨hb1, hb2⟩
              clear hb2
              rcases (show (R < (S k).r ∧ U < (S k).u) ∨ (R < (S k).r ∧ (S k).u ≤ U) ∨ ((S k).r ≤ R ∧ U < (S k).u) ∨ ((S k).r ≤ R ∧ (S k).u ≤ U) by omega) with ⟨y1, y2⟩ | ⟨y1, y2⟩ | ⟨y1, y2⟩ | ⟨y1, y2⟩
              · have HR2 : Hid (rateS S t s (k + 1) = (S k).r) := Lib.hid (by rw [rateS, if_pos hhit, ← hR]; omega)
                have HU2 : Hid (burstS S t s (k + 1) = (S k).u) := Lib.hid (by rw [burstS, if_pos hhit, ← hU]; omega)
                clear hhit hR hU
                go_wp2_with fail
                (refine wp_region_quiet_lit (by kernel_rfl) (by kernel_rfl) ?_; (repeat (first | go_big_quiet_step (fail) | (refine BigFrame.wpQuiet_skip (by rfl) ?_; try simp only [Act.put, List.setIfInBounds_toArray, List.set_cons_zero, List.set_cons_succ]))); refine wpQuiet_nil ?_; intro _ hw9; obtain ⟨nq, hw8⟩ := hw9; subst hw8)
                go_wp2_with fail
                go_roundw
                case rel => exact ⟨k + 1, by omega, by go_num, by rw [HR2.out], by rw [HU2.out], below_drewN (HB.out.alloc HB.out.size _) _⟩
                case measure => first | (simp [intOf]; done) | (simp [intOf]; omega)
              · have HR2 : Hid (rateS S t s (k + 1) = (S k).r) := Lib.hid (by rw [rateS, if_pos hhit, ← hR]; omega)
                have HU2 : Hid (burstS S t s (k + 1) = U) := Lib.hid (by rw [burstS, if_pos hhit, ← hU]; omega)
                clear hhit hR hU
                go_wp2_with fail
                (refine wp_region_quiet_lit (by kernel_rfl) (by kernel_rfl) ?_; (repeat (first | go_big_quiet_step (fail) | (refine BigFrame.wpQuiet_skip (by rfl) ?_; try simp only [Act.put, List.setIfInBounds_toArray, List.set_cons_zero, List.set_cons_succ]))); refine wpQuiet_nil ?_; intro _ hw9; obtain ⟨nq, hw8⟩ := hw9; subst hw8)
                go_wp2_with fail
                go_roundw
                case rel => exact ⟨k + 1, by omega, by go_num, by rw [HR2.out], by rw [HU2.out], below_drewN (HB.out.alloc HB.out.size _) _⟩
                case measure => first | (simp [intOf]; done) | (simp [intOf]; omega)
              · have HR2 : Hid (rateS S t s (k + 1) = R) := Lib.hid (by rw [rateS, if_pos hhit, ← hR]; omega)
                have HU2 : Hid (burstS S t s (k + 1) = (S k).u) := Lib.hid (by rw [burstS, if_pos hhit, ← hU]; omega)
                clear hhit hR hU
                go_wp2_with fail
                (refine wp_region_quiet_lit (by kernel_rfl) (by kernel_rfl) ?_; (repeat (first | go_big_quiet_step (fail) | (refine BigFrame.wpQuiet_skip (by rfl) ?_; try simp only [Act.put, List.setIfInBounds_toArray, List.set_cons_zero, List.set_cons_succ]))); refine wpQuiet_nil ?_; intro _ hw9; obtain ⟨nq, hw8⟩ := hw9; subst hw8)
                go_wp2_with fail
                go_roundw
                case rel => exact ⟨k + 1, by omega, by go_num, by rw [HR2.out], by rw [HU2.out], below_drewN (HB.out.alloc HB.out.size _) _⟩
                case measure => first | (simp [intOf]; done) | (simp [intOf]; omega)
              · have HR2 : Hid (rateS S t s (k + 1) = R) := Lib.hid (by rw [rateS, if_pos hhit, ← hR]; omega)
                have HU2 : Hid (burstS S t s (k + 1) = U) := Lib.hid (by rw [burstS, if_pos hhit, ← hU]; omega)
                clear hhit hR hU
                go_wp2_with fail
                (refine wp_region_quiet_lit (by kernel_rfl) (by kernel_rfl) ?_; (repeat (first | go_big_quiet_step (fail) | (refine BigFrame.wpQuiet_skip (by rfl) ?_; try simp only [Act.put, List.setIfInBounds_toArray, List.set_cons_zero, List.set_cons_succ]))); refine wpQuiet_nil ?_; intro _ hw9; obtain ⟨nq, hw8⟩ := hw9; subst hw8)
                go_wp2_with fail
                go_roundw
                case rel => exact ⟨k + 1, by omega, by go_num, by rw [HR2.out], by rw [HU2.out], below_drewN (HB.out.alloc HB.out.size _) _⟩
                case measure => first | (simp [intOf]; done) | (simp [intOf]; omega)
            · have g2 : decide (s ≤ (S k).e) = false := decide_eq_false hb2
              have HH : Hid (hitB t s (S k) = false) := Lib.hid (decide_eq_false (fun h => hb2 h.2))
              have HR2 : Hid (rateS S t s (k + 1) = R) := Lib.hid (by rw [rateS, if_neg (by rw [HH.out]; simp), ← hR])
              have HU2 : Hid (burstS S t s (k + 1) = U) := Lib.hid (by rw [burstS, if_neg (by rw [HH.out]; simp), ← hU])
              clear hb2 hR hU
              go_wp2_with fail
              go_roundw
              case rel => exact ⟨k + 1, by omega, by go_num, by rw [HR2.out], by rw [HU2.out], HB.out.alloc HB.out.size _⟩
              case measure => first | (simp [intOf]; done) | (simp [intOf]; omega)
          · have g1 : decide ((S k).b ≤ t) = false := decide_eq_false hb1
            have HH : Hid (hitB t s (S k) = false) := Lib.hid (decide_eq_false (fun h => hb1 h.1))
            have HR2 : Hid (rateS S t s (k + 1) = R) := Lib.hid (by rw [rateS, if_neg (by rw [HH.out]; simp), ← hR])
            have HU2 : Hid (burstS S t s (k + 1) = U) := Lib.hid (by rw [burstS, if_neg (by rw [HH.out]; simp), ← hU])
            clear hR hU
            go_wp2_with fail
            go_roundw
            case rel => exact ⟨k + 1, by omega, by go_num, by rw [HR2.out], by rw [HU2.out], HB.out.alloc HB.out.size _⟩
            case measure => first | (simp [intOf]; done) | (simp [intOf]; omega)
        · obtain rfl : m = k := by omega
          have HBC : Hid (boundC S m s t s = 1000 * burstS S t s m + rateS S t s m * (t - s)) := Lib.hid rfl
          obtain ⟨R, hR⟩ : ∃ R, R = rateS S t s m := ⟨_, rfl⟩
          obtain ⟨U, hU⟩ : ∃ U, U = burstS S t s m := ⟨_, rfl⟩
          rw [← hR, ← hU] at HBC
          rw [← hR] at hrb
          rw [← hU] at hub
          rw [← hR, ← hU]
          obtain ⟨r1, r2⟩ := hrb
          obtain ⟨u1, u2⟩ := hub
          obtain ⟨M1, M2⟩ := prod_bd (R := R) (d := t - s) r1 r2 (by omega) (by omega)
          obtain ⟨M, hM⟩ : ∃ M, M = R * (t - s) := ⟨_, rfl⟩
          rw [← hM] at HBC M1 M2
          have hM' : R * (t - s) = M := hM.symm
          clear hR hU hM
          go_wp2_with fail
          go_ret
          exact ⟨by rw [HBC.out]; rfl, HB1.out.trans (HB.out.mono HB1.out.size)⟩
    · skip
      go_enter Try.func10, Try.ntmps10
      go_wp2_with fail
      go_at_call 23
      refine (within_id _ _ s0 s1).mono ?_
      rintro e W ⟨rfl, rfl⟩
      go_wp2_with fail
      go_at_call 23
      refine (within_id _ _ t0 t1).mono ?_
      rintro e W ⟨rfl, rfl⟩
      go_wp2_with fail
      go_at_call 20
      refine Calls.mono (HCS.out _ (Below.refl _ _)) ?_
      rintro e W1 ⟨v, ob, rfl, hr, hob, hB⟩
      obtain ⟨av, cv, rfl, hin⟩ := span_row hr (fun k hk => (HF.out k hk).ok)
      obtain ⟨bb, oo, hin⟩ : ∃ bb oo, SpanIn W1 av m cv bb oo S := ⟨_, _, hin⟩
      have HIN := Lib.hid hin
      have HB1 := Lib.hid hB
      have hcv1 := hin.le
      have hcv2 := hin.max
      unfold maxLen at hcv2
      clear hr hob hB hin
      go_wp2_with fail
      go_loopw [11, 12, 28] (fun r u i wr => ∃ k : Nat, k ≤ m ∧ i = .int .i64 k ∧ r = .int .i64 (rateS S t (s - H) k) ∧ u = .int .i64 (burstS S t (s - H) k) ∧ Below W1.heap.size W1 wr) (fun _ _ i _ => m - (intOf i).toNat)
      case atStart => exact ⟨0, Nat.zero_le _, rfl, rfl, rfl, Below.refl _ _⟩
      case round =>
        obtain ⟨k, hk, rfl, rfl, rfl, hB⟩ := hrel
        have HB := Lib.hid hB
        clear hB
        have hrb := rateS_bd (t := t) (sh := (s - H)) (n := k) fun j hj => HF.out j (by omega)
        have hub := burstS_bd (t := t) (sh := (s - H)) (n := k) fun j hj => HF.out j (by omega)
        by_cases hlt : k < m
        · obtain ⟨e0, e1⟩ := HIN.out.at_ (by omega)
          subst e0
          obtain ⟨c0, c1, c2, c3⟩ := (HIN.out.below HB.out).cell k hlt
          have hfi := HF.out k hlt
          unfold SpanE.fine at hfi
          obtain ⟨f1, f2, f3, f4, f5, f6, f7, f8⟩ := hfi
          obtain ⟨R, hR⟩ : ∃ R, R = rateS S t (s - H) k := ⟨_, rfl⟩
          obtain ⟨U, hU⟩ : ∃ U, U = burstS S t (s - H) k := ⟨_, rfl⟩
          rw [← hR] at hrb
          rw [← hU] at hub
          rw [← hR, ← hU]
          obtain ⟨r1, r2⟩ := hrb
          obtain ⟨u1, u2⟩ := hub
          by_cases hb1 : (S k).b ≤ t
          · have g1 : decide ((S k).b ≤ t) = true := decide_eq_true hb1
            by_cases hb2 : (s - H) ≤ (S k).e
            · have g2 : decide ((s - H) ≤ (S k).e) = true := decide_eq_true hb2
              have hhit : hitB t (s - H) (S k) = true := decide_eq_true ⟨hb1, hb2⟩
              clear hb2
              rcases (show (R < (S k).r ∧ U < (S k).u) ∨ (R < (S k).r ∧ (S k).u ≤ U) ∨ ((S k).r ≤ R ∧ U < (S k).u) ∨ ((S k).r ≤ R ∧ (S k).u ≤ U) by omega) with ⟨y1, y2⟩ | ⟨y1, y2⟩ | ⟨y1, y2⟩ | ⟨y1, y2⟩
              · have HR2 : Hid (rateS S t (s - H) (k + 1) = (S k).r) := Lib.hid (by rw [rateS, if_pos hhit, ← hR]; omega)
                have HU2 : Hid (burstS S t (s - H) (k + 1) = (S k).u) := Lib.hid (by rw [burstS, if_pos hhit, ← hU]; omega)
                clear hhit hR hU
                go_wp2_with fail
                (refine wp_region_quiet_lit (by kernel_rfl) (by kernel_rfl) ?_; (repeat (first | go_big_quiet_step (fail) | (refine BigFrame.wpQuiet_skip (by rfl) ?_; try simp only [Act.put, List.setIfInBounds_toArray, List.set_cons_zero, List.set_cons_succ]))); refine wpQuiet_nil ?_; intro _ hw9; obtain ⟨nq, hw8⟩ := hw9; subst hw8)
                go_wp2_with fail
                go_roundw
                case rel => exact ⟨k + 1, by omega, by go_num, by rw [HR2.out], by rw [HU2.out], below_drewN (HB.out.alloc HB.out.size _) _⟩
                case measure => first | (simp [intOf]; done) | (simp [intOf]; omega)
              · have HR2 : Hid (rateS S t (s - H) (k + 1) = (S k).r) := Lib.hid (by rw [rateS, if_pos hhit, ← hR]; omega)
                have HU2 : Hid (burstS S t (s - H) (k + 1) = U) := Lib.hid (by rw [burstS, if_pos hhit, ← hU]; omega)
                clear hhit hR hU
                go_wp2_with fail
                (refine wp_region_quiet_lit (by kernel_rfl) (by kernel_rfl) ?_; (repeat (first | go_big_quiet_step (fail) | (refine BigFrame.wpQuiet_skip (by rfl) ?_; try simp only [Act.put, List.setIfInBounds_toArray, List.set_cons_zero, List.set_cons_succ]))); refine wpQuiet_nil ?_; intro _ hw9; obtain ⟨nq, hw8⟩ := hw9; subst hw8)
                go_wp2_with fail
                go_roundw
                case rel => exact ⟨k + 1, by omega, by go_num, by rw [HR2.out], by rw [HU2.out], below_drewN (HB.out.alloc HB.out.size _) _⟩
                case measure => first | (simp [intOf]; done) | (simp [intOf]; omega)
              · have HR2 : Hid (rateS S t (s - H) (k + 1) = R) := Lib.hid (by rw [rateS, if_pos hhit, ← hR]; omega)
                have HU2 : Hid (burstS S t (s - H) (k + 1) = (S k).u) := Lib.hid (by rw [burstS, if_pos hhit, ← hU]; omega)
                clear hhit hR hU
                go_wp2_with fail
                (refine wp_region_quiet_lit (by kernel_rfl) (by kernel_rfl) ?_; (repeat (first | go_big_quiet_step (fail) | (refine BigFrame.wpQuiet_skip (by rfl) ?_; try simp only [Act.put, List.setIfInBounds_toArray, List.set_cons_zero, List.set_cons_succ]))); refine wpQuiet_nil ?_; intro _ hw9; obtain ⟨nq, hw8⟩ := hw9; subst hw8)
                go_wp2_with fail
                go_roundw
                case rel => exact ⟨k + 1, by omega, by go_num, by rw [HR2.out], by rw [HU2.out], below_drewN (HB.out.alloc HB.out.size _) _⟩
                case measure => first | (simp [intOf]; done) | (simp [intOf]; omega)
              · have HR2 : Hid (rateS S t (s - H) (k + 1) = R) := Lib.hid (by rw [rateS, if_pos hhit, ← hR]; omega)
                have HU2 : Hid (burstS S t (s - H) (k + 1) = U) := Lib.hid (by rw [burstS, if_pos hhit, ← hU]; omega)
                clear hhit hR hU
                go_wp2_with fail
                (refine wp_region_quiet_lit (by kernel_rfl) (by kernel_rfl) ?_; (repeat (first | go_big_quiet_step (fail) | (refine BigFrame.wpQuiet_skip (by rfl) ?_; try simp only [Act.put, List.setIfInBounds_toArray, List.set_cons_zero, List.set_cons_succ]))); refine wpQuiet_nil ?_; intro _ hw9; obtain ⟨nq, hw8⟩ := hw9; subst hw8)
                go_wp2_with fail
                go_roundw
                case rel => exact ⟨k + 1, by omega, by go_num, by rw [HR2.out], by rw [HU2.out], below_drewN (HB.out.alloc HB.out.size _) _⟩
                case measure => first | (simp [intOf]; done) | (simp [intOf]; omega)
            · have g2 : decide ((s - H) ≤ (S k).e) = false := decide_eq_false hb2
              have HH : Hid (hitB t (s - H) (S k) = false) := Lib.hid (decide_eq_false (fun h => hb2 h.2))
              have HR2 : Hid (rateS S t (s - H) (k + 1) = R) := Lib.hid (by rw [rateS, if_neg (by rw [HH.out]; simp), ← hR])
              have HU2 : Hid (burstS S t (s - H) (k + 1) = U) := Lib.hid (by rw [burstS, if_neg (by rw [HH.out]; simp), ← hU])
              clear hb2 hR hU
              go_wp2_with fail
              go_roundw
              case rel => exact ⟨k + 1, by omega, by go_num, by rw [HR2.out], by rw [HU2.out], HB.out.alloc HB.out.size _⟩
              case measure => first | (simp [intOf]; done) | (simp [intOf]; omega)
          · have g1 : decide ((S k).b ≤ t) = false := decide_eq_false hb1
            have HH : Hid (hitB t (s - H) (S k) = false) := Lib.hid (decide_eq_false (fun h => hb1 h.1))
            have HR2 : Hid (rateS S t (s - H) (k + 1) = R) := Lib.hid (by rw [rateS, if_neg (by rw [HH.out]; simp), ← hR])
            have HU2 : Hid (burstS S t (s - H) (k + 1) = U) := Lib.hid (by rw [burstS, if_neg (by rw [HH.out]; simp), ← hU])
            clear hR hU
            go_wp2_with fail
            go_roundw
            case rel => exact ⟨k + 1, by omega, by go_num, by rw [HR2.out], by rw [HU2.out], HB.out.alloc HB.out.size _⟩
            case measure => first | (simp [intOf]; done) | (simp [intOf]; omega)
        · obtain rfl : m = k := by omega
          have HBC : Hid (boundC S m s t (s - H) = 1000 * burstS S t (s - H) m + rateS S t (s - H) m * (t - s)) := Lib.hid rfl
          obtain ⟨R, hR⟩ : ∃ R, R = rateS S t (s - H) m := ⟨_, rfl⟩
          obtain ⟨U, hU⟩ : ∃ U, U = burstS S t (s - H) m := ⟨_, rfl⟩
          rw [← hR, ← hU] at HBC
          rw [← hR] at hrb
          rw [← hU] at hub
          rw [← hR, ← hU]
          obtain ⟨r1, r2⟩ := hrb
          obtain ⟨u1, u2⟩ := hub
          obtain ⟨M1, M2⟩ := prod_bd (R := R) (d := t - s) r1 r2 (by omega) (by omega)
          obtain ⟨M, hM⟩ : ∃ M, M = R * (t - s) := ⟨_, rfl⟩
          rw [← hM] at HBC M1 M2
          have hM' : R * (t - s) = M := hM.symm
          clear hR hU hM
          go_wp2_with fail
          go_ret
          exact ⟨by rw [HBC.out]; rfl, HB1.out.trans (HB.out.mono HB1.out.size)⟩
theorem bound_any (T s t h : Int) (a : Option Addr) (n c b o : Nat) (F : Nat → ForceE) (w : World) (hs : ForceIn w a n c b o F) (hn : n ≤ 60) (hch : chkF F n = true) (s0 : 0 ≤ s) (s1 : s ≤ 1099511627776) (t0 : 0 ≤ t) (t1 : t ≤ 1099511627776) (hh : h ≤ 9223372036854775807) :
    Calls Try.prog 10 #[.slice a n c, .int .i64 T, .int .i64 s, .int .i64 t, .int .i64 h] w fun e w' => e = .returned (.int .i64 (if t ≤ s then 0 else boundC (spanC F T n).2 (spanC F T n).1 s t (s - max h 0))) ∧ Below w.heap.size w w' :=
  bound_H T s t h (max h 0) a n c b o F w hs hn hch s0 s1 t0 t1 hh (by omega)
end Go.Proofs.Ytcimcmfibinehaa
