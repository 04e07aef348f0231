/-
  Package judge: the first stretch in which more went out than may.
-/

import Derived.Test.YtcimcmfibinehaaJda
namespace Go.Proofs.Ytcimcmfibinehaa
open Go.RowKit
set_option linter.unusedSimpArgs false
set_option linter.unusedVariables false

/-- what went out from the k-th sum on, of n sums -/
def outR (f : Nat → SumE) (k : Nat) : Nat → Int
  | 0 => 0
  | n + 1 => outR f k n + (f (k + n)).sz
def rateE (g : Nat → SpanE) (sh : Int) : Nat → Int
  | 0 => 0
  | n + 1 => if sh ≤ (g n).e then max (rateE g sh n) (g n).r else rateE g sh n
def burstE (g : Nat → SpanE) (sh : Int) : Nat → Int
  | 0 => 0
  | n + 1 => if sh ≤ (g n).e then max (burstE g sh n) (g n).u else burstE g sh n
theorem outR_bd {f : Nat → SumE} {p k : Nat} (hf : ∀ i, i < p → 1 ≤ (f i).sz ∧ (f i).sz ≤ 90000) : ∀ n, k + n ≤ p → 0 ≤ outR f k n ∧ outR f k n ≤ 90000 * n
  | 0, _ => by simp [outR]
  | n + 1, h => by
    have ih := outR_bd (p := p) (k := k) hf n (by omega)
    have hn := hf (k + n) (by omega)
    rw [outR]
    omega
theorem rateE_bd {g : Nat → SpanE} {sh : Int} : ∀ {n : Nat}, (∀ k, k < n → (g k).fine) → (0 ≤ rateE g sh n ∧ rateE g sh n ≤ 1000000) ∧ 0 ≤ burstE g sh n ∧ burstE g sh n ≤ 1000000
  | 0, _ => by simp [rateE, burstE]
  | n + 1, h => by
    have ih := rateE_bd (sh := sh) (n := n) fun k hk => h k (by omega)
    have hn := h n (by omega)
    unfold SpanE.fine at hn
    rw [rateE, burstE]
    split <;> omega
theorem meet_lo {g : Nat → SpanE} {t sh : Int} : ∀ {j : Nat}, (∀ i, i < j → (g i).b ≤ t) → rateS g t sh j = rateE g sh j ∧ burstS g t sh j = burstE g sh j
  | 0, _ => ⟨rfl, rfl⟩
  | j + 1, h => by
    obtain ⟨h1, h2⟩ := meet_lo (sh := sh) (j := j) fun i hi => h i (by omega)
    have hj := h j (by omega)
    rw [rateS, burstS, rateE, burstE, h1, h2]
    by_cases e : sh ≤ (g j).e
    · have hh : hitB t sh (g j) = true := decide_eq_true ⟨hj, e⟩
      rw [hh, if_pos e, if_pos e]
      simp
    · have hh : hitB t sh (g j) = false := decide_eq_false fun h => e h.2
      rw [hh, if_neg e, if_neg e]
      simp
theorem meet_hi {g : Nat → SpanE} {t sh : Int} {j : Nat} : ∀ {q : Nat}, j ≤ q → (∀ i, j ≤ i → i < q → t < (g i).b) → rateS g t sh q = rateS g t sh j ∧ burstS g t sh q = burstS g t sh j
  | 0, h, _ => by obtain rfl : j = 0 := by omega
                  exact ⟨rfl, rfl⟩
  | q + 1, h, hh => by
    by_cases e : j = q + 1
    · rw [e]; exact ⟨rfl, rfl⟩
    · obtain ⟨h1, h2⟩ := meet_hi (g := g) (t := t) (sh := sh) (j := j) (q := q) (by omega) fun i h1 h2 => hh i h1 (by omega)
      have hq := hh q (by omega) (by omega)
      have hn : hitB t sh (g q) = false := decide_eq_false fun h => by have := h.1; omega
      rw [rateS, burstS, hn]
      simpa using ⟨h1, h2⟩
def badB (f : Nat → SumE) (g : Nat → SpanE) (q : Nat) (h : Int) (k c : Nat) : Bool := decide (boundC g q ((f k).t - 1) (f c).t ((f k).t - 1 - h) < 1000 * outR f k (c + 1 - k))
/-- the first bad stretch, or that there is none -/
def FirstB (bad : Nat → Nat → Bool) (p k c : Nat) : Prop := k ≤ c ∧ c < p ∧ bad k c = true ∧ (∀ k', k' < k → ∀ c', k' ≤ c' → c' < p → bad k' c' = false) ∧ (∀ c', k ≤ c' → c' < c → bad k c' = false)
def NoneB (bad : Nat → Nat → Bool) (p : Nat) : Prop := ∀ k c, k ≤ c → c < p → bad k c = false
def BrkP (w : World) (f : Nat → SumE) (p : Nat) (bad : Nat → Nat → Bool) (e : Ending) (w' : World) : Prop :=
  Below w.heap.size w w' ∧ ((NoneB bad p ∧ e = .returned (.tuple #[.int .i64 0, .int .i64 0, .bool false])) ∨ ∃ k c, FirstB bad p k c ∧ e = .returned (.tuple #[.int .i64 ((f k).t - 1), .int .i64 (f c).t, .bool true]))

set_option maxRecDepth 100000 in
set_option maxHeartbeats 8000000 in
theorem breaks_any (h : Int) (a : Option Addr) (p c b o : Nat) (f : Nat → SumE) (a' : Option Addr) (q c' b' o' : Nat) (g : Nat → SpanE) (w : World) (hs : SumIn w a p c b o f) (hg : SpanIn w a' q c' b' o' g) (hp : p ≤ 60) (hq : q ≤ 60)
    (hf : ∀ k, k < p → (1 ≤ (f k).sz ∧ (f k).sz ≤ 90000) ∧ 1 ≤ (f k).t ∧ (f k).t ≤ 1099511627776) (hup : ∀ i j, i < j → j < p → (f i).t < (f j).t) (hgf : ∀ k, k < q → (g k).fine) (hgu : ∀ i j, i ≤ j → j < q → (g i).b ≤ (g j).b) (h0 : 0 ≤ h) (h1 : h ≤ 9223372036854775807) :
    Calls Try.prog 18 #[.slice a p c, .slice a' q c', .int .i64 h] w (BrkP w f p (badB f g q h)) := by
  have hm := hs.max
  have hl := hs.le
  have hm' := hg.max
  have hl' := hg.le
  unfold maxLen at hm hm'
  have HS := Lib.hid hs
  have HG := Lib.hid hg
  have HF := Lib.hid hf
  have HUP := Lib.hid hup
  have HGF := Lib.hid hgf
  have HGU := Lib.hid hgu
  obtain ⟨bad, hbad⟩ : ∃ bad, bad = badB f g q h := ⟨_, rfl⟩
  have HBAD := Lib.hid hbad
  rw [← hbad]
  clear hs hg hf hup hgf hgu hbad
  go_enter Try.func18, Try.ntmps18
  go_wp2_with fail
  go_step3
  go_wp2_with fail
  go_step3
  go_wp2_with fail
  go_loopw [6, 7, 8, 18] (fun s t br i wr => ∃ (k : Nat) (x y : Int), k ≤ p ∧ i = .int .i64 k ∧ s = .int .i64 x ∧ t = .int .i64 y ∧ br = .bool false ∧ (∀ k', k' < k → ∀ c', k' ≤ c' → c' < p → bad k' c' = false) ∧ Below w.heap.size w wr) (fun _ _ _ i _ => p - (intOf i).toNat)
  case atStart => exact ⟨0, 0, 0, Nat.zero_le _, rfl, rfl, rfl, rfl, (fun k' hk' => by omega), Below.refl _ _⟩
  case round =>
    obtain ⟨k, x, y, hk, rfl, rfl, rfl, rfl, hno, hB⟩ := hrel
    have HNO := Lib.hid hno
    have HB := Lib.hid hB
    clear hno hB
    by_cases hlt : k < p
    · obtain ⟨e0, e1⟩ := HS.out.at_ (by omega)
      subst e0
      obtain ⟨c0, _⟩ := (HS.out.below HB.out).cell k hlt
      obtain ⟨_, t0, t1⟩ := HF.out k hlt
      obtain ⟨T0, hT0⟩ : ∃ T0, T0 = (f k).t := ⟨_, rfl⟩
      rw [← hT0] at c0 t0 t1
      have HT0 := Lib.hid hT0
      have hkc : k < c := by omega
      have hkp : (k : Int) ≤ (p : Int) := by omega
      obtain ⟨wo, hwo⟩ : ∃ wo : World, wo = wr := ⟨_, rfl⟩
      subst hwo
      clear hT0
      go_wp2_with fail
      go_loopw [7, 8, 10, 11, 12, 13, 31] (fun t br out r u nx i wr => ∃ (n j : Nat) (y : Int), n ≤ p - k ∧ j ≤ q ∧ i = .int .i64 n ∧ t = .int .i64 y ∧ br = .bool false ∧ out = .int .i64 (outR f k n) ∧ r = .int .i64 (rateE g (T0 - 1 - h) j) ∧ u = .int .i64 (burstE g (T0 - 1 - h) j) ∧ nx = .int .i64 j ∧ (∀ i', i' < j → ∀ c', k + n ≤ c' → c' < p → (g i').b ≤ (f c').t) ∧ (∀ c', k ≤ c' → c' < k + n → bad k c' = false) ∧ Below w.heap.size w wr) (fun _ _ _ _ _ _ i _ => p - k - (intOf i).toNat)
      case atStart => exact ⟨0, 0, _, Nat.zero_le _, Nat.zero_le _, rfl, rfl, rfl, rfl, rfl, rfl, rfl, (fun i' hi' => by omega), (fun c' h1 h2 => by omega), HB.out⟩
      case round =>
        clear HB
        obtain ⟨n, j, y, hn, hj, rfl, rfl, rfl, rfl, rfl, rfl, rfl, hjb, hnb, hB⟩ := hrel
        have HJB := Lib.hid hjb
        have HNB := Lib.hid hnb
        have HB := Lib.hid hB
        clear hjb hnb hB
        have hob := outR_bd (f := f) (p := p) (k := k) (fun i hi => (HF.out i hi).1) n (by omega)
        by_cases hlt2 : n < p - k
        · obtain ⟨k0, k1⟩ := (HS.out.below HB.out).cell (k + n) (by omega)
          rw [show o + (k + n) * 2 = o + k * 2 + n * 2 by omega] at k0 k1
          obtain ⟨⟨z0, z1⟩, t2, t3⟩ := HF.out (k + n) (by omega)
          obtain ⟨T1, hT1⟩ : ∃ T1, T1 = (f (k + n)).t := ⟨_, rfl⟩
          obtain ⟨Z, hZ⟩ : ∃ Z, Z = (f (k + n)).sz := ⟨_, rfl⟩
          have hTT : T0 ≤ T1 := by
            rw [hT1, HT0.out]
            by_cases e : n = 0
            · rw [e]; exact Int.le_refl _
            · have := HUP.out k (k + n) (by omega) (by omega); omega
          have HO2 : Hid (outR f k (n + 1) = outR f k n + Z) := Lib.hid (by rw [outR, hZ])
          obtain ⟨O, hO⟩ : ∃ O, O = outR f k n := ⟨_, rfl⟩
          have hjb1 : ∀ i', i' < j → (g i').b ≤ T1 := fun i' hi' => by rw [hT1]; exact HJB.out i' hi' (k + n) (Nat.le_refl _) (by omega)
          rw [← hT1] at k0 t2 t3
          rw [← hZ] at k1 z0 z1
          rw [← hO] at hob HO2
          rw [← hO]
          obtain ⟨o1, o2⟩ := hob
          have o3 : O ≤ 5400000 := by omega
          have HT1 := Lib.hid hT1
          have HJ1 := Lib.hid hjb1
          have HBA : Hid (Below w.heap.size w (wr.alloc (.cells #[.int .i64 T1, .int .i64 Z] 76))) := Lib.hid (HB.out.alloc HB.out.size _)
          obtain ⟨w2, hw2⟩ : ∃ w2 : World, w2 = wr := ⟨_, rfl⟩
          subst hw2
          clear hT1 hZ hO hjb1 o2
          go_wp2_with fail
          go_loopw [11, 12, 13] (fun r u nx wr => ∃ j : Nat, j ≤ q ∧ nx = .int .i64 j ∧ r = .int .i64 (rateE g (T0 - 1 - h) j) ∧ u = .int .i64 (burstE g (T0 - 1 - h) j) ∧ (∀ i', i' < j → (g i').b ≤ T1) ∧ Below w.heap.size w wr) (fun _ _ nx _ => q - (intOf nx).toNat)
          case atStart => exact ⟨j, hj, rfl, rfl, rfl, HJ1.out, HBA.out⟩
          case round =>
            clear HB HBA HJ1 HJB k0 k1
            obtain ⟨j, hj, rfl, rfl, rfl, hj1, hB⟩ := hrel
            have HJ1 := Lib.hid hj1
            have HB := Lib.hid hB
            clear hj1 hB
            obtain ⟨⟨r1, r2⟩, u1, u2⟩ := rateE_bd (sh := T0 - 1 - h) (n := j) fun i hi => HGF.out i (by omega)
            obtain ⟨R, hR⟩ : ∃ R, R = rateE g (T0 - 1 - h) j := ⟨_, rfl⟩
            obtain ⟨U, hU⟩ : ∃ U, U = burstE g (T0 - 1 - h) j := ⟨_, rfl⟩
            rw [← hR] at r1 r2
            rw [← hU] at u1 u2
            rw [← hR, ← hU]
            by_cases hgo : j < q ∧ (g j).b ≤ T1
            · obtain ⟨hjq, hbt⟩ := hgo
              obtain ⟨e2, e3⟩ := HG.out.at_ (by omega)
              subst e2
              obtain ⟨g0, g1, g2, g3⟩ := (HG.out.below HB.out).cell j hjq
              have hfi := HGF.out j hjq
              unfold SpanE.fine at hfi
              obtain ⟨f1, f2, f3, f4, f5, f6, f7, f8⟩ := hfi
              have HJ2 : Hid (∀ i', i' < j + 1 → (g i').b ≤ T1) := Lib.hid (fun i' hi' => by
                by_cases e : i' = j
                · rw [e]; exact hbt
                · exact HJ1.out i' (by omega))
              have b1 : decide ((g j).b ≤ T1) = true := decide_eq_true hbt
              by_cases he : T0 - 1 - h ≤ (g j).e
              · have b2 : decide (T0 - 1 - h ≤ (g j).e) = true := decide_eq_true he
                rcases (show (R < (g j).r ∧ U < (g j).u) ∨ (R < (g j).r ∧ (g j).u ≤ U) ∨ ((g j).r ≤ R ∧ U < (g j).u) ∨ ((g j).r ≤ R ∧ (g j).u ≤ U) by omega) with ⟨y1, y2⟩ | ⟨y1, y2⟩ | ⟨y1, y2⟩ | ⟨y1, y2⟩
                · have HR2 : Hid (rateE g (T0 - 1 - h) (j + 1) = (g j).r) := Lib.hid (by rw [rateE, if_pos he, ← hR]; omega)
                  have HU2 : Hid (burstE g (T0 - 1 - h) (j + 1) = (g j).u) := Lib.hid (by rw [burstE, if_pos he, ← hU]; omega)
                  clear he hR hU
                  go_wp2_with fail
                  (refine wp_region_quiet_lit (by kernel_rfl) (by kernel_rfl) ?_; (repeat (first | go_big_quiet_step (fail) | (refine BigFrame.wpQuiet_skip (by rfl) ?_; try simp only [Act.put, List.setIfInBounds_toArray, List.set_cons_zero, List.set_cons_succ]))); refine wpQuiet_nil ?_; intro _ hw9; obtain ⟨nq, hw8⟩ := hw9; subst hw8)
                  go_wp2_with fail
                  go_roundw
                  case rel => exact ⟨j + 1, by omega, by go_num, by rw [HR2.out], by rw [HU2.out], HJ2.out, below_drewN HB.out _⟩
                  case measure => first | (simp [intOf]; done) | (simp [intOf]; omega)
                · have HR2 : Hid (rateE g (T0 - 1 - h) (j + 1) = (g j).r) := Lib.hid (by rw [rateE, if_pos he, ← hR]; omega)
                  have HU2 : Hid (burstE g (T0 - 1 - h) (j + 1) = U) := Lib.hid (by rw [burstE, if_pos he, ← hU]; omega)
                  clear he hR hU
                  go_wp2_with fail
                  (refine wp_region_quiet_lit (by kernel_rfl) (by kernel_rfl) ?_; (repeat (first | go_big_quiet_step (fail) | (refine BigFrame.wpQuiet_skip (by rfl) ?_; try simp only [Act.put, List.setIfInBounds_toArray, List.set_cons_zero, List.set_cons_succ]))); refine wpQuiet_nil ?_; intro _ hw9; obtain ⟨nq, hw8⟩ := hw9; subst hw8)
                  go_wp2_with fail
                  go_roundw
                  case rel => exact ⟨j + 1, by omega, by go_num, by rw [HR2.out], by rw [HU2.out], HJ2.out, below_drewN HB.out _⟩
                  case measure => first | (simp [intOf]; done) | (simp [intOf]; omega)
                · have HR2 : Hid (rateE g (T0 - 1 - h) (j + 1) = R) := Lib.hid (by rw [rateE, if_pos he, ← hR]; omega)
                  have HU2 : Hid (burstE g (T0 - 1 - h) (j + 1) = (g j).u) := Lib.hid (by rw [burstE, if_pos he, ← hU]; omega)
                  clear he hR hU
                  go_wp2_with fail
                  (refine wp_region_quiet_lit (by kernel_rfl) (by kernel_rfl) ?_; (repeat (first | go_big_quiet_step (fail) | (refine BigFrame.wpQuiet_skip (by rfl) ?_; try simp only [Act.put, List.setIfInBounds_toArray, List.set_cons_zero, List.set_cons_succ]))); refine wpQuiet_nil ?_; intro _ hw9; obtain ⟨nq, hw8⟩ := hw9; subst hw8)
                  go_wp2_with fail
                  go_roundw
                  case rel => exact ⟨j + 1, by omega, by go_num, by rw [HR2.out], by rw [HU2.out], HJ2.out, below_drewN HB.out _⟩
                  case measure => first | (simp [intOf]; done) | (simp [intOf]; omega)
                · have HR2 : Hid (rateE g (T0 - 1 - h) (j + 1) = R) := Lib.hid (by rw [rateE, if_pos he, ← hR]; omega)
                  have HU2 : Hid (burstE g (T0 - 1 - h) (j + 1) = U) := Lib.hid (by rw [burstE, if_pos he, ← hU]; omega)
                  clear he hR hU
                  go_wp2_with fail
                  (refine wp_region_quiet_lit (by kernel_rfl) (by kernel_rfl) ?_; (repeat (first | go_big_quiet_step (fail) | (refine BigFrame.wpQuiet_skip (by rfl) ?_; try simp only [Act.put, List.setIfInBounds_toArray, List.set_cons_zero, List.set_cons_succ]))); refine wpQuiet_nil ?_; intro _ hw9; obtain ⟨nq, hw8⟩ := hw9; subst hw8)
                  go_wp2_with fail
                  go_roundw
                  case rel => exact ⟨j + 1, by omega, by go_num, by rw [HR2.out], by rw [HU2.out], HJ2.out, below_drewN HB.out _⟩
                  case measure => first | (simp [intOf]; done) | (simp [intOf]; omega)
              · have b2 : decide (T0 - 1 - h ≤ (g j).e) = false := decide_eq_false he
                have HR2 : Hid (rateE g (T0 - 1 - h) (j + 1) = R) := Lib.hid (by rw [rateE, if_neg he, ← hR])
                have HU2 : Hid (burstE g (T0 - 1 - h) (j + 1) = U) := Lib.hid (by rw [burstE, if_neg he, ← hU])
                clear he hR hU
                go_wp2_with fail
                go_roundw
                case rel => exact ⟨j + 1, by omega, by go_num, by rw [HR2.out], by rw [HU2.out], HJ2.out, HB.out⟩
                case measure => first | (simp [intOf]; done) | (simp [intOf]; omega)
            · have hhi : ∀ i, j ≤ i → i < q → T1 < (g i).b := fun i h1 h2 => by
                have h3 : ¬ (g j).b ≤ T1 := fun h => hgo ⟨by omega, h⟩
                have := HGU.out j i h1 h2
                omega
              obtain ⟨m1, m2⟩ := meet_lo (sh := T0 - 1 - h) HJ1.out
              obtain ⟨m3, m4⟩ := meet_hi (sh := T0 - 1 - h) hj hhi
              have HBC : Hid (bad k (k + n) = decide (1000 * U + R * (T1 - (T0 - 1)) < 1000 * (O + Z))) := Lib.hid (by
                rw [HBAD.out, badB, boundC, ← HT0.out, ← HT1.out, m3, m4, m1, m2, ← hR, ← hU, show k + n + 1 - k = n + 1 by omega, HO2.out])
              obtain ⟨M1, M2⟩ := prod_bd (R := R) (d := T1 - (T0 - 1)) r1 r2 (by omega) (by omega)
              obtain ⟨M, hM⟩ : ∃ M, M = R * (T1 - (T0 - 1)) := ⟨_, rfl⟩
              rw [← hM] at HBC M1 M2
              have hM' : R * (T1 - (T0 - 1)) = M := hM.symm
              have HJ9 : Hid (∀ i', i' < j → ∀ c', k + (n + 1) ≤ c' → c' < p → (g i').b ≤ (f c').t) := Lib.hid (fun i' hi' c' h1 h2 => by
                have a1 := HJ1.out i' hi'
                have a2 := HUP.out (k + n) c' (by omega) h2
                rw [← HT1.out] at a2
                omega)
              have HRR := Lib.hid hR
              have HUU := Lib.hid hU
              have hex : j = q ∨ (j < q ∧ T1 < (g j).b) := by
                by_cases e : j < q
                · exact .inr ⟨e, hhi j (Nat.le_refl _) e⟩
                · exact .inl (by omega)
              clear hM hR hU m1 m2 m3 m4 hhi hgo
              cases hbd : bad k (k + n)
              · have HNB2 : Hid (∀ c', k ≤ c' → c' < k + (n + 1) → bad k c' = false) := Lib.hid (fun c' h1 h2 => by
                  by_cases e : c' = k + n
                  · rw [e]; exact hbd
                  · exact HNB.out c' h1 (by omega))
                rw [hbd] at HBC
                have b9 : decide (1000 * U + M < 1000 * (O + Z)) = false := HBC.out.symm
                clear hbd
                rcases hex with hq1 | ⟨hq1, hq2⟩
                · have b3 : decide (j < q) = false := by simp; omega
                  clear hq1
                  go_wp2_with fail
                  go_roundw
                  case rel => exact ⟨n + 1, j, _, by omega, by omega, by go_num, rfl, rfl, by rw [HO2.out], by rw [HRR.out], by rw [HUU.out], rfl, HJ9.out, HNB2.out, HB.out⟩
                  case measure => first | (simp [intOf]; done) | (simp [intOf]; omega)
                · obtain ⟨e2, e3⟩ := HG.out.at_ (by omega)
                  subst e2
                  obtain ⟨g0, g1, g2, g3⟩ := (HG.out.below HB.out).cell j hq1
                  have b3 : decide ((g j).b ≤ T1) = false := decide_eq_false (by omega)
                  go_wp2_with fail
                  go_roundw
                  case rel => exact ⟨n + 1, j, _, by omega, by omega, by go_num, rfl, rfl, by rw [HO2.out], by rw [HRR.out], by rw [HUU.out], rfl, HJ9.out, HNB2.out, HB.out⟩
                  case measure => first | (simp [intOf]; done) | (simp [intOf]; omega)
              · have HFI : Hid (FirstB bad p k (k + n)) := Lib.hid ⟨by omega, by omega, hbd, HNO.out, HNB.out⟩
                rw [hbd] at HBC
                have b9 : decide (1000 * U + M < 1000 * (O + Z)) = true := HBC.out.symm
                clear hbd
                have HFIN : Hid (∀ W, Below w.heap.size w W → BrkP w f p bad (.returned (.tuple #[.int .i64 (T0 - 1), .int .i64 T1, .bool true])) W) := Lib.hid (fun W hW => ⟨hW, .inr ⟨k, k + n, HFI.out, by rw [HT0.out, HT1.out]⟩⟩)
                rcases hex with hq1 | ⟨hq1, hq2⟩
                · have b3 : decide (j < q) = false := by simp; omega
                  clear hq1
                  go_wp2_with fail
                  go_ret3
                  exact HFIN.out _ HB.out
                · obtain ⟨e2, e3⟩ := HG.out.at_ (by omega)
                  subst e2
                  obtain ⟨g0, g1, g2, g3⟩ := (HG.out.below HB.out).cell j hq1
                  have b3 : decide ((g j).b ≤ T1) = false := decide_eq_false (by omega)
                  go_wp2_with fail
                  go_ret3
                  exact HFIN.out _ HB.out
        · have hnp : n = p - k := by omega
          have HNO2 : Hid (∀ k', k' < k + 1 → ∀ c', k' ≤ c' → c' < p → bad k' c' = false) := Lib.hid (fun k' hk' c' h1 h2 => by
            by_cases e : k' = k
            · rw [e] at h1 ⊢; exact HNB.out c' h1 (by omega)
            · exact HNO.out k' (by omega) c' h1 h2)
          clear hnp hob
          go_wp2_with fail
          go_roundw
          case rel => exact ⟨k + 1, _, _, by omega, by go_num, rfl, rfl, rfl, HNO2.out, HB.out⟩
          case measure => first | (simp [intOf]; done) | (simp [intOf]; omega)
    · obtain rfl : k = p := by omega
      have HFIN : Hid (BrkP w f k bad (.returned (.tuple #[.int .i64 0, .int .i64 0, .bool false])) wr) := Lib.hid ⟨HB.out, .inl ⟨fun k' c' h1 h2 => HNO.out k' (by omega) c' h1 h2, rfl⟩⟩
      go_wp2_with fail
      go_ret3
      exact HFIN.out
end Go.Proofs.Ytcimcmfibinehaa
