/-
  weirref30.Bound: the document's own answer.
-/
import Derived.Test.YtninhjeiialbjaaJdf
import Derived.Test.YtninhjeiialbjaaJd4
namespace Go.Proofs.Ytninhjeiialbjaa
open Go.RowKit
set_option linter.unusedSimpArgs false
set_option linter.unusedVariables false

/-- the tick of the first one of a tenant, of d from the k-th on -/
def nextO (F : Nat → ForceE) (T : Int) (k : Nat) : Nat → Option Int
  | 0 => none
  | d + 1 => if (F k).ten = T then some (F k).t else nextO F T (k + 1) d
def nextA (F : Nat → ForceE) (T : Int) (k d : Nat) : Int := (nextO F T k d).getD 1099511627777
/-- is the i-th one, of m, in force between from and t? -/
def inF (F : Nat → ForceE) (T from_ t : Int) (m i : Nat) : Bool := decide ((F i).ten = T ∧ (F i).t ≤ t ∧ from_ ≤ nextA F T (i + 1) (m - (i + 1)))
def rateR (F : Nat → ForceE) (T from_ t : Int) (m : Nat) : Nat → Int
  | 0 => 0
  | i + 1 => if inF F T from_ t m i then max (rateR F T from_ t m i) (F i).r else rateR F T from_ t m i
def burstR (F : Nat → ForceE) (T from_ t : Int) (m : Nat) : Nat → Int
  | 0 => 0
  | i + 1 => if inF F T from_ t m i then max (burstR F T from_ t m i) (F i).b else burstR F T from_ t m i
theorem rateR_bd {F : Nat → ForceE} {T fr t : Int} {m : Nat} (h : chkF F m = true) : ∀ {i : Nat}, i ≤ m → (0 ≤ rateR F T fr t m i ∧ rateR F T fr t m i ≤ 1000000) ∧ 0 ≤ burstR F T fr t m i ∧ burstR F T fr t m i ≤ 1000000
  | 0, _ => by simp [rateR, burstR]
  | i + 1, hi => by
    have ih := rateR_bd (T := T) (fr := fr) (t := t) h (i := i) (by omega)
    have hn := chkF_le h i (by omega)
    rw [rateR, burstR]
    split <;> omega
theorem tick_id (n : Int) (w : World) (h0 : 0 ≤ n) (h1 : n ≤ 1099511627776) : Calls Try.prog 110 #[.int .i64 n] w fun e w' => e = .returned (.int .i64 n) ∧ w = w' := by
  go_enter Try.func110, Try.ntmps110
  go_wp2_with fail
  go_ret
  exact ⟨rfl, rfl⟩

set_option maxRecDepth 100000 in
set_option maxHeartbeats 8000000 in
theorem rbound_H (T s t h H : Int) (a : Option Addr) (n c b o : Nat) (F : Nat → ForceE) (w : World) (hs : ForceIn w a n c b o F) (hn : n ≤ 60) (hch : chkF F n = true) (s0 : 0 ≤ s) (s1 : s < t) (t1 : t ≤ 1099511627776) (hh : h ≤ 9223372036854775807) (hH : (h < 0 ∧ H = 0) ∨ (0 ≤ h ∧ h ≤ 1099511627776 ∧ H = h) ∨ (1099511627776 < h ∧ H = 1099511627776)) :
    Calls Try.prog 88 #[.slice a n c, .int .i64 T, .int .i64 s, .int .i64 t, .int .i64 h] w fun e w' => e = .returned (.int .i64 (1000 * burstR F T (s - H) t n n + rateR F T (s - H) t n n * (t - s))) ∧ w = w' := by
  have hm := hs.max
  have hl := hs.le
  unfold maxLen at hm
  have HS := Lib.hid hs
  have HC := Lib.hid hch
  clear hs hch
  obtain ⟨fr, hfr⟩ : ∃ fr, fr = s - H := ⟨_, rfl⟩
  rw [← hfr]
  have hfr1 : -1099511627776 ≤ fr ∧ fr ≤ 1099511627776 := by omega
  obtain ⟨fr1, fr2⟩ := hfr1
  have dts : decide (t ≤ s) = false := decide_eq_false (by omega)
  have hFR : Hid (fr = s - H) := Lib.hid hfr
  have hways : (h < 0 ∧ s = fr) ∨ (0 ≤ h ∧ h ≤ 1099511627776 ∧ s - h = fr) ∨ (1099511627776 < h ∧ s - 1099511627776 = fr) := by omega
  clear hH
  rcases hways with ⟨g1, g2⟩ | ⟨g0, g1, g2⟩ | ⟨g1, g2⟩
  · subst g2
    clear hfr hFR
    go_enter Try.func88, Try.ntmps88
    go_wp2_with fail
    go_at_call 110
    refine (tick_id _ _ s0 (by omega)).mono ?_
    rintro e W ⟨rfl, rfl⟩
    go_wp2_with fail
    go_at_call 110
    refine (tick_id _ _ (by omega) t1).mono ?_
    rintro e W ⟨rfl, rfl⟩
    go_wp2_with fail
    go_loop [12, 13, 14, 15] (fun r u en iv => ∃ (i : Nat) (z : Int), i ≤ n ∧ iv = .int .i64 i ∧ r = .int .i64 (rateR F T s t n i) ∧ u = .int .i64 (burstR F T s t n i) ∧ en = .int .i64 z) (fun _ _ _ iv => n - (intOf iv).toNat)
    case atStart => exact ⟨0, _, Nat.zero_le _, rfl, rfl, rfl, rfl⟩
    case round =>
      obtain ⟨i, z, hi, rfl, rfl, rfl, rfl⟩ := hrel
      obtain ⟨⟨r1, r2⟩, u1, u2⟩ := rateR_bd (T := T) (fr := s) (t := t) HC.out hi
      obtain ⟨R, hR⟩ : ∃ R, R = rateR F T s t n i := ⟨_, rfl⟩
      obtain ⟨U, hU⟩ : ∃ U, U = burstR F T s t n i := ⟨_, rfl⟩
      rw [← hR] at r1 r2
      rw [← hU] at u1 u2
      rw [← hR, ← hU]
      by_cases hlt : i < n
      · obtain ⟨e0, e1⟩ := HS.out.at_ (by omega)
        subst e0
        obtain ⟨c0, c1, c2, c3⟩ := HS.out.cell i hlt
        have hfi := chkF_le HC.out i hlt
        obtain ⟨_, f2, _, f3, f4, f5, f6⟩ := hfi
        have hin0 : inF F T s t n i = decide ((F i).ten = T ∧ (F i).t ≤ t ∧ s ≤ nextA F T (i + 1) (n - (i + 1))) := rfl
        by_cases hT : (F i).ten = T
        · have b1 : ((F i).ten != T) = false := by simpa using hT
          by_cases htt : (F i).t ≤ t
          · have b2 : decide (t < (F i).t) = false := decide_eq_false (by omega)
            have HIN0 := Lib.hid hin0
            have HT9 := Lib.hid hT
            have HR := Lib.hid hR
            have HU := Lib.hid hU
            clear hin0 hT hR hU
            go_wp2_with fail
            go_loop [14, 16] (fun en kv => ∃ j : Nat, i ≤ j ∧ j < n ∧ kv = .int .i64 j ∧ en = .int .i64 (nextA F T (j + 1) (n - (j + 1)))) (fun _ kv => (intOf kv).toNat)
            case atStart => exact ⟨n - 1, by omega, by omega, by congr 1; omega, by rw [show n - 1 + 1 = n by omega, Nat.sub_self]; rfl⟩
            case round =>
              obtain ⟨j, hj1, hj2, rfl, rfl⟩ := hrel
              by_cases hji : i < j
              · obtain ⟨k0, k1, _, _⟩ := HS.out.cell j hj2
                obtain ⟨q, rfl⟩ : ∃ q, j = q + 1 := ⟨j - 1, by omega⟩
                have HNX : Hid (nextA F T (q + 1) (n - (q + 1)) = if (F (q + 1)).ten = T then (F (q + 1)).t else nextA F T (q + 1 + 1) (n - (q + 1 + 1))) := Lib.hid (by
                  unfold nextA
                  rw [show n - (q + 1) = (n - (q + 1 + 1)) + 1 by omega, nextO]
                  split <;> rfl)
                have hq1 : ((q + 1 : Nat) : Int) - 1 = (q : Int) := by omega
                obtain ⟨x, hx⟩ : ∃ x, x = q + 1 := ⟨_, rfl⟩
                rw [← hx] at hq1 k0 k1 hji hj1 hj2 HNX ⊢
                have HX := Lib.hid hx
                clear hx
                by_cases hw : (F x).ten = T
                · have b3 : ((F x).ten == T) = true := by simpa using hw
                  have HNX2 : Hid (nextA F T x (n - x) = (F x).t) := Lib.hid (by rw [HNX.out, if_pos hw])
                  clear hw
                  go_wp2_with fail
                  go_round
                  case rel => exact ⟨q, by have := HX.out; omega, by have := HX.out; omega, rfl, by rw [← HX.out, HNX2.out]⟩
                  case measure => simp [intOf]; have := HX.out; omega
                · have b3 : ((F x).ten == T) = false := by simpa using hw
                  have HNX2 : Hid (nextA F T x (n - x) = nextA F T (x + 1) (n - (x + 1))) := Lib.hid (by rw [HNX.out, if_neg hw])
                  clear hw
                  go_wp2_with fail
                  go_round
                  case rel => exact ⟨q, by have := HX.out; omega, by have := HX.out; omega, rfl, by rw [← HX.out, HNX2.out]⟩
                  case measure => simp [intOf]; have := HX.out; omega
              · obtain rfl : i = j := by omega
                have hR := HR.out
                have hU := HU.out
                obtain ⟨N, hN⟩ : ∃ N, N = nextA F T (i + 1) (n - (i + 1)) := ⟨_, rfl⟩
                have hin0 := HIN0.out
                rw [← hN] at hin0 ⊢
                by_cases hfe : s ≤ N
                · have b4 : decide (s ≤ N) = true := decide_eq_true hfe
                  have hin : inF F T s t n i = true := by rw [hin0]; exact decide_eq_true ⟨HT9.out, htt, hfe⟩
                  clear hin0 hN
                  rcases (show (R < (F i).r ∧ U < (F i).b) ∨ (R < (F i).r ∧ (F i).b ≤ U) ∨ ((F i).r ≤ R ∧ U < (F i).b) ∨ ((F i).r ≤ R ∧ (F i).b ≤ U) by omega) with ⟨y1, y2⟩ | ⟨y1, y2⟩ | ⟨y1, y2⟩ | ⟨y1, y2⟩
                  · have HR2 : Hid (rateR F T s t n (i + 1) = (F i).r) := Lib.hid (by rw [rateR, if_pos hin, ← hR]; omega)
                    have HU2 : Hid (burstR F T s t n (i + 1) = (F i).b) := Lib.hid (by rw [burstR, if_pos hin, ← hU]; omega)
                    clear hin hR hU
                    go_wp2_with fail
                    go_round
                    case rel => exact ⟨i + 1, _, by omega, by go_num, by rw [HR2.out], by rw [HU2.out], rfl⟩
                    case measure => first | (simp [intOf]; done) | (simp [intOf]; omega)
                  · have HR2 : Hid (rateR F T s t n (i + 1) = (F i).r) := Lib.hid (by rw [rateR, if_pos hin, ← hR]; omega)
                    have HU2 : Hid (burstR F T s t n (i + 1) = U) := Lib.hid (by rw [burstR, if_pos hin, ← hU]; omega)
                    clear hin hR hU
                    go_wp2_with fail
                    go_round
                    case rel => exact ⟨i + 1, _, by omega, by go_num, by rw [HR2.out], by rw [HU2.out], rfl⟩
                    case measure => first | (simp [intOf]; done) | (simp [intOf]; omega)
                  · have HR2 : Hid (rateR F T s t n (i + 1) = R) := Lib.hid (by rw [rateR, if_pos hin, ← hR]; omega)
                    have HU2 : Hid (burstR F T s t n (i + 1) = (F i).b) := Lib.hid (by rw [burstR, if_pos hin, ← hU]; omega)
                    clear hin hR hU
                    go_wp2_with fail
                    go_round
                    case rel => exact ⟨i + 1, _, by omega, by go_num, by rw [HR2.out], by rw [HU2.out], rfl⟩
                    case measure => first | (simp [intOf]; done) | (simp [intOf]; omega)
                  · have HR2 : Hid (rateR F T s t n (i + 1) = R) := Lib.hid (by rw [rateR, if_pos hin, ← hR]; omega)
                    have HU2 : Hid (burstR F T s t n (i + 1) = U) := Lib.hid (by rw [burstR, if_pos hin, ← hU]; omega)
                    clear hin hR hU
                    go_wp2_with fail
                    go_round
                    case rel => exact ⟨i + 1, _, by omega, by go_num, by rw [HR2.out], by rw [HU2.out], rfl⟩
                    case measure => first | (simp [intOf]; done) | (simp [intOf]; omega)
                · have b4 : decide (s ≤ N) = false := decide_eq_false hfe
                  have hin : inF F T s t n i = false := by rw [hin0]; exact decide_eq_false (fun h => hfe h.2.2)
                  have HR2 : Hid (rateR F T s t n (i + 1) = R) := Lib.hid (by rw [rateR, if_neg (by rw [hin]; simp), ← hR])
                  have HU2 : Hid (burstR F T s t n (i + 1) = U) := Lib.hid (by rw [burstR, if_neg (by rw [hin]; simp), ← hU])
                  clear hin hR hU hin0 hN
                  go_wp2_with fail
                  go_round
                  case rel => exact ⟨i + 1, _, by omega, by go_num, by rw [HR2.out], by rw [HU2.out], rfl⟩
                  case measure => first | (simp [intOf]; done) | (simp [intOf]; omega)
          · have b2 : decide (t < (F i).t) = true := decide_eq_true (by omega)
            have hin : inF F T s t n i = false := by rw [hin0]; exact decide_eq_false (fun h => htt h.2.1)
            have HR2 : Hid (rateR F T s t n (i + 1) = R) := Lib.hid (by rw [rateR, if_neg (by rw [hin]; simp), ← hR])
            have HU2 : Hid (burstR F T s t n (i + 1) = U) := Lib.hid (by rw [burstR, if_neg (by rw [hin]; simp), ← hU])
            clear hin hR hU hin0 hT
            go_wp2_with fail
            go_round
            case rel => exact ⟨i + 1, _, by omega, by go_num, by rw [HR2.out], by rw [HU2.out], rfl⟩
            case measure => first | (simp [intOf]; done) | (simp [intOf]; omega)
        · have b1 : ((F i).ten != T) = true := by simpa using hT
          have hin : inF F T s t n i = false := by rw [hin0]; exact decide_eq_false (fun h => hT h.1)
          have HR2 : Hid (rateR F T s t n (i + 1) = R) := Lib.hid (by rw [rateR, if_neg (by rw [hin]; simp), ← hR])
          have HU2 : Hid (burstR F T s t n (i + 1) = U) := Lib.hid (by rw [burstR, if_neg (by rw [hin]; simp), ← hU])
          clear hin hR hU hin0 hT
          go_wp2_with fail
          go_round
          case rel => exact ⟨i + 1, _, by omega, by go_num, by rw [HR2.out], by rw [HU2.out], rfl⟩
          case measure => first | (simp [intOf]; done) | (simp [intOf]; omega)
      · obtain rfl : n = i := by omega
        obtain ⟨M1, M2⟩ := prod_bd (R := R) (d := t - s) r1 r2 (by omega) (by omega)
        obtain ⟨M, hM⟩ : ∃ M, M = R * (t - s) := ⟨_, rfl⟩
        rw [← hM] at M1 M2
        have hM' : R * (t - s) = M := hM.symm
        have HEND : Hid (1000 * burstR F T s t n n + rateR F T s t n n * (t - s) = 1000 * U + M) := Lib.hid (by rw [← hR, ← hU, hM'])
        clear hR hU hM
        go_wp2_with fail
        go_ret
        exact ⟨by rw [HEND.out]; rfl, rfl⟩
  · clear hfr
    go_enter Try.func88, Try.ntmps88
    go_wp2_with fail
    go_at_call 110
    refine (tick_id _ _ s0 (by omega)).mono ?_
    rintro e W ⟨rfl, rfl⟩
    go_wp2_with fail
    go_at_call 110
    refine (tick_id _ _ (by omega) t1).mono ?_
    rintro e W ⟨rfl, rfl⟩
    go_wp2_with fail
    go_loop [12, 13, 14, 15] (fun r u en iv => ∃ (i : Nat) (z : Int), i ≤ n ∧ iv = .int .i64 i ∧ r = .int .i64 (rateR F T fr t n i) ∧ u = .int .i64 (burstR F T fr t n i) ∧ en = .int .i64 z) (fun _ _ _ iv => n - (intOf iv).toNat)
    case atStart => exact ⟨0, _, Nat.zero_le _, rfl, rfl, rfl, rfl⟩
    case round =>
      obtain ⟨i, z, hi, rfl, rfl, rfl, rfl⟩ := hrel
      obtain ⟨⟨r1, r2⟩, u1, u2⟩ := rateR_bd (T := T) (fr := fr) (t := t) HC.out hi
      obtain ⟨R, hR⟩ : ∃ R, R = rateR F T fr t n i := ⟨_, rfl⟩
      obtain ⟨U, hU⟩ : ∃ U, U = burstR F T fr t n i := ⟨_, rfl⟩
      rw [← hR] at r1 r2
      rw [← hU] at u1 u2
      rw [← hR, ← hU]
      by_cases hlt : i < n
      · obtain ⟨e0, e1⟩ := HS.out.at_ (by omega)
        subst e0
        obtain ⟨c0, c1, c2, c3⟩ := HS.out.cell i hlt
        have hfi := chkF_le HC.out i hlt
        obtain ⟨_, f2, _, f3, f4, f5, f6⟩ := hfi
        have hin0 : inF F T fr t n i = decide ((F i).ten = T ∧ (F i).t ≤ t ∧ fr ≤ nextA F T (i + 1) (n - (i + 1))) := rfl
        by_cases hT : (F i).ten = T
        · have b1 : ((F i).ten != T) = false := by simpa using hT
          by_cases htt : (F i).t ≤ t
          · have b2 : decide (t < (F i).t) = false := decide_eq_false (by omega)
            have HIN0 := Lib.hid hin0
            have HT9 := Lib.hid hT
            have HR := Lib.hid hR
            have HU := Lib.hid hU
            clear hin0 hT hR hU
            go_wp2_with fail
            go_loop [14, 16] (fun en kv => ∃ j : Nat, i ≤ j ∧ j < n ∧ kv = .int .i64 j ∧ en = .int .i64 (nextA F T (j + 1) (n - (j + 1)))) (fun _ kv => (intOf kv).toNat)
            case atStart => exact ⟨n - 1, by omega, by omega, by congr 1; omega, by rw [show n - 1 + 1 = n by omega, Nat.sub_self]; rfl⟩
            case round =>
              obtain ⟨j, hj1, hj2, rfl, rfl⟩ := hrel
              by_cases hji : i < j
              · obtain ⟨k0, k1, _, _⟩ := HS.out.cell j hj2
                obtain ⟨q, rfl⟩ : ∃ q, j = q + 1 := ⟨j - 1, by omega⟩
                have HNX : Hid (nextA F T (q + 1) (n - (q + 1)) = if (F (q + 1)).ten = T then (F (q + 1)).t else nextA F T (q + 1 + 1) (n - (q + 1 + 1))) := Lib.hid (by
                  unfold nextA
                  rw [show n - (q + 1) = (n - (q + 1 + 1)) + 1 by omega, nextO]
                  split <;> rfl)
                have hq1 : ((q + 1 : Nat) : Int) - 1 = (q : Int) := by omega
                obtain ⟨x, hx⟩ : ∃ x, x = q + 1 := ⟨_, rfl⟩
                rw [← hx] at hq1 k0 k1 hji hj1 hj2 HNX ⊢
                have HX := Lib.hid hx
                clear hx
                by_cases hw : (F x).ten = T
                · have b3 : ((F x).ten == T) = true := by simpa using hw
                  have HNX2 : Hid (nextA F T x (n - x) = (F x).t) := Lib.hid (by rw [HNX.out, if_pos hw])
                  clear hw
                  go_wp2_with fail
                  go_round
                  case rel => exact ⟨q, by have := HX.out; omega, by have := HX.out; omega, rfl, by rw [← HX.out, HNX2.out]⟩
                  case measure => simp [intOf]; have := HX.out; omega
                · have b3 : ((F x).ten == T) = false := by simpa using hw
                  have HNX2 : Hid (nextA F T x (n - x) = nextA F T (x + 1) (n - (x + 1))) := Lib.hid (by rw [HNX.out, if_neg hw])
                  clear hw
                  go_wp2_with fail
                  go_round
                  case rel => exact ⟨q, by have := HX.out; omega, by have := HX.out; omega, rfl, by rw [← HX.out, HNX2.out]⟩
                  case measure => simp [intOf]; have := HX.out; omega
              · obtain rfl : i = j := by omega
                have hR := HR.out
                have hU := HU.out
                obtain ⟨N, hN⟩ : ∃ N, N = nextA F T (i + 1) (n - (i + 1)) := ⟨_, rfl⟩
                have hin0 := HIN0.out
                rw [← hN] at hin0 ⊢
                by_cases hfe : fr ≤ N
                · have b4 : decide (fr ≤ N) = true := decide_eq_true hfe
                  have hin : inF F T fr t n i = true := by rw [hin0]; exact decide_eq_true ⟨HT9.out, htt, hfe⟩
                  clear hin0 hN
                  rcases (show (R < (F i).r ∧ U < (F i).b) ∨ (R < (F i).r ∧ (F i).b ≤ U) ∨ ((F i).r ≤ R ∧ U < (F i).b) ∨ ((F i).r ≤ R ∧ (F i).b ≤ U) by omega) with ⟨y1, y2⟩ | ⟨y1, y2⟩ | ⟨y1, y2⟩ | ⟨y1, y2⟩
                  · have HR2 : Hid (rateR F T fr t n (i + 1) = (F i).r) := Lib.hid (by rw [rateR, if_pos hin, ← hR]; omega)
                    have HU2 : Hid (burstR F T fr t n (i + 1) = (F i).b) := Lib.hid (by rw [burstR, if_pos hin, ← hU]; omega)
                    clear hin hR hU
                    go_wp2_with fail
                    go_round
                    case rel => exact ⟨i + 1, _, by omega, by go_num, by rw [HR2.out], by rw [HU2.out], rfl⟩
                    case measure => first | (simp [intOf]; done) | (simp [intOf]; omega)
                  · have HR2 : Hid (rateR F T fr t n (i + 1) = (F i).r) := Lib.hid (by rw [rateR, if_pos hin, ← hR]; omega)
                    have HU2 : Hid (burstR F T fr t n (i + 1) = U) := Lib.hid (by rw [burstR, if_pos hin, ← hU]; omega)
                    clear hin hR hU
                    go_wp2_with fail
                    go_round
                    case rel => exact ⟨i + 1, _, by omega, by go_num, by rw [HR2.out], by rw [HU2.out], rfl⟩
                    case measure => first | (simp [intOf]; done) | (simp [intOf]; omega)
                  · have HR2 : Hid (rateR F T fr t n (i + 1) = R) := Lib.hid (by rw [rateR, if_pos hin, ← hR]; omega)
                    have HU2 : Hid (burstR F T fr t n (i + 1) = (F i).b) := Lib.hid (by rw [burstR, if_pos hin, ← hU]; omega)
                    clear hin hR hU
                    go_wp2_with fail
                    go_round
                    case rel => exact ⟨i + 1, _, by omega, by go_num, by rw [HR2.out], by rw [HU2.out], rfl⟩
                    case measure => first | (simp [intOf]; done) | (simp [intOf]; omega)
                  · have HR2 : Hid (rateR F T fr t n (i + 1) = R) := Lib.hid (by rw [rateR, if_pos hin, ← hR]; omega)
                    have HU2 : Hid (burstR F T fr t n (i + 1) = U) := Lib.hid (by rw [burstR, if_pos hin, ← hU]; omega)
                    clear hin hR hU
                    go_wp2_with fail
                    go_round
                    case rel => exact ⟨i + 1, _, by omega, by go_num, by rw [HR2.out], by rw [HU2.out], rfl⟩
                    case measure => first | (simp [intOf]; done) | (simp [intOf]; omega)
                · have b4 : decide (fr ≤ N) = false := decide_eq_false hfe
                  have hin : inF F T fr t n i = false := by rw [hin0]; exact decide_eq_false (fun h => hfe h.2.2)
                  have HR2 : Hid (rateR F T fr t n (i + 1) = R) := Lib.hid (by rw [rateR, if_neg (by rw [hin]; simp), ← hR])
                  have HU2 : Hid (burstR F T fr t n (i + 1) = U) := Lib.hid (by rw [burstR, if_neg (by rw [hin]; simp), ← hU])
                  clear hin hR hU hin0 hN
                  go_wp2_with fail
                  go_round
                  case rel => exact ⟨i + 1, _, by omega, by go_num, by rw [HR2.out], by rw [HU2.out], rfl⟩
                  case measure => first | (simp [intOf]; done) | (simp [intOf]; omega)
          · have b2 : decide (t < (F i).t) = true := decide_eq_true (by omega)
            have hin : inF F T fr t n i = false := by rw [hin0]; exact decide_eq_false (fun h => htt h.2.1)
            have HR2 : Hid (rateR F T fr t n (i + 1) = R) := Lib.hid (by rw [rateR, if_neg (by rw [hin]; simp), ← hR])
            have HU2 : Hid (burstR F T fr t n (i + 1) = U) := Lib.hid (by rw [burstR, if_neg (by rw [hin]; simp), ← hU])
            clear hin hR hU hin0 hT
            go_wp2_with fail
            go_round
            case rel => exact ⟨i + 1, _, by omega, by go_num, by rw [HR2.out], by rw [HU2.out], rfl⟩
            case measure => first | (simp [intOf]; done) | (simp [intOf]; omega)
        · have b1 : ((F i).ten != T) = true := by simpa using hT
          have hin : inF F T fr t n i = false := by rw [hin0]; exact decide_eq_false (fun h => hT h.1)
          have HR2 : Hid (rateR F T fr t n (i + 1) = R) := Lib.hid (by rw [rateR, if_neg (by rw [hin]; simp), ← hR])
          have HU2 : Hid (burstR F T fr t n (i + 1) = U) := Lib.hid (by rw [burstR, if_neg (by rw [hin]; simp), ← hU])
          clear hin hR hU hin0 hT
          go_wp2_with fail
          go_round
          case rel => exact ⟨i + 1, _, by omega, by go_num, by rw [HR2.out], by rw [HU2.out], rfl⟩
          case measure => first | (simp [intOf]; done) | (simp [intOf]; omega)
      · obtain rfl : n = i := by omega
        obtain ⟨M1, M2⟩ := prod_bd (R := R) (d := t - s) r1 r2 (by omega) (by omega)
        obtain ⟨M, hM⟩ : ∃ M, M = R * (t - s) := ⟨_, rfl⟩
        rw [← hM] at M1 M2
        have hM' : R * (t - s) = M := hM.symm
        have HEND : Hid (1000 * burstR F T fr t n n + rateR F T fr t n n * (t - s) = 1000 * U + M) := Lib.hid (by rw [← hR, ← hU, hM'])
        clear hR hU hM
        go_wp2_with fail
        go_ret
        exact ⟨by rw [HEND.out]; rfl, rfl⟩
  · clear hfr
    go_enter Try.func88, Try.ntmps88
    go_wp2_with fail
    go_at_call 110
    refine (tick_id _ _ s0 (by omega)).mono ?_
    rintro e W ⟨rfl, rfl⟩
    go_wp2_with fail
    go_at_call 110
    refine (tick_id _ _ (by omega) t1).mono ?_
    rintro e W ⟨rfl, rfl⟩
    go_wp2_with fail
    go_loop [12, 13, 14, 15] (fun r u en iv => ∃ (i : Nat) (z : Int), i ≤ n ∧ iv = .int .i64 i ∧ r = .int .i64 (rateR F T fr t n i) ∧ u = .int .i64 (burstR F T fr t n i) ∧ en = .int .i64 z) (fun _ _ _ iv => n - (intOf iv).toNat)
    case atStart => exact ⟨0, _, Nat.zero_le _, rfl, rfl, rfl, rfl⟩
    case round =>
      obtain ⟨i, z, hi, rfl, rfl, rfl, rfl⟩ := hrel
      obtain ⟨⟨r1, r2⟩, u1, u2⟩ := rateR_bd (T := T) (fr := fr) (t := t) HC.out hi
      obtain ⟨R, hR⟩ : ∃ R, R = rateR F T fr t n i := ⟨_, rfl⟩
      obtain ⟨U, hU⟩ : ∃ U, U = burstR F T fr t n i := ⟨_, rfl⟩
      rw [← hR] at r1 r2
      rw [← hU] at u1 u2
      rw [← hR, ← hU]
      by_cases hlt : i < n
      · obtain ⟨e0, e1⟩ := HS.out.at_ (by omega)
        subst e0
        obtain ⟨c0, c1, c2, c3⟩ := HS.out.cell i hlt
        have hfi := chkF_le HC.out i hlt
        obtain ⟨_, f2, _, f3, f4, f5, f6⟩ := hfi
        have hin0 : inF F T fr t n i = decide ((F i).ten = T ∧ (F i).t ≤ t ∧ fr ≤ nextA F T (i + 1) (n - (i + 1))) := rfl
        by_cases hT : (F i).ten = T
        · have b1 : ((F i).ten != T) = false := by simpa using hT
          by_cases htt : (F i).t ≤ t
          · have b2 : decide (t < (F i).t) = false := decide_eq_false (by omega)
            have HIN0 := Lib.hid hin0
            have HT9 := Lib.hid hT
            have HR := Lib.hid hR
            have HU := Lib.hid hU
            clear hin0 hT hR hU
            go_wp2_with fail
            go_loop [14, 16] (fun en kv => ∃ j : Nat, i ≤ j ∧ j < n ∧ kv = .int .i64 j ∧ en = .int .i64 (nextA F T (j + 1) (n - (j + 1)))) (fun _ kv => (intOf kv).toNat)
            case atStart => exact ⟨n - 1, by omega, by omega, by congr 1; omega, by rw [show n - 1 + 1 = n by omega, Nat.sub_self]; rfl⟩
            case round =>
              obtain ⟨j, hj1, hj2, rfl, rfl⟩ := hrel
              by_cases hji : i < j
              · obtain ⟨k0, k1, _, _⟩ := HS.out.cell j hj2
                obtain ⟨q, rfl⟩ : ∃ q, j = q + 1 := ⟨j - 1, by omega⟩
                have HNX : Hid (nextA F T (q + 1) (n - (q + 1)) = if (F (q + 1)).ten = T then (F (q + 1)).t else nextA F T (q + 1 + 1) (n - (q + 1 + 1))) := Lib.hid (by
                  unfold nextA
                  rw [show n - (q + 1) = (n - (q + 1 + 1)) + 1 by omega, nextO]
                  split <;> rfl)
                have hq1 : ((q + 1 : Nat) : Int) - 1 = (q : Int) := by omega
                obtain ⟨x, hx⟩ : ∃ x, x = q + 1 := ⟨_, rfl⟩
                rw [← hx] at hq1 k0 k1 hji hj1 hj2 HNX ⊢
                have HX := Lib.hid hx
                clear hx
                by_cases hw : (F x).ten = T
                · have b3 : ((F x).ten == T) = true := by simpa using hw
                  have HNX2 : Hid (nextA F T x (n - x) = (F x).t) := Lib.hid (by rw [HNX.out, if_pos hw])
                  clear hw
                  go_wp2_with fail
                  go_round
                  case rel => exact ⟨q, by have := HX.out; omega, by have := HX.out; omega, rfl, by rw [← HX.out, HNX2.out]⟩
                  case measure => simp [intOf]; have := HX.out; omega
                · have b3 : ((F x).ten == T) = false := by simpa using hw
                  have HNX2 : Hid (nextA F T x (n - x) = nextA F T (x + 1) (n - (x + 1))) := Lib.hid (by rw [HNX.out, if_neg hw])
                  clear hw
                  go_wp2_with fail
                  go_round
                  case rel => exact ⟨q, by have := HX.out; omega, by have := HX.out; omega, rfl, by rw [← HX.out, HNX2.out]⟩
                  case measure => simp [intOf]; have := HX.out; omega
              · obtain rfl : i = j := by omega
                have hR := HR.out
                have hU := HU.out
                obtain ⟨N, hN⟩ : ∃ N, N = nextA F T (i + 1) (n - (i + 1)) := ⟨_, rfl⟩
                have hin0 := HIN0.out
                rw [← hN] at hin0 ⊢
                by_cases hfe : fr ≤ N
                · have b4 : decide (fr ≤ N) = true := decide_eq_true hfe
                  have hin : inF F T fr t n i = true := by rw [hin0]; exact decide_eq_true ⟨HT9.out, htt, hfe⟩
                  clear hin0 hN
                  rcases (show (R < (F i).r ∧ U < (F i).b) ∨ (R < (F i).r ∧ (F i).b ≤ U) ∨ ((F i).r ≤ R ∧ U < (F i).b) ∨ ((F i).r ≤ R ∧ (F i).b ≤ U) by omega) with ⟨y1, y2⟩ | ⟨y1, y2⟩ | ⟨y1, y2⟩ | ⟨y1, y2⟩
                  · have HR2 : Hid (rateR F T fr t n (i + 1) = (F i).r) := Lib.hid (by rw [rateR, if_pos hin, ← hR]; omega)
                    have HU2 : Hid (burstR F T fr t n (i + 1) = (F i).b) := Lib.hid (by rw [burstR, if_pos hin, ← hU]; omega)
                    clear hin hR hU
                    go_wp2_with fail
                    go_round
                    case rel => exact ⟨i + 1, _, by omega, by go_num, by rw [HR2.out], by rw [HU2.out], rfl⟩
                    case measure => first | (simp [intOf]; done) | (simp [intOf]; omega)
                  · have HR2 : Hid (rateR F T fr t n (i + 1) = (F i).r) := Lib.hid (by rw [rateR, if_pos hin, ← hR]; omega)
                    have HU2 : Hid (burstR F T fr t n (i + 1) = U) := Lib.hid (by rw [burstR, if_pos hin, ← hU]; omega)
                    clear hin hR hU
                    go_wp2_with fail
                    go_round
                    case rel => exact ⟨i + 1, _, by omega, by go_num, by rw [HR2.out], by rw [HU2.out], rfl⟩
                    case measure => first | (simp [intOf]; done) | (simp [intOf]; omega)
                  · have HR2 : Hid (rateR F T fr t n (i + 1) = R) := Lib.hid (by rw [rateR, if_pos hin, ← hR]; omega)
                    have HU2 : Hid (burstR F T fr t n (i + 1) = (F i).b) := Lib.hid (by rw [burstR, if_pos hin, ← hU]; omega)
                    clear hin hR hU
                    go_wp2_with fail
                    go_round
                    case rel => exact ⟨i + 1, _, by omega, by go_num, by rw [HR2.out], by rw [HU2.out], rfl⟩
                    case measure => first | (simp [intOf]; done) | (simp [intOf]; omega)
                  · have HR2 : Hid (rateR F T fr t n (i + 1) = R) := Lib.hid (by rw [rateR, if_pos hin, ← hR]; omega)
                    have HU2 : Hid (burstR F T fr t n (i + 1) = U) := Lib.hid (by rw [burstR, if_pos hin, ← hU]; omega)
                    clear hin hR hU
                    go_wp2_with fail
                    go_round
                    case rel => exact ⟨i + 1, _, by omega, by go_num, by rw [HR2.out], by rw [HU2.out], rfl⟩
                    case measure => first | (simp [intOf]; done) | (simp [intOf]; omega)
                · have b4 : decide (fr ≤ N) = false := decide_eq_false hfe
                  have hin : inF F T fr t n i = false := by rw [hin0]; exact decide_eq_false (fun h => hfe h.2.2)
                  have HR2 : Hid (rateR F T fr t n (i + 1) = R) := Lib.hid (by rw [rateR, if_neg (by rw [hin]; simp), ← hR])
                  have HU2 : Hid (burstR F T fr t n (i + 1) = U) := Lib.hid (by rw [burstR, if_neg (by rw [hin]; simp), ← hU])
                  clear hin hR hU hin0 hN
                  go_wp2_with fail
                  go_round
                  case rel => exact ⟨i + 1, _, by omega, by go_num, by rw [HR2.out], by rw [HU2.out], rfl⟩
                  case measure => first | (simp [intOf]; done) | (simp [intOf]; omega)
          · have b2 : decide (t < (F i).t) = true := decide_eq_true (by omega)
            have hin : inF F T fr t n i = false := by rw [hin0]; exact decide_eq_false (fun h => htt h.2.1)
            have HR2 : Hid (rateR F T fr t n (i + 1) = R) := Lib.hid (by rw [rateR, if_neg (by rw [hin]; simp), ← hR])
            have HU2 : Hid (burstR F T fr t n (i + 1) = U) := Lib.hid (by rw [burstR, if_neg (by rw [hin]; simp), ← hU])
            clear hin hR hU hin0 hT
            go_wp2_with fail
            go_round
            case rel => exact ⟨i + 1, _, by omega, by go_num, by rw [HR2.out], by rw [HU2.out], rfl⟩
            case measure => first | (simp [intOf]; done) | (simp [intOf]; omega)
        · have b1 : ((F i).ten != T) = true := by simpa using hT
          have hin : inF F T fr t n i = false := by rw [hin0]; exact decide_eq_false (fun h => hT h.1)
          have HR2 : Hid (rateR F T fr t n (i + 1) = R) := Lib.hid (by rw [rateR, if_neg (by rw [hin]; simp), ← hR])
          have HU2 : Hid (burstR F T fr t n (i + 1) = U) := Lib.hid (by rw [burstR, if_neg (by rw [hin]; simp), ← hU])
          clear hin hR hU hin0 hT
          go_wp2_with fail
          go_round
          case rel => exact ⟨i + 1, _, by omega, by go_num, by rw [HR2.out], by rw [HU2.out], rfl⟩
          case measure => first | (simp [intOf]; done) | (simp [intOf]; omega)
      · obtain rfl : n = i := by omega
        obtain ⟨M1, M2⟩ := prod_bd (R := R) (d := t - s) r1 r2 (by omega) (by omega)
        obtain ⟨M, hM⟩ : ∃ M, M = R * (t - s) := ⟨_, rfl⟩
        rw [← hM] at M1 M2
        have hM' : R * (t - s) = M := hM.symm
        have HEND : Hid (1000 * burstR F T fr t n n + rateR F T fr t n n * (t - s) = 1000 * U + M) := Lib.hid (by rw [← hR, ← hU, hM'])
        clear hR hU hM
        go_wp2_with fail
        go_ret
        exact ⟨by rw [HEND.out]; rfl, rfl⟩
theorem rbound_any (T s t h : Int) (a : Option Addr) (n c b o : Nat) (F : Nat → ForceE) (w : World) (hs : ForceIn w a n c b o F) (hn : n ≤ 60) (hch : chkF F n = true) (s0 : 0 ≤ s) (s1 : s < t) (t1 : t ≤ 1099511627776) (hh : h ≤ 9223372036854775807) :
    Calls Try.prog 88 #[.slice a n c, .int .i64 T, .int .i64 s, .int .i64 t, .int .i64 h] w fun e w' => e = .returned (.int .i64 (1000 * burstR F T (s - min (max h 0) 1099511627776) t n n + rateR F T (s - min (max h 0) 1099511627776) t n n * (t - s))) ∧ w = w' :=
  rbound_H T s t h (min (max h 0) 1099511627776) a n c b o F w hs hn hch s0 s1 t1 hh (by omega)
end Go.Proofs.Ytninhjeiialbjaa
