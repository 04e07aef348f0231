/-
  weirref30.Kept: the document's own answer.
-/
import Derived.Test.YtninhjeiialbjaaJdh
namespace Go.Proofs.Ytninhjeiialbjaa
open Go.RowKit
set_option linter.unusedSimpArgs false
set_option linter.unusedVariables false

theorem chkS_sorted {L : Nat → SentE} {n : Nat} (h : chkS L n = true) {i k : Nat} (hik : i ≤ k) (hk : k < n) : (L i).t ≤ (L k).t := by
  induction k with
  | zero => obtain rfl : i = 0 := by omega
            exact Int.le_refl _
  | succ k ih =>
    by_cases e : i = k + 1
    · rw [e]; exact Int.le_refl _
    · have h1 := ih (by omega) (by omega)
      have h2 := (chkS_le h (k + 1) hk).2.2.2.1
      rw [lastS_succ] at h2
      omega
theorem chkS_one {L : Nat → SentE} {n : Nat} (h : chkS L n = true) (i : Nat) (hi : i < n) : 1 ≤ (L i).t := by
  have h1 := chkS_sorted h (Nat.zero_le i) hi
  have h2 := (chkS_le h 0 (by omega)).2.2.2.1
  have h3 : lastS L 0 = 1 := rfl
  omega
/-- a bad stretch, by the entries -/
def badR (L : Nat → SentE) (n : Nat) (F : Nat → ForceE) (m : Nat) (H T : Int) (i k : Nat) : Bool :=
  decide ((L i).ten = T) && (decide ((L k).ten = T) && decide (1000 * burstR F T ((L i).t - 1 - H) (L k).t m m + rateR F T ((L i).t - 1 - H) (L k).t m m * ((L k).t - ((L i).t - 1)) < 1000 * outS L T ((L i).t - 1) (L k).t n))
def RKeptP (w : World) (L : Nat → SentE) (n : Nat) (F : Nat → ForceE) (m : Nat) (H : Int) (e : Ending) (w' : World) : Prop :=
  Below w.heap.size w w' ∧ (((chkS L n && chkF F m) = false ∧ e = .returned (.tuple #[.int .i64 0, .int .i64 0, .int .i64 0, .bool false, .int .i64 2])) ∨
    ((chkS L n && chkF F m) = true ∧ (∀ T : Int, 1 ≤ T → T ≤ 16 → NoneB (badR L n F m H T) n) ∧ e = .returned (.tuple #[.int .i64 0, .int .i64 0, .int .i64 0, .bool true, .int .i64 0])) ∨
    ((chkS L n && chkF F m) = true ∧ ∃ (T : Int) (k c : Nat), 1 ≤ T ∧ T ≤ 16 ∧ (∀ T' : Int, 1 ≤ T' → T' < T → NoneB (badR L n F m H T') n) ∧ FirstB (badR L n F m H T) n k c ∧
      e = .returned (.tuple #[.int .i64 ((L k).t - 1), .int .i64 (L c).t, .int .i64 T, .bool false, .int .i64 0])))

set_option maxRecDepth 100000 in
set_option maxHeartbeats 8000000 in
theorem rkept_any (h : Int) (a : Option Addr) (n c b o : Nat) (L : Nat → SentE) (a' : Option Addr) (m c' b' o' : Nat) (F : Nat → ForceE) (w : World) (h1 : SentIn w a n c b o L) (h2 : ForceIn w a' m c' b' o' F) (hn : n ≤ 60) (hm : m ≤ 60) (hh : h ≤ 9223372036854775807) :
    Calls Try.prog 51 #[.slice a n c, .slice a' m c', .int .i64 h] w (RKeptP w L n F m (min (max h 0) 1099511627776)) := by
  have hm1 := h1.max
  have hl1 := h1.le
  have hm2 := h2.max
  have hl2 := h2.le
  unfold maxLen at hm1 hm2
  have HS := Lib.hid h1
  have HF := Lib.hid h2
  have HC := Lib.hid (rcheck_any a n c b o L a' m c' b' o' F w h1 h2)
  obtain ⟨H, hH⟩ : ∃ H, H = min (max h 0) 1099511627776 := ⟨_, rfl⟩
  rw [← hH]
  have HH := Lib.hid hH
  clear h1 h2 hH
  cases hch : (chkS L n && chkF F m)
  · have HFIN : Hid (∀ W, Below w.heap.size w W → RKeptP w L n F m H (.returned (.tuple #[.int .i64 0, .int .i64 0, .int .i64 0, .bool false, .int .i64 2])) W) := Lib.hid (fun W hW => ⟨hW, .inl ⟨hch, rfl⟩⟩)
    rw [hch] at HC
    clear hch
    go_enter Try.func51, Try.ntmps51
    go_wp2_with fail
    go_at_call 86
    refine Calls.mono HC.out ?_
    rintro e W1 ⟨rfl, hB1⟩
    have HB1 := Lib.hid hB1
    clear hB1
    go_wp2_with fail
    refine bodyPost_ret (results_tmp5 rfl _ _ _) rfl ?_
    exact HFIN.out _ HB1.out
  · obtain ⟨hcs, hcf⟩ := Bool.and_eq_true_iff.1 hch
    have HCS := Lib.hid hcs
    have HCF := Lib.hid hcf
    have HCH := Lib.hid hch
    rw [hch] at HC
    clear hcs hcf hch
    go_enter Try.func51, Try.ntmps51
    go_wp2_with fail
    go_at_call 86
    refine Calls.mono HC.out ?_
    rintro e W1 ⟨rfl, hB1⟩
    have HB1 := Lib.hid hB1
    clear hB1
    go_wp2_with fail
    go_loopw [11] (fun t wr => ∃ T : Int, 1 ≤ T ∧ T ≤ 17 ∧ t = .int .i64 T ∧ (∀ T' : Int, 1 ≤ T' → T' < T → NoneB (badR L n F m H T') n) ∧ Below w.heap.size w wr) (fun t _ => (17 - intOf t).toNat)
    case atStart => exact ⟨1, by omega, by omega, rfl, (fun T' h1 h2 => by omega), HB1.out⟩
    case round =>
      obtain ⟨T, hT1, hT2, rfl, hno, hB⟩ := hrel
      have HNO := Lib.hid hno
      have HB := Lib.hid hB
      clear hno hB
      by_cases hT : T ≤ 16
      · obtain ⟨bad, hbad⟩ : ∃ bad, bad = badR L n F m H T := ⟨_, rfl⟩
        have HFST : Hid (∀ k c, FirstB bad n k c → ∀ W, Below w.heap.size w W → RKeptP w L n F m H (.returned (.tuple #[.int .i64 ((L k).t - 1), .int .i64 (L c).t, .int .i64 T, .bool false, .int .i64 0])) W) := Lib.hid (fun k c hk W hW => ⟨hW, .inr (.inr ⟨HCH.out, T, k, c, hT1, hT, HNO.out, by rw [← hbad]; exact hk, rfl⟩)⟩)
        have HNXT : Hid (NoneB bad n → ∀ T' : Int, 1 ≤ T' → T' < T + 1 → NoneB (badR L n F m H T') n) := Lib.hid (fun hN T' h1 h2 => by
          by_cases e : T' = T
          · rw [e, ← hbad]; exact hN
          · exact HNO.out T' h1 (by omega))
        have HBAD : Hid (∀ i k, bad i k = (decide ((L i).ten = T) && (decide ((L k).ten = T) && decide (1000 * burstR F T ((L i).t - 1 - H) (L k).t m m + rateR F T ((L i).t - 1 - H) (L k).t m m * ((L k).t - ((L i).t - 1)) < 1000 * outS L T ((L i).t - 1) (L k).t n)))) := Lib.hid (fun i k => by rw [hbad]; rfl)
        clear hbad
        obtain ⟨w2, hw2⟩ : ∃ w2 : World, w2 = wr := ⟨_, rfl⟩
        subst hw2
        go_wp2_with fail
        go_loopw [12] (fun iv wr => ∃ i : Nat, i ≤ n ∧ iv = .int .i64 i ∧ (∀ i', i' < i → ∀ k', i' ≤ k' → k' < n → bad i' k' = false) ∧ Below w.heap.size w wr) (fun iv _ => n - (intOf iv).toNat)
        case atStart => exact ⟨0, Nat.zero_le _, rfl, (fun i' h1 => by omega), HB.out⟩
        case round =>
          clear HB
          obtain ⟨i, hi, rfl, hno2, hB⟩ := hrel
          have HNO2 := Lib.hid hno2
          have HB := Lib.hid hB
          clear hno2 hB
          by_cases hlt : i < n
          · obtain ⟨w3, hw3⟩ : ∃ w3 : World, w3 = wr := ⟨_, rfl⟩
            subst hw3
            go_wp2_with fail
            go_loopw [13] (fun kv wr => ∃ k : Nat, i ≤ k ∧ k ≤ n ∧ kv = .int .i64 k ∧ (∀ k', i ≤ k' → k' < k → bad i k' = false) ∧ Below w.heap.size w wr) (fun kv _ => n - (intOf kv).toNat)
            case atStart => exact ⟨i, Nat.le_refl _, by omega, rfl, (fun k' h1 h2 => by omega), HB.out⟩
            case round =>
              clear HB
              obtain ⟨k, hk1, hk2, rfl, hno3, hB⟩ := hrel
              have HNO3 := Lib.hid hno3
              have HB := Lib.hid hB
              clear hno3 hB
              by_cases hltk : k < n
              · obtain ⟨e0, e1⟩ := HS.out.at_ (by omega)
                subst e0
                obtain ⟨c0, _, c2, _⟩ := (HS.out.below HB.out).cell i hlt
                obtain ⟨d0, _, d2, _⟩ := (HS.out.below HB.out).cell k hltk
                have HEX : Hid (bad i k = false → ∀ k', i ≤ k' → k' < k + 1 → bad i k' = false) := Lib.hid (fun hb k' h1 h2 => by
                  by_cases e : k' = k
                  · rw [e]; exact hb
                  · exact HNO3.out k' h1 (by omega))
                have hbik := HBAD.out i k
                by_cases hoi : (L i).ten = T
                · have b1 : ((L i).ten != T) = false := by simpa using hoi
                  by_cases hok : (L k).ten = T
                  · have b2 : ((L k).ten != T) = false := by simpa using hok
                    have x1 := chkS_one HCS.out i hlt
                    have x2 := chkS_sorted HCS.out hk1 hltk
                    have x3 := (chkS_le HCS.out k hltk).2.2.1
                    rw [decide_eq_true hoi, decide_eq_true hok, Bool.true_and, Bool.true_and] at hbik
                    obtain ⟨o1, o2⟩ := outS_bd (T := T) (s := (L i).t - 1) (t := (L k).t) HCS.out
                    obtain ⟨⟨r1, r2⟩, r3, r4⟩ := rateR_bd (T := T) (fr := (L i).t - 1 - H) (t := (L k).t) HCF.out (Nat.le_refl m)
                    have HRO : Hid (∀ W, Below w.heap.size w W → Calls Try.prog 87 #[.slice (some ⟨b, o, none⟩) n c, .int .i64 T, .int .i64 ((L i).t - 1), .int .i64 (L k).t] W fun e w' => e = .returned (.int .i64 (outS L T ((L i).t - 1) (L k).t n)) ∧ W = w') := Lib.hid (fun W hW => rout_any T _ _ _ n c b o L W (HS.out.below hW) HCS.out hn)
                    have HRB : Hid (∀ W, Below w.heap.size w W → Calls Try.prog 88 #[.slice a' m c', .int .i64 T, .int .i64 ((L i).t - 1), .int .i64 (L k).t, .int .i64 h] W fun e w' => e = .returned (.int .i64 (1000 * burstR F T ((L i).t - 1 - H) (L k).t m m + rateR F T ((L i).t - 1 - H) (L k).t m m * ((L k).t - ((L i).t - 1)))) ∧ W = w') := Lib.hid (fun W hW => by
                      have hb := rbound_any T ((L i).t - 1) (L k).t h a' m c' b' o' F W (HF.out.below hW) hm HCF.out (by omega) (by omega) x3 hh
                      rw [← HH.out] at hb
                      exact hb)
                    obtain ⟨M1, M2⟩ := prod_bd (R := rateR F T ((L i).t - 1 - H) (L k).t m m) (d := (L k).t - ((L i).t - 1)) r1 r2 (by omega) (by omega)
                    obtain ⟨X, hX⟩ : ∃ X, X = outS L T ((L i).t - 1) (L k).t n := ⟨_, rfl⟩
                    obtain ⟨Y, hY⟩ : ∃ Y, Y = 1000 * burstR F T ((L i).t - 1 - H) (L k).t m m + rateR F T ((L i).t - 1 - H) (L k).t m m * ((L k).t - ((L i).t - 1)) := ⟨_, rfl⟩
                    have hY1 : 0 ≤ Y := by omega
                    have hY2 : Y ≤ 1099511627776000000 + 1000000000 := by omega
                    rw [← hX] at hbik HRO o1 o2
                    rw [← hY] at hbik HRB
                    have o3 : X ≤ 90000 := by omega
                    have HTT : Hid (∀ W, FirstB bad n i k → Below w.heap.size w W → RKeptP w L n F m H (.returned (.tuple #[.int .i64 ((L i).t - 1), .int .i64 (L k).t, .int .i64 T, .bool false, .int .i64 0])) W) := Lib.hid (fun W hf hW => HFST.out i k hf W hW)
                    obtain ⟨ti, hti⟩ : ∃ ti, ti = (L i).t := ⟨_, rfl⟩
                    obtain ⟨tk, htk⟩ : ∃ tk, tk = (L k).t := ⟨_, rfl⟩
                    rw [← hti] at c0 x1 x2 HRO HRB HTT
                    rw [← htk] at d0 x2 x3 HRO HRB HTT
                    clear hX hY hti htk r1 r2 r3 r4 M1 M2 o2 hoi hok
                    cases hbd : bad i k
                    · rw [hbd] at hbik
                      have b9 : decide (Y < 1000 * X) = false := hbik.symm
                      have HEX2 := Lib.hid (HEX.out hbd)
                      clear hbd hbik
                      go_wp2_with fail
                      (refine wp_region_quiet_lit (by kernel_rfl) (by kernel_rfl) ?_; (repeat (first | go_big_quiet_step (fail) | (refine BigFrame.wpQuiet_skip (by rfl) ?_; try simp only [Act.put, List.setIfInBounds_toArray, List.set_cons_zero, List.set_cons_succ]))); refine wpQuiet_nil ?_; intro _ hw9; obtain ⟨nq, hw8⟩ := hw9; subst hw8)
                      have HBq := Lib.hid (below_drewN HB.out nq)
                      go_wp2_with fail
                      go_at_call 87
                      refine Calls.mono (HRO.out _ HBq.out) ?_
                      rintro e W4 ⟨rfl, rfl⟩
                      go_wp2_with fail
                      go_at_call 88
                      refine Calls.mono (HRB.out _ HBq.out) ?_
                      rintro e W4 ⟨rfl, rfl⟩
                      go_wp2_with fail
                      go_roundw
                      case rel => exact ⟨k + 1, by omega, by omega, by go_num, HEX2.out, HBq.out⟩
                      case measure => first | (simp [intOf]; done) | (simp [intOf]; omega)
                    · rw [hbd] at hbik
                      have b9 : decide (Y < 1000 * X) = true := hbik.symm
                      have HFIN := Lib.hid (HTT.out · ⟨hk1, hltk, hbd, HNO2.out, HNO3.out⟩)
                      clear hbd hbik
                      go_wp2_with fail
                      (refine wp_region_quiet_lit (by kernel_rfl) (by kernel_rfl) ?_; (repeat (first | go_big_quiet_step (fail) | (refine BigFrame.wpQuiet_skip (by rfl) ?_; try simp only [Act.put, List.setIfInBounds_toArray, List.set_cons_zero, List.set_cons_succ]))); refine wpQuiet_nil ?_; intro _ hw9; obtain ⟨nq, hw8⟩ := hw9; subst hw8)
                      have HBq := Lib.hid (below_drewN HB.out nq)
                      go_wp2_with fail
                      go_at_call 87
                      refine Calls.mono (HRO.out _ HBq.out) ?_
                      rintro e W4 ⟨rfl, rfl⟩
                      go_wp2_with fail
                      go_at_call 88
                      refine Calls.mono (HRB.out _ HBq.out) ?_
                      rintro e W4 ⟨rfl, rfl⟩
                      go_wp2_with fail
                      refine bodyPost_ret (results_tmp5 rfl _ _ _) rfl ?_
                      exact HFIN.out _ HBq.out
                  · have b2 : ((L k).ten != T) = true := by simpa using hok
                    have HEX2 := Lib.hid (HEX.out (by rw [hbik, decide_eq_false hok]; simp))
                    clear hbik hok hoi
                    go_wp2_with fail
                    go_roundw
                    case rel => exact ⟨k + 1, by omega, by omega, by go_num, HEX2.out, HB.out⟩
                    case measure => first | (simp [intOf]; done) | (simp [intOf]; omega)
                · have b1 : ((L i).ten != T) = true := by simpa using hoi
                  have HEX2 := Lib.hid (HEX.out (by rw [hbik, decide_eq_false hoi]; simp))
                  clear hbik hoi
                  go_wp2_with fail
                  go_roundw
                  case rel => exact ⟨k + 1, by omega, by omega, by go_num, HEX2.out, HB.out⟩
                  case measure => first | (simp [intOf]; done) | (simp [intOf]; omega)
              · obtain rfl : k = n := by omega
                have HNO4 : Hid (∀ i', i' < i + 1 → ∀ k', i' ≤ k' → k' < k → bad i' k' = false) := Lib.hid (fun i' h1 k' h2 h3 => by
                  by_cases e : i' = i
                  · rw [e] at h2 ⊢; exact HNO3.out k' h2 h3
                  · exact HNO2.out i' (by omega) k' h2 h3)
                go_wp2_with fail
                go_roundw
                case rel => exact ⟨i + 1, by omega, by go_num, HNO4.out, HB.out⟩
                case measure => first | (simp [intOf]; done) | (simp [intOf]; omega)
          · have HN9 := Lib.hid (HNXT.out (fun i' k' h1 h2 => HNO2.out i' (by omega) k' h1 h2))
            go_wp2_with fail
            go_roundw
            case rel => exact ⟨T + 1, by omega, by omega, rfl, HN9.out, HB.out⟩
            case measure => first | (simp [intOf]; done) | (simp [intOf]; omega)
      · have HFIN : Hid (RKeptP w L n F m H (.returned (.tuple #[.int .i64 0, .int .i64 0, .int .i64 0, .bool true, .int .i64 0])) wr) := Lib.hid ⟨HB.out, .inr (.inl ⟨HCH.out, fun T' a1 a2 => HNO.out T' a1 (by omega), rfl⟩)⟩
        go_wp2_with fail
        refine bodyPost_ret (results_tmp5 rfl _ _ _) rfl ?_
        exact HFIN.out
end Go.Proofs.Ytninhjeiialbjaa
