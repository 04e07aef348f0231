/-
  Package judge: Kept.
-/
import Derived.Test.YtcimcmfibinehaaJdb
import Derived.Test.YtcimcmfibinehaaJd3
namespace Go.Proofs.Ytcimcmfibinehaa
open Go.RowKit
set_option linter.unusedSimpArgs false
set_option linter.unusedVariables false

theorem sumC_up {L : Nat → SentE} {T : Int} : ∀ {n : Nat}, chkS L n = true → (∀ i j, i < j → j < (sumC L T n).1 → ((sumC L T n).2 i).t < ((sumC L T n).2 j).t) ∧ (∀ i, i < (sumC L T n).1 → ((sumC L T n).2 i).t ≤ lastS L n)
  | 0, _ => by simp [sumC]
  | n + 1, h => by
    obtain ⟨h1, h2⟩ := sumC_up (T := T) (chkS_pre h n (by omega))
    have hn := (chkS_le h n (by omega)).2.2.2.1
    rw [lastS_succ]
    simp only [sumC]
    split
    · split
      · rename_i e2
        simp only
        refine ⟨fun i j hij hj => ?_, fun i hi => ?_⟩
        · have h3 := h1 i j hij hj
          by_cases ei : i = (sumC L T n).1 - 1
          · omega
          · rw [upd_ne _ _ ei]
            by_cases ej : j = (sumC L T n).1 - 1
            · subst ej; rw [upd_same]; exact h3
            · rw [upd_ne _ _ ej]; exact h3
        · have h3 := h2 i hi
          by_cases ei : i = (sumC L T n).1 - 1
          · subst ei; rw [upd_same]; simp only; omega
          · rw [upd_ne _ _ ei]; omega
      · rename_i e2
        simp only
        have hlt : ∀ i, i < (sumC L T n).1 → ((sumC L T n).2 i).t < (L n).t := fun i hi => by
          have h3 := h2 i hi
          by_cases ei : i = (sumC L T n).1 - 1
          · have : ¬ ((sumC L T n).2 ((sumC L T n).1 - 1)).t = (L n).t := fun e => e2 ⟨by omega, e⟩
            rw [← ei] at this
            omega
          · have h4 := h1 i ((sumC L T n).1 - 1) (by omega) (by omega)
            have h5 := h2 ((sumC L T n).1 - 1) (by omega)
            omega
        refine ⟨fun i j hij hj => ?_, fun i hi => ?_⟩
        · rw [upd_ne _ _ (by omega)]
          by_cases ej : j = (sumC L T n).1
          · subst ej; rw [upd_same]; exact hlt i hij
          · rw [upd_ne _ _ ej]; exact h1 i j hij (by omega)
        · by_cases ei : i = (sumC L T n).1
          · subst ei; rw [upd_same]; exact Int.le_refl _
          · rw [upd_ne _ _ ei]; have := hlt i (by omega); omega
    · exact ⟨h1, fun i hi => by have := h2 i hi; omega⟩
theorem endAt_b (p : Nat × (Nat → SpanE)) (t : Int) (i : Nat) : (endAt p t i).b = (p.2 i).b := by
  unfold endAt
  split
  · by_cases e : i = p.1 - 1
    · subst e; rw [upd_same]
    · rw [upd_ne _ _ e]
  · rfl
theorem spanC_up {F : Nat → ForceE} {T : Int} : ∀ {n : Nat}, chkF F n = true → (∀ i j, i ≤ j → j < (spanC F T n).1 → ((spanC F T n).2 i).b ≤ ((spanC F T n).2 j).b) ∧ (∀ i, i < (spanC F T n).1 → ((spanC F T n).2 i).b ≤ lastF F n)
  | 0, _ => by simp [spanC]
  | n + 1, h => by
    obtain ⟨h1, h2⟩ := spanC_up (T := T) (chkF_pre h n (by omega))
    have hn := (chkF_le h n (by omega)).1
    rw [lastF_succ]
    simp only [spanC]
    split
    · simp only
      refine ⟨fun i j hij hj => ?_, fun i hi => ?_⟩
      · by_cases ej : j = (spanC F T n).1
        · subst ej
          rw [upd_same]
          by_cases ei : i = (spanC F T n).1
          · subst ei; rw [upd_same]; exact Int.le_refl _
          · rw [upd_ne _ _ ei, endAt_b]; simp only; have := h2 i (by omega); omega
        · rw [upd_ne _ _ ej, upd_ne _ _ (by omega), endAt_b, endAt_b]
          exact h1 i j hij (by omega)
      · by_cases ei : i = (spanC F T n).1
        · subst ei; rw [upd_same]; exact Int.le_refl _
        · rw [upd_ne _ _ ei, endAt_b]; have := h2 i (by omega); omega
    · exact ⟨h1, fun i hi => by have := h2 i hi; omega⟩

/-- the bad stretches of a tenant, by its sums -/
def badT (L : Nat → SentE) (n : Nat) (F : Nat → ForceE) (m : Nat) (h T : Int) : Nat → Nat → Bool := badB (sumC L T n).2 (spanC F T m).2 (spanC F T m).1 h
def KeptP (w : World) (L : Nat → SentE) (n : Nat) (F : Nat → ForceE) (m : Nat) (h : Int) (e : Ending) (w' : World) : Prop :=
  Below w.heap.size w w' ∧ (((chkS L n && chkF F m) = false ∧ e = .returned (.tuple #[.int .i64 0, .int .i64 0, .int .i64 0, .bool false, .int .i64 2])) ∨
    ((chkS L n && chkF F m) = true ∧ (∀ T : Int, 1 ≤ T → T ≤ 16 → NoneB (badT L n F m h T) (sumC L T n).1) ∧ e = .returned (.tuple #[.int .i64 0, .int .i64 0, .int .i64 0, .bool true, .int .i64 0])) ∨
    ((chkS L n && chkF F m) = true ∧ ∃ (T : Int) (k c : Nat), 1 ≤ T ∧ T ≤ 16 ∧ (∀ T' : Int, 1 ≤ T' → T' < T → NoneB (badT L n F m h T') (sumC L T' n).1) ∧ FirstB (badT L n F m h T) (sumC L T n).1 k c ∧
      e = .returned (.tuple #[.int .i64 (((sumC L T n).2 k).t - 1), .int .i64 ((sumC L T n).2 c).t, .int .i64 T, .bool false, .int .i64 0])))

theorem results_tmp5 {fn : Func} {t u v x y : Tmp} (h : fn.results = #[.tmp t, .tmp u, .tmp v, .tmp x, .tmp y]) (tmps : Array Value) (P : Program) (w : World) :
    (results fn tmps).run P w = .ok (.tuple #[tmps.getD t undef, tmps.getD u undef, tmps.getD v undef, tmps.getD x undef, tmps.getD y undef]) w := by simp [results, h]

set_option maxRecDepth 100000 in
set_option maxHeartbeats 8000000 in
theorem kept_H (h H : Int) (a : Option Addr) (n c b o : Nat) (L : Nat → SentE) (a' : Option Addr) (m c' b' o' : Nat) (F : Nat → ForceE) (w : World) (h1 : SentIn w a n c b o L) (h2 : ForceIn w a' m c' b' o' F) (hn : n ≤ 60) (hm : m ≤ 60) (hh : h ≤ 9223372036854775807) (hH : (h < 0 ∧ H = 0) ∨ (0 ≤ h ∧ H = h)) :
    Calls Try.prog 8 #[.slice a n c, .slice a' m c', .int .i64 h] w (KeptP w L n F m H) := by
  have hm1 := h1.max
  have hl1 := h1.le
  have hm2 := h2.max
  have hl2 := h2.le
  unfold maxLen at hm1 hm2
  have HS := Lib.hid h1
  have HF := Lib.hid h2
  have HC := Lib.hid (check_any a n c b o L a' m c' b' o' F w h1 h2)
  clear h1 h2
  cases hch : (chkS L n && chkF F m)
  · have HFIN : Hid (∀ W, Below w.heap.size w W → KeptP w L n F m H (.returned (.tuple #[.int .i64 0, .int .i64 0, .int .i64 0, .bool false, .int .i64 2])) W) := Lib.hid (fun W hW => ⟨hW, .inl ⟨hch, rfl⟩⟩)
    rw [hch] at HC
    clear hch
    go_enter Try.func8, Try.ntmps8
    go_wp2_with fail
    go_at_call 17
    refine Calls.mono HC.out ?_
    rintro e W1 ⟨rfl, hB1⟩
    have HB1 := Lib.hid hB1
    clear hB1
    go_wp2_with fail
    refine bodyPost_ret (results_tmp5 rfl _ _ _) rfl ?_
    exact HFIN.out _ HB1.out
  · obtain ⟨hcs, hcf⟩ := Bool.and_eq_true_iff.1 hch
    have HCS := Lib.hid hcs
    have HCF := Lib.hid hcf
    have HCH := Lib.hid hch
    have H0 : 0 ≤ H := by omega
    have H1 : H ≤ 9223372036854775807 := by omega
    rw [hch] at HC
    clear hcs hcf hch
    go_enter Try.func8, Try.ntmps8
    go_wp2_with fail
    go_at_call 17
    refine Calls.mono HC.out ?_
    rintro e W1 ⟨rfl, hB1⟩
    have HB1 := Lib.hid hB1
    clear hB1
    go_wp2_with fail
    go_loopw [11] (fun t wr => ∃ T : Int, 1 ≤ T ∧ T ≤ 17 ∧ t = .int .i64 T ∧ (∀ T' : Int, 1 ≤ T' → T' < T → NoneB (badT L n F m H T') (sumC L T' n).1) ∧ Below w.heap.size w wr) (fun t _ => (17 - intOf t).toNat)
    case atStart => exact ⟨1, by omega, by omega, rfl, (fun T' h1 h2 => by omega), HB1.out⟩
    case round =>
      obtain ⟨T, hT1, hT2, rfl, hno, hB⟩ := hrel
      have HNO := Lib.hid hno
      have HB := Lib.hid hB
      clear hno hB
      by_cases hT : T ≤ 16
      · have HCA : Hid (∀ W, Below w.heap.size w W → Calls Try.prog 19 #[.slice a n c, .int .i64 T] W fun e w' => ∃ v ob, e = .returned v ∧ Row w' v ob 76 2 (sumC L T n).1 (sumL (sumC L T n).2 (sumC L T n).1) ∧ (∀ g, ob = some g → W.heap.size ≤ g) ∧ Below W.heap.size W w') := Lib.hid (fun W hW => sums_any T a n c b o L W (HS.out.below hW) HCS.out hn)
        have HCB : Hid (∀ W, Below w.heap.size w W → Calls Try.prog 20 #[.slice a' m c', .int .i64 T] W fun e w' => ∃ v ob, e = .returned v ∧ Row w' v ob 65 4 (spanC F T m).1 (spanL (spanC F T m).2 (spanC F T m).1) ∧ (∀ g, ob = some g → W.heap.size ≤ g) ∧ Below W.heap.size W w') := Lib.hid (fun W hW => spans_any T a' m c' b' o' F W (HF.out.below hW) hm)
        have HBT : Hid (badT L n F m H T = badB (sumC L T n).2 (spanC F T m).2 (spanC F T m).1 H) := Lib.hid rfl
        have HF1 := Lib.hid (sumC_bd (T := T) HCS.out)
        have HF2 := Lib.hid (sumC_up (T := T) HCS.out).1
        have HG1 := Lib.hid (spanC_fine (T := T) HCF.out)
        have HG2 := Lib.hid (spanC_up (T := T) HCF.out).1
        have hp := sumC_le L T n
        have hq := spanC_le F T m
        have HFST : Hid (∀ k c, FirstB (badT L n F m H T) (sumC L T n).1 k c → ∀ W, Below w.heap.size w W → KeptP w L n F m H (.returned (.tuple #[.int .i64 (((sumC L T n).2 k).t - 1), .int .i64 ((sumC L T n).2 c).t, .int .i64 T, .bool false, .int .i64 0])) W) := Lib.hid (fun k c hk W hW => ⟨hW, .inr (.inr ⟨HCH.out, T, k, c, hT1, hT, HNO.out, hk, rfl⟩)⟩)
        have HNXT : Hid (NoneB (badT L n F m H T) (sumC L T n).1 → ∀ T' : Int, 1 ≤ T' → T' < T + 1 → NoneB (badT L n F m H T') (sumC L T' n).1) := Lib.hid (fun hN T' h1 h2 => by
          by_cases e : T' = T
          · rw [e]; exact hN
          · exact HNO.out T' h1 (by omega))
        obtain ⟨pp, hpp⟩ : ∃ pp, pp = sumC L T n := ⟨_, rfl⟩
        obtain ⟨qq, hqq⟩ : ∃ qq, qq = spanC F T m := ⟨_, rfl⟩
        rw [← hpp] at HCA HBT HF1 HF2 hp HFST HNXT
        rw [← hqq] at HCB HBT HG1 HG2 hq
        obtain ⟨p, f⟩ := pp
        obtain ⟨q, g⟩ := qq
        dsimp only at HCA HBT HF1 HF2 hp HFST HNXT HCB HG1 HG2 hq
        clear hpp hqq
        rcases hH with ⟨y1, rfl⟩ | ⟨y1, rfl⟩
        all_goals
          go_wp2_with fail
          go_at_call 19
          refine Calls.mono (HCA.out _ HB.out) ?_
          rintro e W2 ⟨v1, ob1, rfl, hr1, _, hB2⟩
          obtain ⟨av, cv, rfl, hin1⟩ := sum_row hr1 (fun k hk => by have := HF1.out k hk; unfold SumE.ok; omega)
          have HIN1 := Lib.hid hin1
          have HB2 := Lib.hid (HB.out.trans (hB2.mono HB.out.size))
          clear hr1 hB2 hin1
          go_wp2_with fail
          go_at_call 20
          refine Calls.mono (HCB.out _ HB2.out) ?_
          rintro e W3 ⟨v2, ob2, rfl, hr2, _, hB3⟩
          obtain ⟨av2, cv2, rfl, hin2⟩ := span_row hr2 (fun k hk => (HG1.out k hk).ok)
          have HIN2 := Lib.hid hin2
          have HIN1 := Lib.hid (HIN1.out.below hB3)
          have HB3 := Lib.hid (HB2.out.trans (hB3.mono HB2.out.size))
          clear hr2 hB3 hin2
          go_wp2_with fail
          go_at_call 18
          refine Calls.mono (breaks_any _ _ _ _ _ _ f _ _ _ _ _ g _ HIN1.out HIN2.out (by omega) (by omega) (fun k hk => by have := HF1.out k hk; omega) HF2.out HG1.out HG2.out H0 H1) ?_
          rintro e W4 ⟨hB4, ⟨hN, rfl⟩ | ⟨k, c9, hfi, rfl⟩⟩
          · have HB4 := Lib.hid (HB3.out.trans (hB4.mono HB3.out.size))
            rw [← HBT.out] at hN
            have HN9 := Lib.hid (HNXT.out hN)
            clear hB4 hN
            go_wp2_with fail
            go_roundw
            case rel => exact ⟨T + 1, by omega, by omega, rfl, HN9.out, HB4.out⟩
            case measure => first | (simp [intOf]; done) | (simp [intOf]; omega)
          · have HB4 := Lib.hid (HB3.out.trans (hB4.mono HB3.out.size))
            rw [← HBT.out] at hfi
            have HFIN := Lib.hid (HFST.out k c9 hfi W4 HB4.out)
            obtain ⟨z1, hz1⟩ : ∃ z, z = (f k).t - 1 := ⟨_, rfl⟩
            obtain ⟨z2, hz2⟩ : ∃ z, z = (f c9).t := ⟨_, rfl⟩
            rw [← hz1, ← hz2] at HFIN
            rw [← hz1, ← hz2]
            clear hB4 hfi hz1 hz2
            go_wp2_with fail
            refine bodyPost_ret (results_tmp5 rfl _ _ _) rfl ?_
            exact HFIN.out
      · have HFIN : Hid (KeptP w L n F m H (.returned (.tuple #[.int .i64 0, .int .i64 0, .int .i64 0, .bool true, .int .i64 0])) wr) := Lib.hid ⟨HB.out, .inr (.inl ⟨HCH.out, fun T' a1 a2 => HNO.out T' a1 (by omega), rfl⟩)⟩
        go_wp2_with fail
        refine bodyPost_ret (results_tmp5 rfl _ _ _) rfl ?_
        exact HFIN.out
theorem kept_any (h : Int) (a : Option Addr) (n c b o : Nat) (L : Nat → SentE) (a' : Option Addr) (m c' b' o' : Nat) (F : Nat → ForceE) (w : World) (h1 : SentIn w a n c b o L) (h2 : ForceIn w a' m c' b' o' F) (hn : n ≤ 60) (hm : m ≤ 60) (hh : h ≤ 9223372036854775807) :
    Calls Try.prog 8 #[.slice a n c, .slice a' m c', .int .i64 h] w (KeptP w L n F m (max h 0)) := kept_H h (max h 0) a n c b o L a' m c' b' o' F w h1 h2 hn hm hh (by omega)
end Go.Proofs.Ytcimcmfibinehaa
