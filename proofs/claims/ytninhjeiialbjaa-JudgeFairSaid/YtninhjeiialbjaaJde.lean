/-
  JudgeSums, walked.
-/
import Derived.Test.YtninhjeiialbjaaJdd
namespace Go.Proofs.Ytninhjeiialbjaa
open Go.RowKit
set_option linter.unusedSimpArgs false
set_option linter.unusedVariables false

theorem outS_add (L : Nat → SentE) (T s t u : Int) (h1 : s ≤ t) (h2 : t ≤ u) : ∀ n, outS L T s t n + outS L T t u n = outS L T s u n
  | 0 => by simp [outS]
  | n + 1 => by
    have ih := outS_add L T s t u h1 h2 n
    rw [outS, outS, outS, ← ih]
    by_cases a1 : (L n).ten = T
    · by_cases a2 : s < (L n).t
      · by_cases a3 : (L n).t ≤ t
        · rw [show inB T s t (L n) = true from decide_eq_true ⟨a1, a2, a3⟩, show inB T t u (L n) = false from decide_eq_false (by omega), show inB T s u (L n) = true from decide_eq_true ⟨a1, a2, by omega⟩]
          simp; omega
        · by_cases a4 : (L n).t ≤ u
          · rw [show inB T s t (L n) = false from decide_eq_false (by omega), show inB T t u (L n) = true from decide_eq_true ⟨a1, by omega, a4⟩, show inB T s u (L n) = true from decide_eq_true ⟨a1, a2, a4⟩]
            simp; omega
          · rw [show inB T s t (L n) = false from decide_eq_false (by omega), show inB T t u (L n) = false from decide_eq_false (by omega), show inB T s u (L n) = false from decide_eq_false (by omega)]
            simp
      · rw [show inB T s t (L n) = false from decide_eq_false (by omega), show inB T t u (L n) = false from decide_eq_false (by omega), show inB T s u (L n) = false from decide_eq_false (by omega)]
        simp
    · rw [show inB T s t (L n) = false from decide_eq_false (fun h => a1 h.1), show inB T t u (L n) = false from decide_eq_false (fun h => a1 h.1), show inB T s u (L n) = false from decide_eq_false (fun h => a1 h.1)]
      simp
theorem rateS_mono {S : Nat → SpanE} {t t' sh sh' : Int} (h1 : t' ≤ t) (h2 : sh ≤ sh') : ∀ {n : Nat}, (∀ k, k < n → (S k).fine) → rateS S t' sh' n ≤ rateS S t sh n ∧ burstS S t' sh' n ≤ burstS S t sh n
  | 0, _ => ⟨Int.le_refl _, Int.le_refl _⟩
  | n + 1, h => by
    obtain ⟨i1, i2⟩ := rateS_mono h1 h2 (n := n) fun k hk => h k (by omega)
    rw [rateS, rateS, burstS, burstS]
    by_cases e : hitB t' sh' (S n) = true
    · have e0 : (S n).b ≤ t' ∧ sh' ≤ (S n).e := of_decide_eq_true e
      have e2 : hitB t sh (S n) = true := decide_eq_true ⟨by omega, by omega⟩
      rw [if_pos e, if_pos e2, if_pos e, if_pos e2]
      omega
    · rw [if_neg e, if_neg e]
      by_cases e2 : hitB t sh (S n) = true
      · rw [if_pos e2, if_pos e2]
        omega
      · rw [if_neg e2, if_neg e2]
        exact ⟨i1, i2⟩
theorem boundC_mono {S : Nat → SpanE} {n : Nat} {s s' t t' sh sh' : Int} (h : ∀ k, k < n → (S k).fine) (h1 : s ≤ s') (h2 : s' ≤ t') (h3 : t' ≤ t) (h4 : sh ≤ sh') : boundC S n s' t' sh' ≤ boundC S n s t sh ∧ 0 ≤ boundC S n s' t' sh' := by
  obtain ⟨m1, m2⟩ := rateS_mono h3 h4 (n := n) h
  obtain ⟨r1, r2⟩ := rateS_bd (t := t') (sh := sh') h
  obtain ⟨u1, u2⟩ := burstS_bd (t := t') (sh := sh') h
  have hp : rateS S t' sh' n * (t' - s') ≤ rateS S t sh n * (t - s) := Int.mul_le_mul m1 (by omega) (by omega) (by omega)
  have hq : 0 ≤ rateS S t' sh' n * (t' - s') := Int.mul_nonneg r1 (by omega)
  unfold boundC
  omega

set_option maxRecDepth 100000 in
set_option maxHeartbeats 16000000 in
theorem judgeSums_any (T s t u h : Int) (a : Option Addr) (n c b o : Nat) (L : Nat → SentE) (a' : Option Addr) (m c' b' o' : Nat) (F : Nat → ForceE) (w : World) (h1 : SentIn w a n c b o L) (h2 : ForceIn w a' m c' b' o' F) (hh : h ≤ 9223372036854775807) :
    Calls Try.prog 14 #[.slice a n c, .slice a' m c', .int .i64 T, .int .i64 s, .int .i64 t, .int .i64 u, .int .i64 h] w fun e w' => e = .returned (.bool true) ∧ Below w.heap.size w w' := by
  have hm1 := h1.max
  have hl1 := h1.le
  have hm2 := h2.max
  have hl2 := h2.le
  unfold maxLen at hm1 hm2
  have HS := Lib.hid h1
  have HF := Lib.hid h2
  have HCK := Lib.hid (check_any a n c b o L a' m c' b' o' F w h1 h2)
  have HGR : Hid (∀ W, Calls Try.prog 48 #[.slice a n c, .slice a' m c'] W fun e w' => e = .returned (.bool (decide (60 < n) || decide (60 < m))) ∧ W = w') := Lib.hid (fun W => great_any a n c a' m c' W (by omega) (by omega))
  clear h1 h2
  obtain ⟨G, hG⟩ : ∃ G, G = (decide (60 < n) || decide (60 < m)) := ⟨_, rfl⟩
  obtain ⟨C, hC⟩ : ∃ C, C = (chkS L n && chkF F m) := ⟨_, rfl⟩
  rw [← hG] at HGR
  rw [← hC] at HCK
  have hcases : G = true ∨ (G = false ∧ s < 0) ∨ (G = false ∧ 0 ≤ s ∧ t < s) ∨ (G = false ∧ 0 ≤ s ∧ s ≤ t ∧ u < t) ∨ (G = false ∧ 0 ≤ s ∧ s ≤ t ∧ t ≤ u ∧ 1073741824 < u) ∨ (G = false ∧ 0 ≤ s ∧ s ≤ t ∧ t ≤ u ∧ u ≤ 1073741824) := by
    cases G
    · simp only [true_and]; omega
    · exact .inl rfl
  rcases hcases with rfl | ⟨rfl, y1⟩ | ⟨rfl, y1, y2⟩ | ⟨rfl, y1, y2, y3⟩ | ⟨rfl, y1, y2, y3, y4⟩ | ⟨rfl, y1, y2, y3, y4⟩
  iterate 5
    · clear hG hC
      go_enter Try.func14, Try.ntmps14
      go_wp2_with (first
        | (go_at_call 48; refine (HGR.out _).mono ?_; rintro e W ⟨rfl, rfl⟩)
        | (go_at_call 49; refine (jwakes_any _).mono ?_; rintro e W ⟨rfl, hW⟩))
      go_ret
      exact ⟨rfl, hW⟩
  cases C
  · clear hG hC
    go_enter Try.func14, Try.ntmps14
    go_wp2_with (go_at_call 48; refine (HGR.out _).mono ?_; rintro e W ⟨rfl, rfl⟩)
    go_at_call 56
    refine Calls.mono HCK.out ?_
    rintro e W1 ⟨rfl, hB1⟩
    have HB1 := Lib.hid hB1
    clear hB1
    go_wp2_with (go_at_call 49; refine (jwakes_any _).mono ?_; rintro e W ⟨rfl, hW⟩)
    go_ret
    exact ⟨rfl, HB1.out.trans (hW.mono HB1.out.size)⟩
  · obtain ⟨hcs, hcf⟩ := Bool.and_eq_true_iff.1 hC.symm
    have hnm : n ≤ 60 ∧ m ≤ 60 := by
      have hG' := hG.symm
      simp only [Bool.or_eq_false_iff, decide_eq_false_iff_not] at hG'
      omega
    obtain ⟨hn, hm⟩ := hnm
    have HCO : Hid (∀ (W : World) (x y : Int), Below w.heap.size w W → Calls Try.prog 52 #[.slice a n c, .int .i64 T, .int .i64 x, .int .i64 y] W fun e w' => e = .returned (.int .i64 (outS L T x y n)) ∧ Below W.heap.size W w') := Lib.hid (fun W x y hW => out_any T x y a n c b o L W (HS.out.below hW) hcs hn)
    have HCB : Hid (∀ (W : World) (y : Int), 0 ≤ y → y ≤ 1073741824 → Below w.heap.size w W → Calls Try.prog 53 #[.slice a' m c', .int .i64 T, .int .i64 s, .int .i64 y, .int .i64 h] W fun e w' => e = .returned (.int .i64 (if y ≤ s then 0 else boundC (spanC F T m).2 (spanC F T m).1 s y (s - max h 0))) ∧ Below W.heap.size W w') := Lib.hid (fun W y e1 e2 hW => bound_any T s y h a' m c' b' o' F W (HF.out.below hW) hm hcf y1 (by omega) e1 (by omega) hh)
    have had := outS_add L T s t u y2 y3 n
    obtain ⟨o1, o2⟩ := outS_bd (T := T) (s := s) (t := t) hcs
    obtain ⟨o3, o4⟩ := outS_bd (T := T) (s := t) (t := u) hcs
    have hfine := spanC_fine (T := T) hcf
    have hle : (if t ≤ s then 0 else boundC (spanC F T m).2 (spanC F T m).1 s t (s - max h 0)) ≤ (if u ≤ s then 0 else boundC (spanC F T m).2 (spanC F T m).1 s u (s - max h 0)) := by
      by_cases e1 : t ≤ s
      · rw [if_pos e1]
        by_cases e2 : u ≤ s
        · rw [if_pos e2]; exact Int.le_refl _
        · rw [if_neg e2]; exact (boundC_mono (s := s) (t := u) (sh := s - max h 0) hfine (Int.le_refl _) (by omega) (Int.le_refl _) (Int.le_refl _)).2
      · rw [if_neg e1, if_neg (by omega)]
        exact (boundC_mono hfine (Int.le_refl _) (by omega) y3 (Int.le_refl _)).1
    obtain ⟨X1, hX1⟩ : ∃ X, X = outS L T s t n := ⟨_, rfl⟩
    obtain ⟨X2, hX2⟩ : ∃ X, X = outS L T t u n := ⟨_, rfl⟩
    have HO1 : Hid (∀ (W : World), Below w.heap.size w W → Calls Try.prog 52 #[.slice a n c, .int .i64 T, .int .i64 s, .int .i64 t] W fun e w' => e = .returned (.int .i64 X1) ∧ Below W.heap.size W w') := Lib.hid (fun W hW => by rw [hX1]; exact HCO.out W s t hW)
    have HO2 : Hid (∀ (W : World), Below w.heap.size w W → Calls Try.prog 52 #[.slice a n c, .int .i64 T, .int .i64 t, .int .i64 u] W fun e w' => e = .returned (.int .i64 X2) ∧ Below W.heap.size W w') := Lib.hid (fun W hW => by rw [hX2]; exact HCO.out W t u hW)
    have HO3 : Hid (∀ (W : World), Below w.heap.size w W → Calls Try.prog 52 #[.slice a n c, .int .i64 T, .int .i64 s, .int .i64 u] W fun e w' => e = .returned (.int .i64 (X1 + X2)) ∧ Below W.heap.size W w') := Lib.hid (fun W hW => by rw [hX1, hX2, had]; exact HCO.out W s u hW)
    rw [← hX1] at o1 o2
    rw [← hX2] at o3 o4
    obtain ⟨Y1, hY1⟩ : ∃ Y, Y = (if t ≤ s then 0 else boundC (spanC F T m).2 (spanC F T m).1 s t (s - max h 0)) := ⟨_, rfl⟩
    obtain ⟨Y2, hY2⟩ : ∃ Y, Y = (if u ≤ s then 0 else boundC (spanC F T m).2 (spanC F T m).1 s u (s - max h 0)) := ⟨_, rfl⟩
    have HQ1 : Hid (∀ (W : World), Below w.heap.size w W → Calls Try.prog 53 #[.slice a' m c', .int .i64 T, .int .i64 s, .int .i64 t, .int .i64 h] W fun e w' => e = .returned (.int .i64 Y1) ∧ Below W.heap.size W w') := Lib.hid (fun W hW => by rw [hY1]; exact HCB.out W t (by omega) (by omega) hW)
    have HQ2 : Hid (∀ (W : World), Below w.heap.size w W → Calls Try.prog 53 #[.slice a' m c', .int .i64 T, .int .i64 s, .int .i64 u, .int .i64 h] W fun e w' => e = .returned (.int .i64 Y2) ∧ Below W.heap.size W w') := Lib.hid (fun W hW => by rw [hY2]; exact HCB.out W u (by omega) (by omega) hW)
    rw [← hY1, ← hY2] at hle
    have b9 : decide (Y1 ≤ Y2) = true := decide_eq_true hle
    have o5 : X1 ≤ 90000 := by omega
    have o6 : X2 ≤ 90000 := by omega
    clear hG hC hcs hcf HCO HCB had o2 o4 hfine hX1 hX2 hY1 hY2 hle
    go_enter Try.func14, Try.ntmps14
    go_wp2_with (go_at_call 48; refine (HGR.out _).mono ?_; rintro e W ⟨rfl, rfl⟩)
    go_at_call 56
    refine Calls.mono HCK.out ?_
    rintro e W1 ⟨rfl, hB1⟩
    have HB1 := Lib.hid hB1
    clear hB1
    go_wp2_with fail
    go_at_call 52
    refine Calls.mono (HO1.out _ HB1.out) ?_
    rintro e W2 ⟨rfl, hB2⟩
    have HB2 := Lib.hid (HB1.out.trans (hB2.mono HB1.out.size))
    clear hB2
    go_wp2_with fail
    go_at_call 52
    refine Calls.mono (HO2.out _ HB2.out) ?_
    rintro e W3 ⟨rfl, hB3⟩
    have HB3 := Lib.hid (HB2.out.trans (hB3.mono HB2.out.size))
    clear hB3
    go_wp2_with fail
    go_at_call 52
    refine Calls.mono (HO3.out _ HB3.out) ?_
    rintro e W4 ⟨rfl, hB4⟩
    have HB4 := Lib.hid (HB3.out.trans (hB4.mono HB3.out.size))
    clear hB4
    go_wp2_with fail
    go_at_call 53
    refine Calls.mono (HQ1.out _ HB4.out) ?_
    rintro e W5 ⟨rfl, hB5⟩
    have HB5 := Lib.hid (HB4.out.trans (hB5.mono HB4.out.size))
    clear hB5
    go_wp2_with fail
    go_at_call 53
    refine Calls.mono (HQ2.out _ HB5.out) ?_
    rintro e W6 ⟨rfl, hB6⟩
    have HB6 := Lib.hid (HB5.out.trans (hB6.mono HB5.out.size))
    clear hB6
    go_wp2_with (go_at_call 49; refine (jwakes_any _).mono ?_; rintro e W ⟨rfl, hW⟩)
    go_ret
    exact ⟨rfl, HB6.out.trans (hW.mono HB6.out.size)⟩
theorem judgeSums_walk (T s t u h : Int) (a : Option Addr) (n c : Nat) (xs : List Dt) (a' : Option Addr) (m c' : Nat) (ys : List Dt) (w : World) (h1 : SliceFits Try.prog w 129 a n c xs) (h2 : SliceFits Try.prog w 127 a' m c' ys) (hh : -9223372036854775808 ≤ h ∧ h ≤ 9223372036854775807) :
    Calls Try.prog 14 #[.slice a n c, .slice a' m c', .int .i64 T, .int .i64 s, .int .i64 t, .int .i64 u, .int .i64 h] w fun e w' => e = .returned (.bool true) ∧ Below w.heap.size w w' := by
  obtain ⟨b, o, L, hs⟩ := sent_cells w h1
  obtain ⟨b', o', F, hf⟩ := force_cells w h2
  exact judgeSums_any T s t u h a n c b o L a' m c' b' o' F w hs hf hh.2
end Go.Proofs.Ytninhjeiialbjaa
