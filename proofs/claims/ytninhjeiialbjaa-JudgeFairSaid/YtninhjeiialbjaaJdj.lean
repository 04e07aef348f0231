/-
  The two answers of Kept are one.
-/
import Derived.Test.YtninhjeiialbjaaJdi
namespace Go.Proofs.Ytninhjeiialbjaa
open Go.RowKit
set_option linter.unusedSimpArgs false
set_option linter.unusedVariables false

theorem nextO_snoc (F : Nat → ForceE) (T : Int) : ∀ (d k : Nat), nextO F T k (d + 1) = match nextO F T k d with | some v => some v | none => if (F (k + d)).ten = T then some (F (k + d)).t else none
  | 0, k => by simp [nextO]
  | d + 1, k => by
    rw [nextO]
    by_cases e : (F k).ten = T
    · rw [if_pos e, nextO, if_pos e]
    · rw [if_neg e, nextO_snoc F T d (k + 1), nextO, if_neg e, show k + 1 + d = k + (d + 1) by omega]
theorem spanC_own {F : Nat → ForceE} {T : Int} {n : Nat} (h : (F n).ten = T) : spanC F T (n + 1) = ((spanC F T n).1 + 1, upd (endAt (spanC F T n) (F n).t) (spanC F T n).1 ⟨(F n).t, 9223372036854775807, (F n).r, (F n).b⟩) := by rw [spanC, if_pos h]
theorem spanC_not {F : Nat → ForceE} {T : Int} {n : Nat} (h : ¬ (F n).ten = T) : spanC F T (n + 1) = spanC F T n := by rw [spanC, if_neg h]
theorem spanC_cnt (F : Nat → ForceE) (T : Int) (k : Nat) : ∀ d, (nextO F T k d = none → (spanC F T (k + d)).1 = (spanC F T k).1) ∧ (∀ v, nextO F T k d = some v → (spanC F T k).1 < (spanC F T (k + d)).1)
  | 0 => ⟨fun _ => rfl, fun v h => by cases h⟩
  | d + 1 => by
    obtain ⟨h1, h2⟩ := spanC_cnt F T k d
    rw [nextO_snoc]
    cases hx : nextO F T k d with
    | none =>
      simp only
      by_cases e : (F (k + d)).ten = T
      · rw [if_pos e, ← Nat.add_assoc, spanC_own e, h1 hx]
        exact ⟨fun h => (by cases h), fun _ _ => by simp⟩
      · rw [if_neg e, ← Nat.add_assoc, spanC_not e]
        exact ⟨fun _ => h1 hx, fun v h => by cases h⟩
    | some v =>
      simp only
      refine ⟨fun h => (by cases h), fun _ _ => ?_⟩
      have h3 := h2 v hx
      rw [← Nat.add_assoc]
      by_cases e : (F (k + d)).ten = T
      · rw [spanC_own e]; simp only; omega
      · rw [spanC_not e]; exact h3
theorem spanC_at {F : Nat → ForceE} {T : Int} {i : Nat} (hi : (F i).ten = T) : ∀ d, (spanC F T (i + 1 + d)).2 (spanC F T i).1 = ⟨(F i).t, (nextO F T (i + 1) d).getD 9223372036854775807, (F i).r, (F i).b⟩
  | 0 => by
    rw [Nat.add_zero, spanC_own hi]
    simp only
    rw [upd_same]
    rfl
  | d + 1 => by
    have ih := spanC_at hi d
    obtain ⟨h1, h2⟩ := spanC_cnt F T (i + 1) d
    have h0 : (spanC F T (i + 1)).1 = (spanC F T i).1 + 1 := by rw [spanC_own hi]
    rw [h0] at h1 h2
    rw [nextO_snoc, ← Nat.add_assoc]
    by_cases e : (F (i + 1 + d)).ten = T
    · rw [spanC_own e]
      simp only
      cases hx : nextO F T (i + 1) d with
      | none =>
        have h3 := h1 hx
        simp only
        rw [if_pos e, upd_ne _ _ (by omega), endAt, if_pos (by omega), h3, show (spanC F T i).1 + 1 - 1 = (spanC F T i).1 by omega, upd_same, ih]
        rfl
      | some v =>
        have h3 := h2 v hx
        simp only
        rw [upd_ne _ _ (by omega), endAt, if_pos (by omega), upd_ne _ _ (by omega), ih, hx]
    · rw [spanC_not e, ih]
      cases hx : nextO F T (i + 1) d with
      | none => simp only; rw [if_neg e]
      | some v => rfl
theorem nextO_bd {F : Nat → ForceE} {T : Int} {m : Nat} (hc : chkF F m = true) : ∀ (d k : Nat), k + d ≤ m → ∀ v, nextO F T k d = some v → 0 ≤ v ∧ v ≤ 1099511627776
  | 0, k, _, v, h => by cases h
  | d + 1, k, hk, v, h => by
    rw [nextO] at h
    by_cases e : (F k).ten = T
    · rw [if_pos e] at h
      obtain rfl := Option.some.inj h
      have h1 := chkF_le hc k (by omega)
      have h2 := lastF_0 hc k (by omega)
      omega
    · rw [if_neg e] at h
      exact nextO_bd hc d (k + 1) (by omega) v h
theorem rate_link {F : Nat → ForceE} {T : Int} {m : Nat} {s t H : Int} (hc : chkF F m = true) (s0 : 0 ≤ s) (s1 : s ≤ 1099511627776) (hH : 0 ≤ H) : ∀ i, i ≤ m →
    rateS (spanC F T m).2 t (s - H) (spanC F T i).1 = rateR F T (s - min H 1099511627776) t m i ∧ burstS (spanC F T m).2 t (s - H) (spanC F T i).1 = burstR F T (s - min H 1099511627776) t m i
  | 0, _ => ⟨rfl, rfl⟩
  | i + 1, hi => by
    obtain ⟨h1, h2⟩ := rate_link hc s0 s1 hH i (by omega)
    rw [rateR, burstR]
    by_cases e : (F i).ten = T
    · have hat := spanC_at e (m - (i + 1))
      rw [show i + 1 + (m - (i + 1)) = m by omega] at hat
      have hcnt : (spanC F T (i + 1)).1 = (spanC F T i).1 + 1 := by rw [spanC_own e]
      rw [hcnt, rateS, burstS, hat, h1, h2]
      have hhit : hitB t (s - H) ⟨(F i).t, (nextO F T (i + 1) (m - (i + 1))).getD 9223372036854775807, (F i).r, (F i).b⟩ = inF F T (s - min H 1099511627776) t m i := by
        unfold hitB inF nextA
        simp only
        cases hx : nextO F T (i + 1) (m - (i + 1)) with
        | none =>
          simp only [Option.getD_none]
          by_cases e2 : (F i).t ≤ t
          · rw [decide_eq_true ⟨e2, by omega⟩, decide_eq_true ⟨e, e2, by omega⟩]
          · rw [decide_eq_false (fun h => e2 h.1), decide_eq_false (fun h => e2 h.2.1)]
        | some v =>
          have hv := nextO_bd hc (m - (i + 1)) (i + 1) (by omega) v hx
          simp only [Option.getD_some]
          by_cases e2 : (F i).t ≤ t
          · by_cases e3 : s - H ≤ v
            · rw [decide_eq_true ⟨e2, e3⟩, decide_eq_true ⟨e, e2, by omega⟩]
            · rw [decide_eq_false (fun h => e3 h.2), decide_eq_false (fun h => by have := h.2.2; omega)]
          · rw [decide_eq_false (fun h => e2 h.1), decide_eq_false (fun h => e2 h.2.1)]
      rw [hhit]
      exact ⟨rfl, rfl⟩
    · have hin : inF F T (s - min H 1099511627776) t m i = false := decide_eq_false fun h => e h.1
      rw [spanC_not e, hin]
      simpa using ⟨h1, h2⟩

/-- is a stretch between two ticks bad? -/
def badK (L : Nat → SentE) (n : Nat) (F : Nat → ForceE) (m : Nat) (H T X Y : Int) : Bool :=
  decide (1000 * burstR F T (X - 1 - min H 1099511627776) Y m m + rateR F T (X - 1 - min H 1099511627776) Y m m * (Y - (X - 1)) < 1000 * outS L T (X - 1) Y n)
theorem outR_outS {L : Nat → SentE} {n : Nat} {T : Int} (hc : chkS L n = true) {k c : Nat} (hkc : k ≤ c) (hc2 : c < (sumC L T n).1) : outR (sumC L T n).2 k (c + 1 - k) = outS L T (((sumC L T n).2 k).t - 1) ((sumC L T n).2 c).t n := by
  have hup := (sumC_up (T := T) hc).1
  rw [← outF_sum, outF_mid (a := k) (e := c + 1) (fun i hi => by have := hup i k hi (by omega); omega) (fun i h1 h2 => by
      refine ⟨?_, ?_⟩
      · by_cases e9 : k = i
        · rw [← e9]; omega
        · have := hup k i (by omega) (by omega); omega
      · by_cases e9 : i = c
        · rw [e9]; exact Int.le_refl _
        · have := hup i c (by omega) hc2; omega) (by omega) _ (fun i h1 h2 => by have := hup c i (by omega) h2; omega), if_neg (by omega)]
  by_cases hp2 : (sumC L T n).1 ≤ c + 1
  · rw [if_pos hp2, show (sumC L T n).1 = c + 1 by omega]
  · rw [if_neg hp2]
theorem badT_K {L : Nat → SentE} {n : Nat} {F : Nat → ForceE} {m : Nat} {H T : Int} (hc : chkS L n = true) (hf : chkF F m = true) (hH : 0 ≤ H) {k c : Nat} (hkc : k ≤ c) (hc2 : c < (sumC L T n).1) : badT L n F m H T k c = badK L n F m H T ((sumC L T n).2 k).t ((sumC L T n).2 c).t := by
  have b1 := sumC_bd (T := T) hc k (by omega)
  obtain ⟨h1, h2⟩ := rate_link (T := T) (s := ((sumC L T n).2 k).t - 1) (t := ((sumC L T n).2 c).t) hf (by omega) (by omega) hH m (Nat.le_refl _)
  unfold badT badB badK boundC
  rw [outR_outS hc hkc hc2, h1, h2]
theorem badR_K {L : Nat → SentE} {n : Nat} {F : Nat → ForceE} {m : Nat} {H T : Int} {i k : Nat} (h1 : (L i).ten = T) (h2 : (L k).ten = T) : badR L n F m (min H 1099511627776) T i k = badK L n F m H T (L i).t (L k).t := by
  unfold badR badK
  rw [decide_eq_true h1, decide_eq_true h2, Bool.true_and, Bool.true_and]
theorem badR_own {L : Nat → SentE} {n : Nat} {F : Nat → ForceE} {m : Nat} {H T : Int} {i k : Nat} (h : badR L n F m H T i k = true) : (L i).ten = T ∧ (L k).ten = T := by
  unfold badR at h
  simp only [Bool.and_eq_true, decide_eq_true_eq] at h
  exact ⟨h.1, h.2.1⟩
theorem sum_of_own {L : Nat → SentE} {T : Int} : ∀ {n : Nat} (i : Nat), i < n → (L i).ten = T → ∃ a, a < (sumC L T n).1 ∧ ((sumC L T n).2 a).t = (L i).t
  | 0, i, hi, _ => by omega
  | n + 1, i, hi, ho => by
    simp only [sumC]
    by_cases e : i = n
    · subst e
      rw [if_pos ho]
      split
      · rename_i e2
        exact ⟨(sumC L T i).1 - 1, by simp only; omega, by simp only; rw [upd_same]; exact e2.2⟩
      · exact ⟨(sumC L T i).1, by simp only; omega, by simp only; rw [upd_same]⟩
    · obtain ⟨a, h1, h2⟩ := sum_of_own (n := n) i (by omega) ho
      split
      · split
        · refine ⟨a, h1, ?_⟩
          simp only
          by_cases ea : a = (sumC L T n).1 - 1
          · subst ea; rw [upd_same]; exact h2
          · rw [upd_ne _ _ ea]; exact h2
        · refine ⟨a, by simp only; omega, ?_⟩
          simp only
          rw [upd_ne _ _ (show a ≠ (sumC L T n).1 by omega)]
          exact h2
      · exact ⟨a, h1, h2⟩
theorem own_of_sum {L : Nat → SentE} {T : Int} : ∀ {n : Nat} (a : Nat), a < (sumC L T n).1 → ∃ i, i < n ∧ (L i).ten = T ∧ (L i).t = ((sumC L T n).2 a).t
  | 0, a, h => by simp [sumC] at h
  | n + 1, a, h => by
    simp only [sumC] at h ⊢
    by_cases e : (L n).ten = T
    · rw [if_pos e] at h ⊢
      by_cases e2 : 0 < (sumC L T n).1 ∧ ((sumC L T n).2 ((sumC L T n).1 - 1)).t = (L n).t
      · rw [if_pos e2] at h ⊢
        simp only at h ⊢
        obtain ⟨i, h1, h2, h3⟩ := own_of_sum (L := L) (T := T) (n := n) a h
        refine ⟨i, by omega, h2, ?_⟩
        by_cases ea : a = (sumC L T n).1 - 1
        · subst ea; rw [upd_same]; exact h3
        · rw [upd_ne _ _ ea]; exact h3
      · rw [if_neg e2] at h ⊢
        simp only at h ⊢
        by_cases ea : a = (sumC L T n).1
        · subst ea; rw [upd_same]; exact ⟨n, by omega, e, rfl⟩
        · rw [upd_ne _ _ ea]
          obtain ⟨i, h1, h2, h3⟩ := own_of_sum (L := L) (T := T) (n := n) a (by omega)
          exact ⟨i, by omega, h2, h3⟩
    · rw [if_neg e] at h ⊢
      obtain ⟨i, h1, h2, h3⟩ := own_of_sum (L := L) (T := T) (n := n) a h
      exact ⟨i, by omega, h2, h3⟩

section
variable {L : Nat → SentE} {n : Nat} {F : Nat → ForceE} {m : Nat} {H T : Int} (hc : chkS L n = true) (hf : chkF F m = true) (hH : 0 ≤ H)
include hc hf hH
theorem to_entries {a c : Nat} (hac : a ≤ c) (hcp : c < (sumC L T n).1) (hb : badT L n F m H T a c = true) : ∃ i k, i ≤ k ∧ k < n ∧ badR L n F m (min H 1099511627776) T i k = true ∧ (L i).t = ((sumC L T n).2 a).t ∧ (L k).t = ((sumC L T n).2 c).t := by
  have hup := (sumC_up (T := T) hc).1
  rw [badT_K hc hf hH hac hcp] at hb
  obtain ⟨i, i1, i2, i3⟩ := own_of_sum (n := n) (L := L) (T := T) a (by omega)
  by_cases e : a = c
  · subst e
    exact ⟨i, i, Nat.le_refl _, i1, by rw [badR_K i2 i2, i3]; exact hb, i3, i3⟩
  · obtain ⟨k, k1, k2, k3⟩ := own_of_sum (n := n) (L := L) (T := T) c hcp
    have hlt := hup a c (by omega) hcp
    refine ⟨i, k, ?_, k1, by rw [badR_K i2 k2, i3, k3]; exact hb, i3, k3⟩
    by_cases e2 : i ≤ k
    · exact e2
    · have := chkS_sorted hc (i := k) (k := i) (by omega) i1
      omega
theorem to_sums {i k : Nat} (hik : i ≤ k) (hkn : k < n) (hb : badR L n F m (min H 1099511627776) T i k = true) : ∃ a c, a ≤ c ∧ c < (sumC L T n).1 ∧ badT L n F m H T a c = true ∧ ((sumC L T n).2 a).t = (L i).t ∧ ((sumC L T n).2 c).t = (L k).t := by
  have hup := (sumC_up (T := T) hc).1
  obtain ⟨o1, o2⟩ := badR_own hb
  rw [badR_K o1 o2] at hb
  obtain ⟨a, a1, a2⟩ := sum_of_own (n := n) (L := L) (T := T) i (by omega) o1
  obtain ⟨c, c1, c2⟩ := sum_of_own (n := n) (L := L) (T := T) k hkn o2
  have hs := chkS_sorted hc hik hkn
  have hac : a ≤ c := by
    by_cases e : a ≤ c
    · exact e
    · have := hup c a (by omega) a1
      omega
  exact ⟨a, c, hac, c1, by rw [badT_K hc hf hH hac c1, a2, c2]; exact hb, a2, c2⟩
theorem none_iff : NoneB (badT L n F m H T) (sumC L T n).1 ↔ NoneB (badR L n F m (min H 1099511627776) T) n := by
  refine ⟨fun h i k h1 h2 => ?_, fun h a c h1 h2 => ?_⟩
  · cases hb : badR L n F m (min H 1099511627776) T i k
    · rfl
    · obtain ⟨a, c, q1, q2, q3, _⟩ := to_sums hc hf hH h1 h2 hb
      rw [h a c q1 q2] at q3; cases q3
  · cases hb : badT L n F m H T a c
    · rfl
    · obtain ⟨i, k, q1, q2, q3, _⟩ := to_entries hc hf hH h1 h2 hb
      rw [h i k q1 q2] at q3; cases q3
theorem first_same {a c i k : Nat} (h1 : FirstB (badT L n F m H T) (sumC L T n).1 a c) (h2 : FirstB (badR L n F m (min H 1099511627776) T) n i k) : (L i).t = ((sumC L T n).2 a).t ∧ (L k).t = ((sumC L T n).2 c).t := by
  have hup := (sumC_up (T := T) hc).1
  obtain ⟨p1, p2, p3, p4, p5⟩ := h1
  obtain ⟨r1, r2, r3, r4, r5⟩ := h2
  obtain ⟨i1, k1, x1, x2, x3, x4, x5⟩ := to_entries hc hf hH p1 p2 p3
  obtain ⟨a1, c1, y1, y2, y3, y4, y5⟩ := to_sums hc hf hH r1 r2 r3
  have e1 : i ≤ i1 := by
    by_cases e : i ≤ i1
    · exact e
    · rw [r4 i1 (by omega) k1 x1 x2] at x3; cases x3
  have e2 : a ≤ a1 := by
    by_cases e : a ≤ a1
    · exact e
    · rw [p4 a1 (by omega) c1 y1 y2] at y3; cases y3
  have s1 := chkS_sorted hc e1 (by omega)
  have s2 : ((sumC L T n).2 a).t ≤ ((sumC L T n).2 a1).t := by
    by_cases e : a = a1
    · rw [e]; exact Int.le_refl _
    · have := hup a a1 (by omega) (by omega); omega
  have hX : (L i).t = ((sumC L T n).2 a).t := by omega
  have e3 : a1 = a := by
    by_cases e : a1 = a
    · exact e
    · have := hup a a1 (by omega) (by omega); omega
  subst e3
  have e4 : c ≤ c1 := by
    by_cases e : c ≤ c1
    · exact e
    · rw [p5 c1 y1 (by omega)] at y3; cases y3
  have s4 : ((sumC L T n).2 c).t ≤ ((sumC L T n).2 c1).t := by
    by_cases e : c = c1
    · rw [e]; exact Int.le_refl _
    · have := hup c c1 (by omega) y2; omega
  obtain ⟨o1, _⟩ := badR_own r3
  obtain ⟨o3, o4⟩ := badR_own x3
  have x6 : badR L n F m (min H 1099511627776) T i k1 = true := by
    rw [badR_K o1 o4]
    rw [badR_K o3 o4, x4] at x3
    rw [hX]; exact x3
  have e5 : k ≤ k1 := by
    by_cases e : k ≤ k1
    · exact e
    · rw [r5 k1 (by omega) (by omega)] at x6; cases x6
  have s5 := chkS_sorted hc e5 x2
  exact ⟨hX, by omega⟩
end
theorem kept_same {w w1 w2 w3 : World} {L : Nat → SentE} {n : Nat} {F : Nat → ForceE} {m : Nat} {H : Int} {e e2 : Ending} (hH : 0 ≤ H) (h1 : KeptP w L n F m H e w1) (h2 : RKeptP w2 L n F m (min H 1099511627776) e2 w3) : e2 = e := by
  obtain ⟨_, h1⟩ := h1
  obtain ⟨_, h2⟩ := h2
  cases hch : (chkS L n && chkF F m)
  · rcases h1 with ⟨_, he⟩ | ⟨h, _⟩ | ⟨h, _⟩
    · rcases h2 with ⟨_, he2⟩ | ⟨h, _⟩ | ⟨h, _⟩
      · rw [he, he2]
      · rw [hch] at h; cases h
      · rw [hch] at h; cases h
    · rw [hch] at h; cases h
    · rw [hch] at h; cases h
  · obtain ⟨hc, hf⟩ := Bool.and_eq_true_iff.1 hch
    rcases h1 with ⟨h, _⟩ | ⟨_, hn1, he⟩ | ⟨_, T, a, c, t1, t2, hno, hfi, he⟩
    · rw [hch] at h; cases h
    · rcases h2 with ⟨h, _⟩ | ⟨_, _, he2⟩ | ⟨_, T, i, k, t1, t2, hno, hfi, he2⟩
      · rw [hch] at h; cases h
      · rw [he, he2]
      · have := (none_iff hc hf hH).1 (hn1 T t1 t2) i k hfi.1 hfi.2.1
        rw [hfi.2.2.1] at this; cases this
    · rcases h2 with ⟨h, _⟩ | ⟨_, hn2, he2⟩ | ⟨_, T', i, k, t1', t2', hno', hfi', he2⟩
      · rw [hch] at h; cases h
      · have := (none_iff hc hf hH).2 (hn2 T t1 t2) a c hfi.1 hfi.2.1
        rw [hfi.2.2.1] at this; cases this
      · have hTT : T' = T := by
          by_cases e1 : T' < T
          · have := (none_iff hc hf hH).1 (hno T' t1' e1) i k hfi'.1 hfi'.2.1
            rw [hfi'.2.2.1] at this; cases this
          · by_cases e2 : T < T'
            · have := (none_iff hc hf hH).2 (hno' T t1 e2) a c hfi.1 hfi.2.1
              rw [hfi.2.2.1] at this; cases this
            · omega
        subst hTT
        obtain ⟨q1, q2⟩ := first_same hc hf hH hfi hfi'
        rw [he, he2, q1, q2]
end Go.Proofs.Ytninhjeiialbjaa
