/-
  A record that is kept is kept in any stretch.
-/
import Derived.Test.YtninhjeiialbjaaJde
namespace Go.Proofs.Ytninhjeiialbjaa
open Go.RowKit
set_option linter.unusedSimpArgs false
set_option linter.unusedVariables false

def outF (f : Nat → SumE) (s t : Int) : Nat → Int
  | 0 => 0
  | p + 1 => outF f s t p + if s < (f p).t ∧ (f p).t ≤ t then (f p).sz else 0
theorem outF_congr {f g : Nat → SumE} {s t : Int} : ∀ {p : Nat}, (∀ i, i < p → f i = g i) → outF f s t p = outF g s t p
  | 0, _ => rfl
  | p + 1, h => by rw [outF, outF, outF_congr fun i hi => h i (by omega), h p (by omega)]
theorem outF_sum (L : Nat → SentE) (T s t : Int) : ∀ n, outF (sumC L T n).2 s t (sumC L T n).1 = outS L T s t n
  | 0 => rfl
  | n + 1 => by
    have ih := outF_sum L T s t n
    rw [outS, ← ih]
    simp only [sumC]
    by_cases e1 : (L n).ten = T
    · rw [if_pos e1]
      have hin : inB T s t (L n) = decide (s < (L n).t ∧ (L n).t ≤ t) := by
        unfold inB
        by_cases e : s < (L n).t ∧ (L n).t ≤ t
        · rw [decide_eq_true e, decide_eq_true ⟨e1, e⟩]
        · rw [decide_eq_false e, decide_eq_false (fun h => e h.2)]
      rw [hin]
      by_cases e2 : 0 < (sumC L T n).1 ∧ ((sumC L T n).2 ((sumC L T n).1 - 1)).t = (L n).t
      · rw [if_pos e2]
        obtain ⟨c, hc⟩ : ∃ c, (sumC L T n).1 = c + 1 := ⟨(sumC L T n).1 - 1, by omega⟩
        obtain ⟨_, e3⟩ := e2
        simp only
        rw [hc] at e3 ⊢
        rw [show c + 1 - 1 = c by omega] at e3 ⊢
        rw [outF, outF, upd_same, outF_congr (g := (sumC L T n).2) fun i hi => upd_ne _ _ (by omega)]
        simp only [e3]
        by_cases e : s < (L n).t ∧ (L n).t ≤ t
        · rw [if_pos e, if_pos e, if_pos (by simpa using e)]; omega
        · rw [if_neg e, if_neg e, if_neg (by simpa using e)]; omega
      · rw [if_neg e2]
        simp only
        rw [outF, upd_same, outF_congr (g := (sumC L T n).2) fun i hi => upd_ne _ _ (by omega)]
        simp only
        by_cases e : s < (L n).t ∧ (L n).t ≤ t
        · rw [if_pos e, if_pos (by simpa using e)]
        · rw [if_neg e, if_neg (by simpa using e)]
    · rw [if_neg e1, show inB T s t (L n) = false from decide_eq_false fun h => e1 h.1]
      simp
theorem outF_mid {f : Nat → SumE} {s t : Int} {a e : Nat} (h1 : ∀ i, i < a → (f i).t ≤ s) (h2 : ∀ i, a ≤ i → i < e → s < (f i).t ∧ (f i).t ≤ t) (hae : a ≤ e) : ∀ p, (∀ i, e ≤ i → i < p → t < (f i).t) → outF f s t p = if p ≤ a then 0 else if p ≤ e then outR f a (p - a) else outR f a (e - a)
  | 0, _ => by simp [outF]
  | p + 1, h3 => by
    have ih := outF_mid h1 h2 hae p fun i h4 h5 => h3 i h4 (by omega)
    rw [outF, ih]
    by_cases e1 : p < a
    · have := h1 p e1
      rw [if_pos (by omega), if_neg (by omega), if_pos (by omega)]
      rfl
    · by_cases e2 : p < e
      · have := h2 p (by omega) e2
        rw [if_pos this]
        by_cases e3 : p = a
        · obtain rfl := e3
          rw [if_pos (Nat.le_refl _), if_neg (show ¬ p + 1 ≤ p by omega), if_pos (show p + 1 ≤ e by omega), show p + 1 - p = 1 by omega]
          simp [outR]
        · rw [if_neg (show ¬ p ≤ a by omega), if_pos (show p ≤ e by omega), if_neg (show ¬ p + 1 ≤ a by omega), if_pos (show p + 1 ≤ e by omega), show p + 1 - a = (p - a) + 1 by omega, outR, show a + (p - a) = p by omega]
      · have := h3 p (by omega) (by omega)
        rw [if_neg (by omega : ¬ (s < (f p).t ∧ (f p).t ≤ t)), if_neg (by omega : ¬ p + 1 ≤ a), if_neg (by omega : ¬ p + 1 ≤ e), Int.add_zero]
        by_cases e3 : p ≤ a
        · obtain rfl : a = e := by omega
          rw [if_pos e3, Nat.sub_self]; rfl
        · rw [if_neg e3]
          by_cases e4 : p ≤ e
          · obtain rfl : p = e := by omega
            rw [if_pos e4]
          · rw [if_neg e4]
theorem cut_at {f : Nat → SumE} (s : Int) : ∀ {p : Nat}, (∀ i j, i < j → j < p → (f i).t < (f j).t) → ∃ a, a ≤ p ∧ (∀ i, i < a → (f i).t ≤ s) ∧ (∀ i, a ≤ i → i < p → s < (f i).t)
  | 0, _ => ⟨0, Nat.le_refl _, fun i hi => by omega, fun i _ hi => by omega⟩
  | p + 1, h => by
    obtain ⟨a, h1, h2, h3⟩ := cut_at s (p := p) fun i j hij hj => h i j hij (by omega)
    by_cases e : a = p
    · subst e
      by_cases e2 : (f a).t ≤ s
      · exact ⟨a + 1, Nat.le_refl _, fun i hi => by
          by_cases e3 : i = a
          · rw [e3]; exact e2
          · exact h2 i (by omega), fun i h4 h5 => by omega⟩
      · exact ⟨a, by omega, h2, fun i h4 h5 => by obtain rfl : i = a := by omega
                                                  omega⟩
    · refine ⟨a, by omega, h2, fun i h4 h5 => ?_⟩
      by_cases e3 : i = p
      · have := h a p (by omega) (by omega)
        have := h3 a (Nat.le_refl _) (by omega)
        rw [e3]; omega
      · exact h3 i h4 (by omega)

/-- no stretch is bad -/
def Good (L : Nat → SentE) (n : Nat) (F : Nat → ForceE) (m : Nat) (H : Int) : Prop := ∀ T : Int, 1 ≤ T → T ≤ 16 → ∀ s t : Int, 0 ≤ s → s < t → t ≤ 1099511627776 → 1000 * outS L T s t n ≤ boundC (spanC F T m).2 (spanC F T m).1 s t (s - H)
theorem good_of_none {L : Nat → SentE} {n : Nat} {F : Nat → ForceE} {m : Nat} {H : Int} (hc : chkS L n = true) (hf : chkF F m = true) (h : ∀ T : Int, 1 ≤ T → T ≤ 16 → NoneB (badT L n F m H T) (sumC L T n).1) : Good L n F m H := by
  intro T hT1 hT2 s t hs hst ht
  have hup := (sumC_up (T := T) hc).1
  have hbd := sumC_bd (T := T) hc
  have hfine := spanC_fine (T := T) hf
  have hN := h T hT1 hT2
  rw [← outF_sum]
  obtain ⟨a, a1, a2, a3⟩ := cut_at s hup
  obtain ⟨e, e1, e2, e3⟩ := cut_at t hup
  have hae : a ≤ e := by
    by_cases hlt : e < a
    · have x1 := a2 e hlt
      have x2 := e3 e (Nat.le_refl _) (by omega)
      omega
    · omega
  rw [outF_mid a2 (fun i h1 h2 => ⟨a3 i h1 (by omega), e2 i h2⟩) hae _ e3]
  have hpos := (boundC_mono (s := s) (t := t) (sh := s - H) hfine (Int.le_refl _) (by omega) (Int.le_refl _) (Int.le_refl _)).2
  by_cases hp1 : (sumC L T n).1 ≤ a
  · rw [if_pos hp1]; omega
  · rw [if_neg hp1]
    have hpe : (if (sumC L T n).1 ≤ e then outR (sumC L T n).2 a ((sumC L T n).1 - a) else outR (sumC L T n).2 a (e - a)) = outR (sumC L T n).2 a (e - a) := by
      by_cases hp2 : (sumC L T n).1 ≤ e
      · rw [if_pos hp2, show (sumC L T n).1 = e by omega]
      · rw [if_neg hp2]
    rw [hpe]
    by_cases hlt : a < e
    · have hb := hN a (e - 1) (by omega) (by omega)
      unfold badT badB at hb
      have hb := of_decide_eq_false hb
      rw [show e - 1 + 1 - a = e - a by omega] at hb
      have b1 := hbd a (by omega)
      have b2 := hbd (e - 1) (by omega)
      have c1 := a3 a (Nat.le_refl _) (by omega)
      have c2 := e2 (e - 1) (by omega)
      have c3 : ((sumC L T n).2 a).t ≤ ((sumC L T n).2 (e - 1)).t := by
        by_cases e9 : a = e - 1
        · rw [← e9]; exact Int.le_refl _
        · have := hup a (e - 1) (by omega) (by omega); omega
      have hm := (boundC_mono (s := s) (s' := ((sumC L T n).2 a).t - 1) (t := t) (t' := ((sumC L T n).2 (e - 1)).t) (sh := s - H) (sh' := ((sumC L T n).2 a).t - 1 - H) hfine (by omega) (by omega) c2 (by omega)).1
      omega
    · obtain rfl : a = e := by omega
      rw [Nat.sub_self]
      have : outR (sumC L T n).2 a 0 = 0 := rfl
      omega
theorem none_of_good {L : Nat → SentE} {n : Nat} {F : Nat → ForceE} {m : Nat} {H : Int} (hc : chkS L n = true) (h : Good L n F m H) (T : Int) (hT1 : 1 ≤ T) (hT2 : T ≤ 16) : NoneB (badT L n F m H T) (sumC L T n).1 := by
  intro k c hkc hc2
  have hup := (sumC_up (T := T) hc).1
  have hbd := sumC_bd (T := T) hc
  have b1 := hbd k (by omega)
  have b2 := hbd c hc2
  have c3 : ((sumC L T n).2 k).t ≤ ((sumC L T n).2 c).t := by
    by_cases e9 : k = c
    · rw [← e9]; exact Int.le_refl _
    · have := hup k c (by omega) hc2; omega
  have hg := h T hT1 hT2 (((sumC L T n).2 k).t - 1) ((sumC L T n).2 c).t (by omega) (by omega) (by omega)
  rw [← outF_sum, outF_mid (a := k) (e := c + 1) (fun i hi => by have := hup i k hi (by omega); omega) (fun i h1 h2 => by
      refine ⟨?_, ?_⟩
      · by_cases e9 : k = i
        · rw [← e9]; omega
        · have := hup k i (by omega) (by omega); omega
      · by_cases e9 : i = c
        · rw [e9]; exact Int.le_refl _
        · have := hup i c (by omega) hc2; omega) (by omega) _ (fun i h1 h2 => by have := hup c i (by omega) h2; omega), if_neg (by omega)] at hg
  have hpe : (if (sumC L T n).1 ≤ c + 1 then outR (sumC L T n).2 k ((sumC L T n).1 - k) else outR (sumC L T n).2 k (c + 1 - k)) = outR (sumC L T n).2 k (c + 1 - k) := by
    by_cases hp2 : (sumC L T n).1 ≤ c + 1
    · rw [if_pos hp2, show (sumC L T n).1 = c + 1 by omega]
    · rw [if_neg hp2]
  rw [hpe] at hg
  unfold badT badB
  exact decide_eq_false (by omega)
theorem outS_mono {L : Nat → SentE} {T s t : Int} {k : Nat} : ∀ {n : Nat}, chkS L n = true → k ≤ n → outS L T s t k ≤ outS L T s t n
  | 0, _, hk => by obtain rfl : k = 0 := by omega
                   exact Int.le_refl _
  | n + 1, h, hk => by
    by_cases e : k = n + 1
    · rw [e]; exact Int.le_refl _
    · have ih := outS_mono (T := T) (s := s) (t := t) (k := k) (chkS_pre h n (by omega)) (by omega)
      have := (chkS_le h n (by omega)).1
      rw [outS]
      split <;> omega
theorem Good.pre {L : Nat → SentE} {n : Nat} {F : Nat → ForceE} {m : Nat} {H : Int} (h : Good L n F m H) (hc : chkS L n = true) (k : Nat) (hk : k ≤ n) : Good L k F m H := fun T h1 h2 s t h3 h4 h5 => by
  have := h T h1 h2 s t h3 h4 h5
  have := outS_mono (T := T) (s := s) (t := t) hc hk
  omega
theorem Good.more {L : Nat → SentE} {n : Nat} {F : Nat → ForceE} {m : Nat} {H H' : Int} (h : Good L n F m H) (hf : chkF F m = true) (hH : H ≤ H') : Good L n F m H' := fun T h1 h2 s t h3 h4 h5 => by
  have h6 := h T h1 h2 s t h3 h4 h5
  have h7 := (boundC_mono (s := s) (t := t) (sh := s - H') (sh' := s - H) (spanC_fine (T := T) hf) (Int.le_refl _) (by omega) (Int.le_refl _) (by omega)).1
  omega
theorem kept_good (h : Int) (a : Option Addr) (n c b o : Nat) (L : Nat → SentE) (a' : Option Addr) (m c' b' o' : Nat) (F : Nat → ForceE) (w : World) (h1 : SentIn w a n c b o L) (h2 : ForceIn w a' m c' b' o' F) (hn : n ≤ 60) (hm : m ≤ 60) (hh : h ≤ 9223372036854775807) (hc : chkS L n = true) (hf : chkF F m = true) (hg : Good L n F m (max h 0)) :
    Calls Try.prog 50 #[.slice a n c, .slice a' m c', .int .i64 h] w fun e w' => e = .returned (.tuple #[.int .i64 0, .int .i64 0, .int .i64 0, .bool true, .int .i64 0]) ∧ Below w.heap.size w w' := by
  refine Calls.mono (kept_any h a n c b o L a' m c' b' o' F w h1 h2 hn hm hh) ?_
  rintro e w' ⟨hB, ⟨hc2, _⟩ | ⟨_, _, he⟩ | ⟨_, T, k, c, hT1, hT2, _, hfi, _⟩⟩
  · rw [hc, hf] at hc2; cases hc2
  · exact ⟨he, hB⟩
  · have := none_of_good hc hg T hT1 hT2 k c hfi.1 hfi.2.1
    rw [hfi.2.2.1] at this; cases this
end Go.Proofs.Ytninhjeiialbjaa
