/-
  Whether a flow got its share: reckoned.
-/
import Derived.Test.YtoodmocapagapaaJd1
import Derived.Test.YtoodmocapagapaaJd2
import Derived.Test.YtoodmocapagapaaPk1
namespace Go.Proofs.Ytoodmocapagapaa
open Go.RowKit
set_option linter.unusedSimpArgs false
set_option linter.unusedVariables false

def clip (n : Int) : Int := min (max n 0) 1500
theorem clip_bd (n : Int) : 0 ≤ clip n ∧ clip n ≤ 1500 := by unfold clip; omega
def zS (L : Nat → SentE) (k : Nat) : Int := clip (L k).sz
def tog (L : Nat → SentE) : Nat → Int
  | 0 => 0
  | n + 1 => tog L n + zS L n
def srv (L : Nat → SentE) (fl : Int) : Nat → Int
  | 0 => 0
  | n + 1 => srv L fl n + if (L n).fl = fl then zS L n else 0
theorem tog_bd (L : Nat → SentE) : ∀ n, 0 ≤ tog L n ∧ tog L n ≤ 1500 * n
  | 0 => by simp [tog]
  | n + 1 => by
    have ih := tog_bd L n
    have h := clip_bd (L n).sz
    rw [tog, zS]
    omega
theorem srv_bd (L : Nat → SentE) (fl : Int) : ∀ n, 0 ≤ srv L fl n ∧ srv L fl n ≤ 1500 * n
  | 0 => by simp [srv]
  | n + 1 => by
    have ih := srv_bd L fl n
    have h := clip_bd (L n).sz
    rw [srv, zS]
    split <;> omega
def lagN (L : Nat → SentE) (fl w al : Int) (k : Nat) : Int := w * tog L k - al * srv L fl k
def lowN (L : Nat → SentE) (fl w al : Int) : Nat → Int
  | 0 => 0
  | k + 1 => min (lowN L fl w al k) (lagN L fl w al (k + 1))
theorem lowN_spec (L : Nat → SentE) (fl w al : Int) : ∀ k, (∀ i, i ≤ k → lowN L fl w al k ≤ lagN L fl w al i) ∧ ∃ i, i ≤ k ∧ lowN L fl w al k = lagN L fl w al i
  | 0 => ⟨fun i hi => by obtain rfl : i = 0 := by omega
                         simp [lowN, lagN, tog, srv], 0, Nat.le_refl _, by simp [lowN, lagN, tog, srv]⟩
  | k + 1 => by
    obtain ⟨h1, j, h2, h3⟩ := lowN_spec L fl w al k
    rw [lowN]
    refine ⟨fun i hi => ?_, ?_⟩
    · by_cases e : i = k + 1
      · rw [e]; omega
      · have := h1 i (by omega); omega
    · by_cases e : lowN L fl w al k ≤ lagN L fl w al (k + 1)
      · exact ⟨j, by omega, by omega⟩
      · exact ⟨k + 1, Nat.le_refl _, by omega⟩
def okF (L : Nat → SentE) (fl w al G : Int) : Nat → Bool
  | 0 => true
  | k + 1 => okF L fl w al G k && decide (lagN L fl w al (k + 1) - lowN L fl w al k ≤ G)
theorem okF_false {L : Nat → SentE} {fl w al G : Int} {k : Nat} (h : G < lagN L fl w al (k + 1) - lowN L fl w al k) : ∀ n, k < n → okF L fl w al G n = false
  | 0, hk => by omega
  | n + 1, hk => by
    rw [okF]
    by_cases e : k = n
    · subst e; rw [decide_eq_false (by omega), Bool.and_false]
    · rw [okF_false h n (by omega), Bool.false_and]
theorem okF_bad {L : Nat → SentE} {fl w al G : Int} {i k n : Nat} (hik : i ≤ k) (hk : k < n) (h : G < lagN L fl w al (k + 1) - lagN L fl w al i) : okF L fl w al G n = false := by
  have := (lowN_spec L fl w al k).1 i hik
  exact okF_false (by omega) n hk
theorem okF_good {L : Nat → SentE} {fl w al G : Int} : ∀ {n : Nat}, (∀ i k, i ≤ k → k < n → lagN L fl w al (k + 1) - lagN L fl w al i ≤ G) → okF L fl w al G n = true
  | 0, _ => rfl
  | n + 1, h => by
    rw [okF, okF_good fun i k h1 h2 => h i k h1 (by omega)]
    obtain ⟨_, j, h2, h3⟩ := lowN_spec L fl w al n
    have := h j n h2 (by omega)
    rw [decide_eq_true (by omega)]
    rfl
def allW (E : Nat → FlowE) : Nat → Int
  | 0 => 0
  | n + 1 => allW E n + (E n).w
def okW (E : Nat → FlowE) : Nat → Bool
  | 0 => true
  | n + 1 => okW E n && decide (1 ≤ (E n).w ∧ (E n).w ≤ 16)
theorem okW_false {E : Nat → FlowE} {k : Nat} (h : (E k).w < 1 ∨ 16 < (E k).w) : ∀ n, k < n → okW E n = false
  | 0, hk => by omega
  | n + 1, hk => by
    rw [okW]
    by_cases e : k = n
    · subst e; rw [decide_eq_false (by omega), Bool.and_false]
    · rw [okW_false h n (by omega), Bool.false_and]
theorem okW_at {E : Nat → FlowE} : ∀ {n : Nat}, okW E n = true → ∀ k, k < n → 1 ≤ (E k).w ∧ (E k).w ≤ 16
  | 0, _, k, hk => by omega
  | n + 1, h, k, hk => by
    rw [okW] at h
    obtain ⟨h1, h2⟩ := Bool.and_eq_true_iff.1 h
    by_cases e : k = n
    · rw [e]; exact of_decide_eq_true h2
    · exact okW_at h1 k (by omega)
theorem allW_bd {E : Nat → FlowE} : ∀ {n : Nat}, okW E n = true → 0 ≤ allW E n ∧ allW E n ≤ 16 * n
  | 0, _ => by simp [allW]
  | n + 1, h => by
    have h0 := okW_at h n (by omega)
    rw [okW] at h
    have ih := allW_bd (Bool.and_eq_true_iff.1 h).1
    rw [allW]
    omega
theorem prod_le {a b A B : Int} (h0 : 0 ≤ a) (h1 : a ≤ A) (h2 : 0 ≤ b) (h3 : b ≤ B) : 0 ≤ a * b ∧ a * b ≤ A * B := ⟨Int.mul_nonneg h0 h2, Int.mul_le_mul h1 h3 h2 (by omega)⟩
/-- the grace -/
def graceF (le mo w al : Int) : Int := 2 * clip le * al + (clip mo - 2 * clip le) * w
/-- whether the f-th of q flows got its share -/
def fairQ (E : Nat → FlowE) (q : Nat) (L : Nat → SentE) (n : Nat) (fl le mo : Int) : Bool :=
  decide (q ≤ 8 ∧ 0 ≤ fl ∧ fl < q) && (okW E q && okF L fl (E fl.toNat).w (allW E q) (graceF le mo (E fl.toNat).w (allW E q)) n)
end Go.Proofs.Ytoodmocapagapaa
