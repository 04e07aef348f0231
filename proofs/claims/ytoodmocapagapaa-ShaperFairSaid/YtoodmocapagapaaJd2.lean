/-
  Package judge: may a record be?
-/
import Derived.Deep.QuietTactic
import Derived.BigRegion
import Derived.BigQuiet
import Derived.RegionTactic
import Derived.Lib.Small
import Derived.Lib.Hide
import Derived.Test.YtoodmocapagapaaJd1
import Derived.Test.YtoodmocapagapaaBl
namespace Go.Proofs.Ytoodmocapagapaa
open Go.RowKit
set_option linter.unusedSimpArgs false
set_option linter.unusedVariables false

def isT (n : Int) : Bool := decide (1 ≤ n ∧ n ≤ 16)
def mayB (r u : Int) : Bool := decide (0 ≤ r ∧ r ≤ 1000000 ∧ 0 ≤ u ∧ u ≤ 1000000)
/-! ### May a record be? -/
def sentOk (last : Int) (x : SentE) : Bool := decide (last ≤ x.t ∧ x.t ≤ 1099511627776 ∧ 1 ≤ x.sz ∧ x.sz ≤ 1500) && isT x.ten
def forceOk (last : Int) (x : ForceE) : Bool := decide (last ≤ x.t ∧ x.t ≤ 1099511627776) && (isT x.ten && mayB x.r x.b)
def lastS (L : Nat → SentE) (k : Nat) : Int := if k = 0 then 1 else (L (k - 1)).t
def lastF (F : Nat → ForceE) (k : Nat) : Int := if k = 0 then 0 else (F (k - 1)).t
theorem lastS_succ (L : Nat → SentE) (k : Nat) : lastS L (k + 1) = (L k).t := by simp [lastS]
theorem lastF_succ (F : Nat → ForceE) (k : Nat) : lastF F (k + 1) = (F k).t := by simp [lastF]
def chkS (L : Nat → SentE) : Nat → Bool
  | 0 => true
  | n + 1 => chkS L n && sentOk (lastS L n) (L n)
def chkF (F : Nat → ForceE) : Nat → Bool
  | 0 => true
  | n + 1 => chkF F n && forceOk (lastF F n) (F n)
theorem chkS_false {L : Nat → SentE} {k : Nat} (h : sentOk (lastS L k) (L k) = false) : ∀ n, k < n → chkS L n = false
  | 0, hk => by omega
  | n + 1, hk => by
    unfold chkS
    by_cases e : k = n
    · subst e; rw [h, Bool.and_false]
    · rw [chkS_false h n (by omega), Bool.false_and]
theorem chkF_false {F : Nat → ForceE} {k : Nat} (h : forceOk (lastF F k) (F k) = false) : ∀ n, k < n → chkF F n = false
  | 0, hk => by omega
  | n + 1, hk => by
    unfold chkF
    by_cases e : k = n
    · subst e; rw [h, Bool.and_false]
    · rw [chkF_false h n (by omega), Bool.false_and]
theorem sentOk_no {l : Int} {x : SentE} (h : sentOk l x = false) : x.t < l ∨ (l ≤ x.t ∧ 1099511627776 < x.t) ∨ (l ≤ x.t ∧ x.t ≤ 1099511627776 ∧ x.sz < 1) ∨ (l ≤ x.t ∧ x.t ≤ 1099511627776 ∧ 1 ≤ x.sz ∧ 1500 < x.sz) ∨ (l ≤ x.t ∧ x.t ≤ 1099511627776 ∧ 1 ≤ x.sz ∧ x.sz ≤ 1500 ∧ isT x.ten = false) := by
  unfold sentOk at h
  cases hT : isT x.ten
  · simp only [and_true]
    omega
  · rw [hT] at h
    simp at h
    omega
theorem sentOk_yes {l : Int} {x : SentE} (h : sentOk l x = true) : l ≤ x.t ∧ x.t ≤ 1099511627776 ∧ 1 ≤ x.sz ∧ x.sz ≤ 1500 ∧ isT x.ten = true := by
  unfold sentOk at h
  simp only [Bool.and_eq_true, decide_eq_true_eq] at h
  exact ⟨h.1.1, h.1.2.1, h.1.2.2.1, h.1.2.2.2, h.2⟩
theorem forceOk_no {l : Int} {x : ForceE} (h : forceOk l x = false) : x.t < l ∨ (l ≤ x.t ∧ 1099511627776 < x.t) ∨ (l ≤ x.t ∧ x.t ≤ 1099511627776 ∧ isT x.ten = false) ∨ (l ≤ x.t ∧ x.t ≤ 1099511627776 ∧ isT x.ten = true ∧ mayB x.r x.b = false) := by
  unfold forceOk at h
  cases hT : isT x.ten <;> cases hM : mayB x.r x.b <;> rw [hT, hM] at h <;> simp at h <;> first | omega | (simp; omega)
theorem forceOk_yes {l : Int} {x : ForceE} (h : forceOk l x = true) : l ≤ x.t ∧ x.t ≤ 1099511627776 ∧ isT x.ten = true ∧ mayB x.r x.b = true := by
  unfold forceOk at h
  simp only [Bool.and_eq_true, decide_eq_true_eq] at h
  exact ⟨h.1.1, h.1.2, h.2.1, h.2.2⟩
end Go.Proofs.Ytoodmocapagapaa
