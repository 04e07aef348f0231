/-
  Which place none other goes ahead of: plain mathematics.
-/
import Derived.Test.YtnainlemnkfpkaaVu3
namespace Go.Proofs.Ytnainlemnkfpkaa

/-- the first place, of those that are looked at, that none goes ahead of -/
def firstS (tk : Nat → Bool) (lt : Nat → Nat → Bool) : Nat → Option Nat
  | 0 => none
  | m + 1 => match firstS tk lt m with
    | none => if tk m then some m else none
    | some b => if tk m && lt m b then some m else some b
def firstI (tk : Nat → Bool) (lt : Nat → Nat → Bool) (n : Nat) : Int := match firstS tk lt n with
  | none => -1
  | some b => b
theorem firstS_some {tk : Nat → Bool} {lt : Nat → Nat → Bool} : ∀ {n b : Nat}, firstS tk lt n = some b → b < n ∧ tk b = true
  | 0, _, h => by simp [firstS] at h
  | m + 1, b, h => by
    unfold firstS at h
    split at h
    · split at h
      · obtain rfl : m = b := by simpa using h
        exact ⟨by omega, by assumption⟩
      · simp at h
    · rename_i c hc
      have := firstS_some hc
      split at h
      · rename_i h2
        obtain rfl : m = b := by simpa using h
        simp at h2
        exact ⟨by omega, h2.1⟩
      · obtain rfl : c = b := by simpa using h
        exact ⟨by omega, this.2⟩
theorem firstS_none {tk : Nat → Bool} {lt : Nat → Nat → Bool} : ∀ {n : Nat}, firstS tk lt n = none → ∀ j, j < n → tk j = false
  | 0, _, j, hj => by omega
  | m + 1, h, j, hj => by
    unfold firstS at h
    split at h
    · rename_i hc
      split at h
      · simp at h
      · rename_i h2
        by_cases hjm : j < m
        · exact firstS_none hc j hjm
        · obtain rfl : j = m := by omega
          simpa using h2
    · split at h <;> simp at h
/-- by keys: the one that is picked has the least -/
theorem firstS_least {tk : Nat → Bool} {key : Nat → Int} : ∀ {n b : Nat}, firstS tk (fun i j => decide (key i < key j)) n = some b → ∀ j, j < n → tk j = true → key b ≤ key j
  | 0, _, h, j, hj, _ => by omega
  | m + 1, b, h, j, hj, ht => by
    unfold firstS at h
    split at h
    · rename_i hc
      split at h
      · obtain rfl : m = b := by simpa using h
        by_cases hjm : j < m
        · have := firstS_none hc j hjm
          rw [this] at ht; cases ht
        · obtain rfl : j = m := by omega
          omega
      · simp at h
    · rename_i c hc
      have ih := fun hj => firstS_least hc j hj ht
      split at h
      · rename_i h2
        obtain rfl : m = b := by simpa using h
        simp at h2
        by_cases hjm : j < m
        · have := ih hjm; omega
        · obtain rfl : j = m := by omega
          omega
      · rename_i h2
        obtain rfl : c = b := by simpa using h
        by_cases hjm : j < m
        · exact ih hjm
        · obtain rfl : j = m := by omega
          simp [ht] at h2
          omega
theorem firstS_congr {tk tk' : Nat → Bool} {lt lt' : Nat → Nat → Bool} : ∀ {n : Nat}, (∀ j, j < n → tk j = tk' j) → (∀ i j, i < n → j < n → lt i j = lt' i j) → firstS tk lt n = firstS tk' lt' n
  | 0, _, _ => rfl
  | m + 1, h1, h2 => by
    unfold firstS
    rw [firstS_congr (fun j hj => h1 j (by omega)) (fun i j hi hj => h2 i j (by omega) (by omega)), h1 m (by omega)]
    cases hc : firstS tk' lt' m with
    | none => rfl
    | some b => simp only; rw [h2 m b (by omega) (by have := (firstS_some hc).1; omega)]
end Go.Proofs.Ytnainlemnkfpkaa
