/-
  GrantSurely: what is reckoned: two clocks and the time between.
-/
import Derived.Test.YtlgjdiadohhleaaGr4
import Derived.Test.YtlgjdiadohhleaaCk4
namespace Go.Proofs.Ytlgjdiadohhleaa
open Go.RowKit
set_option linter.unusedSimpArgs false
set_option linter.unusedVariables false

/-- since the leader's clock stood at bg, and the shaper's at sent or behind it, so much has gone by -/
def LagP (A B T rho bg sent : Int) : Prop := ∃ Tm, A - bg ≤ (T - Tm) * (1000 + rho) ∧ (T - Tm) * (1000 - rho) ≤ B - sent
theorem LagP.start {A B T rho sent : Int} (h : sent ≤ B) : LagP A B T rho A sent := ⟨T, by simp, by simp; omega⟩
theorem LagP.step {A B T rho bg sent : Int} (h : LagP A B T rho bg sent) (r0 : 0 ≤ rho) (r1 : rho ≤ 200) (n wa wb : Int) : LagP (stepN A T rho n wa) (stepN B T rho n wb) (stepT T n) rho bg sent := by
  unfold stepN stepT
  cases hg : goodB T n
  · simpa using h
  · obtain ⟨h0, h1⟩ := good_of hg
    obtain ⟨Tm, h2, h3⟩ := h
    obtain ⟨_, k2⟩ := wish_in wa h0 r0 r1
    obtain ⟨k3, _⟩ := wish_in wb h0 r0 r1
    refine ⟨Tm, ?_, ?_⟩
    · simp only [if_true]
      rw [show T + n - Tm = (T - Tm) + n by omega, Int.add_mul]
      omega
    · simp only [if_true]
      rw [show T + n - Tm = (T - Tm) + n by omega, Int.add_mul]
      omega
theorem stepN_le {A T rho : Int} (r0 : 0 ≤ rho) (r1 : rho ≤ 200) (n wa : Int) : A ≤ stepN A T rho n wa := by
  unfold stepN
  cases hg : goodB T n
  · simp
  · obtain ⟨h0, _⟩ := good_of hg
    obtain ⟨k1, _⟩ := wish_in wa h0 r0 r1
    have := Int.mul_nonneg h0 (by omega : 0 ≤ 1000 - rho)
    simp only [if_true]
    omega
/-- over here, gone by there -/
theorem LagP.enough {A B T rho bg sent ticks now : Int} (h : LagP A B T rho bg sent) (r0 : 0 ≤ rho) (r1 : rho ≤ 200) (t0 : 1 ≤ ticks) (t1 : ticks ≤ 1099511627776) (hn : now ≤ A) (hov : overS ticks rho ≤ now - bg) : 1000 * ticks ≤ B - sent := by
  obtain ⟨Tm, h2, h3⟩ := h
  obtain ⟨y, hy⟩ : ∃ y, y = T - Tm := ⟨_, rfl⟩
  rw [← hy] at h2 h3
  have hd : driftS rho = rho := by unfold driftS cwithin; omega
  have hc : cwithin ticks 0 1099511627776 = ticks := by unfold cwithin; omega
  unfold overS upS at hov
  rw [hd, hc] at hov
  obtain ⟨u, hu⟩ : ∃ u, u = 1000 + rho := ⟨_, rfl⟩
  obtain ⟨d, hdd⟩ : ∃ d, d = 1000 - rho := ⟨_, rfl⟩
  rw [← hu, ← hdd] at hov
  rw [← hu] at h2
  rw [← hdd] at h3
  obtain ⟨N, hN⟩ : ∃ N, N = ticks * (1000 * u) := ⟨_, rfl⟩
  rw [← hN] at hov
  obtain ⟨q, hq⟩ : ∃ q, q = (N + d - 1) / d := ⟨_, rfl⟩
  have k1 : N ≤ q * d := by
    have := Int.lt_ediv_add_one_mul_self (N + d - 1) (by omega : 0 < d)
    rw [← hq, Int.add_mul] at this
    omega
  rw [← hq] at hov
  have k2 : q * d ≤ (y * u) * d := Int.mul_le_mul_of_nonneg_right (by omega) (by omega)
  have k3 : (ticks * 1000) * u ≤ (y * d) * u := by
    rw [Int.mul_assoc ticks 1000 u, ← hN, Int.mul_right_comm y d u]
    exact Int.le_trans k1 k2
  have k4 := Int.le_of_mul_le_mul_right k3 (by omega)
  omega
theorem over_bd (ticks rho : Int) (t0 : 1 ≤ ticks) (t1 : ticks ≤ 1099511627776) (r0 : 0 ≤ rho) (r1 : rho ≤ 200) : 0 ≤ overS ticks rho := by
  have hd : driftS rho = rho := by unfold driftS cwithin; omega
  have hc : cwithin ticks 0 1099511627776 = ticks := by unfold cwithin; omega
  unfold overS
  rw [hd, hc]
  exact (up_bd (Int.mul_nonneg (by omega) (by omega)) (by omega)).1

/-- does the desk stand; what it was told -/
def hasD (own : Bool) (made k : Int) : Prop := if own then 0 < k else 0 ≤ made ∧ made < k
def mfS (own : Bool) (told k read : Int) : Int → Option Int := if own = true ∧ 0 ≤ told ∧ told < k then madeM (fun _ => none) 7 read else fun _ => none
def elS (own : Bool) (read : Int) : Int := if own then 0 else read
end Go.Proofs.Ytlgjdiadohhleaa
