/-
  ConfOne, walked: majorities of a set and of its change meet.
-/
import Derived.Test.YtnaoajdbopminaaCf7
namespace Go.Proofs.Ytnaoajdbopminaa
open Go.RowKit
set_option linter.unusedSimpArgs false
set_option linter.unusedVariables false

def cntN (s : Nat) : Nat → Nat
  | 0 => 0
  | m + 1 => cntN s m + (s.testBit m).toNat
theorem cntN_apart (p x y : Nat) : ∀ m : Nat, (∀ i, i < m → (x.testBit i = true → p.testBit i = true) ∧ (y.testBit i = true → p.testBit i = true) ∧ ¬ (x.testBit i = true ∧ y.testBit i = true)) → cntN x m + cntN y m ≤ cntN p m
  | 0, _ => by simp [cntN]
  | m + 1, h => by
    have ih := cntN_apart p x y m fun i hi => h i (by omega)
    have hm := h m (by omega)
    simp only [cntN]
    cases hx : x.testBit m <;> cases hy : y.testBit m <;> cases hp : p.testBit m <;> simp [hx, hy, hp] at hm ⊢ <;> omega
theorem sz_cnt : ∀ n : Fin 256, szI (n.val : Int) = (cntN n.val 7 : Nat) := by decide +kernel
theorem and_nat (a b : Nat) (ha : a < 256) (hb : b < 256) : andI a b = ((a &&& b : Nat) : Int) := (bits_nat .u8 8 (by decide) wraps_u8 a b ha hb).1
theorem or_nat (a b : Nat) (ha : a < 256) (hb : b < 256) : orI a b = ((a ||| b : Nat) : Int) := (bits_nat .u8 8 (by decide) wraps_u8 a b ha hb).2
theorem and_lt (a b : Nat) (hb : b < 256) : a &&& b < 256 := Nat.and_lt_two_pow (n := 8) _ hb
theorem or_lt (a b : Nat) (ha : a < 256) (hb : b < 256) : a ||| b < 256 := Nat.or_lt_two_pow (n := 8) ha hb

/-- two parts of two sets that have nothing in common are together no more than both sets' nodes -/
theorem apart_sz (a b x y : Nat) (ha : a < 256) (hb : b < 256) (hx : x < 256) (hy : y < 256) (h : andI (andI (andI x y) a) b = 0) : szI (andI a x) + szI (andI b y) ≤ szI (orI a b) := by
  rw [and_nat x y hx hy, and_nat _ a (and_lt _ _ hy) ha, and_nat _ b (and_lt _ _ ha) hb] at h
  rw [and_nat a x ha hx, and_nat b y hb hy, or_nat a b ha hb]
  have h0 : x &&& y &&& a &&& b = 0 := by omega
  have e1 := sz_cnt ⟨a &&& x, and_lt _ _ hx⟩
  have e2 := sz_cnt ⟨b &&& y, and_lt _ _ hy⟩
  have e3 := sz_cnt ⟨a ||| b, or_lt _ _ ha hb⟩
  simp only at e1 e2 e3
  rw [e1, e2, e3]
  have := cntN_apart (a ||| b) (a &&& x) (b &&& y) 7 fun i _ => by
    have hbit : (x &&& y &&& a &&& b).testBit i = false := by rw [h0]; simp
    simp only [Nat.testBit_and, Nat.testBit_or] at hbit ⊢
    revert hbit
    cases a.testBit i <;> cases b.testBit i <;> cases x.testBit i <;> cases y.testBit i <;> simp
  omega

def oneOk (n : Int) (r : Int × Int) : Bool := r.2 != 0 || (mayI r.1 && meetsI n r.1 && decide (szI (orI n r.1) < moI n + moI r.1) && decide (0 ≤ r.1) && decide (r.1 ≤ 255))
theorem oneOk_all : ∀ n : Fin 256, ∀ k : Fin 7, oneOk (n.val : Int) (addI (n.val : Int) ((k.val + 1 : Nat) : Int)) = true ∧ oneOk (n.val : Int) (remI (n.val : Int) ((k.val + 1 : Nat) : Int)) = true := by decide +kernel
theorem oneOk_any (s node : Int) (h0 : 0 ≤ s) (h1 : s ≤ 255) : oneOk s (addI s node) = true ∧ oneOk s (remI s node) = true := by
  by_cases hn : 1 ≤ node ∧ node ≤ 7
  · have k := oneOk_all ⟨s.toNat, by omega⟩ ⟨(node - 1).toNat, by omega⟩
    simp only at k
    rwa [show ((s.toNat : Nat) : Int) = s by omega, show (((node - 1).toNat + 1 : Nat) : Int) = node by omega] at k
  · have ho := one_out node (by omega)
    unfold addI remI
    rw [if_pos (.inr ho), if_pos (.inr ho)]
    exact ⟨rfl, rfl⟩
/-- the law's test for one change -/
def badOne (s : Int) (r : Int × Int) (one other : Int) : Bool := !mayI r.1 || !meetsI s r.1 || (mostI s one && mostI r.1 other && andI (andI (andI one other) s) r.1 == 0)
theorem one_math (s one other : Int) (r : Int × Int) (h0 : 0 ≤ s) (h1 : s ≤ 255) (o0 : 0 ≤ one) (o1 : one ≤ 255) (p0 : 0 ≤ other) (p1 : other ≤ 255) (h : oneOk s r = true) : r.2 ≠ 0 ∨ (mayI r.1 = true ∧ meetsI s r.1 = true ∧ ¬ (mostI s one = true ∧ mostI r.1 other = true ∧ (andI (andI (andI one other) s) r.1 == 0) = true)) := by
  unfold oneOk at h
  by_cases hr : r.2 = 0
  · simp [hr] at h
    obtain ⟨⟨⟨⟨g1, g2⟩, g3⟩, g4⟩, g5⟩ := h
    refine .inr ⟨g1, g2, fun ⟨k1, k2, k3⟩ => ?_⟩
    have hz : andI (andI (andI one other) s) r.1 = 0 := by simpa using k3
    have ha := apart_sz s.toNat r.1.toNat one.toNat other.toNat (by omega) (by omega) (by omega) (by omega)
    rw [show ((s.toNat : Nat) : Int) = s by omega, show ((r.1.toNat : Nat) : Int) = r.1 by omega, show ((one.toNat : Nat) : Int) = one by omega, show ((other.toNat : Nat) : Int) = other by omega] at ha
    have ha := ha hz
    unfold mostI at k1 k2
    simp at k1 k2
    omega
  · exact .inl hr
end Go.Proofs.Ytnaoajdbopminaa
