/-
  Bytes that differ in bits that lie within 32 of one another have not the same sum: plain numbers.
-/
import Derived.Test.YtmgfdbjcgcmbkaaDoorSm7
namespace Go.Proofs.YtmgfdbjcgcmbkaaDoor
open Go.RowKit
set_option linter.unusedSimpArgs false
set_option linter.unusedVariables false

theorem runBit_lt (B : Nat → Nat) (r : Nat) (hr : r < 4294967296) : ∀ k, runBit B r k < 4294967296
  | 0 => hr
  | k + 1 => stp_lt (xor_lt32 (runBit_lt B r hr k) (by have := bitAt_lt B k; omega))
theorem stp_nil : stp 0 = 0 := by decide
theorem xor_ne {a b : Nat} (h : a ^^^ b ≠ 0) : a ≠ b := fun e => h (by rw [e, Nat.xor_self])
/-- which bits of 32 are set, put in at a place -/
def eAt (bt at_ k : Nat) : Nat := if at_ ≤ k ∧ k < at_ + 32 then bt / 2 ^ (k - at_) % 2 else 0
theorem eAt_lt (bt at_ k : Nat) : eAt bt at_ k < 2 := by unfold eAt; split <;> omega
theorem burst_sum (X Z : Nat → Nat) (len bt at_ : Nat) (hX : ∀ j, X j < 256) (hZ : ∀ j, Z j < 256) (hb : bt % 2 = 1) (ha : at_ + 32 ≤ 8 * len) (hd : ∀ k, bitAt Z k = bitAt X k ^^^ eAt bt at_ k) : moreN 0 Z len ≠ moreN 0 X len := by
  have hc : cpl 0 < 4294967296 := cpl_lt (by omega)
  intro he
  unfold moreN at he
  have he2 : runB Z (cpl 0) len = runB X (cpl 0) len := by rw [← cpl_cpl (runB Z (cpl 0) len), he, cpl_cpl]
  rw [runB_bits Z _ len (fun k _ => hZ k), runB_bits X _ len (fun k _ => hX k)] at he2
  obtain ⟨c, hcc⟩ : ∃ c, c = cpl 0 := ⟨_, rfl⟩
  rw [← hcc] at hc he2
  have hs : ∀ k, (runBit Z c (k + 1) ^^^ runBit X c (k + 1)) = stp ((runBit Z c k ^^^ runBit X c k) ^^^ eAt bt at_ k) := fun k => by
    rw [runBit_diff Z X c k, hd k]
    congr 2
    rw [Nat.xor_comm (bitAt X k), Nat.xor_assoc, Nat.xor_self, Nat.xor_zero]
  have hl : ∀ k, (runBit Z c k ^^^ runBit X c k) < 4294967296 := fun k => xor_lt32 (runBit_lt Z c hc k) (runBit_lt X c hc k)
  have h0 : ∀ k, k ≤ at_ → (runBit Z c k ^^^ runBit X c k) = 0 := by
    intro k
    induction k with
    | zero => intro _; exact Nat.xor_self _
    | succ k ih =>
      intro hk
      rw [hs, ih (by omega), show eAt bt at_ k = 0 by unfold eAt; rw [if_neg (by omega)]]
      exact stp_nil
  have h1 := burst (fun k => runBit Z c k ^^^ runBit X c k) (eAt bt at_) hl (eAt_lt bt at_) hs at_ (h0 at_ (Nat.le_refl _)) (by unfold eAt; rw [if_pos (by omega), Nat.sub_self]; simpa using hb)
  have h2 := stays (fun k => runBit Z c k ^^^ runBit X c k) (eAt bt at_) hl hs (at_ + 32) h1 (8 * len - (at_ + 32)) (fun k k1 k2 => by unfold eAt; rw [if_neg (by omega)])
  rw [show at_ + 32 + (8 * len - (at_ + 32)) = 8 * len by omega] at h2
  exact xor_ne h2 he2

/-- one bit turned -/
def flipN (Z : Nat → Nat) (k j : Nat) : Nat := if j = k / 8 then Z j ^^^ 2 ^ (k % 8) else Z j
theorem flipN_lt {Z : Nat → Nat} (h : ∀ j, Z j < 256) (k j : Nat) : flipN Z k j < 256 := by
  unfold flipN
  split
  · exact Nat.xor_lt_two_pow (n := 8) (h j) (Nat.pow_lt_pow_right (by omega) (by omega))
  · exact h j
theorem bit_is (x i : Nat) : x / 2 ^ i % 2 = (x.testBit i).toNat := by
  rw [Nat.testBit_eq_decide_div_mod_eq]
  rcases Nat.mod_two_eq_zero_or_one (x / 2 ^ i) with h | h <;> simp [h]
theorem bitAt_flip (Z : Nat → Nat) (k j : Nat) : bitAt (flipN Z k) j = bitAt Z j ^^^ (if j = k then 1 else 0) := by
  unfold bitAt flipN
  rw [bit_is, bit_is]
  by_cases h : j / 8 = k / 8
  · rw [if_pos h, Nat.testBit_xor, Nat.testBit_two_pow]
    by_cases h2 : j = k
    · subst h2
      cases (Z (j / 8)).testBit (j % 8) <;> simp
    · have h3 : ¬ k % 8 = j % 8 := by omega
      rw [if_neg h2]
      simp [h3]
  · rw [if_neg h, if_neg (fun e => h (by rw [e])), Nat.xor_zero]
def flipsN (X : Nat → Nat) (bt at_ : Nat) : Nat → (Nat → Nat)
  | 0 => X
  | i + 1 => if bt / 2 ^ i % 2 = 1 then flipN (flipsN X bt at_ i) (at_ + i) else flipsN X bt at_ i
theorem flipsN_lt {X : Nat → Nat} (h : ∀ j, X j < 256) (bt at_ : Nat) : ∀ i j, flipsN X bt at_ i j < 256
  | 0, j => h j
  | i + 1, j => by
    unfold flipsN
    split
    · exact flipN_lt (flipsN_lt h bt at_ i) _ j
    · exact flipsN_lt h bt at_ i j
theorem bitAt_flips (X : Nat → Nat) (bt at_ : Nat) : ∀ i, i ≤ 32 → ∀ k, bitAt (flipsN X bt at_ i) k = bitAt X k ^^^ (if at_ ≤ k ∧ k < at_ + i then bt / 2 ^ (k - at_) % 2 else 0)
  | 0, _, k => by rw [if_neg (by omega), Nat.xor_zero]; rfl
  | i + 1, hi, k => by
    have ih := bitAt_flips X bt at_ i (by omega) k
    unfold flipsN
    rcases Nat.mod_two_eq_zero_or_one (bt / 2 ^ i) with h | h
    · rw [if_neg (by omega), ih]
      congr 1
      by_cases h2 : k = at_ + i
      · rw [if_neg (by omega), if_pos (by omega), h2, Nat.add_sub_cancel_left, h]
      · by_cases h3 : at_ ≤ k ∧ k < at_ + i
        · rw [if_pos h3, if_pos (by omega)]
        · rw [if_neg h3, if_neg (by omega)]
    · rw [if_pos h, bitAt_flip, ih, Nat.xor_assoc]
      congr 1
      by_cases h2 : k = at_ + i
      · rw [if_neg (by omega), if_pos h2, if_pos (by omega), h2, Nat.add_sub_cancel_left, h]; rfl
      · rw [if_neg h2, Nat.xor_zero]
        by_cases h3 : at_ ≤ k ∧ k < at_ + i
        · rw [if_pos h3, if_pos (by omega)]
        · rw [if_neg h3, if_neg (by omega)]
theorem flips_sum (X : Nat → Nat) (len bt at_ : Nat) (hX : ∀ j, X j < 256) (hb : bt % 2 = 1) (ha : at_ + 32 ≤ 8 * len) : moreN 0 (flipsN X bt at_ 32) len ≠ moreN 0 X len :=
  burst_sum X _ len bt at_ hX (flipsN_lt hX bt at_ 32) hb ha (bitAt_flips X bt at_ 32 (Nat.le_refl _))

theorem Row.set {w : World} {v : Value} {g : Nat} {e : TypeId} {n : Nat} {xs : List Value} (h : Row w v (some g) e 1 n xs) (j : Nat) (u : Value) : Row (w.setCell ⟨g, j, none⟩ u) v (some g) e 1 n (xs.set j u) := by
  rcases h.cases with ⟨h1, _⟩ | ⟨g', cap, cur, hg, rfl, hb, h2, h3, h4, h5⟩
  · cases h1
  · obtain rfl := Option.some.inj hg
    refine Row.mk (heap_setCell_same hb j u) h2 h3 (by simpa using h4) ?_
    rw [← h5, Array.toList_setIfInBounds, List.take_set]
theorem rowV_flip (Z : Nat → Nat) (k n : Nat) : rowV (flipN Z k) n = (rowV Z n).set (k / 8) (.int .u8 ((Z (k / 8) ^^^ 2 ^ (k % 8) : Nat) : Int)) := by
  refine List.ext_getElem? fun j => ?_
  rw [List.getElem?_set, rowV_len]
  by_cases h : j < n
  · rw [rowV_at _ _ _ h]
    by_cases h2 : k / 8 = j
    · rw [if_pos h2, if_pos (by omega)]; unfold flipN; rw [if_pos h2.symm, h2]
    · rw [if_neg h2, rowV_at _ _ _ h]; unfold flipN; rw [if_neg (fun e => h2 e.symm)]
  · rw [List.getElem?_eq_none (by rw [rowV_len]; omega)]
    by_cases h2 : k / 8 = j
    · rw [if_pos h2, if_neg (by omega)]
    · rw [if_neg h2, List.getElem?_eq_none (by rw [rowV_len]; omega)]
end Go.Proofs.YtmgfdbjcgcmbkaaDoor
