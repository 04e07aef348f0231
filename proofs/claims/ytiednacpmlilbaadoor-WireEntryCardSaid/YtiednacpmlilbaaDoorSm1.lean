/-
  The remainder, bit by bit and four bits at once: plain numbers. Nothing here speaks of one program.
-/
import Derived.WalkKit
namespace Go.Proofs.YtiednacpmlilbaaDoor
open Go.RowKit
set_option linter.unusedSimpArgs false
set_option linter.unusedVariables false

/-- one step of the remainder, one bit -/
def stp (r : Nat) : Nat := if r % 2 = 1 then (r / 2) ^^^ 3988292384 else r / 2
def stpN : Nat → Nat → Nat
  | 0, r => r
  | k + 1, r => stpN k (stp r)
theorem xor_div2 (a b : Nat) : (a ^^^ b) / 2 = (a / 2) ^^^ (b / 2) := by
  have := Nat.shiftRight_xor_distrib (a := a) (b := b) (i := 1)
  simpa [Nat.shiftRight_succ] using this
theorem xor_mod2 (a b : Nat) : (a ^^^ b) % 2 = (a % 2 + b % 2) % 2 := by
  have h := Nat.xor_mod_two_pow (a := a) (b := b) (n := 1)
  simp only [Nat.pow_one] at h
  rw [h]
  rcases Nat.mod_two_eq_zero_or_one a with ha | ha <;> rcases Nat.mod_two_eq_zero_or_one b with hb | hb <;> rw [ha, hb] <;> rfl
theorem stp_xor (a b : Nat) : stp (a ^^^ b) = stp a ^^^ stp b := by
  unfold stp
  rw [xor_mod2, xor_div2]
  rcases Nat.mod_two_eq_zero_or_one a with ha | ha <;> rcases Nat.mod_two_eq_zero_or_one b with hb | hb <;> simp only [ha, hb] <;> simp only [Nat.add_zero, Nat.zero_add, Nat.reduceAdd, Nat.reduceMod, if_true, if_false, Nat.zero_ne_one, reduceIte]
  · rw [Nat.xor_assoc]
  · rw [Nat.xor_assoc, Nat.xor_assoc, Nat.xor_comm (b / 2)]
  · rw [Nat.xor_assoc, Nat.xor_comm 3988292384 (b / 2 ^^^ 3988292384), Nat.xor_assoc (b / 2), Nat.xor_self, Nat.xor_zero]
theorem stpN_xor : ∀ (k a b : Nat), stpN k (a ^^^ b) = stpN k a ^^^ stpN k b
  | 0, _, _ => rfl
  | k + 1, a, b => by simp only [stpN]; rw [stp_xor, stpN_xor k]
theorem stp_even (r : Nat) : stp (r * 2) = r := by unfold stp; rw [if_neg (by omega)]; omega
theorem stp_lt {r : Nat} (h : r < 4294967296) : stp r < 4294967296 := by
  unfold stp
  split
  · exact Nat.xor_lt_two_pow (n := 32) (by omega) (by omega)
  · omega
theorem stpN_lt : ∀ (k : Nat) {r : Nat}, r < 4294967296 → stpN k r < 4294967296
  | 0, _, h => h
  | k + 1, _, h => stpN_lt k (stp_lt h)
/-- what a byte makes -/
def byt (r x : Nat) : Nat := stpN 8 (r ^^^ x)
def tab : Nat → Nat
  | 0 => 0x00000000 | 1 => 0x1DB71064 | 2 => 0x3B6E20C8 | 3 => 0x26D930AC
  | 4 => 0x76DC4190 | 5 => 0x6B6B51F4 | 6 => 0x4DB26158 | 7 => 0x5005713C
  | 8 => 0xEDB88320 | 9 => 0xF00F9344 | 10 => 0xD6D6A3E8 | 11 => 0xCB61B38C
  | 12 => 0x9B64C2B0 | 13 => 0x86D3D2D4 | 14 => 0xA00AE278 | _ => 0xBDBDF21C
theorem low_high (r i : Nat) : r = (r / 2 ^ i * 2 ^ i) ^^^ (r % 2 ^ i) := by
  refine Nat.eq_of_testBit_eq fun j => ?_
  rw [Nat.testBit_xor, Nat.testBit_mod_two_pow, Nat.testBit_mul_two_pow, Nat.testBit_div_two_pow]
  by_cases h : j < i
  · simp [h, Nat.not_le.2 h]
  · have : i ≤ j := by omega
    simp [h, this]
theorem four_is (r : Nat) : (r / 16) ^^^ tab (r % 16) = stpN 4 r := by
  have h := low_high r 4
  have h2 : stpN 4 r = stpN 4 (r / 2 ^ 4 * 2 ^ 4) ^^^ stpN 4 (r % 2 ^ 4) := by rw [← stpN_xor, ← h]
  have h3 : stpN 4 (r / 2 ^ 4 * 2 ^ 4) = r / 16 := by
    show stp (stp (stp (stp _))) = _
    rw [show r / 2 ^ 4 * 2 ^ 4 = r / 16 * 2 * 2 * 2 * 2 by omega, stp_even, stp_even, stp_even, stp_even]
  have h4 : ∀ n : Fin 16, tab n = stpN 4 n := by decide +kernel
  rw [h2, h3]
  congr 1
  exact h4 ⟨r % 16, by omega⟩
theorem stpN_add : ∀ (a b r : Nat), stpN (a + b) r = stpN b (stpN a r)
  | 0, b, r => by simp [stpN]
  | a + 1, b, r => by rw [Nat.add_right_comm]; exact stpN_add a b (stp r)
theorem byte_is (r x : Nat) : ((((r ^^^ x) / 16) ^^^ tab ((r ^^^ x) % 16)) / 16) ^^^ tab ((((r ^^^ x) / 16) ^^^ tab ((r ^^^ x) % 16)) % 16) = byt r x := by
  rw [four_is, four_is]; exact (stpN_add 4 4 _).symm

/-! bit by bit: the k-th bit of bytes is bit k % 8 of byte k / 8 -/
def bitAt (B : Nat → Nat) (k : Nat) : Nat := B (k / 8) / 2 ^ (k % 8) % 2
def runB (B : Nat → Nat) (r : Nat) : Nat → Nat
  | 0 => r
  | k + 1 => byt (runB B r k) (B k)
def runBit (B : Nat → Nat) (r : Nat) : Nat → Nat
  | 0 => r
  | k + 1 => stp (runBit B r k ^^^ bitAt B k)
theorem byt_bits (r x : Nat) : byt r x = stp (stp (stp (stp (stp (stp (stp (stp (r ^^^ x % 2) ^^^ x / 2 % 2) ^^^ x / 4 % 2) ^^^ x / 8 % 2) ^^^ x / 16 % 2) ^^^ x / 32 % 2) ^^^ x / 64 % 2) ^^^ x / 128 % 2) ^^^ (x / 256) := by
  have h : ∀ y : Nat, ∀ r, stp (r ^^^ y) = stp (r ^^^ y % 2) ^^^ (y / 2) := fun y r => by
    have e : y = y % 2 ^^^ (y / 2 * 2) := by rw [Nat.xor_comm]; exact low_high y 1
    calc stp (r ^^^ y) = stp ((r ^^^ y % 2) ^^^ (y / 2 * 2)) := by rw [Nat.xor_assoc, ← e]
      _ = _ := by rw [stp_xor (r ^^^ y % 2), stp_even]
  show stp (stp (stp (stp (stp (stp (stp (stp (r ^^^ x)))))))) = _
  rw [h x, h (x / 2), Nat.div_div_eq_div_mul, h (x / (2 * 2)), Nat.div_div_eq_div_mul, h (x / (2 * 2 * 2)), Nat.div_div_eq_div_mul, h (x / (2 * 2 * 2 * 2)), Nat.div_div_eq_div_mul, h (x / (2 * 2 * 2 * 2 * 2)), Nat.div_div_eq_div_mul, h (x / (2 * 2 * 2 * 2 * 2 * 2)), Nat.div_div_eq_div_mul, h (x / (2 * 2 * 2 * 2 * 2 * 2 * 2)), Nat.div_div_eq_div_mul]
theorem runBit_eight (B : Nat → Nat) (r k : Nat) (hB : B k < 256) : runBit B r (8 * k + 8) = byt (runBit B r (8 * k)) (B k) := by
  rw [byt_bits, show B k / 256 = 0 by omega, Nat.xor_zero]
  simp only [runBit, bitAt]
  have e : ∀ j, j < 8 → (8 * k + j) / 8 = k ∧ (8 * k + j) % 8 = j := fun j hj => by omega
  have e0 : (8 * k) / 8 = k ∧ (8 * k) % 8 = 0 := by omega
  have e1 := e 1 (by omega)
  have e2 := e 2 (by omega)
  have e3 := e 3 (by omega)
  have e4 := e 4 (by omega)
  have e5 := e 5 (by omega)
  have e6 := e 6 (by omega)
  have e7 := e 7 (by omega)
  rw [e0.1, e0.2, e1.1, e1.2, e2.1, e2.2, e3.1, e3.2, e4.1, e4.2, e5.1, e5.2, e6.1, e6.2, e7.1, e7.2]
  simp only [Nat.reducePow, Nat.div_one]
theorem runB_bits (B : Nat → Nat) (r : Nat) : ∀ (n : Nat), (∀ k, k < n → B k < 256) → runB B r n = runBit B r (8 * n)
  | 0, _ => rfl
  | n + 1, h => by
    show byt (runB B r n) (B n) = _
    rw [runB_bits B r n (fun k hk => h k (by omega)), Nat.mul_add, Nat.mul_one, runBit_eight B r n (h n (by omega))]
/-- the difference of two runs -/
theorem runBit_diff (B C : Nat → Nat) (r : Nat) : ∀ k, runBit B r (k + 1) ^^^ runBit C r (k + 1) = stp ((runBit B r k ^^^ runBit C r k) ^^^ (bitAt B k ^^^ bitAt C k)) := fun k => by
  show stp _ ^^^ stp _ = _
  rw [← stp_xor]
  congr 1
  have hl : ∀ x y z : Nat, x ^^^ (y ^^^ z) = y ^^^ (x ^^^ z) := fun x y z => by rw [← Nat.xor_assoc, Nat.xor_comm x y, Nat.xor_assoc]
  rw [Nat.xor_assoc, Nat.xor_assoc, hl (bitAt B k)]
theorem stp_zero {r : Nat} (hr : r < 4294967296) (h : stp r = 0) : r = 0 := by
  unfold stp at h
  split at h
  · have h2 : r / 2 = 3988292384 := by
      have := congrArg (· ^^^ 3988292384) h
      simpa [Nat.xor_assoc] using this
    omega
  · omega
/-- no feedback: a step whose result is small is a shift -/
theorem stp_small {r m : Nat} (hr : r < 4294967296) (hm : m ≤ 31) (h : stp r < 2 ^ m) : r % 2 = 0 ∧ stp r = r / 2 := by
  have h31 : stp r < 2 ^ 31 := Nat.lt_of_lt_of_le h (Nat.pow_le_pow_right (by decide) hm)
  rcases Nat.mod_two_eq_zero_or_one r with h0 | h1
  · refine ⟨h0, ?_⟩; unfold stp; rw [if_neg (by omega)]
  · exfalso
    unfold stp at h31
    rw [if_pos h1] at h31
    have hb : (r / 2).testBit 31 = false := Nat.testBit_lt_two_pow (by omega)
    have hc := Nat.testBit_lt_two_pow h31
    rw [Nat.testBit_xor, hb] at hc
    revert hc; decide
theorem xor01 {a b : Nat} (ha : a < 2) (hb : b < 2) : (a ^^^ b) < 2 := Nat.xor_lt_two_pow (n := 1) (by omega) (by omega)
theorem bitAt_lt (B : Nat → Nat) (k : Nat) : bitAt B k < 2 := Nat.mod_lt _ (by decide)
/-- D: a row of differences that begins with nothing, gets a set bit first, then any 31 bits: it is not nothing. -/
theorem burst (D e : Nat → Nat) (hl : ∀ k, D k < 4294967296) (he : ∀ k, e k < 2) (hs : ∀ k, D (k + 1) = stp (D k ^^^ e k)) (at_ : Nat) (h0 : D at_ = 0) (h1 : e at_ = 1) : D (at_ + 32) ≠ 0 := by
  intro hz
  have hx : ∀ k, (D k ^^^ e k) < 4294967296 := fun k => Nat.xor_lt_two_pow (n := 32) (hl k) (by have := he k; omega)
  -- D (at + 32 - j) < 2 ^ j
  have hd : ∀ j, j ≤ 32 → D (at_ + (32 - j)) < 2 ^ j := by
    intro j
    induction j with
    | zero => intro _; rw [Nat.sub_zero, hz]; decide
    | succ j ih =>
      intro hj
      have hi := ih (by omega)
      rw [show at_ + (32 - j) = (at_ + (32 - (j + 1))) + 1 by omega, hs] at hi
      have hq := stp_small (hx _) (by omega) hi
      rw [hq.2] at hi
      have hlt : (D (at_ + (32 - (j + 1))) ^^^ e (at_ + (32 - (j + 1)))) < 2 ^ (j + 1) := by rw [Nat.pow_succ]; omega
      have : D (at_ + (32 - (j + 1))) = (D (at_ + (32 - (j + 1))) ^^^ e (at_ + (32 - (j + 1)))) ^^^ e (at_ + (32 - (j + 1))) := by rw [Nat.xor_assoc, Nat.xor_self, Nat.xor_zero]
      rw [this]
      exact Nat.xor_lt_two_pow hlt (Nat.lt_of_lt_of_le (he _) (by rw [Nat.pow_succ]; have := Nat.two_pow_pos j; omega))
  have h31 := hd 31 (by omega)
  rw [show at_ + (32 - 31) = at_ + 1 by omega, hs, h0, h1] at h31
  revert h31; decide
theorem stays (D e : Nat → Nat) (hl : ∀ k, D k < 4294967296) (hs : ∀ k, D (k + 1) = stp (D k ^^^ e k)) (a : Nat) (h0 : D a ≠ 0) : ∀ n, (∀ k, a ≤ k → k < a + n → e k = 0) → D (a + n) ≠ 0
  | 0, _ => h0
  | n + 1, h => by
    have ih := stays D e hl hs a h0 n (fun k h1 h2 => h k h1 (by omega))
    rw [← Nat.add_assoc, hs, h (a + n) (by omega) (by omega), Nat.xor_zero]
    exact fun hz => ih (stp_zero (hl _) hz)

theorem runB_lt (B : Nat → Nat) (r : Nat) (hr : r < 4294967296) : ∀ k, (∀ j, j < k → B j < 256) → runB B r k < 4294967296
  | 0, _ => hr
  | k + 1, h => by
    show stpN 8 (runB B r k ^^^ B k) < _
    exact stpN_lt 8 (Nat.xor_lt_two_pow (n := 32) (runB_lt B r hr k (fun j hj => h j (by omega))) (by have := h k (by omega); omega))
end Go.Proofs.YtiednacpmlilbaaDoor
