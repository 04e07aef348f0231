/-
  slices.Equal of bytes.
-/
import Derived.Test.YtcimcmfibinehaaPk5
namespace Go.Proofs.Ytcimcmfibinehaa
open Go.RowKit
set_option linter.unusedSimpArgs false
set_option linter.unusedVariables false

def eqB (X Y : Nat → Nat) : Nat → Bool
  | 0 => true
  | k + 1 => eqB X Y k && X k == Y k
theorem eqB_false (X Y : Nat → Nat) (k : Nat) (h : (X k == Y k) = false) : ∀ n, k < n → eqB X Y n = false
  | 0, hk => by omega
  | n + 1, hk => by
    unfold eqB
    by_cases e : k = n
    · subst e; rw [h, Bool.and_false]
    · rw [eqB_false X Y k h n (by omega), Bool.false_and]
theorem eqB_iff (X Y : Nat → Nat) : ∀ n, eqB X Y n = true ↔ ∀ k, k < n → X k = Y k
  | 0 => by simp [eqB]
  | n + 1 => by
    unfold eqB
    rw [Bool.and_eq_true, eqB_iff X Y n, beq_iff_eq]
    refine ⟨fun h k hk => ?_, fun h => ⟨fun k hk => h k (by omega), h n (by omega)⟩⟩
    by_cases e : k = n
    · subst e; exact h.2
    · exact h.1 k (by omega)

set_option maxRecDepth 100000 in
set_option maxHeartbeats 4000000 in
theorem equal_any (a : Option Addr) (n c b o : Nat) (X : Nat → Nat) (a' : Option Addr) (n' c' b' o' : Nat) (Y : Nat → Nat) (w : World) (h1 : ByIn w a n c b o X) (h2 : ByIn w a' n' c' b' o' Y) :
    Calls Try.prog 13 #[.slice a n c, .slice a' n' c'] w fun e w' => e = .returned (.bool ((n == n') && eqB X Y n)) ∧ Below w.heap.size w w' := by
  have hm := h1.max
  have hl := h1.le
  have hm' := h2.max
  have hl' := h2.le
  unfold maxLen at hm hm'
  have HA := Lib.hid h1
  have HB := Lib.hid h2
  clear h1 h2
  obtain ⟨q, hq⟩ : ∃ q, q = ((n == n') && eqB X Y n) := ⟨_, rfl⟩
  have HQ := Lib.hid hq
  rw [← hq]
  clear hq
  by_cases hn : n = n'
  · subst hn
    have HQ2 : Hid (q = eqB X Y n) := Lib.hid (by rw [HQ.out]; simp)
    clear HQ
    go_enter Try.func13, Try.ntmps13
    go_wp2_with fail
    go_loopw [13] (fun i wr => ∃ k : Nat, k ≤ n ∧ i = .int .i64 k ∧ eqB X Y k = true ∧ Below w.heap.size w wr) (fun i _ => n - (intOf i).toNat)
    case atStart => exact ⟨0, Nat.zero_le _, rfl, rfl, Below.refl _ _⟩
    case round =>
      obtain ⟨k, hk, rfl, he, hB⟩ := hrel
      have HBB := Lib.hid hB
      have HE := Lib.hid he
      clear hB he
      by_cases hlt : k < n
      · obtain ⟨e0, e1⟩ := HA.out.at_ (by omega)
        obtain ⟨e2, e3⟩ := HB.out.at_ (by omega)
        subst e0 e2
        have k0 := (HA.out.below HBB.out).cell k hlt
        have k1 := (HB.out.below HBB.out).cell k hlt
        have x0 := HA.out.bd k
        have y0 := HB.out.bd k
        have HF : Hid ((X k == Y k) = false → eqB X Y n = false) := Lib.hid (fun h => eqB_false X Y k h n hlt)
        have HT : Hid ((X k == Y k) = true → eqB X Y (k + 1) = true) := Lib.hid (fun h => by unfold eqB; rw [HE.out, h]; rfl)
        obtain ⟨x, hx⟩ : ∃ x, x = X k := ⟨_, rfl⟩
        obtain ⟨y, hy⟩ : ∃ y, y = Y k := ⟨_, rfl⟩
        rw [← hx] at k0 x0 HF HT
        rw [← hy] at k1 y0 HF HT
        clear hx hy
        by_cases hxy : x = y
        · subst hxy
          have HT2 : Hid (eqB X Y (k + 1) = true) := Lib.hid (HT.out (by simp))
          go_wp2_with fail
          go_quiet (fail)
          go_wp2_with fail
          go_roundw
          case rel => exact ⟨k + 1, by omega, by go_num, HT2.out, below_drewN HBB.out _⟩
          case measure => first | (simp [intOf]; done) | (simp [intOf]; omega)
        · have HF2 : Hid (q = false) := Lib.hid (by rw [HQ2.out]; exact HF.out (by simpa using hxy))
          have d0 : ((x : Int) == (y : Int)) = false := by simp; omega
          go_wp2_with fail
          go_quiet (fail)
          go_wp2_with fail
          go_ret
          exact ⟨by rw [HF2.out]; rfl, below_drewN HBB.out _⟩
      · obtain rfl : k = n := by omega
        have HT2 : Hid (q = true) := Lib.hid (by rw [HQ2.out, HE.out])
        go_wp2_with fail
        go_ret
        exact ⟨by rw [HT2.out]; rfl, HBB.out⟩
  · have HF2 : Hid (q = false) := Lib.hid (by rw [HQ.out]; simp [hn])
    have d0 : ((n : Int) == (n' : Int)) = false := by simp; omega
    go_enter Try.func13, Try.ntmps13
    go_wp2_with fail
    go_ret
    exact ⟨by rw [HF2.out]; rfl, Below.refl _ _⟩
end Go.Proofs.Ytcimcmfibinehaa
