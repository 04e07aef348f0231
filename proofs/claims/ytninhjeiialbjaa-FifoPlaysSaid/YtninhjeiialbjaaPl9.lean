/-
  The document's Bytes.
-/
import Derived.Test.YtninhjeiialbjaaPl8
namespace Go.Proofs.Ytninhjeiialbjaa
open Go.RowKit
set_option linter.unusedSimpArgs false
set_option linter.unusedVariables false

def sumB (E : Nat → PkE) : Nat → Nat
  | 0 => 0
  | n + 1 => sumB E n + (8 + (E n).n)
theorem sumB_le (E : Nat → PkE) : ∀ n, (∀ j, j < n → (E j).n ≤ 1492) → sumB E n ≤ n * 1500
  | 0, _ => by simp [sumB]
  | n + 1, h => by
    have := sumB_le E n (fun j hj => h j (by omega))
    have := h n (by omega)
    unfold sumB
    omega
theorem sumB_congr {E E' : Nat → PkE} : ∀ {n : Nat}, (∀ k, k < n → (E k).n = (E' k).n) → sumB E n = sumB E' n
  | 0, _ => rfl
  | n + 1, h => by unfold sumB; rw [sumB_congr (fun k hk => h k (by omega)), h n (by omega)]
theorem sumB_cons (E : Nat → PkE) : ∀ n, sumB E (n + 1) = 8 + (E 0).n + sumB (fun j => E (j + 1)) n
  | 0 => by simp [sumB]
  | n + 1 => by
    have := sumB_cons E n
    unfold sumB
    rw [this]
    omega

set_option maxRecDepth 100000 in
set_option maxHeartbeats 8000000 in
theorem rbytes_any (D : Nat) (room : Int) (n : Nat) (lost : Int) (ob : Option Nat) (v : Value) (E : Nat → PkE) (w : World) (hq : RQ w D room n lost ob v E) (hn : n ≤ 64) :
    Calls Try.prog 40 #[.pointer (some ⟨D, 0, none⟩)] w fun e w' => e = .returned (.int .i64 (sumB E n : Nat)) ∧ Below w.heap.size w w' := by
  obtain ⟨va, vc, rfl, hnc, hcm⟩ := hq.shape
  unfold maxLen at hcm
  have HQ := Lib.hid hq
  have HC := Lib.hid hq.cellE
  have q1 : w.cell? ⟨D, 1, none⟩ = some (.slice va n vc) := cell_at hq.own 1
  have hD : D < w.heap.size := hq.own.lt
  have HLE := Lib.hid hq.le
  clear hq
  go_enter Try.func40, Try.ntmps40
  go_wp2_with fail
  go_loopw [3, 4] (fun s i wr => ∃ k S : Nat, k ≤ n ∧ i = .int .i64 k ∧ s = .int .i64 S ∧ S = sumB E k ∧ Below w.heap.size w wr) (fun _ i _ => n - (intOf i).toNat)
  case atStart => exact ⟨0, 0, Nat.zero_le _, rfl, rfl, rfl, Below.refl _ _⟩
  case round =>
    obtain ⟨k, S, hk, rfl, rfl, hS, hB⟩ := hrel
    have HB := Lib.hid hB
    have HS := Lib.hid hS
    have q2 : wr.cell? ⟨D, 1, none⟩ = some (.slice va n vc) := (hB.cell (p := ⟨D, 1, none⟩) hD).trans q1
    have hD2 : D < wr.heap.size := by have := hB.size; omega
    clear hB
    by_cases hlt : k < n
    · obtain ⟨g, off, cap, hv, hob, _, _, hg, hcell⟩ := HC.out (by omega)
      injection hv with e1 _ e3
      subst e1 e3
      have hc := (HB.out.cell (p := ⟨g, off + k * 4 + 3, none⟩) hg).trans (hcell k hlt 3 (by omega))
      have hle := HLE.out k hlt
      have hs := sumB_le E k (fun j hj => HLE.out j (by omega))
      rw [← hS] at hs
      have HN : Hid (sumB E (k + 1) = S + (8 + (E k).n)) := Lib.hid (by rw [hS]; rfl)
      obtain ⟨x, hx⟩ : ∃ x, x = E k := ⟨_, rfl⟩
      rw [← hx] at hc hle HN
      obtain ⟨xn, xt, xc, xa, xl, xca, xb, xo, xX⟩ := x
      have c3 : wr.cell? ⟨g, off + k * 4 + 3, none⟩ = some (.slice xa xl xca) := hc
      simp only at hle HN
      have s1 : IntKind.i64.wrap ((S : Int) + 8) = (S : Int) + 8 := IntWalk.i64_in _ (by omega)
      have s2 : IntKind.i64.wrap ((S : Int) + 8 + xl) = ((S + (8 + xl) : Nat) : Int) := (IntWalk.i64_in _ (by omega)).trans (by omega)
      clear hc hcell hx hS hs
      go_wp2_with fail
      go_roundw
      case rel => exact ⟨k + 1, S + (8 + xl), by omega, by go_num, rfl, HN.out.symm, HB.out⟩
      case measure => first | (simp [intOf]; done) | (simp [intOf]; omega)
    · obtain rfl : k = n := by omega
      go_wp2_with fail
      go_ret
      exact ⟨by rw [← HS.out]; rfl, HB.out⟩
end Go.Proofs.Ytninhjeiialbjaa
