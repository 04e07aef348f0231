/-
  Package sums: four steps at once; a row of bytes.
-/
import Derived.Test.YtiednacpmlilbaaDoorLib
import Derived.Test.YtiednacpmlilbaaDoorDt
import Derived.Test.YtiednacpmlilbaaDoorSm1
import Derived.Outline
import Derived.IntWalk
import Derived.Lib.Hide
import Derived.Deep.QuietTactic
import Derived.BigRegion
import Derived.BigQuiet
import Derived.RegionTactic
import Derived.Deep.DeepCutAuto
import Derived.Deep.RegionWith
import Derived.Laws.BitsLemmas
import Derived.OpenShut
namespace Go.Proofs.YtiednacpmlilbaaDoor
open Go.RowKit
set_option linter.unusedSimpArgs false
set_option linter.unusedVariables false

theorem wraps_u32 (n : Int) (h0 : 0 ≤ n) (h1 : n < 4294967296) : IntKind.u32.wrap n = n := by rw [IntKind.wrap_u32]; omega
theorem xor_u32 (a b : Nat) (ha : a < 4294967296) (hb : b < 4294967296) : bits .xor .u32 a b = ((a ^^^ b : Nat) : Int) := by
  have ha' : a % 2 ^ 32 = a := Nat.mod_eq_of_lt ha
  have hb' : b % 2 ^ 32 = b := Nat.mod_eq_of_lt hb
  have hlt : a ^^^ b < 2 ^ 32 := Nat.xor_lt_two_pow (n := 32) ha hb
  have e1 : BitVec.ofInt 32 (a : Int) = BitVec.ofNat 32 a := by simp [BitVec.ofInt_natCast]
  have e2 : BitVec.ofInt 32 (b : Int) = BitVec.ofNat 32 b := by simp [BitVec.ofInt_natCast]
  have h : (BitVec.ofNat 32 a ^^^ BitVec.ofNat 32 b).toNat = a ^^^ b := by rw [BitVec.toNat_xor, BitVec.toNat_ofNat, BitVec.toNat_ofNat, ha', hb']
  show IntKind.u32.wrap ((BitVec.ofInt 32 (a : Int) ^^^ BitVec.ofInt 32 (b : Int)).toNat : Int) = _
  rw [e1, e2, h]
  exact wraps_u32 ((a ^^^ b : Nat) : Int) (by omega) (by omega)
theorem and_u32 (a : Nat) (ha : a < 4294967296) : bits .and .u32 a 15 = ((a % 16 : Nat) : Int) ∧ bits .and .u32 a 1 = ((a % 2 : Nat) : Int) := by
  have h := fun i hi => bits_mask .u32 32 (by decide) (fun n h0 h1 => wraps_u32 n h0 (by omega)) i hi (a : Int) (by omega) (by omega)
  have h4 := h 4 (by omega)
  have h1 := h 1 (by omega)
  simp only [Int.reducePow, Int.reduceSub] at h4 h1
  exact ⟨by rw [h4]; omega, by rw [h1]; omega⟩

/-- the table of four steps -/
def Tab (W : World) : Prop := (∀ i, i < 16 → W.cell? ⟨0, i, none⟩ = some (.int .u32 (tab i : Nat))) ∧ 0 < W.heap.size
theorem Tab.below {W X : World} (h : Tab W) (hB : Below W.heap.size W X) : Tab X := ⟨fun i hi => (hB.cell (p := ⟨0, i, none⟩) h.2).trans (h.1 i hi), by have := hB.size; have := h.2; omega⟩
theorem tab_lt : ∀ i, tab i < 4294967296 := fun i => by
  unfold tab
  split <;> decide

def fourI (x : Int) : Int := (stpN 4 x.toNat : Nat)
set_option maxHeartbeats 1000000 in
theorem four_any (x : Int) (h0 : 0 ≤ x) (h1 : x < 4294967296) (w : World) (ht : Tab w) : Calls Tryd.prog 113 #[.int .u32 x] w fun e w' => e = .returned (.int .u32 (fourI x)) ∧ w = w' := by
  obtain ⟨r, rfl⟩ := Int.eq_ofNat_of_zero_le h0
  have hr : r < 4294967296 := by omega
  have HF : Hid (fourI (r : Int) = ((r / 16 ^^^ tab (r % 16) : Nat) : Int)) := Lib.hid (by unfold fourI; rw [four_is]; rfl)
  have hc := ht.1 (r % 16) (by omega)
  have e1 := (and_u32 r hr).1
  have e2 := xor_u32 (r / 16) (tab (r % 16)) (by omega) (tab_lt _)
  obtain ⟨n, hn⟩ : ∃ n, n = r % 16 := ⟨_, rfl⟩
  obtain ⟨y, hy⟩ : ∃ y, y = fourI (r : Int) := ⟨_, rfl⟩
  rw [← hy] at HF ⊢
  rw [← hn] at hc e1 e2 HF
  have hn16 : n < 16 := by omega
  obtain ⟨v, hv⟩ : ∃ v : Int, v = (tab n : Nat) := ⟨_, rfl⟩
  rw [← hv] at hc e2
  rw [← HF.out] at e2
  obtain ⟨x, hx⟩ : ∃ x : Int, x = (r : Int) := ⟨_, rfl⟩
  have e3 : ((r / 16 : Nat) : Int) = x / 16 := by rw [hx]; omega
  rw [e3] at e2
  rw [← hx] at e1 h0 h1 ⊢
  clear hn hy hv hx hr ht HF e3
  go_enter Tryd.func113, Tryd.ntmps113
  go_wp2_with fail
  go_ret
  exact ⟨rfl, rfl⟩
end Go.Proofs.YtiednacpmlilbaaDoor
