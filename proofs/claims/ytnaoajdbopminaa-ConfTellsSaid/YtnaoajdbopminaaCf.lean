/-
  Package conf: what only reckons, over a set's byte and a node's number.
-/
import Derived.Test.YtnaoajdbopminaaLib
import Derived.Test.YtnaoajdbopminaaDt
import Derived.Outline
import Derived.IntWalk
import Derived.Lib.Hide
import Derived.Deep.QuietTactic
import Derived.BigRegion
import Derived.BigQuiet
import Derived.RegionTactic
import Derived.Deep.DeepCutAuto
import Derived.Deep.RegionWith
import Derived.Deep.RegionHeld3
import Derived.Lib.Strings
import Derived.Lib.Slices
import Derived.Lib.Walk
import Derived.Lib.BitFns
import Derived.Lib.Small
import Derived.Laws.BitsLemmas
import Derived.OpenShut
namespace Go.Proofs.Ytnaoajdbopminaa
open Go.RowKit
set_option linter.unusedSimpArgs false
set_option linter.unusedVariables false

theorem u8_bd (op : BinOp) (x y : Int) : 0 ≤ bits op .u8 x y ∧ bits op .u8 x y ≤ 255 := by
  have h := wf_bits op .u8 x y
  have h2 : IntKind.u8.min ≤ bits op .u8 x y ∧ bits op .u8 x y ≤ IntKind.u8.max := by simpa [Lit.wf] using h
  exact h2
/-- how many bits are set -/
def pcI (x : Int) : Int := (Lib.onesCount x.toNat : Int)
theorem pc_bd (x : Int) (h0 : 0 ≤ x) (h1 : x ≤ 255) : 0 ≤ pcI x ∧ pcI x ≤ 8 := by
  have := Lib.onesCount_le8 ⟨x.toNat, by omega⟩
  unfold pcI; simp only at this; omega
theorem onesc_any (x : Int) (w : World) (h0 : 0 ≤ x) (h1 : x ≤ 255) : Calls Try.prog 92 #[.int .u8 x] w fun e w' => e = .returned (.int .i64 (pcI x)) ∧ w = w' := by
  unfold pcI
  rw [← Lib.pop8_int x h0 h1]
  go_enter Try.func92, Try.ntmps92
  go_wp2
  go_ret
  obtain ⟨b, hb⟩ : ∃ b, b = Lib.pop8 x := ⟨_, rfl⟩
  rw [← hb]
  exact ⟨congrArg (fun n => Ending.returned (.int .i64 n)) (show wrap64 b = (b + 9223372036854775808) % 18446744073709551616 - 9223372036854775808 by simp only [wrap64, IntKind.wrap_i64]), rfl⟩

/-- a node's bit -/
def oneI (node : Int) : Int := if node = 1 then 1 else if node = 2 then 2 else if node = 3 then 4 else if node = 4 then 8 else if node = 5 then 16 else if node = 6 then 32 else if node = 7 then 64 else 0
theorem one_bd (node : Int) : 0 ≤ oneI node ∧ oneI node ≤ 255 := by unfold oneI; omega
theorem node_cases (node : Int) : node < 1 ∨ 7 < node ∨ node = 1 ∨ node = 2 ∨ node = 3 ∨ node = 4 ∨ node = 5 ∨ node = 6 ∨ node = 7 := by omega
set_option maxHeartbeats 1000000 in
theorem one_any (node : Int) (w : World) : Calls Try.prog 73 #[.int .i64 node] w fun e w' => e = .returned (.int .u8 (oneI node)) ∧ w = w' := by
  rcases node_cases node with h | h | rfl | rfl | rfl | rfl | rfl | rfl | rfl
  · have HO : Hid (oneI node = 0) := Lib.hid (by unfold oneI; omega)
    go_enter Try.func73, Try.ntmps73
    go_wp2_with fail
    go_ret
    exact ⟨by first | (rw [HO.out]; rfl) | rw [HO.out], rfl⟩
  · have HO : Hid (oneI node = 0) := Lib.hid (by unfold oneI; omega)
    go_enter Try.func73, Try.ntmps73
    go_wp2_with fail
    go_ret
    exact ⟨by first | (rw [HO.out]; rfl) | rw [HO.out], rfl⟩
  all_goals
    go_enter Try.func73, Try.ntmps73
    go_wp2_with fail
    go_ret
    exact ⟨rfl, rfl⟩

def andI (a b : Int) : Int := bits .and .u8 a b
def outI (a b : Int) : Int := bits .andNot .u8 a b
def orI (a b : Int) : Int := bits .or .u8 a b
theorem and_bd (a b : Int) : 0 ≤ andI a b ∧ andI a b ≤ 255 := u8_bd _ _ _
theorem out_bd (a b : Int) : 0 ≤ outI a b ∧ outI a b ≤ 255 := u8_bd _ _ _
theorem or_bd (a b : Int) : 0 ≤ orI a b ∧ orI a b ≤ 255 := u8_bd _ _ _

def hasI (s node : Int) : Bool := andI s (oneI node) != 0
def mayI (s : Int) : Bool := s != 0 && andI s 127 == s
def szI (s : Int) : Int := pcI (andI s 127)
theorem sz_bd (s : Int) : 0 ≤ szI s ∧ szI s ≤ 8 := pc_bd _ (and_bd _ _).1 (and_bd _ _).2
def moI (s : Int) : Int := szI s / 2 + 1
def neI (s x : Int) : Int := max 0 (moI s - szI (outI s x))
def mostI (s y : Int) : Bool := decide (moI s ≤ szI (andI s y)) && decide (0 < szI s)
def meetsI (a b : Int) : Bool := mayI a && mayI b && decide (szI (andI a b) < neI a (andI a b) + neI b (andI a b))

theorem has_any (s node : Int) (w : World) : Calls Try.prog 68 #[.int .u8 s, .int .i64 node] w fun e w' => e = .returned (.bool (hasI s node)) ∧ w = w' := by
  obtain ⟨o, ho⟩ : ∃ o, o = oneI node := ⟨_, rfl⟩
  have HO := Lib.hid ho
  have c1 : ∀ w, Calls Try.prog 73 #[.int .i64 node] w fun e w' => e = .returned (.int .u8 o) ∧ w = w' := fun w => by rw [HO.out]; exact one_any node w
  clear ho
  go_enter Try.func68, Try.ntmps68
  go_wp2_with (refine (c1 _).mono ?_; rintro e w' ⟨rfl, rfl⟩)
  go_ret
  exact ⟨by first | (rw [HO.out]; rfl) | rw [HO.out], rfl⟩
theorem hasP_any (s node : Int) (w : World) : Calls Try.prog 32 #[.int .u8 s, .int .i64 node] w fun e w' => e = .returned (.bool (hasI s node)) ∧ w = w' := by
  go_enter Try.func32, Try.ntmps32
  go_wp2_with (refine (has_any _ _ _).mono ?_; rintro e w' ⟨rfl, rfl⟩)
  go_ret
  exact ⟨rfl, rfl⟩
set_option maxHeartbeats 1000000 in
theorem cmay_any (s : Int) (w : World) : Calls Try.prog 69 #[.int .u8 s] w fun e w' => e = .returned (.bool (mayI s)) ∧ w = w' := by
  by_cases h : s = 0
  · subst h
    go_enter Try.func69, Try.ntmps69
    go_wp2_with fail
    go_ret
    exact ⟨rfl, rfl⟩
  · have b1 : (s != 0) = true := by rw [bne_iff_ne]; exact h
    have HM : Hid (mayI s = (bits .and .u8 s 127 == s)) := Lib.hid (by unfold mayI andI; rw [b1, Bool.true_and])
    go_enter Try.func69, Try.ntmps69
    go_wp2_with fail
    go_ret
    exact ⟨by first | (rw [HM.out]; rfl) | rw [HM.out], rfl⟩
theorem mayP_any (s : Int) (w : World) : Calls Try.prog 30 #[.int .u8 s] w fun e w' => e = .returned (.bool (mayI s)) ∧ w = w' := by
  go_enter Try.func30, Try.ntmps30
  go_wp2_with (refine (cmay_any _ _).mono ?_; rintro e w' ⟨rfl, rfl⟩)
  go_ret
  exact ⟨rfl, rfl⟩
theorem size_any (s : Int) (w : World) : Calls Try.prog 70 #[.int .u8 s] w fun e w' => e = .returned (.int .i64 (szI s)) ∧ w = w' := by
  obtain ⟨b0, b1⟩ := u8_bd .and s 127
  go_enter Try.func70, Try.ntmps70
  go_wp2_with (refine (onesc_any _ _ b0 b1).mono ?_; rintro e w' ⟨rfl, rfl⟩)
  go_ret
  exact ⟨rfl, rfl⟩
theorem sizeP_any (s : Int) (w : World) : Calls Try.prog 33 #[.int .u8 s] w fun e w' => e = .returned (.int .i64 (szI s)) ∧ w = w' := by
  go_enter Try.func33, Try.ntmps33
  go_wp2_with (refine (size_any _ _).mono ?_; rintro e w' ⟨rfl, rfl⟩)
  go_ret
  exact ⟨rfl, rfl⟩
theorem mostof_any (s : Int) (w : World) : Calls Try.prog 71 #[.int .u8 s] w fun e w' => e = .returned (.int .i64 (moI s)) ∧ w = w' := by
  obtain ⟨b0, b1⟩ := sz_bd s
  unfold moI
  obtain ⟨z, hz⟩ : ∃ z, z = szI s := ⟨_, rfl⟩
  have c1 : ∀ w, Calls Try.prog 70 #[.int .u8 s] w fun e w' => e = .returned (.int .i64 z) ∧ w = w' := fun w => by rw [hz]; exact size_any s w
  rw [← hz] at b0 b1 ⊢
  clear hz
  go_enter Try.func71, Try.ntmps71
  go_wp2_with (refine (c1 _).mono ?_; rintro e w' ⟨rfl, rfl⟩)
  go_ret
  exact ⟨rfl, rfl⟩
theorem mo_bd (s : Int) : 1 ≤ moI s ∧ moI s ≤ 5 := by have := sz_bd s; unfold moI; omega
set_option maxHeartbeats 1000000 in
theorem needs_any (s x : Int) (w : World) : Calls Try.prog 72 #[.int .u8 s, .int .u8 x] w fun e w' => e = .returned (.int .i64 (neI s x)) ∧ w = w' := by
  obtain ⟨b0, b1⟩ := mo_bd s
  obtain ⟨k0, k1⟩ := sz_bd (outI s x)
  unfold neI
  obtain ⟨m, hm⟩ : ∃ m, m = moI s := ⟨_, rfl⟩
  obtain ⟨z, hz⟩ : ∃ z, z = szI (outI s x) := ⟨_, rfl⟩
  have c1 : ∀ w, Calls Try.prog 71 #[.int .u8 s] w fun e w' => e = .returned (.int .i64 m) ∧ w = w' := fun w => by rw [hm]; exact mostof_any s w
  have c2 : ∀ w, Calls Try.prog 70 #[.int .u8 (bits .andNot .u8 s x)] w fun e w' => e = .returned (.int .i64 z) ∧ w = w' := fun w => by rw [hz]; exact size_any _ w
  rw [← hm] at b0 b1 ⊢
  rw [← hz] at k0 k1 ⊢
  clear hm hz
  go_enter Try.func72, Try.ntmps72
  go_wp2_with (first
    | (go_at_call 71; refine (c1 _).mono ?_; rintro e w' ⟨rfl, rfl⟩)
    | (go_at_call 70; refine (c2 _).mono ?_; rintro e w' ⟨rfl, rfl⟩))
  all_goals
    go_ret
    exact ⟨congrArg (fun n => Ending.returned (.int .i64 n)) (by first | rfl | omega), rfl⟩
end Go.Proofs.Ytnaoajdbopminaa
