/-
  Package virtual: what a packet costs; new times; a time that is the same. The document's answers beside them.
-/
import Derived.Test.YtnainlemnkfpkaaVup
import Derived.Laws.MakeOwn
namespace Go.Proofs.Ytnainlemnkfpkaa
open Go.RowKit
set_option linter.unusedSimpArgs false
set_option linter.unusedVariables false

def costB (s w a : Int) : Bool := decide (1 ≤ s) && decide (s ≤ 1500) && decide (1 ≤ w) && decide (w ≤ 16) && decide (w ≤ a) && decide (a ≤ 128)
def costS (s w a : Int) : Int := if costB s w a = true then s * a * (720720 / w) else 0
theorem costB_cases (s w a : Int) : (costB s w a = false ∧ (s < 1 ∨ (1 ≤ s ∧ 1500 < s) ∨ (1 ≤ s ∧ s ≤ 1500 ∧ w < 1) ∨ (1 ≤ s ∧ s ≤ 1500 ∧ 1 ≤ w ∧ 16 < w) ∨ (1 ≤ s ∧ s ≤ 1500 ∧ 1 ≤ w ∧ w ≤ 16 ∧ a < w) ∨ (1 ≤ s ∧ s ≤ 1500 ∧ 1 ≤ w ∧ w ≤ 16 ∧ w ≤ a ∧ 128 < a))) ∨ (costB s w a = true ∧ 1 ≤ s ∧ s ≤ 1500 ∧ 1 ≤ w ∧ w ≤ 16 ∧ w ≤ a ∧ a ≤ 128) := by
  cases h : costB s w a
  · left
    refine ⟨rfl, ?_⟩
    unfold costB at h
    simp at h
    omega
  · right
    unfold costB at h
    simp at h
    exact ⟨rfl, by omega, by omega, by omega, by omega, by omega, by omega⟩
theorem cost_bd {s w a : Int} (h1 : 1 ≤ s) (h2 : s ≤ 1500) (h3 : 1 ≤ w) (h5 : w ≤ a) (h6 : a ≤ 128) :
    1 ≤ s * a ∧ s * a ≤ 192000 ∧ 0 ≤ 720720 / w ∧ 720720 / w ≤ 720720 ∧ 0 ≤ s * a * (720720 / w) ∧ s * a * (720720 / w) ≤ 138378240000 := by
  have e1 : 1 * 1 ≤ s * a := Int.mul_le_mul h1 (by omega) (by omega) (by omega)
  have e2 : s * a ≤ 1500 * 128 := Int.mul_le_mul h2 h6 (by omega) (by omega)
  have e3 : 0 ≤ 720720 / w := Int.ediv_nonneg (by omega) (by omega)
  have e4 : 720720 / w ≤ 720720 := Int.ediv_le_self _ (by omega)
  have e5 : 0 ≤ s * a * (720720 / w) := Int.mul_nonneg (by omega) e3
  have e6 : s * a * (720720 / w) ≤ 192000 * 720720 := Int.mul_le_mul (by omega) e4 e3 (by omega)
  exact ⟨by omega, by omega, e3, e4, e5, by omega⟩
theorem cost_range (s w a : Int) : 0 ≤ costS s w a ∧ costS s w a ≤ 138378240000 := by
  unfold costS
  rcases costB_cases s w a with ⟨h, _⟩ | ⟨h, h1, h2, h3, h4, h5, h6⟩
  · rw [if_neg (by rw [h]; simp)]; omega
  · rw [if_pos h]
    have := cost_bd h1 h2 h3 h5 h6
    omega

set_option maxRecDepth 100000 in
set_option maxHeartbeats 4000000 in
theorem cost_any (s wt a : Int) (w : World) : Calls Try.prog 54 #[.int .i64 s, .int .i64 wt, .int .i64 a] w fun e w' => e = .returned (.int .i64 (costS s wt a)) ∧ w = w' := by
  obtain ⟨C, hC⟩ : ∃ C, C = costS s wt a := ⟨_, rfl⟩
  rw [← hC]
  unfold costS at hC
  rcases costB_cases s wt a with ⟨h, hh⟩ | ⟨h, h1, h2, h3, h4, h5, h6⟩
  · rw [if_neg (by rw [h]; simp)] at hC
    have HC := Lib.hid hC
    clear hC h
    rcases hh with h | ⟨h, h2⟩ | ⟨h, h2, h3⟩ | ⟨h, h2, h3, h4⟩ | ⟨h, h2, h3, h4, h5⟩ | ⟨h, h2, h3, h4, h5, h6⟩
    all_goals
      go_enter Try.func54, Try.ntmps54
      go_wp2_with fail
      go_ret
      exact ⟨by rw [HC.out]; rfl, rfl⟩
  · rw [if_pos h] at hC
    have hb := cost_bd h1 h2 h3 h5 h6
    obtain ⟨b1, b2, b3, b4, b5, b6⟩ := hb
    have k1 : IntKind.u64.wrap (s * a) = s * a := IntWalk.u64_in _ (by omega)
    have k2 : IntKind.u64.wrap (s * a * (720720 / wt)) = s * a * (720720 / wt) := IntWalk.u64_in _ (by omega)
    have HC := Lib.hid hC
    clear hC h
    go_enter Try.func54, Try.ntmps54
    go_wp2_with fail
    go_ret
    exact ⟨by rw [HC.out]; rfl, rfl⟩
set_option maxRecDepth 100000 in
set_option maxHeartbeats 4000000 in
theorem rcost_any (s wt a : Int) (w : World) : Calls Try.prog 59 #[.int .i64 s, .int .i64 wt, .int .i64 a] w fun e w' => e = .returned (.int .i64 (costS s wt a)) ∧ w = w' := by
  obtain ⟨C, hC⟩ : ∃ C, C = costS s wt a := ⟨_, rfl⟩
  rw [← hC]
  unfold costS at hC
  rcases costB_cases s wt a with ⟨h, hh⟩ | ⟨h, h1, h2, h3, h4, h5, h6⟩
  · rw [if_neg (by rw [h]; simp)] at hC
    have HC := Lib.hid hC
    clear hC h
    rcases hh with h | ⟨h, h2⟩ | ⟨h, h2, h3⟩ | ⟨h, h2, h3, h4⟩ | ⟨h, h2, h3, h4, h5⟩ | ⟨h, h2, h3, h4, h5, h6⟩
    all_goals
      go_enter Try.func59, Try.ntmps59
      go_wp2_with fail
      go_ret
      exact ⟨by rw [HC.out]; rfl, rfl⟩
  · rw [if_pos h] at hC
    have hb := cost_bd h1 h2 h3 h5 h6
    obtain ⟨b1, b2, b3, b4, b5, b6⟩ := hb
    have k1 : IntKind.i64.wrap (s * a) = s * a := IntWalk.i64_in _ (by omega)
    have k2 : IntKind.i64.wrap (s * a * (720720 / wt)) = s * a * (720720 / wt) := IntWalk.i64_in _ (by omega)
    have HC := Lib.hid hC
    clear hC h
    go_enter Try.func59, Try.ntmps59
    go_wp2_with fail
    go_ret
    exact ⟨by rw [HC.out]; rfl, rfl⟩

/-- a virtual time in memory of the call's own -/
def VOut (w w' : World) (v : Value) (V : Int) (n : Nat) (T : Nat → TagsE) : Prop := ∃ a c ob, v = .agg #[.int .i64 V, .slice a n c] ∧ Row w' (.slice a n c) ob 80 2 n (tagsL T n) ∧ (∀ g, ob = some g → w.heap.size ≤ g) ∧ Below w.heap.size w w'
def VRes (w : World) (V : Int) (n : Nat) (T : Nat → TagsE) (er : Int) (e : Ending) (w' : World) : Prop := ∃ v, e = .returned (.tuple #[v, .int .i64 er]) ∧ VOut w w' v V n T

theorem infoTags : (Try.prog.info? 80).map (fun i => (i.zero, i.size, i.bytes)) = some (some (.agg #[.int .i64 0, .int .i64 0]), 2, 16) := by kernel_rfl
def zeroT (_ : Nat) : TagsE := ⟨0, 0⟩
theorem made_tags (n : Nat) : (madeCells (Value.agg #[.int .i64 0, .int .i64 0]).cells (n * 2)).toList = tagsL zeroT n := by
  apply List.ext_getElem?
  intro j
  have hl := tagsL_len zeroT n
  by_cases hj : j < n * 2
  · have h1 := tagsL_at zeroT n (j / 2) (j % 2) (by omega) (by omega)
    rw [show j / 2 * 2 + j % 2 = j by omega] at h1
    rw [h1]
    rcases (show j % 2 = 0 ∨ j % 2 = 1 by omega) with e | e
    · simp [madeCells, hj, e, TagsE.cells, zeroT, Value.cells]
    · simp [madeCells, hj, e, TagsE.cells, zeroT, Value.cells]
  · rw [List.getElem?_eq_none (by rw [Array.length_toList, size_madeCells]; omega), List.getElem?_eq_none (by omega)]

theorem make_tags (k : Nat) (h8 : k ≤ 8) (w : World) : (Instr.makeSlice 37 (.int .i64 (k : Int)) (.int .i64 (k : Int))).run Try.prog w = .ok (.slice (some ⟨w.heap.size, 0, none⟩) k k) (w.alloc (.cells (madeCells (Value.agg #[.int .i64 0, .int .i64 0]).cells (k * 2)) 80)) := by
  obtain ⟨i0, hi, hz0, hz1, hz2⟩ := info_parts infoTags
  have hr := run_makeSlice (P := Try.prog) w 37 80 i0 _ Try.underlying37 hi hz0 .i64 .i64 k k (by omega) (Int.le_refl _) (by rw [hz1]; simp; omega) (by rw [hz2]; omega) (by omega)
  rw [hz1] at hr
  simpa only [Int.toNat_natCast] using hr
set_option maxRecDepth 100000 in
set_option maxHeartbeats 4000000 in
theorem new_bad (n : Int) (w : World) (h : n < 1 ∨ (1 ≤ n ∧ 8 < n)) : Calls Try.prog 20 #[.int .i64 n] w (VRes w 0 0 zeroT 2) := by
  rcases h with h | ⟨h, h2⟩
  all_goals
    go_enter Try.func20, Try.ntmps20
    go_wp2_with fail
    refine bodyPost_ret (v := .tuple #[.agg #[.int .i64 0, .slice none 0 0], .int .i64 2]) (by simp [results, Try.results20, go_sem]) rfl ⟨_, rfl, none, 0, none, rfl, Row.nil _ _ _, (fun _ h => by cases h), ?_⟩
    (repeat (first | with_reducible exact Below.refl _ _ | with_reducible refine Below.drew ?_ | ((with_reducible refine Below.alloc ?_ ?_ _); (rotate_left; first | omega | (simp; done) | (simp; omega))) | ((with_reducible refine Below.setCell ?_ ?_ _); (rotate_left; first | omega | (simp only; omega) | (simp; done) | (simp; omega)))))
set_option maxRecDepth 100000 in
set_option maxHeartbeats 4000000 in
theorem new_good (k : Nat) (w : World) (h : 1 ≤ k) (h8 : k ≤ 8) : Calls Try.prog 20 #[.int .i64 k] w (VRes w 0 k zeroT 0) := by
  have hmk := make_tags k h8
  have HK : Hid (madeCells #[.int .i64 0, .int .i64 0] (k * 2) = (tagsL zeroT k).toArray) := Lib.hid (by have := made_tags k; rw [← this]; rfl)
  go_enter Try.func20, Try.ntmps20
  go_wp2_with fail
  refine bodyPost_ret (v := .tuple #[.agg #[.int .i64 0, .slice (some ⟨w.heap.size + 1, 0, none⟩) k k], .int .i64 0]) (by simp [results, Try.results20, go_sem]) rfl ⟨_, rfl, _, _, some (w.heap.size + 1), rfl, ?_, (fun g h => by obtain rfl := Option.some.inj h; omega), ?_⟩
  · refine Row.mk (cur := (tagsL zeroT k).toArray) ?_ (Nat.le_refl _) (by unfold maxLen; omega) (by simp [tagsL_len]) (by simp; rw [List.take_of_length_le (by rw [tagsL_len]; omega)])
    rw [HK.out]
    refine Eq.trans (congrArg (fun k => _root_.GetElem?.getElem? _ k) ?_) (heap_alloc_new _ _)
    simp
  · exact ((Below.refl _ _).alloc (Nat.le_refl _) _).alloc (by simp) _
set_option maxRecDepth 100000 in
set_option maxHeartbeats 4000000 in
theorem rnew_bad (n : Int) (w : World) (h : n < 1 ∨ (1 ≤ n ∧ 8 < n)) : Calls Try.prog 21 #[.int .i64 n] w (VRes w 0 0 zeroT 2) := by
  rcases h with h | ⟨h, h2⟩
  all_goals
    go_enter Try.func21, Try.ntmps21
    go_wp2_with fail
    refine bodyPost_ret (v := .tuple #[.agg #[.int .i64 0, .slice none 0 0], .int .i64 2]) (by simp [results, Try.results21, go_sem]) rfl ⟨_, rfl, none, 0, none, rfl, Row.nil _ _ _, (fun _ h => by cases h), ?_⟩
    (repeat (first | with_reducible exact Below.refl _ _ | with_reducible refine Below.drew ?_ | ((with_reducible refine Below.alloc ?_ ?_ _); (rotate_left; first | omega | (simp; done) | (simp; omega))) | ((with_reducible refine Below.setCell ?_ ?_ _); (rotate_left; first | omega | (simp only; omega) | (simp; done) | (simp; omega)))))
set_option maxRecDepth 100000 in
set_option maxHeartbeats 4000000 in
theorem rnew_good (k : Nat) (w : World) (h : 1 ≤ k) (h8 : k ≤ 8) : Calls Try.prog 21 #[.int .i64 k] w (VRes w 0 k zeroT 0) := by
  have hmk := make_tags k h8
  have HK : Hid (madeCells #[.int .i64 0, .int .i64 0] (k * 2) = (tagsL zeroT k).toArray) := Lib.hid (by have := made_tags k; rw [← this]; rfl)
  go_enter Try.func21, Try.ntmps21
  go_wp2_with fail
  refine bodyPost_ret (v := .tuple #[.agg #[.int .i64 0, .slice (some ⟨w.heap.size + 1, 0, none⟩) k k], .int .i64 0]) (by simp [results, Try.results21, go_sem]) rfl ⟨_, rfl, _, _, some (w.heap.size + 1), rfl, ?_, (fun g h => by obtain rfl := Option.some.inj h; omega), ?_⟩
  · refine Row.mk (cur := (tagsL zeroT k).toArray) ?_ (Nat.le_refl _) (by unfold maxLen; omega) (by simp [tagsL_len]) (by simp; rw [List.take_of_length_le (by rw [tagsL_len]; omega)])
    rw [HK.out]
    refine Eq.trans (congrArg (fun k => _root_.GetElem?.getElem? _ k) ?_) (heap_alloc_new _ _)
    simp
  · exact ((Below.refl _ _).alloc (Nat.le_refl _) _).alloc (by simp) _
end Go.Proofs.Ytnainlemnkfpkaa
