/-
  Entries of the log: what may be, asked of one of them.
-/
import Derived.Test.YtcadinoijclfnaaLib
import Derived.Test.YtcadinoijclfnaaDt
import Derived.Outline
import Derived.IntWalk
import Derived.Lib.Hide
import Derived.Deep.QuietTactic
import Derived.BigRegion
import Derived.BigQuiet
import Derived.RegionTactic
import Derived.Deep.DeepCutAuto
namespace Go.Proofs.Ytcadinoijclfnaa
open Go.RowKit
set_option linter.unusedSimpArgs false
set_option linter.unusedVariables false
set_option linter.unusedVariables false

theorem belowN {B : Nat} {w w' : World} (h : Below B w w') (n : Nat) : Below B w (w'.drewN n) := ⟨h.os, h.tape, h.output, h.size, h.block⟩
theorem quietQ {P : Program} {f : FuncId} {args : Array Value} {w : World} {n : Nat} {v : Value}
    (h : Calls P f args (w.drewN n) fun e w' => e = .returned v ∧ w.drewN n = w') : Calls P f args (w.drewN n) fun e w'' => e = .returned v ∧ ∃ m, w'' = w.drewN m :=
  h.mono fun _ _ ⟨he, hm⟩ => ⟨he, n, hm.symm⟩
theorem stillQ {P : Program} {f : FuncId} {args : Array Value} {w : World} {v : Value} (h : Calls P f args w fun e w' => e = .returned v ∧ w = w') : Calls P f args w fun e w'' => e = .returned v ∧ w'' = w :=
  h.mono fun _ _ ⟨he, hm⟩ => ⟨he, hm.symm⟩

/-- may an entry be, whatever stands ahead of it? -/
def entB (k s st : Int) (dl : Nat) : Bool :=
  decide (0 ≤ s) && decide (0 ≤ k) && decide (k ≤ 2) && ((st != 0) == (k == 1)) && (if k = 2 then decide (dl ≤ 16384) else decide (dl = 0))

theorem ent_cases (k s st : Int) (dl : Nat) :
    (s < 0 ∧ entB k s st dl = false) ∨ (0 ≤ s ∧ k < 0 ∧ entB k s st dl = false) ∨ (0 ≤ s ∧ 2 < k ∧ entB k s st dl = false) ∨ (0 ≤ s ∧
      ((k = 0 ∧ (st ≠ 0 ∧ entB k s st dl = false ∨ st = 0 ∧ dl = 0 ∧ entB k s st dl = true ∨ st = 0 ∧ 0 < dl ∧ entB k s st dl = false)) ∨
       (k = 1 ∧ (st = 0 ∧ entB k s st dl = false ∨ st ≠ 0 ∧ dl = 0 ∧ entB k s st dl = true ∨ st ≠ 0 ∧ 0 < dl ∧ entB k s st dl = false)) ∨
       (k = 2 ∧ (st ≠ 0 ∧ entB k s st dl = false ∨ st = 0 ∧ dl ≤ 16384 ∧ entB k s st dl = true ∨ st = 0 ∧ 16384 < dl ∧ entB k s st dl = false)))) := by
  have hk : k < 0 ∨ 2 < k ∨ k = 0 ∨ k = 1 ∨ k = 2 := by omega
  by_cases hs : s < 0
  · exact .inl ⟨hs, by unfold entB; simp; omega⟩
  · refine .inr ?_
    rcases hk with h | h | rfl | rfl | rfl
    · exact .inl ⟨by omega, h, by unfold entB; simp; omega⟩
    · exact .inr (.inl ⟨by omega, h, by unfold entB; simp; omega⟩)
    · refine .inr (.inr ⟨by omega, .inl ⟨rfl, ?_⟩⟩)
      by_cases h1 : st = 0
      · subst h1; by_cases h2 : dl = 0
        · exact .inr (.inl ⟨rfl, h2, by unfold entB; simp; omega⟩)
        · exact .inr (.inr ⟨rfl, by omega, by unfold entB; simp; omega⟩)
      · exact .inl ⟨h1, by unfold entB; simp [h1]⟩
    · refine .inr (.inr ⟨by omega, .inr (.inl ⟨rfl, ?_⟩)⟩)
      by_cases h1 : st = 0
      · exact .inl ⟨h1, by unfold entB; simp [h1]⟩
      · by_cases h2 : dl = 0
        · exact .inr (.inl ⟨h1, h2, by unfold entB; simp [h1]; omega⟩)
        · exact .inr (.inr ⟨h1, by omega, by unfold entB; simp [h1]; omega⟩)
    · refine .inr (.inr ⟨by omega, .inr (.inr ⟨rfl, ?_⟩)⟩)
      by_cases h1 : st = 0
      · subst h1; by_cases h2 : dl ≤ 16384
        · exact .inr (.inl ⟨rfl, h2, by unfold entB; simp; omega⟩)
        · exact .inr (.inr ⟨rfl, by omega, by unfold entB; simp; omega⟩)
      · exact .inl ⟨h1, by unfold entB; simp [h1]⟩

set_option maxRecDepth 100000 in
set_option maxHeartbeats 2000000 in
theorem may_any (t k s st : Int) (da : Option Addr) (dl dc : Nat) (w : World) (hd : dl ≤ dc) (hd2 : dc ≤ maxLen) :
    Calls Try.prog 43 #[.agg #[.int .i64 t, .int .i8 k, .int .i64 s, .int .u8 st, .slice da dl dc]] w fun e w' => e = .returned (.bool (entB k s st dl)) ∧ Below w.heap.size w w' := by
  unfold maxLen at hd2
  obtain ⟨B, hB⟩ : ∃ B, B = entB k s st dl := ⟨_, rfl⟩
  have hc := ent_cases k s st dl
  rw [← hB] at hc ⊢
  clear hB
  rcases hc with ⟨h1, rfl⟩ | ⟨h1, h2, rfl⟩ | ⟨h1, h2, rfl⟩ | ⟨h1, ⟨rfl, h⟩ | ⟨rfl, h⟩ | ⟨rfl, h⟩⟩
  · go_enter Try.func43, Try.ntmps43
    go_wp2_with fail
    go_ret
    exact ⟨rfl, (Below.refl _ _).alloc (Nat.le_refl _) _⟩
  · go_enter Try.func43, Try.ntmps43
    go_wp2_with fail
    go_ret
    exact ⟨rfl, (Below.refl _ _).alloc (Nat.le_refl _) _⟩
  · go_enter Try.func43, Try.ntmps43
    go_wp2_with fail
    go_ret
    exact ⟨rfl, (Below.refl _ _).alloc (Nat.le_refl _) _⟩
  all_goals
    rcases h with ⟨h3, h⟩ | ⟨h3, h4, h⟩ | ⟨h3, h4, h⟩
    all_goals
      subst h
      first
        | subst h3
        | (have b1 : (st != 0) = true := by rw [bne_iff_ne]; exact h3
           have b2 : (st == 0) = false := by rw [beq_eq_false_iff_ne]; exact h3)
      go_enter Try.func43, Try.ntmps43
      go_wp2_with fail
      go_ret
      first
        | exact ⟨rfl, (Below.refl _ _).alloc (Nat.le_refl _) _⟩
        | (refine ⟨congrArg (fun b => Ending.returned (.bool b)) (?_ : (_ : Bool) = _), (Below.refl _ _).alloc (Nat.le_refl _) _⟩
           first
             | exact decide_eq_true (by omega)
             | exact decide_eq_false (by omega)
             | (show ((dl : Int) == 0) = _; simp; omega))

set_option maxRecDepth 100000 in
set_option maxHeartbeats 4000000 in
theorem entry_any (t k s st t0 : Int) (da : Option Addr) (dl dc : Nat) (w : World) (hd : dl ≤ dc) (hd2 : dc ≤ maxLen) :
    Calls Try.prog 41 #[.agg #[.int .i64 t, .int .i8 k, .int .i64 s, .int .u8 st, .slice da dl dc], .int .i64 t0] w fun e w' => e = .returned (.bool (decide (1 ≤ t) && decide (t0 ≤ t) && entB k s st dl)) ∧ Below w.heap.size w w' := by
  unfold maxLen at hd2
  obtain ⟨C, hC⟩ : ∃ C, C = (decide (1 ≤ t) && decide (t0 ≤ t) && entB k s st dl) := ⟨_, rfl⟩
  rw [← hC]
  rcases (show t < 1 ∨ (1 ≤ t ∧ t < t0) ∨ (1 ≤ t ∧ t0 ≤ t) by omega) with h0 | ⟨h0, h00⟩ | ⟨h0, h00⟩
  · have e1 : C = false := by rw [hC, decide_eq_false (by omega : ¬ 1 ≤ t)]; simp
    subst e1
    clear hC
    go_enter Try.func41, Try.ntmps41
    go_wp2_with fail
    go_ret
    exact ⟨rfl, (Below.refl _ _).alloc (Nat.le_refl _) _⟩
  · have e1 : C = false := by rw [hC, decide_eq_false (by omega : ¬ t0 ≤ t)]; simp
    subst e1
    clear hC
    go_enter Try.func41, Try.ntmps41
    go_wp2_with fail
    go_ret
    exact ⟨rfl, (Below.refl _ _).alloc (Nat.le_refl _) _⟩
  · have e1 : C = entB k s st dl := by rw [hC, decide_eq_true h0, decide_eq_true h00]; simp
    obtain ⟨B, hB⟩ : ∃ B, B = entB k s st dl := ⟨_, rfl⟩
    have hc := ent_cases k s st dl
    rw [← hB] at hc e1
    subst e1
    clear hB hC
    rcases hc with ⟨h1, rfl⟩ | ⟨h1, h2, rfl⟩ | ⟨h1, h2, rfl⟩ | ⟨h1, ⟨rfl, h⟩ | ⟨rfl, h⟩ | ⟨rfl, h⟩⟩
    · go_enter Try.func41, Try.ntmps41
      go_wp2_with fail
      go_ret
      exact ⟨rfl, (Below.refl _ _).alloc (Nat.le_refl _) _⟩
    · go_enter Try.func41, Try.ntmps41
      go_wp2_with fail
      go_ret
      exact ⟨rfl, (Below.refl _ _).alloc (Nat.le_refl _) _⟩
    · go_enter Try.func41, Try.ntmps41
      go_wp2_with fail
      go_ret
      exact ⟨rfl, (Below.refl _ _).alloc (Nat.le_refl _) _⟩
    all_goals
      rcases h with ⟨h3, h⟩ | ⟨h3, h4, h⟩ | ⟨h3, h4, h⟩
      all_goals
        subst h
        first
          | subst h3
          | (have b1 : (st != 0) = true := by rw [bne_iff_ne]; exact h3
             have b2 : (st == 0) = false := by rw [beq_eq_false_iff_ne]; exact h3)
        first
          | (have b3 : ((dl : Int) == 0) = true := by rw [beq_iff_eq]; omega)
          | (have b3 : ((dl : Int) == 0) = false := by rw [beq_eq_false_iff_ne]; omega)
          | skip
        go_enter Try.func41, Try.ntmps41
        go_wp2_with fail
        go_ret
        first
          | exact ⟨rfl, (Below.refl _ _).alloc (Nat.le_refl _) _⟩
          | (refine ⟨congrArg (fun b => Ending.returned (.bool b)) (?_ : (_ : Bool) = _), (Below.refl _ _).alloc (Nat.le_refl _) _⟩
             first
               | exact decide_eq_true (by omega)
               | exact decide_eq_false (by omega)
               | (show ((dl : Int) == 0) = _; simp; omega))
end Go.Proofs.Ytcadinoijclfnaa
