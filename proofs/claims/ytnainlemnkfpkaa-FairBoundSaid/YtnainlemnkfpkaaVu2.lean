/-
  Package virtual: may a time be? What a packet costs. The document's answers beside it.
-/
import Derived.Test.YtnainlemnkfpkaaVu
import Derived.Outline
import Derived.IntWalk
import Derived.Lib.Hide
import Derived.Deep.QuietTactic
import Derived.BigRegion
import Derived.BigQuiet
import Derived.RegionTactic
import Derived.Deep.DeepCutAuto
import Derived.Deep.RegionWith
import Derived.Deep.RegionHeld3
namespace Go.Proofs.Ytnainlemnkfpkaa
open Go.RowKit
set_option linter.unusedSimpArgs false
set_option linter.unusedVariables false

def timeB (n : Int) : Bool := decide (0 ≤ n) && decide (n ≤ 1152921504606846976)
def tagB (t : TagsE) : Bool := timeB t.s && timeB t.f && decide (t.s ≤ t.f)
def okN (T : Nat → TagsE) : Nat → Bool
  | 0 => true
  | m + 1 => okN T m && tagB (T m)
theorem okN_iff (T : Nat → TagsE) : ∀ n : Nat, okN T n = true ↔ ∀ k, k < n → tagB (T k) = true
  | 0 => by simp [okN]
  | n + 1 => by
    simp only [okN, Bool.and_eq_true, okN_iff T n]
    constructor
    · rintro ⟨h1, h2⟩ k hk
      rcases Nat.lt_or_ge k n with h | h
      · exact h1 k h
      · obtain rfl : k = n := by omega
        exact h2
    · exact fun h => ⟨fun k hk => h k (by omega), h n (by omega)⟩
theorem okN_no {T : Nat → TagsE} {n k : Nat} (hk : k < n) (h : tagB (T k) = false) : okN T n = false := by
  cases hh : okN T n
  · rfl
  · have := (okN_iff T n).1 hh k hk
    rw [h] at this; cases this
/-- may a virtual time be? -/
def vokB (V : Int) (n : Nat) (T : Nat → TagsE) : Bool := decide (n ≤ 8) && timeB V && okN T n

theorem time_cases (n : Int) : (n < 0 ∧ timeB n = false) ∨ (0 ≤ n ∧ n ≤ 1152921504606846976 ∧ timeB n = true) ∨ (0 ≤ n ∧ 1152921504606846976 < n ∧ timeB n = false) := by
  rcases (show n < 0 ∨ (0 ≤ n ∧ n ≤ 1152921504606846976) ∨ (0 ≤ n ∧ 1152921504606846976 < n) by omega) with h | ⟨h, h2⟩ | ⟨h, h2⟩
  · exact .inl ⟨h, by unfold timeB; simp; omega⟩
  · exact .inr (.inl ⟨h, h2, by unfold timeB; simp; omega⟩)
  · exact .inr (.inr ⟨h, h2, by unfold timeB; simp; omega⟩)
theorem isTime_any (n : Int) (w : World) : Calls Try.prog 57 #[.int .i64 n] w fun e w' => e = .returned (.bool (timeB n)) ∧ w = w' := by
  rcases time_cases n with ⟨h, hb⟩ | ⟨h, h2, hb⟩ | ⟨h, h2, hb⟩
  all_goals
    rw [hb]
    clear hb
    go_enter Try.func57, Try.ntmps57
    go_wp2_with fail
    go_ret
    exact ⟨by first | rfl | exact congrArg (fun b => Ending.returned (.bool b)) (by simp; omega), rfl⟩

set_option maxRecDepth 100000 in
set_option maxHeartbeats 4000000 in
theorem check_any (V : Int) (a : Option Addr) (n c b o : Nat) (T : Nat → TagsE) (w : World) (hs : TagsIn w a n c b o T) :
    Calls Try.prog 42 #[.agg #[.int .i64 V, .slice a n c]] w fun e w' => e = .returned (.bool (vokB V n T)) ∧ Below w.heap.size w w' := by
  have hm := hs.max
  have hl := hs.le
  unfold maxLen at hm
  obtain ⟨C, hC⟩ : ∃ C, C = vokB V n T := ⟨_, rfl⟩
  rw [← hC]
  obtain ⟨tv, htv⟩ : ∃ tv, tv = timeB V := ⟨_, rfl⟩
  have C1 : Hid (∀ w, Calls Try.prog 57 #[.int .i64 V] w fun e w' => e = .returned (.bool tv) ∧ w = w') := Lib.hid (fun w => by rw [htv]; exact isTime_any V w)
  unfold vokB at hC
  rw [← htv] at hC
  clear htv
  by_cases h8 : 8 < n
  · have HC : Hid (C = false) := Lib.hid (by rw [hC]; simp; omega)
    clear hC hs
    go_enter Try.func42, Try.ntmps42
    go_wp2_with fail
    go_ret
    exact ⟨by rw [HC.out]; rfl, (Below.refl _ _).alloc (Nat.le_refl _) _⟩
  · cases tv
    · have HC : Hid (C = false) := Lib.hid (by rw [hC]; simp)
      clear hC hs
      go_enter Try.func42, Try.ntmps42
      go_wp2_with (go_at_call 57; refine (C1.out _).mono ?_; rintro e w' ⟨rfl, rfl⟩)
      go_ret
      exact ⟨by rw [HC.out]; rfl, (Below.refl _ _).alloc (Nat.le_refl _) _⟩
    · have HC : Hid (C = okN T n) := Lib.hid (by rw [hC]; simp; omega)
      have HS := Lib.hid hs
      clear hC hs
      go_enter Try.func42, Try.ntmps42
      go_wp2_with (go_at_call 57; refine (C1.out _).mono ?_; rintro e w' ⟨rfl, rfl⟩)
      go_loopw [18] (fun i wr => ∃ k : Nat, k ≤ n ∧ i = .int .i64 k ∧ (∀ j, j < k → tagB (T j) = true) ∧ Below w.heap.size w wr) (fun i _ => n - (intOf i).toNat)
      case atStart => exact ⟨0, Nat.zero_le _, rfl, (fun j hj => by omega), (Below.refl _ _).alloc (Nat.le_refl _) _⟩
      case round =>
        obtain ⟨k, hk, rfl, hall, hbel⟩ := hrel
        by_cases hlt : k < n
        · obtain ⟨e0, e1⟩ := HS.out.at_ (by omega)
          subst e0
          obtain ⟨c0, c1⟩ := (HS.out.below hbel).cell k hlt
          obtain ⟨x, hx⟩ : ∃ x, x = (T k).s := ⟨_, rfl⟩
          obtain ⟨y, hy⟩ : ∃ y, y = (T k).f := ⟨_, rfl⟩
          rw [← hx] at c0
          rw [← hy] at c1
          obtain ⟨p, hp⟩ : ∃ p, p = timeB x := ⟨_, rfl⟩
          obtain ⟨q, hq⟩ : ∃ q, q = timeB y := ⟨_, rfl⟩
          have HT : Hid (tagB (T k) = (p && q && decide (x ≤ y))) := Lib.hid (by unfold tagB; rw [← hx, ← hy, ← hp, ← hq])
          have CX : Hid (∀ w, Calls Try.prog 57 #[.int .i64 x] w fun e w' => e = .returned (.bool p) ∧ w = w') := Lib.hid (fun w => by rw [hp]; exact isTime_any x w)
          have CY : Hid (∀ w, Calls Try.prog 57 #[.int .i64 y] w fun e w' => e = .returned (.bool q) ∧ w = w') := Lib.hid (fun w => by rw [hq]; exact isTime_any y w)
          have HA := Lib.hid hall
          clear hall hx hy hp hq
          have hbel1 : ∀ o, Below w.heap.size w (wr.alloc o) := fun o => hbel.alloc hbel.size o
          have HB1 := Lib.hid hbel1
          clear hbel1
          by_cases hg : p = true ∧ q = true ∧ x ≤ y
          · obtain ⟨rfl, rfl, hxy⟩ := hg
            have HA2 : Hid (∀ j, j < k + 1 → tagB (T j) = true) := Lib.hid (fun j hj => by
              rcases Nat.lt_or_ge j k with h | h
              · exact HA.out j h
              · obtain rfl : j = k := by omega
                rw [HT.out]; simp; omega)
            go_wp2_with (first
              | (go_at_call_of 57 (Value.int .i64 x); with_reducible refine Calls.mono (CX.out _) ?_; rintro e w' ⟨rfl, rfl⟩)
              | (go_at_call 57; with_reducible refine Calls.mono (CY.out _) ?_; rintro e w' ⟨rfl, rfl⟩))
            go_roundw
            case rel => exact ⟨k + 1, by omega, by go_num, HA2.out, HB1.out _⟩
            case measure => simp [intOf]; omega
          · have HN : Hid (C = false) := Lib.hid (by
              rw [HC.out]
              refine okN_no hlt ?_
              rw [HT.out]
              cases p <;> cases q <;> simp at hg ⊢
              omega)
            have hcs : p = false ∨ (p = true ∧ q = false) ∨ (p = true ∧ q = true ∧ y < x) := by cases p <;> cases q <;> simp at hg ⊢; omega
            clear hg
            rcases hcs with rfl | ⟨rfl, rfl⟩ | ⟨rfl, rfl, hyx⟩
            all_goals
              go_wp2_with (first
                | (go_at_call_of 57 (Value.int .i64 x); with_reducible refine Calls.mono (CX.out _) ?_; rintro e w' ⟨rfl, rfl⟩)
                | (go_at_call 57; with_reducible refine Calls.mono (CY.out _) ?_; rintro e w' ⟨rfl, rfl⟩))
              go_ret
              exact ⟨by rw [HN.out]; rfl, HB1.out _⟩
        · obtain rfl : k = n := by omega
          have HN : Hid (C = true) := Lib.hid (by rw [HC.out]; exact (okN_iff T k).2 hall)
          go_wp2_with fail
          go_ret
          exact ⟨by rw [HN.out]; rfl, hbel⟩
end Go.Proofs.Ytnainlemnkfpkaa
