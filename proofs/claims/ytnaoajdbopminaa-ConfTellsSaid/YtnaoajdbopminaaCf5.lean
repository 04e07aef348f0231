/-
  Package conf: what goes over a set's members: the contract of an iterator.
-/
import Derived.RangeFuncNested
import Derived.RangeFuncBound
import Derived.RangeFuncCalls
import Derived.RangeFuncLeaves
import Derived.RangeFuncBox
import Derived.Shelf.Abstract
import Derived.Shelf.RegionOpen
import Derived.OwnWalkIn
import Derived.TacticsInMore
import Derived.LoopNIn
import Derived.LoopIn
import Derived.Maps.AppendAt
import Derived.Test.YtnaoajdbopminaaCf4
namespace Go.Proofs.Ytnaoajdbopminaa
open Go.RowKit Go.Shelf
set_option linter.unusedSimpArgs false
set_option linter.unusedVariables false

attribute [local go_sem] Oper.semAt_some

theorem yes_no {e : Ending} {A B : Prop} (h : (e = .returned (.bool true) ∧ A) ∨ (e = .returned (.bool false) ∧ B)) : ∃ b, e = .returned (.bool b) ∧ (b = true → A) ∧ (b = false → B) := by
  rcases h with ⟨h1, h2⟩ | ⟨h1, h2⟩
  · exact ⟨true, h1, fun _ => h2, fun h => (by cases h)⟩
  · exact ⟨false, h1, (fun h => (by cases h)), fun _ => h2⟩
theorem said_yes {A B C : Prop} (h : (C ∧ A) ∨ (Ending.returned (.bool true) = .returned (.bool false) ∧ B)) : A := by
  rcases h with ⟨_, h⟩ | ⟨h, _⟩
  · exact h
  · cases h
theorem said_no {A B C : Prop} (h : (Ending.returned (.bool false) = .returned (.bool true) ∧ A) ∨ (C ∧ B)) : B := by
  rcases h with ⟨h, _⟩ | ⟨_, h⟩
  · cases h
  · exact h
/-- What a round keeps: what lay below n₀, and the iterator's own box. -/
def KpB (n₀ Bs : Nat) (W W' : World) : Prop := Below n₀ W W' ∧ W'.heap[Bs]? = W.heap[Bs]?

/-- A node's number. -/
abbrev Nd := { i : Nat // 1 ≤ i ∧ i ≤ 7 }
def encN (x : Nd) : Array Value := #[.int .i64 (x.1 : Nat)]
/-- The members among the first k nodes. -/
def mems (s : Int) : Nat → List Nat
  | 0 => []
  | k + 1 => mems s k ++ if hasI s ((k + 1 : Nat) : Int) then [k + 1] else []
theorem mems_len (s : Int) : ∀ k : Nat, (mems s k).length ≤ k
  | 0 => by simp [mems]
  | k + 1 => by have := mems_len s k; simp only [mems, List.length_append]; split <;> simp <;> omega

set_option maxRecDepth 100000 in
set_option maxHeartbeats 2000000 in
theorem members1_in (nn : Nat) (hnn : 1 ≤ nn) (l Bs n₀ : Nat) (s : Int) (J Jx : List Nd → World → Prop)
    (hY : ∀ pre x W, J pre W → pre.length < 7 → YieldAt Fence.wide (nn - 1) Try.prog l (encN x) W fun e W' =>
      (e = .returned (.bool true) ∧ J (pre ++ [x]) W' ∧ KpB n₀ Bs W W') ∨ (e = .returned (.bool false) ∧ Jx (pre ++ [x]) W'))
    (W : World) (hBs : W.cell? ⟨Bs, 0, none⟩ = some (.int .u8 s)) (h0 : J [] W) :
    CallsIn Fence.wide nn Try.prog 67 #[.func (.yield l) #[] #[], .pointer (some ⟨Bs, 0, none⟩)] W fun e W' => (∃ v, e = .returned v) ∧
      ((∃ ys, ys.map (·.1) = mems s 7 ∧ J ys W') ∨ (∃ pre, (∃ k, k ≤ 7 ∧ pre.map (·.1) = mems s k ∧ pre ≠ []) ∧ Jx pre W')) := by
  refine callsIn_of_wp Try.func67 rfl trivial ?_ rfl
  simp only [Try.ntmps67, List.size_toArray, List.length_cons, List.length_nil, Nat.reduceAdd, Nat.reduceSub, Array.replicate_succ, Array.replicate_zero, List.push_toArray, List.append_toArray, List.nil_append, List.cons_append]
  gi_wp2
  gi_loopw [3] (fun i wr => ∃ (k : Nat) (pre : List Nd), k ≤ 7 ∧ i = .int .i64 ((k + 1 : Nat) : Int) ∧ pre.map (·.1) = mems s k ∧ J pre wr ∧ KpB n₀ Bs W wr)
    (fun i _ => 9 - (intOf i).toNat)
  case atStart => exact ⟨0, [], Nat.zero_le _, rfl, rfl, h0, Below.refl _ _, rfl⟩
  case round =>
    obtain ⟨k, pre, hk, rfl, hpre, hJs, hnx, hnb⟩ := hrel
    have hc0 : wr.cell? ⟨Bs, 0, none⟩ = some (.int .u8 s) := (World.cell?_of_block (a := ⟨Bs, 0, none⟩) hnb).trans hBs
    by_cases hlt : k < 7
    · have hpl : pre.length < 7 := by have := mems_len s k; have h2 := congrArg List.length hpre; simp at h2; omega
      obtain ⟨q, hq⟩ : ∃ q, q = hasI s ((k + 1 : Nat) : Int) := ⟨_, rfl⟩
      have HM : Hid (mems s (k + 1) = mems s k ++ if q then [k + 1] else []) := Lib.hid (by rw [hq]; rfl)
      have C1 : Hid (∀ w, Calls Try.prog 68 #[.int .u8 s, .int .i64 ((k + 1 : Nat) : Int)] w fun e w' => e = .returned (.bool q) ∧ w = w') := Lib.hid (fun w => by rw [hq]; exact has_any _ _ w)
      have HP := Lib.hid hpre
      have HNB := Lib.hid hnb
      have hY1 := hY pre ⟨k + 1, by omega, by omega⟩ wr hJs hpl
      have hE : encN ⟨k + 1, by omega, by omega⟩ = #[.int .i64 ((k : Int) + 1)] := by simp [encN]
      rw [hE] at hY1
      clear hpre hnb hBs hq hY hE
      cases q
      · clear hY1
        gi_wp2_with fail
        refine ⟨trivial, ?_⟩; gi_at_call 68; refine (callsIn_wide.2 (C1.out _)).mono ?_; rintro e w1 ⟨rfl, rfl⟩
        gi_wp2_with fail
        refine ⟨(by intro f hf; cases hf), ?_⟩
        gi_wp2_with fail
        go_roundw
        case rel => exact ⟨k + 1, pre, by omega, by go_num, by rw [HM.out, HP.out]; simp, hJs, hnx, HNB.out⟩
        case measure => simp [intOf]; omega
      · obtain ⟨fn, tmps, assign, body, hy, hR⟩ := hY1
        gi_wp2_with (first
          | (refine ⟨trivial, ?_⟩; gi_at_call 68; refine (callsIn_wide.2 (C1.out _)).mono ?_; rintro e w1 ⟨rfl, rfl⟩)
          | (refine hR.mono ?_; rintro e W3 hE3; obtain ⟨yb, rfl, hy1, hy2⟩ := yes_no hE3; have HE3 := Lib.hid hE3; clear hE3 hy1 hy2)
          | fail)
        · rename_i hyb
          have hyb2 : yb = false := by simpa using hyb
          subst hyb2
          have hsn : (pre ++ [(⟨k + 1, by omega, by omega⟩ : Nd)]).map (·.1) = mems s (k + 1) := by rw [HM.out, List.map_append, HP.out]; simp
          refine bodyPost_ret (results_none rfl _ _ _) rfl ?_
          exact ⟨⟨_, rfl⟩, .inr ⟨_, ⟨k + 1, by omega, hsn, by simp⟩, said_no HE3.out⟩⟩
        · rename_i hyb
          have hyb2 : yb = true := by simpa using hyb
          subst hyb2
          have hE := said_yes HE3.out
          have hsn : (pre ++ [(⟨k + 1, by omega, by omega⟩ : Nd)]).map (·.1) = mems s (k + 1) := by rw [HM.out, List.map_append, HP.out]; simp
          go_roundw
          case rel => exact ⟨k + 1, _, by omega, by go_num, hsn, hE.1, hnx.trans ⟨hE.2.1.os, hE.2.1.tape, hE.2.1.output, hE.2.1.size, hE.2.1.block⟩, hE.2.2.trans HNB.out⟩
          case measure => simp [intOf]; omega
    · obtain rfl : k = 7 := by omega
      clear hY
      gi_wp2
      go_end0
      exact ⟨⟨_, rfl⟩, .inl ⟨pre, hpre, hJs⟩⟩
end Go.Proofs.Ytnaoajdbopminaa
