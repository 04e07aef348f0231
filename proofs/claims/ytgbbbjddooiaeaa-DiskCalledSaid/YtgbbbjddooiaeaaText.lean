/-
  text: what goes over a file's text, block by block: the contract of an iterator.
-/
import Derived.RangeFuncNested
import Derived.RangeFuncBound
import Derived.RangeFuncCalls
import Derived.RangeFuncLeaves
import Derived.RangeFuncBox
import Derived.Shelf.Abstract
import Derived.Shelf.RegionOpen
import Derived.WalkKit
import Derived.OwnWalkIn
import Derived.TacticsInMore
import Derived.LoopNIn
import Derived.LoopIn
import Derived.Maps.AppendAt
import Derived.Test.YtgbbbjddooiaeaaSync2
namespace Go.Proofs.Ytgbbbjddooiaeaa
open Go.RowKit Go.Shelf

attribute [local go_sem] Oper.semAt_some

/-- A block's number. -/
abbrev Blk (n : Nat) := { i : Nat // i < n }
/-- What a round is handed: the used part of a block. -/
def encB (g L : Nat) {n : Nat} (x : Blk n) : Array Value := #[.slice (some ⟨g, x.1 * 513 + 1, none⟩) (min 512 (L - 512 * x.1)) 512]

theorem yes_no {e : Ending} {A B : Prop} (h : (e = .returned (.bool true) ∧ A) ∨ (e = .returned (.bool false) ∧ B)) : ∃ b, e = .returned (.bool b) ∧ (b = true → A) ∧ (b = false → B) := by
  rcases h with ⟨h1, h2⟩ | ⟨h1, h2⟩
  · exact ⟨true, h1, fun _ => h2, fun h => (by cases h)⟩
  · exact ⟨false, h1, (fun h => (by cases h)), fun _ => h2⟩

theorem said_yes {A B C : Prop} (h : (C ∧ A) ∨ (Ending.returned (.bool true) = .returned (.bool false) ∧ B)) : A := by
  rcases h with ⟨_, h⟩ | ⟨h, _⟩
  · exact h
  · cases h
theorem said_no {A B C : Prop} (h : (Ending.returned (.bool false) = .returned (.bool true) ∧ A) ∨ (C ∧ B)) : B := by
  rcases h with ⟨h, _⟩ | ⟨_, h⟩
  · cases h
  · exact h

/-- What a round keeps: what lay below n₀, and the iterator's own box. -/
def KpB (n₀ Bs : Nat) (W W' : World) : Prop := Below n₀ W W' ∧ W'.heap[Bs]? = W.heap[Bs]?

set_option maxRecDepth 100000 in
set_option maxHeartbeats 2000000 in
theorem text1_in (nn : Nat) (hnn : 1 ≤ nn) (l Bs n₀ F g n cap L : Nat) (ao : Option Addr) (hF : F < n₀) (hg : 0 < n → g < n₀ ∧ ao = some ⟨g, 0, none⟩) (hn : n ≤ 2048) (J Jx : List (Blk n) → World → Prop)
    (hY : ∀ pre x W, J pre W → pre.length < n → YieldAt Fence.wide (nn - 1) Try.prog l (encB g L x) W fun e W' =>
      (e = .returned (.bool true) ∧ J (pre ++ [x]) W' ∧ KpB n₀ Bs W W') ∨ (e = .returned (.bool false) ∧ Jx (pre ++ [x]) W'))
    (hJa : ∀ pre W, J pre W → J pre W.drew) (W : World) (hBs : W.cell? ⟨Bs, 0, none⟩ = some (.pointer (some ⟨F, 0, none⟩))) (hF1 : W.cell? ⟨F, 1, none⟩ = some (.slice ao n cap)) (hu : ∀ i, i < n → W.cell? ⟨g, i * 513, none⟩ = some (.int .i64 (min 512 (L - 512 * i) : Nat))) (h0 : J [] W) :
    CallsIn Fence.wide nn Try.prog 84 #[.func (.yield l) #[] #[], .pointer (some ⟨Bs, 0, none⟩)] W fun e W' => (∃ v, e = .returned v) ∧
      ((∃ ys, ys.map (·.1) = List.range n ∧ J ys W') ∨ (∃ pre, (∃ k, k ≤ n ∧ pre.map (·.1) = List.range k) ∧ Jx pre W')) := by
  refine callsIn_of_wp Try.func84 rfl trivial ?_ rfl
  simp only [Try.ntmps84, List.size_toArray, List.length_cons, List.length_nil, Nat.reduceAdd, Nat.reduceSub, Array.replicate_succ, Array.replicate_zero, List.push_toArray, List.append_toArray, List.nil_append, List.cons_append]
  gi_wp2
  gi_loopw [3, 4, 10] (fun _ _ i wr => ∃ (k : Nat) (pre : List (Blk n)), k ≤ n ∧ i = .int .i64 k ∧ pre.map (·.1) = List.range k ∧ J pre wr ∧ KpB n₀ Bs W wr)
    (fun _ _ i _ => n - (intOf i).toNat)
  case atStart => exact ⟨0, [], Nat.zero_le _, rfl, rfl, h0, Below.refl _ _, rfl⟩
  case round =>
    obtain ⟨k, pre, hk, rfl, hpre, hJs, hnx, hnb⟩ := hrel
    have hpl : pre.length = k := by have := congrArg List.length hpre; simpa using this
    by_cases hlt : k < n
    · obtain ⟨hg0, rfl⟩ := hg (by omega)
      have hc0 : wr.cell? ⟨Bs, 0, none⟩ = some (.pointer (some ⟨F, 0, none⟩)) := (World.cell?_of_block (a := ⟨Bs, 0, none⟩) hnb).trans hBs
      have hc1 : wr.cell? ⟨F, 1, none⟩ = some (.slice (some ⟨g, 0, none⟩) n cap) := (hnx.cell (p := ⟨F, 1, none⟩) hF).trans hF1
      have hcu : wr.cell? ⟨g, k * 513, none⟩ = some (.int .i64 (min 512 (L - 512 * k) : Nat)) := (hnx.cell (p := ⟨g, k * 513, none⟩) hg0).trans (hu k hlt)
      obtain ⟨u, hu0⟩ : ∃ u, u = min 512 (L - 512 * k) := ⟨_, rfl⟩
      have hY1 := hY pre ⟨k, hlt⟩ 
      have hE : encB g L (⟨k, hlt⟩ : Blk n) = #[.slice (some ⟨g, k * 513 + 1, none⟩) u 512] := by simp [encB, hu0]
      rw [hE] at hY1
      rw [← hu0] at hcu
      have hsl := slice_block_to g (k * 513 + 1) u (by omega)
      have HP := Lib.hid hpre
      have HPL := Lib.hid hpl
      have HNB := Lib.hid hnb
      clear hE hu0 hu hpre hpl hBs hF1 hg hY hnb
      obtain ⟨fn, tmps, assign, body, hy, hR⟩ := hY1 wr.drew (hJa _ _ hJs) (by have := HPL.out; omega)
      clear hY1
      gi_wp2_with fail
      gi_region_with (refine hR.mono ?_; rintro e W3 hE3; obtain ⟨yb, rfl, hy1, hy2⟩ := yes_no hE3; have HE3 := Lib.hid hE3; clear hE3 hy1 hy2)
      have hsnoc : (pre ++ [(⟨k, hlt⟩ : Blk n)]).map (·.1) = List.range (k + 1) := by rw [List.map_append, HP.out, List.range_succ]; rfl
      have HS := Lib.hid hsnoc
      clear hsnoc
      cases yb
      · gi_wp2_with fail
        refine bodyPost_ret (results_none rfl _ _ _) rfl ?_
        exact ⟨⟨_, rfl⟩, .inr ⟨_, ⟨k + 1, by omega, HS.out⟩, said_no HE3.out⟩⟩
      · have hE := said_yes HE3.out
        gi_wp2_with fail
        go_roundw
        case rel => exact ⟨k + 1, _, by omega, by go_num, HS.out, hE.1, hnx.trans ⟨hE.2.1.os, hE.2.1.tape, hE.2.1.output, hE.2.1.size, hE.2.1.block⟩, hE.2.2.trans HNB.out⟩
        case measure => simp [intOf]; omega
    · obtain rfl : k = n := by omega
      clear hY hu
      gi_wp2
      go_end0
      exact ⟨⟨_, rfl⟩, .inl ⟨pre, hpre, hJs⟩⟩

theorem text_any (F : Nat) (w : World) : Calls Try.prog 70 #[.pointer (some ⟨F, 0, none⟩)] w fun e w' => e = .returned (.func (.func 84) #[] #[.pointer (some ⟨w.heap.size, 0, none⟩)]) ∧ w.alloc (.cells #[.pointer (some ⟨F, 0, none⟩)] 69) = w' := by
  have hmf : ∀ (fn : Fn) (first cap : Array Value) (w : World), (Instr.makeFunc fn first cap).run Try.prog w = .ok (.func fn first cap) w := fun _ _ _ _ => rfl
  go_enter Try.func70, Try.ntmps70
  go_wp2
  go_ret
  exact ⟨rfl, rfl⟩

/-- The iterator over a file's text, as a contract: all blocks in their order. -/
theorem text_stops (nn : Nat) (hnn : 1 ≤ nn) {w : World} {F : Nat} {g : Option Nat} {f : PF} {v : Value} {n : Nat} {xs : List Value} (Bs n₀ : Nat) (hF0 : F < n₀) (hg0 : ∀ x, g = some x → x < n₀) (hn₀ : n₀ ≤ w.heap.size) (hBs : Bs < w.heap.size)
    (hb : w.heap[F]? = some (.cells #[.string f.name, v, .int .i64 (f.sure : Nat)] 76 (0, 0))) (hrow : Row w v g 92 513 n xs) (hbl : Blocks xs n f.text) (hok : f.ok) (hc : w.cell? ⟨Bs, 0, none⟩ = some (.pointer (some ⟨F, 0, none⟩))) :
    SeqStopsK Fence.wide nn Try.prog 84 #[.pointer (some ⟨Bs, 0, none⟩)] (encB (g.getD 0) f.text.length (n := n)) (KpB n₀ Bs) (fun ys => ys.map (·.1) = List.range n) (fun pre => ∃ k, k ≤ n ∧ pre.map (·.1) = List.range k) n w := by
  intro l J Jx W hW hJ hJx hY h0
  obtain ⟨a, cap, rfl, hcap, hmax, ha⟩ := hrow.shape
  have hn : n ≤ 2048 := by have := hbl.lo; have := hok.2.2; omega
  have hF : F < w.heap.size := by omega
  exact text1_in nn hnn l Bs n₀ F (g.getD 0) n cap f.text.length a hF0 (fun h => by
      obtain ⟨x, hx, _⟩ := hrow.cell 0 (by omega)
      subst hx
      exact ⟨hg0 x rfl, ha⟩) hn J Jx hY (fun pre W1 hj => hJ pre W1 W1.drew none hj ⟨rfl, rfl, rfl, Nat.le_refl _, fun _ _ _ => rfl⟩ (fun _ e => by cases e)) W
    ((hW.cell (p := ⟨Bs, 0, none⟩) hBs).trans hc) ((hW.cell (p := ⟨F, 1, none⟩) hF).trans (cell_at hb 1)) (fun i hi => by
      obtain ⟨x, hx, hcx, _⟩ := hrow.cell (513 * i) (by omega)
      subst hx
      rw [Option.getD_some, Nat.mul_comm i 513, hW.cell (p := ⟨x, 513 * i, none⟩) (by have := hg0 x rfl; simp only; omega), hcx, hbl.used i hi]) h0

end Go.Proofs.Ytgbbbjddooiaeaa
