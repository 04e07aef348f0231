/-
  Package packet: what goes over the places of a tenant's flows: the contract of an iterator.
-/
import Derived.RangeFuncNested
import Derived.RangeFuncBound
import Derived.RangeFuncCalls
import Derived.RangeFuncLeaves
import Derived.RangeFuncBox
import Derived.Shelf.Abstract
import Derived.Shelf.RegionOpen
import Derived.OwnWalkIn
import Derived.TacticsInMore
import Derived.LoopNIn
import Derived.LoopIn
import Derived.Maps.AppendAt
import Derived.Outline
import Derived.IntWalk
import Derived.Lib.Hide
import Derived.Lib.Slices
import Derived.Lib.Walk
import Derived.OpenShut
import Derived.Test.YtcimcmfibinehaaPk1
namespace Go.Proofs.Ytcimcmfibinehaa
open Go.RowKit Go.Shelf
set_option linter.unusedSimpArgs false
set_option linter.unusedVariables false

attribute [local go_sem] Oper.semAt_some

/-- What a round keeps: what lay below n₀, and the iterator's own boxes. -/
def KpP (n₀ B1 B2 : Nat) (W W' : World) : Prop := Below n₀ W W' ∧ W'.heap[B1]? = W.heap[B1]? ∧ W'.heap[B2]? = W.heap[B2]?
def encP (x : Nat) : Array Value := #[.int .i64 (x : Nat)]
/-- The places of a tenant's flows among the first k. -/
def plcs (t : Int) (E : Nat → FlowE) : Nat → List Nat
  | 0 => []
  | k + 1 => plcs t E k ++ if (E k).t == t then [k] else []
theorem plcs_len (t : Int) (E : Nat → FlowE) : ∀ k : Nat, (plcs t E k).length ≤ k
  | 0 => by simp [plcs]
  | k + 1 => by have := plcs_len t E k; simp only [plcs, List.length_append]; split <;> simp <;> omega

set_option maxRecDepth 100000 in
set_option maxHeartbeats 4000000 in
theorem places1_in (nn : Nat) (hnn : 1 ≤ nn) (l B1 B2 n₀ : Nat) (t : Int) (a : Option Addr) (len cap b o : Nat) (E : Nat → FlowE) (w₀ : World) (hn₀ : n₀ = w₀.heap.size) (hs : FlowIn w₀ a len cap b o E) (J Jx : List Nat → World → Prop)
    (hY : ∀ pre x W, J pre W → pre.length < len → YieldAt Fence.wide (nn - 1) Try.prog l (encP x) W fun e W' =>
      (e = .returned (.bool true) ∧ J (pre ++ [x]) W' ∧ KpP n₀ B1 B2 W W') ∨ (e = .returned (.bool false) ∧ Jx (pre ++ [x]) W'))
    (W : World) (hJa : ∀ pre W1 X, J pre W1 → Below W1.heap.size W1 X → J pre X) (hW : Below n₀ w₀ W) (hB1 : B1 < W.heap.size) (hB2 : B2 < W.heap.size) (h1 : W.cell? ⟨B1, 0, none⟩ = some (.slice a len cap)) (h2 : W.cell? ⟨B2, 0, none⟩ = some (.int .i64 t)) (hJ0 : J [] W) :
    CallsIn Fence.wide nn Try.prog 33 #[.func (.yield l) #[] #[], .pointer (some ⟨B1, 0, none⟩), .pointer (some ⟨B2, 0, none⟩)] W fun e W' => (∃ v, e = .returned v) ∧
      ((∃ ys, ys = plcs t E len ∧ J ys W') ∨ (∃ pre, (∃ k, k ≤ len ∧ pre = plcs t E k ∧ pre ≠ []) ∧ Jx pre W')) := by
  have hm := hs.max
  have hl := hs.le
  unfold maxLen at hm
  have HS := Lib.hid hs
  have HN := Lib.hid hn₀
  have HW := Lib.hid hW
  have HY := Lib.hid hY
  have HJA := Lib.hid hJa
  have hW0 : w₀.heap.size ≤ W.heap.size := by have := hW.size; omega
  have HJ0 : Hid (J (plcs t E 0) W) := Lib.hid hJ0
  have HKB : Hid (KpP n₀ B1 B2 W W) := Lib.hid ⟨Below.refl _ _, rfl, rfl⟩
  clear hs hn₀ hW hY hJa hJ0
  refine callsIn_of_wp Try.func33 rfl trivial ?_ rfl
  simp only [Try.ntmps33, List.size_toArray, List.length_cons, List.length_nil, Nat.reduceAdd, Nat.reduceSub, Array.replicate_succ, Array.replicate_zero, List.push_toArray, List.append_toArray, List.nil_append, List.cons_append]
  gi_wp2_with fail
  gi_loopw [8] (fun i wr => ∃ k : Nat, k ≤ len ∧ i = .int .i64 k ∧ J (plcs t E k) wr ∧ KpP n₀ B1 B2 W wr) (fun i _ => len - (intOf i).toNat)
  case atStart => exact ⟨0, Nat.zero_le _, rfl, HJ0.out, HKB.out⟩
  case round =>
    obtain ⟨k, hk, rfl, hJs, hnx, hn1, hn2⟩ := hrel
    have c2 : wr.cell? ⟨B2, 0, none⟩ = some (.int .i64 t) := (World.cell?_of_block (a := ⟨B2, 0, none⟩) hn2).trans h2
    have hB1r : B1 < wr.heap.size := Nat.lt_of_lt_of_le hB1 hnx.size
    have hB2r : B2 < wr.heap.size := Nat.lt_of_lt_of_le hB2 hnx.size
    have HJs := Lib.hid hJs
    have HNX := Lib.hid hnx
    have HN1 := Lib.hid hn1
    have HN2 := Lib.hid hn2
    by_cases hlt : k < len
    · obtain ⟨e0, e1⟩ := HS.out.at_ (by omega)
      subst e0
      have HSr := Lib.hid (HS.out.below (by rw [← HN.out]; exact HW.out.trans hnx))
      obtain ⟨k0, k1, k2⟩ := HSr.out.cell k hlt
      obtain ⟨en, hen⟩ : ∃ en, en = E k := ⟨_, rfl⟩
      obtain ⟨q, hq⟩ : ∃ q, q = (en.t == t) := ⟨_, rfl⟩
      have HT : Hid (plcs t E (k + 1) = plcs t E k ++ if q then [k] else []) := Lib.hid (by rw [hq, hen]; rfl)
      rw [← hen] at k0 k1 k2
      obtain ⟨et, ew, er⟩ := en
      simp only at k0 k1 k2 hq
      have hq2 := hq.symm
      have hBx : Below wr.heap.size wr (wr.alloc (.cells #[.int .i64 et, .int .i64 ew, .int .i64 er] 79)) := (Below.refl _ _).alloc (Nat.le_refl _) _
      have hY1 := HY.out (plcs t E k) k _ (HJA.out _ _ _ hJs hBx) (by have := plcs_len t E k; omega)
      have hE : encP k = #[.int .i64 (k : Nat)] := rfl
      rw [hE] at hY1
      have HBX := Lib.hid hBx
      clear hE hen hJs hnx hn1 hn2 hBx hq
      have hBX1 : Below n₀ W (wr.alloc (.cells #[.int .i64 et, .int .i64 ew, .int .i64 er] 79)) := HNX.out.trans (HBX.out.mono (by rw [HN.out]; exact Nat.le_trans hW0 HNX.out.size))
      have HBX1 := Lib.hid hBX1
      clear hBX1
      cases q
      · clear hY1
        gi_wp2_with fail
        refine ⟨(by intro f hf; cases hf), ?_⟩
        gi_wp2_with fail
        go_roundw
        case rel => exact ⟨k + 1, by omega, by go_num, by rw [HT.out]; simpa using HJA.out _ _ _ HJs.out HBX.out, HBX1.out, (HBX.out.block B1 hB1r).trans HN1.out, (HBX.out.block B2 hB2r).trans HN2.out⟩
        case measure => first | (simp [intOf]; done) | (simp [intOf]; omega)
      · obtain ⟨fn, tmps, assign, body, hy, hR⟩ := hY1
        gi_wp2_with fail
        refine hR.mono ?_
        rintro e W3 (⟨rfl, hJ3, hB3, hK3, hL3⟩ | ⟨rfl, hX3⟩)
        · have HJ4 : Hid (J (plcs t E (k + 1)) W3) := Lib.hid (by rw [HT.out]; exact hJ3)
          have HB4 : Hid (Below n₀ W W3) := Lib.hid (HBX1.out.trans hB3)
          have HK4 : Hid (W3.heap[B1]? = W.heap[B1]?) := Lib.hid (hK3.trans ((HBX.out.block B1 hB1r).trans HN1.out))
          have HL4 : Hid (W3.heap[B2]? = W.heap[B2]?) := Lib.hid (hL3.trans ((HBX.out.block B2 hB2r).trans HN2.out))
          clear hJ3 hB3 hK3 hL3 hR
          gi_wp2_with fail
          go_roundw
          case rel => exact ⟨k + 1, by omega, by go_num, HJ4.out, HB4.out, HK4.out, HL4.out⟩
          case measure => first | (simp [intOf]; done) | (simp [intOf]; omega)
        · gi_wp2_with fail
          refine bodyPost_ret (results_none rfl _ _ _) rfl ?_
          exact ⟨⟨_, rfl⟩, .inr ⟨_, ⟨k + 1, by omega, (by rw [HT.out]; rfl), by simp⟩, hX3⟩⟩
    · obtain rfl : k = len := by omega
      clear HY
      gi_wp2
      go_end0
      exact ⟨⟨_, rfl⟩, .inl ⟨_, rfl, HJs.out⟩⟩

theorem places_any (a : Option Addr) (n c : Nat) (t : Int) (w : World) : Calls Try.prog 28 #[.slice a n c, .int .i64 t] w fun e w' => e = .returned (.func (.func 33) #[] #[.pointer (some ⟨w.heap.size, 0, none⟩), .pointer (some ⟨w.heap.size + 1, 0, none⟩)]) ∧ (w.alloc (.cells #[.slice a n c] 23)).alloc (.cells #[.int .i64 t] 3) = w' := by
  have hmf : ∀ (fn : Fn) (first cap : Array Value) (w : World), (Instr.makeFunc fn first cap).run Try.prog w = .ok (.func fn first cap) w := fun _ _ _ _ => rfl
  go_enter Try.func28, Try.ntmps28
  go_wp2
  go_ret
  exact ⟨rfl, rfl⟩
theorem places_stops (nn : Nat) (hnn : 1 ≤ nn) {w₀ w : World} {t : Int} {a : Option Addr} {len cap b o : Nat} {E : Nat → FlowE} (hs : FlowIn w₀ a len cap b o E) (hw : Below w₀.heap.size w₀ w) (B1 B2 : Nat) (hB1 : B1 < w.heap.size) (hB2 : B2 < w.heap.size)
    (h1 : w.cell? ⟨B1, 0, none⟩ = some (.slice a len cap)) (h2 : w.cell? ⟨B2, 0, none⟩ = some (.int .i64 t)) :
    SeqStopsK Fence.wide nn Try.prog 33 #[.pointer (some ⟨B1, 0, none⟩), .pointer (some ⟨B2, 0, none⟩)] encP (KpP w₀.heap.size B1 B2) (fun ys => ys = plcs t E len) (fun pre => ∃ k, k ≤ len ∧ pre = plcs t E k ∧ pre ≠ []) len w := by
  intro l J Jx W hW hJ hJx hY hJ0
  exact places1_in nn hnn l B1 B2 _ t a len cap b o E w₀ rfl hs J Jx hY W (fun pre W1 X hj hB => hJ pre W1 X none hj ⟨hB.os, hB.tape, hB.output, hB.size, fun k hk _ => hB.block k hk⟩ (fun _ e => by cases e)) (hw.trans (hW.mono hw.size)) (Nat.lt_of_lt_of_le hB1 hW.size) (Nat.lt_of_lt_of_le hB2 hW.size)
    ((hW.cell (p := ⟨B1, 0, none⟩) hB1).trans h1) ((hW.cell (p := ⟨B2, 0, none⟩) hB2).trans h2) hJ0
end Go.Proofs.Ytcimcmfibinehaa
