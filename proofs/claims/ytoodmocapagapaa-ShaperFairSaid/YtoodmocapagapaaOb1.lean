/-
  Texts of this claim, put together: Pk2, Pk3, Pk4, Pk5, Pk6, Pk7, Pk8, Pk9, Pka, Pkb, Pkc, Pkd, Ff1, Ff2, Ff3, Ff4, Ff5, Ff6, Ff7, Ff8, Ff9, Ffb, Rg, Ffc.
-/
import Derived.Test.YtoodmocapagapaaJd2
import Derived.Test.YtoodmocapagapaaLib
import Derived.Test.YtoodmocapagapaaLib2
import Derived.Test.YtoodmocapagapaaOa1
import Derived.Test.YtoodmocapagapaaPk1
import Derived.RangeFuncNested
import Derived.RangeFuncBound
import Derived.RangeFuncCalls
import Derived.RangeFuncLeaves
import Derived.RangeFuncBox
import Derived.Shelf.Abstract
import Derived.Shelf.RegionOpen
import Derived.OwnWalkIn
import Derived.TacticsInMore
import Derived.LoopNIn
import Derived.LoopIn
import Derived.Maps.AppendAt
import Derived.Outline
import Derived.IntWalk
import Derived.Lib.Hide
import Derived.Lib.Slices
import Derived.Lib.Walk
import Derived.OpenShut
import Derived.Deep.QuietTactic
import Derived.BigRegion
import Derived.BigQuiet
import Derived.RegionTactic
import Derived.Lib.BitFns
import Derived.Lib.Small
import Derived.Laws.BitsLemmas
import Derived.Deep.DeepCutAuto
import Derived.WalkMore
import Derived.Laws.OwnMore
import Derived.Lib.AppendZeros
import Derived.Deep.RegionHeld3
import Derived.Laws.IdiomStrings
import Derived.Deep.RegionLaw
import Derived.StillTailTactics
import Derived.OrdersHeld
import Derived.Lib.SlBytesConst
import Derived.Laws.StructEq
namespace Go.Proofs.Ytoodmocapagapaa
open Go.RowKit Go.Shelf
set_option linter.unusedSimpArgs false
set_option linter.unusedVariables false

attribute [local go_sem] Oper.semAt_some

/-- What a round keeps: what lay below n₀, and the iterator's own boxes. -/
def KpP (n₀ B1 B2 : Nat) (W W' : World) : Prop := Below n₀ W W' ∧ W'.heap[B1]? = W.heap[B1]? ∧ W'.heap[B2]? = W.heap[B2]?
def encP (x : Nat) : Array Value := #[.int .i64 (x : Nat)]
/-- The places of a tenant's flows among the first k. -/
def plcs (t : Int) (E : Nat → FlowE) : Nat → List Nat
  | 0 => []
  | k + 1 => plcs t E k ++ if (E k).t == t then [k] else []
theorem plcs_len (t : Int) (E : Nat → FlowE) : ∀ k : Nat, (plcs t E k).length ≤ k
  | 0 => by simp [plcs]
  | k + 1 => by have := plcs_len t E k; simp only [plcs, List.length_append]; split <;> simp <;> omega

set_option maxRecDepth 100000 in
set_option maxHeartbeats 4000000 in
theorem places1_in (nn : Nat) (hnn : 1 ≤ nn) (l B1 B2 n₀ : Nat) (t : Int) (a : Option Addr) (len cap b o : Nat) (E : Nat → FlowE) (w₀ : World) (hn₀ : n₀ = w₀.heap.size) (hs : FlowIn w₀ a len cap b o E) (J Jx : List Nat → World → Prop)
    (hY : ∀ pre x W, J pre W → pre.length < len → YieldAt Fence.wide (nn - 1) Try.prog l (encP x) W fun e W' =>
      (e = .returned (.bool true) ∧ J (pre ++ [x]) W' ∧ KpP n₀ B1 B2 W W') ∨ (e = .returned (.bool false) ∧ Jx (pre ++ [x]) W'))
    (W : World) (hJa : ∀ pre W1 X, J pre W1 → Below W1.heap.size W1 X → J pre X) (hW : Below n₀ w₀ W) (hB1 : B1 < W.heap.size) (hB2 : B2 < W.heap.size) (h1 : W.cell? ⟨B1, 0, none⟩ = some (.slice a len cap)) (h2 : W.cell? ⟨B2, 0, none⟩ = some (.int .i64 t)) (hJ0 : J [] W) :
    CallsIn Fence.wide nn Try.prog 61 #[.func (.yield l) #[] #[], .pointer (some ⟨B1, 0, none⟩), .pointer (some ⟨B2, 0, none⟩)] W fun e W' => (∃ v, e = .returned v) ∧
      ((∃ ys, ys = plcs t E len ∧ J ys W') ∨ (∃ pre, (∃ k, k ≤ len ∧ pre = plcs t E k ∧ pre ≠ []) ∧ Jx pre W')) := by
  have hm := hs.max
  have hl := hs.le
  unfold maxLen at hm
  have HS := Lib.hid hs
  have HN := Lib.hid hn₀
  have HW := Lib.hid hW
  have HY := Lib.hid hY
  have HJA := Lib.hid hJa
  have hW0 : w₀.heap.size ≤ W.heap.size := by have := hW.size; omega
  have HJ0 : Hid (J (plcs t E 0) W) := Lib.hid hJ0
  have HKB : Hid (KpP n₀ B1 B2 W W) := Lib.hid ⟨Below.refl _ _, rfl, rfl⟩
  clear hs hn₀ hW hY hJa hJ0
  refine callsIn_of_wp Try.func61 rfl trivial ?_ rfl
  simp only [Try.ntmps61, List.size_toArray, List.length_cons, List.length_nil, Nat.reduceAdd, Nat.reduceSub, Array.replicate_succ, Array.replicate_zero, List.push_toArray, List.append_toArray, List.nil_append, List.cons_append]
  gi_wp2_with fail
  gi_loopw [8] (fun i wr => ∃ k : Nat, k ≤ len ∧ i = .int .i64 k ∧ J (plcs t E k) wr ∧ KpP n₀ B1 B2 W wr) (fun i _ => len - (intOf i).toNat)
  case atStart => exact ⟨0, Nat.zero_le _, rfl, HJ0.out, HKB.out⟩
  case round =>
    obtain ⟨k, hk, rfl, hJs, hnx, hn1, hn2⟩ := hrel
    have c2 : wr.cell? ⟨B2, 0, none⟩ = some (.int .i64 t) := (World.cell?_of_block (a := ⟨B2, 0, none⟩) hn2).trans h2
    have hB1r : B1 < wr.heap.size := Nat.lt_of_lt_of_le hB1 hnx.size
    have hB2r : B2 < wr.heap.size := Nat.lt_of_lt_of_le hB2 hnx.size
    have HJs := Lib.hid hJs
    have HNX := Lib.hid hnx
    have HN1 := Lib.hid hn1
    have HN2 := Lib.hid hn2
    by_cases hlt : k < len
    · obtain ⟨e0, e1⟩ := HS.out.at_ (by omega)
      subst e0
      have HSr := Lib.hid (HS.out.below (by rw [← HN.out]; exact HW.out.trans hnx))
      obtain ⟨k0, k1, k2⟩ := HSr.out.cell k hlt
      obtain ⟨en, hen⟩ : ∃ en, en = E k := ⟨_, rfl⟩
      obtain ⟨q, hq⟩ : ∃ q, q = (en.t == t) := ⟨_, rfl⟩
      have HT : Hid (plcs t E (k + 1) = plcs t E k ++ if q then [k] else []) := Lib.hid (by rw [hq, hen]; rfl)
      rw [← hen] at k0 k1 k2
      obtain ⟨et, ew, er⟩ := en
      simp only at k0 k1 k2 hq
      have hq2 := hq.symm
      have hBx : Below wr.heap.size wr (wr.alloc (.cells #[.int .i64 et, .int .i64 ew, .int .i64 er] 51)) := (Below.refl _ _).alloc (Nat.le_refl _) _
      have hY1 := HY.out (plcs t E k) k _ (HJA.out _ _ _ hJs hBx) (by have := plcs_len t E k; omega)
      have hE : encP k = #[.int .i64 (k : Nat)] := rfl
      rw [hE] at hY1
      have HBX := Lib.hid hBx
      clear hE hen hJs hnx hn1 hn2 hBx hq
      have hBX1 : Below n₀ W (wr.alloc (.cells #[.int .i64 et, .int .i64 ew, .int .i64 er] 51)) := HNX.out.trans (HBX.out.mono (by rw [HN.out]; exact Nat.le_trans hW0 HNX.out.size))
      have HBX1 := Lib.hid hBX1
      clear hBX1
      cases q
      · clear hY1
        gi_wp2_with fail
        refine ⟨(by intro f hf; cases hf), ?_⟩
        gi_wp2_with fail
        go_roundw
        case rel => exact ⟨k + 1, by omega, by go_num, by rw [HT.out]; simpa using HJA.out _ _ _ HJs.out HBX.out, HBX1.out, (HBX.out.block B1 hB1r).trans HN1.out, (HBX.out.block B2 hB2r).trans HN2.out⟩
        case measure => first | (simp [intOf]; done) | (simp [intOf]; omega)
      · obtain ⟨fn, tmps, assign, body, hy, hR⟩ := hY1
        gi_wp2_with fail
        refine hR.mono ?_
        rintro e W3 (⟨rfl, hJ3, hB3, hK3, hL3⟩ | ⟨rfl, hX3⟩)
        · have HJ4 : Hid (J (plcs t E (k + 1)) W3) := Lib.hid (by rw [HT.out]; exact hJ3)
          have HB4 : Hid (Below n₀ W W3) := Lib.hid (HBX1.out.trans hB3)
          have HK4 : Hid (W3.heap[B1]? = W.heap[B1]?) := Lib.hid (hK3.trans ((HBX.out.block B1 hB1r).trans HN1.out))
          have HL4 : Hid (W3.heap[B2]? = W.heap[B2]?) := Lib.hid (hL3.trans ((HBX.out.block B2 hB2r).trans HN2.out))
          clear hJ3 hB3 hK3 hL3 hR
          gi_wp2_with fail
          go_roundw
          case rel => exact ⟨k + 1, by omega, by go_num, HJ4.out, HB4.out, HK4.out, HL4.out⟩
          case measure => first | (simp [intOf]; done) | (simp [intOf]; omega)
        · gi_wp2_with fail
          refine bodyPost_ret (results_none rfl _ _ _) rfl ?_
          exact ⟨⟨_, rfl⟩, .inr ⟨_, ⟨k + 1, by omega, (by rw [HT.out]; rfl), by simp⟩, hX3⟩⟩
    · obtain rfl : k = len := by omega
      clear HY
      gi_wp2
      go_end0
      exact ⟨⟨_, rfl⟩, .inl ⟨_, rfl, HJs.out⟩⟩

theorem places_any (a : Option Addr) (n c : Nat) (t : Int) (w : World) : Calls Try.prog 41 #[.slice a n c, .int .i64 t] w fun e w' => e = .returned (.func (.func 61) #[] #[.pointer (some ⟨w.heap.size, 0, none⟩), .pointer (some ⟨w.heap.size + 1, 0, none⟩)]) ∧ (w.alloc (.cells #[.slice a n c] 36)).alloc (.cells #[.int .i64 t] 3) = w' := by
  have hmf : ∀ (fn : Fn) (first cap : Array Value) (w : World), (Instr.makeFunc fn first cap).run Try.prog w = .ok (.func fn first cap) w := fun _ _ _ _ => rfl
  go_enter Try.func41, Try.ntmps41
  go_wp2
  go_ret
  exact ⟨rfl, rfl⟩
theorem places_stops (nn : Nat) (hnn : 1 ≤ nn) {w₀ w : World} {t : Int} {a : Option Addr} {len cap b o : Nat} {E : Nat → FlowE} (hs : FlowIn w₀ a len cap b o E) (hw : Below w₀.heap.size w₀ w) (B1 B2 : Nat) (hB1 : B1 < w.heap.size) (hB2 : B2 < w.heap.size)
    (h1 : w.cell? ⟨B1, 0, none⟩ = some (.slice a len cap)) (h2 : w.cell? ⟨B2, 0, none⟩ = some (.int .i64 t)) :
    SeqStopsK Fence.wide nn Try.prog 61 #[.pointer (some ⟨B1, 0, none⟩), .pointer (some ⟨B2, 0, none⟩)] encP (KpP w₀.heap.size B1 B2) (fun ys => ys = plcs t E len) (fun pre => ∃ k, k ≤ len ∧ pre = plcs t E k ∧ pre ≠ []) len w := by
  intro l J Jx W hW hJ hJx hY hJ0
  exact places1_in nn hnn l B1 B2 _ t a len cap b o E w₀ rfl hs J Jx hY W (fun pre W1 X hj hB => hJ pre W1 X none hj ⟨hB.os, hB.tape, hB.output, hB.size, fun k hk _ => hB.block k hk⟩ (fun _ e => by cases e)) (hw.trans (hW.mono hw.size)) (Nat.lt_of_lt_of_le hB1 hW.size) (Nat.lt_of_lt_of_le hB2 hW.size)
    ((hW.cell (p := ⟨B1, 0, none⟩) hB1).trans h1) ((hW.cell (p := ⟨B2, 0, none⟩) hB2).trans h2) hJ0
end Go.Proofs.Ytoodmocapagapaa
namespace Go.Proofs.Ytoodmocapagapaa
open Go.RowKit Go.Shelf
set_option linter.unusedSimpArgs false
set_option linter.unusedVariables false

attribute [local go_sem] Oper.semAt_some

theorem blk_own {β : Type} (B : Nat) (cs : Array Value) (t : TypeId) : Own (fun (_ : β) W => Blk W B cs t) := fun _ X Y row hs hg hrow =>
  (hg.block B hs.lt (fun e => by
    obtain ⟨o, ho, hc⟩ := hrow B e.symm
    rw [show X.heap[B]? = _ from hs] at ho
    cases ho
    cases hc)).trans hs

theorem at_own {β : Type} {B D : Nat} {o : Obj} (h : D < B) : OwnFrom (β := β) B (fun _ W => W.heap[D]? = some o) := fun _ _ _ _ hs hg hr =>
  (hg.block D (Array.getElem?_eq_some_iff.1 hs).1 (fun e => by have := (hr D e.symm).1; omega)).trans hs
theorem plcs_pre (t : Int) (E : Nat → FlowE) (k : Nat) : ∀ n, k ≤ n → ∃ tl, plcs t E n = plcs t E k ++ tl
  | 0, h => ⟨[], by obtain rfl : k = 0 := by omega
                    simp⟩
  | n + 1, h => by
    by_cases e : k = n + 1
    · exact ⟨[], by rw [e, List.append_nil]⟩
    · obtain ⟨tl, htl⟩ := plcs_pre t E k n (by omega)
      exact ⟨tl ++ if (E n).t == t then [n] else [], by rw [plcs, htl, List.append_assoc]⟩
def lastP (l : List Nat) : Nat := l.getLast?.getD 0
theorem lastP_snoc (l : List Nat) (x : Nat) : lastP (l ++ [x]) = x := by simp [lastP]
theorem last_at (l tl : List Nat) (R : Nat) (h : l.length = R + 1) : (l ++ tl).getD R 0 = lastP l := by
  unfold lastP
  rw [List.getLast?_eq_getElem?, h, List.getD_eq_getElem?_getD, List.getElem?_append_left (by omega)]
  rfl

/-- what Flow answers -/
def flowK (t c : Int) (E : Nat → FlowE) (n : Nat) : Int := if (plcs t E n).length = 0 then 0 else if c < 0 then 0 else (((plcs t E n).getD (c % ((plcs t E n).length : Int)).toNat 0 : Nat) : Int)
def flowE (t c : Int) (E : Nat → FlowE) (n : Nat) : Int := if (plcs t E n).length = 0 then 161 else if c < 0 then 2 else 0

set_option maxRecDepth 100000 in
set_option maxHeartbeats 4000000 in
theorem flow_any (num t c : Int) (la : Option Addr) (ln lc : Nat) (a : Option Addr) (len cap b o : Nat) (E : Nat → FlowE) (w : World) (hs : FlowIn w a len cap b o E) :
    Calls Try.prog 23 #[.slice a len cap, .agg #[.int .i64 num, .int .i64 t, .int .i64 c, .slice la ln lc]] w fun e w' => e = .returned (.tuple #[.int .i64 (flowK t c E len), .int .i64 (flowE t c E len)]) ∧ Below w.heap.size w w' := by
  refine (callsIn_wide (n := 9)).1 ?_
  refine callsIn_of_wp_marks Try.func23 rfl trivial ?_ rfl
  simp only [Try.ntmps23, List.size_toArray, List.length_cons, List.length_nil, Nat.reduceAdd, Nat.reduceSub, Array.replicate_succ, Array.replicate_zero, List.push_toArray, List.append_toArray, List.nil_append, List.cons_append]
  have HS := Lib.hid hs
  have HKF : Hid (flowK t c E len = if (plcs t E len).length = 0 then 0 else if c < 0 then 0 else (((plcs t E len).getD (c % ((plcs t E len).length : Int)).toNat 0 : Nat) : Int)) := Lib.hid rfl
  have HEF : Hid (flowE t c E len = if (plcs t E len).length = 0 then 161 else if c < 0 then 2 else 0) := Lib.hid rfl
  obtain ⟨kf, hkf⟩ : ∃ kf, kf = flowK t c E len := ⟨_, rfl⟩
  obtain ⟨ef, hef⟩ : ∃ ef, ef = flowE t c E len := ⟨_, rfl⟩
  rw [← hkf] at HKF ⊢
  rw [← hef] at HEF ⊢
  clear hs hkf hef
  gi_wp2_with (first
    | (refine ⟨trivial, ?_⟩; gi_at_call 41; refine (callsIn_wide.2 (places_any _ _ _ _ _)).mono ?_; rintro e w2 ⟨rfl, rfl⟩)
    | fail)
  obtain ⟨N, hN⟩ : ∃ N, N = w.heap.size := ⟨_, rfl⟩
  obtain ⟨PB, hPB⟩ : ∃ PB, PB = Obj.cells #[.int .i64 num, .int .i64 t, .int .i64 c, .slice la ln lc] 53 (0, 0) := ⟨_, rfl⟩
  obtain ⟨W0, hW0⟩ : ∃ W0, W0 = ((((((w.alloc PB).alloc (.cells #[.int .i64 0] 3)).alloc (.cells #[.int .i64 0] 23)).alloc (.cells #[.int .i64 0] 3)).alloc (.cells #[.slice a len cap] 36)).alloc (.cells #[.int .i64 t] 3)) := ⟨_, rfl⟩
  have hs0 : W0.heap.size = N + 6 := by rw [hW0, hN]; simp
  have bP : Blk W0 N #[.int .i64 num, .int .i64 t, .int .i64 c, .slice la ln lc] 53 := by
    rw [hW0, hN, hPB]
    show _ = _
    rw [Below.heap_alloc _ _ _ (by simp; try omega), Below.heap_alloc _ _ _ (by simp; try omega), Below.heap_alloc _ _ _ (by simp; try omega), Below.heap_alloc _ _ _ (by simp; try omega), Below.heap_alloc _ _ _ (by simp; try omega)]
    exact heap_alloc_new w _
  have bR : Boxed W0 (N + 1) 3 (.int .i64 0) := by
    rw [hW0, hN]
    show _ = _
    rw [Below.heap_alloc _ _ _ (by simp; try omega), Below.heap_alloc _ _ _ (by simp; try omega), Below.heap_alloc _ _ _ (by simp; try omega), Below.heap_alloc _ _ _ (by simp; try omega), ← World.size_alloc w PB]
    exact heap_alloc_new _ _
  have bE : Boxed W0 (N + 2) 23 (.int .i64 0) := by
    rw [hW0, hN]
    show _ = _
    rw [Below.heap_alloc _ _ _ (by simp; try omega), Below.heap_alloc _ _ _ (by simp; try omega), Below.heap_alloc _ _ _ (by simp; try omega), show w.heap.size + 2 = ((w.alloc PB).alloc (.cells #[.int .i64 0] 3)).heap.size by simp]
    exact heap_alloc_new _ _
  have bF : Boxed W0 (N + 3) 3 (.int .i64 0) := by
    rw [hW0, hN]
    show _ = _
    rw [Below.heap_alloc _ _ _ (by simp; try omega), Below.heap_alloc _ _ _ (by simp; try omega), show w.heap.size + 3 = (((w.alloc PB).alloc (.cells #[.int .i64 0] 3)).alloc (.cells #[.int .i64 0] 23)).heap.size by simp]
    exact heap_alloc_new _ _
  have bA : Boxed W0 (N + 4) 36 (.slice a len cap) := by
    rw [hW0, hN]
    show _ = _
    rw [Below.heap_alloc _ _ _ (by simp; try omega), show w.heap.size + 4 = ((((w.alloc PB).alloc (.cells #[.int .i64 0] 3)).alloc (.cells #[.int .i64 0] 23)).alloc (.cells #[.int .i64 0] 3)).heap.size by simp]
    exact heap_alloc_new _ _
  have bT : Boxed W0 (N + 5) 3 (.int .i64 t) := by
    rw [hW0, hN]
    show _ = _
    rw [show w.heap.size + 5 = (((((w.alloc PB).alloc (.cells #[.int .i64 0] 3)).alloc (.cells #[.int .i64 0] 23)).alloc (.cells #[.int .i64 0] 3)).alloc (.cells #[.slice a len cap] 36)).heap.size by simp]
    exact heap_alloc_new _ _
  have hB0 : Below N w W0 := by rw [hW0, hN]; exact ((((((Below.refl _ _).alloc (Nat.le_refl _) _).alloc (by simp) _).alloc (by simp; omega) _).alloc (by simp; omega) _).alloc (by simp; omega) _).alloc (by simp; omega) _
  subst hPB
  rw [← hN, ← hW0]
  have HN := Lib.hid hN
  have hNw : N ≤ w.heap.size := by omega
  have hm := HS.out.max
  have hl := HS.out.le
  unfold maxLen at hm
  have hpl := plcs_len t E len
  clear hN hW0
  refine wpIn_rangeFunc_ownF rfl (by omega) (gf := 61) (lb := #[.pointer (some ⟨N + 4, 0, none⟩), .pointer (some ⟨N + 5, 0, none⟩)]) rfl trivial (enters_of Try.func61 (by kernel_rfl) rfl)
    (encs := encP) (places_stops 8 (by omega) (w₀ := w) (w := W0) HS.out (by rw [← HN.out]; exact hB0) (N + 4) (N + 5) (by omega) (by omega) bA.cell bT.cell)
    (fun h k => ⟨h.1.trans k.1, k.2.1.trans h.2.1, k.2.2.trans h.2.2⟩) (fun W l o o' hl ho hc hw => ⟨belowK_b (w := W0) (by rw [← HN.out]; omega) W l o o' hl ho hc hw, World.putObj_heap_other (by omega), World.putObj_heap_other (by omega)⟩) (Below.refl _ _) (fun _ => rfl)
    (fun pre W => Blk W N #[.int .i64 num, .int .i64 t, .int .i64 c, .slice la ln lc] 53 ∧ (Boxed W (N + 1) 3 (.int .i64 0) ∧ (Boxed W (N + 2) 23 (.int .i64 0) ∧ (Boxed W (N + 3) 3 (.int .i64 (pre.length : Nat)) ∧ Below N w W))))
    (fun _ _ _ => False)
    (OwnFrom.and (Own.from (blk_own _ _ _) _) (OwnFrom.and (Own.from (boxed_own _ _ _) _) (OwnFrom.and (Own.from (boxed_own _ _ _) _) (OwnFrom.and (Own.from (boxed_own _ _ _) _) (ownFrom_below hNw (by omega))))))
    (fun _ _ _ _ _ hs _ _ => hs)
    ⟨bP, bR, bE, bF, hB0⟩
    (fun x => { tmps := #[.slice a len cap, .agg #[.int .i64 num, .int .i64 t, .int .i64 c, .slice la ln lc], undef, .pointer (some ⟨N, 0, none⟩), .pointer (some ⟨N + 1, 0, none⟩), .pointer (some ⟨N + 2, 0, none⟩), .pointer (some ⟨N + 3, 0, none⟩), undef, undef, .slice a len cap, .pointer (some ⟨N, 1, none⟩), .int .i64 t, .func (.func 61) #[] #[.pointer (some ⟨N + 4, 0, none⟩), .pointer (some ⟨N + 5, 0, none⟩)], .int .i64 (x : Nat), undef, undef, undef, undef, undef, undef, undef, undef, undef, undef, undef, undef, undef, undef, undef, undef, undef, undef, undef, undef, undef, undef, undef], defers := [] }) ?assign ?body ?done ?stop
  case assign =>
    intro l x W K hK
    dsimp only [encP]
    gi_wp2
    exact hK
  case body =>
    rintro l pre x W ⟨b0, b1, b2, b3, hBW⟩ hlt
    have HX : Hid (((pre ++ [x]).length : Nat) = pre.length + 1) := Lib.hid (by simp)
    obtain ⟨m, hm2⟩ : ∃ m, m = pre.length := ⟨_, rfl⟩
    rw [← hm2] at b3 hlt HX
    have c3 := b3.cell
    have hf : W.frozen? ⟨N + 3, 0, none⟩ = false := free_at b3 0
    clear hm2
    gi_wp2
    have h1 : Boxed (W.setCell ⟨N + 3, 0, none⟩ (.int .i64 ((m : Int) + 1))) (N + 3) 3 (.int .i64 ((m : Int) + 1)) := b3.set _
    have hne : ∀ k, k ≠ N + 3 → (W.setCell ⟨N + 3, 0, none⟩ (.int .i64 ((m : Int) + 1))).heap[k]? = W.heap[k]? := fun k hk => heap_setCell_ne _ _ _ _ (by simpa using hk)
    refine ⟨KeepsOthers.setCell _ _ _, ⟨by rw [← HN.out]; exact (Below.refl N W).setCell (p := ⟨N + 3, 0, none⟩) (by simp) _, hne _ (by omega), hne _ (by omega)⟩, (hne _ (by omega)).trans b0, (hne _ (by omega)).trans b1, (hne _ (by omega)).trans b2, ?_, hBW.setCell (p := ⟨N + 3, 0, none⟩) (by simp) _⟩
    rw [HX.out]
    exact h1
  case done =>
    rintro D ys W hD hys ⟨b0, b1, b2, b3, hBW⟩ hK
    have HL : Hid (ys.length = (plcs t E len).length) := Lib.hid (by rw [hys])
    rw [HL.out] at b3
    obtain ⟨L, hL⟩ : ∃ L, L = plcs t E len := ⟨_, rfl⟩
    rw [← hL] at HKF HEF
    rw [← hL] at b3 hpl
    obtain ⟨f, hf⟩ : ∃ f, f = L.length := ⟨_, rfl⟩
    rw [← hf] at b3 HKF HEF hpl
    have HLL := Lib.hid hL
    have HFF := Lib.hid hf
    clear hys HL hf hL
    have c3 := b3.cell
    have c02 : W.cell? ⟨N, 2, none⟩ = some (.int .i64 c) := cell_at b0 2
    have c01 : W.cell? ⟨N, 1, none⟩ = some (.int .i64 t) := cell_at b0 1
    have c1 := b1.cell
    have c2 := b2.cell
    have lN := b0.lt
    have f1 : W.frozen? ⟨N + 1, 0, none⟩ = false := free_at b1 0
    have f2 : W.frozen? ⟨N + 2, 0, none⟩ = false := free_at b2 0
    by_cases hz : f = 0
    · have hz2 : ((f : Int) == 0) = true := by simp [hz]
      gi_wp2_with fail
      obtain ⟨WX, hWX⟩ : ∃ WX, WX = (W.setCell ⟨N + 1, 0, none⟩ (.int .i64 0)).setCell ⟨N + 1 + 1, 0, none⟩ (.int .i64 161) := ⟨_, rfl⟩
      have hne : ∀ k, k ≠ N + 1 → k ≠ N + 2 → WX.heap[k]? = W.heap[k]? := fun k h1 h2 => by rw [hWX]; exact (heap_setCell_ne _ _ _ _ (by simpa using h2)).trans (heap_setCell_ne _ _ _ _ (by simpa using h1))
      have g1 : Boxed WX (N + 1) 3 (.int .i64 0) := by
        rw [hWX]
        exact (heap_setCell_ne _ _ _ _ (by simp)).trans (b1.set _)
      have g2 : Boxed WX (N + 2) 23 (.int .i64 161) := by
        rw [hWX]
        have k2 : Boxed (W.setCell ⟨N + 1, 0, none⟩ (.int .i64 0)) (N + 2) 23 (.int .i64 0) := (heap_setCell_ne _ _ _ _ (by simp)).trans b2
        exact k2.set _
      have hBX : Below N w WX := by
        rw [hWX]
        exact (hBW.setCell (p := ⟨N + 1, 0, none⟩) (by simp) _).setCell (p := ⟨N + 1 + 1, 0, none⟩) (by simp; try omega) _
      rw [← hWX]
      clear hWX
      refine ⟨by simp, .inl ⟨_, _, rfl, run_takeDeferred ((hne D (by omega) (by omega)).trans hK), ?_⟩⟩
      have hr1 : Boxed (WX.putObj D (Obj.deferred none)) (N + 1) 3 (.int .i64 0) := (World.putObj_heap_other (by omega)).trans g1
      have hr2 : Boxed (WX.putObj D (Obj.deferred none)) (N + 2) 23 (.int .i64 161) := (World.putObj_heap_other (by omega)).trans g2
      have q1 : (WX.putObj D (Obj.deferred none)).cell? ⟨N + 1, 0, none⟩ = some (.int .i64 0) := hr1.cell
      have q2 : (WX.putObj D (Obj.deferred none)).cell? ⟨N + 1 + 1, 0, none⟩ = some (.int .i64 161) := hr2.cell
      refine ⟨_, (by simp [results, Try.results23, go_sem, q1, q2]; rfl), by rw [HKF.out, HEF.out]; simp [hz], ?_⟩
      rw [← HN.out]
      exact hBX.trans (belowK_b (w := W0) (by omega) WX D _ _ hD ((hne D (by omega) (by omega)).trans hK) rfl rfl)
    · have hz2 : ((f : Int) == 0) = false := by simpa using hz
      by_cases hc0 : c < 0
      · have d0 : decide (c < 0) = true := by simpa using hc0
        gi_wp2_with fail
        obtain ⟨WX, hWX⟩ : ∃ WX, WX = (W.setCell ⟨N + 1, 0, none⟩ (.int .i64 0)).setCell ⟨N + 1 + 1, 0, none⟩ (.int .i64 2) := ⟨_, rfl⟩
        have hne : ∀ k, k ≠ N + 1 → k ≠ N + 2 → WX.heap[k]? = W.heap[k]? := fun k h1 h2 => by rw [hWX]; exact (heap_setCell_ne _ _ _ _ (by simpa using h2)).trans (heap_setCell_ne _ _ _ _ (by simpa using h1))
        have g1 : Boxed WX (N + 1) 3 (.int .i64 0) := by
          rw [hWX]
          exact (heap_setCell_ne _ _ _ _ (by simp)).trans (b1.set _)
        have g2 : Boxed WX (N + 2) 23 (.int .i64 2) := by
          rw [hWX]
          have k2 : Boxed (W.setCell ⟨N + 1, 0, none⟩ (.int .i64 0)) (N + 2) 23 (.int .i64 0) := (heap_setCell_ne _ _ _ _ (by simp)).trans b2
          exact k2.set _
        have hBX : Below N w WX := by
          rw [hWX]
          exact (hBW.setCell (p := ⟨N + 1, 0, none⟩) (by simp) _).setCell (p := ⟨N + 1 + 1, 0, none⟩) (by simp; try omega) _
        rw [← hWX]
        clear hWX
        refine ⟨by simp, .inl ⟨_, _, rfl, run_takeDeferred ((hne D (by omega) (by omega)).trans hK), ?_⟩⟩
        have hr1 : Boxed (WX.putObj D (Obj.deferred none)) (N + 1) 3 (.int .i64 0) := (World.putObj_heap_other (by omega)).trans g1
        have hr2 : Boxed (WX.putObj D (Obj.deferred none)) (N + 2) 23 (.int .i64 2) := (World.putObj_heap_other (by omega)).trans g2
        have q1 : (WX.putObj D (Obj.deferred none)).cell? ⟨N + 1, 0, none⟩ = some (.int .i64 0) := hr1.cell
        have q2 : (WX.putObj D (Obj.deferred none)).cell? ⟨N + 1 + 1, 0, none⟩ = some (.int .i64 2) := hr2.cell
        refine ⟨_, (by simp [results, Try.results23, go_sem, q1, q2]; rfl), by rw [HKF.out, HEF.out]; simp [hz, hc0], ?_⟩
        rw [← HN.out]
        exact hBX.trans (belowK_b (w := W0) (by omega) WX D _ _ hD ((hne D (by omega) (by omega)).trans hK) rfl rfl)
      · have d0 : decide (c < 0) = false := by simpa using hc0
        gi_wp2_with (first
          | (refine ⟨trivial, ?_⟩; gi_at_call 41; refine (callsIn_wide.2 (places_any _ _ _ _ _)).mono ?_; rintro e w2 ⟨rfl, rfl⟩)
          | fail)
        obtain ⟨R, hR⟩ : ∃ R : Nat, c % (f : Int) = (R : Nat) := ⟨(c % (f : Int)).toNat, by have := Int.emod_nonneg c (b := (f : Int)) (by omega); omega⟩
        have hRf : R < f := by have := Int.emod_lt_of_pos c (b := (f : Int)) (by omega); omega
        rw [hR]
        rw [hR] at HKF
        have HKK : Hid (kf = (L.getD R 0 : Nat)) := Lib.hid (by rw [HKF.out, if_neg hz, if_neg (by omega)]; simp)
        have HEE : Hid (ef = 0) := Lib.hid (by rw [HEF.out, if_neg hz, if_neg (by omega)])
        clear HKF HEF
        have hDW : D < W.heap.size := (Array.getElem?_eq_some_iff.1 hK).1
        obtain ⟨M, hM⟩ : ∃ M, M = W.heap.size := ⟨_, rfl⟩
        obtain ⟨W2, hW2⟩ : ∃ W2, W2 = ((W.alloc (.cells #[.int .i64 (R : Nat)] 3)).alloc (.cells #[.slice a len cap] 36)).alloc (.cells #[.int .i64 t] 3) := ⟨_, rfl⟩
        have hs2 : W2.heap.size = M + 3 := by rw [hW2, hM]; simp
        have bn : Boxed W2 M 3 (.int .i64 (R : Nat)) := by
          rw [hW2, hM]
          show _ = _
          rw [Below.heap_alloc _ _ _ (by simp; try omega), Below.heap_alloc _ _ _ (by simp; try omega)]
          exact heap_alloc_new W _
        have ba : Boxed W2 (M + 1) 36 (.slice a len cap) := by
          rw [hW2, hM]
          show _ = _
          rw [Below.heap_alloc _ _ _ (by simp; try omega), ← World.size_alloc W (.cells #[.int .i64 (R : Nat)] 3)]
          exact heap_alloc_new _ _
        have bt : Boxed W2 (M + 2) 3 (.int .i64 t) := by
          rw [hW2, hM]
          show _ = _
          rw [show W.heap.size + 2 = ((W.alloc (.cells #[.int .i64 (R : Nat)] 3)).alloc (.cells #[.slice a len cap] 36)).heap.size by simp]
          exact heap_alloc_new _ _
        have hold : ∀ k, k < M → W2.heap[k]? = W.heap[k]? := fun k hk => by
          rw [hW2, Below.heap_alloc _ _ _ (by simp; try omega), Below.heap_alloc _ _ _ (by simp; try omega), Below.heap_alloc _ _ _ (by omega)]
        have hB2 : Below M W W2 := by rw [hW2, hM]; exact (((Below.refl _ _).alloc (Nat.le_refl _) _).alloc (by simp) _).alloc (by simp; omega) _
        rw [← hM, ← hW2]
        have hNM : N + 6 ≤ M := by omega
        have hDM : D < M := by omega
        have bE1 : Boxed W2 (N + 1) 3 (.int .i64 0) := (hold _ (by omega)).trans b1
        have bE2 : Boxed W2 (N + 2) 23 (.int .i64 0) := (hold _ (by omega)).trans b2
        have bED : W2.heap[D]? = some (.deferred (some [])) := (hold _ (by omega)).trans hK
        have hBB : Below N w W2 := hBW.trans (hB2.mono (by omega))
        have HM := Lib.hid hM
        clear hM hW2 hold hB2 b0 b1 b2 b3 hBW hK c3 c02 c01 c1 c2 lN f1 f2
        refine wpIn_rangeFunc_ownF rfl (by omega) (gf := 61) (lb := #[.pointer (some ⟨M + 1, 0, none⟩), .pointer (some ⟨M + 2, 0, none⟩)]) rfl trivial (enters_of Try.func61 (by kernel_rfl) rfl)
          (encs := encP) (places_stops 8 (by omega) (w₀ := w) (w := W2) HS.out (by rw [← HN.out]; exact hBB) (M + 1) (M + 2) (by omega) (by omega) ba.cell bt.cell)
          (fun h k => ⟨h.1.trans k.1, k.2.1.trans h.2.1, k.2.2.trans h.2.2⟩) (fun W l o o' hl ho hc hw => ⟨belowK_b (w := W2) (by rw [← HN.out]; omega) W l o o' hl ho hc hw, World.putObj_heap_other (by omega), World.putObj_heap_other (by omega)⟩) (Below.refl _ _) (fun _ => rfl)
          (fun pre W => Boxed W (N + 1) 3 (.int .i64 0) ∧ (Boxed W (N + 2) 23 (.int .i64 0) ∧ (Boxed W M 3 (.int .i64 ((R : Int) - (pre.length : Nat))) ∧ (W.heap[D]? = some (.deferred (some [])) ∧ (Below N w W ∧ pre.length ≤ R)))))
          (fun k pre W => Boxed W (N + 1) 3 (.int .i64 (lastP pre : Nat)) ∧ (Boxed W (N + 2) 23 (.int .i64 0) ∧ (W.heap[D]? = some (.deferred (some [])) ∧ (Below N w W ∧ (pre.length = R + 1 ∧ k = .ret)))))
          (OwnFrom.and (Own.from (boxed_own _ _ _) _) (OwnFrom.and (Own.from (boxed_own _ _ _) _) (OwnFrom.and (Own.from (boxed_own _ _ _) _) (OwnFrom.and (at_own (by omega)) (OwnFrom.and (ownFrom_below hNw (by omega)) (fun _ _ _ _ hs _ _ => hs))))))
          (fun k => OwnFrom.and (Own.from (boxed_own _ _ _) _) (OwnFrom.and (Own.from (boxed_own _ _ _) _) (OwnFrom.and (at_own (by omega)) (OwnFrom.and (ownFrom_below hNw (by omega)) (fun _ _ _ _ hs _ _ => hs)))))
          ⟨bE1, bE2, by simpa using bn, bED, hBB, by simp⟩
          (fun x => { tmps := #[.slice a len cap, .agg #[.int .i64 num, .int .i64 t, .int .i64 c, .slice la ln lc], undef, .pointer (some ⟨N, 0, none⟩), .pointer (some ⟨N + 1, 0, none⟩), .pointer (some ⟨N + 2, 0, none⟩), .pointer (some ⟨N + 3, 0, none⟩), .pointer (some ⟨M, 0, none⟩), .int .i64 (x : Nat), .slice a len cap, .pointer (some ⟨N, 1, none⟩), .int .i64 t, .func (.func 61) #[] #[.pointer (some ⟨N + 4, 0, none⟩), .pointer (some ⟨N + 5, 0, none⟩)], undef, undef, undef, .bool false, .int .i64 (f : Nat), .bool false, .bool false, .pointer (some ⟨N, 2, none⟩), .int .i64 c, .bool false, .pointer (some ⟨N, 2, none⟩), .int .i64 c, .int .i64 (f : Nat), .int .i64 (R : Nat), .slice a len cap, .pointer (some ⟨N, 1, none⟩), .int .i64 t, .func (.func 61) #[] #[.pointer (some ⟨M + 1, 0, none⟩), .pointer (some ⟨M + 2, 0, none⟩)], .int .i64 (x : Nat), undef, undef, undef, undef, undef], defers := [] }) ?assign2 ?body2 ?done2 ?stop2
        case assign2 =>
          intro l x W K hK
          dsimp only [encP]
          gi_wp2
          exact hK
        case body2 =>
          rintro l pre x W ⟨b1, b2, b3, bD, hBW, hpR⟩ hlt
          have HX : Hid (((pre ++ [x]).length : Nat) = pre.length + 1) := Lib.hid (by simp)
          have HLP := Lib.hid (lastP_snoc pre x)
          obtain ⟨m, hm2⟩ : ∃ m, m = pre.length := ⟨_, rfl⟩
          rw [← hm2] at b3 hlt HX hpR
          have c3 := b3.cell
          have c1 := b1.cell
          have c2 := b2.cell
          have hf3 : W.frozen? ⟨M, 0, none⟩ = false := free_at b3 0
          have hf1 : W.frozen? ⟨N + 1, 0, none⟩ = false := free_at b1 0
          have hf2 : W.frozen? ⟨N + 2, 0, none⟩ = false := free_at b2 0
          clear hm2
          by_cases hz3 : (R : Int) - m = 0
          · have hz4 : ((R : Int) - m == 0) = true := by simpa using hz3
            have HRM : Hid (m = R) := Lib.hid (by omega)
            gi_wp2
            obtain ⟨WX, hWX⟩ : ∃ WX, WX = (W.setCell ⟨N + 1, 0, none⟩ (.int .i64 (x : Nat))).setCell ⟨N + 1 + 1, 0, none⟩ (.int .i64 0) := ⟨_, rfl⟩
            have hne : ∀ k, k ≠ N + 1 → k ≠ N + 2 → WX.heap[k]? = W.heap[k]? := fun k h1 h2 => by rw [hWX]; exact (heap_setCell_ne _ _ _ _ (by simpa using h2)).trans (heap_setCell_ne _ _ _ _ (by simpa using h1))
            have g1 : Boxed WX (N + 1) 3 (.int .i64 (lastP (pre ++ [x]) : Nat)) := by
              rw [hWX, HLP.out]
              exact (heap_setCell_ne _ _ _ _ (by simp)).trans (b1.set _)
            have g2 : Boxed WX (N + 2) 23 (.int .i64 0) := by
              rw [hWX]
              have k2 : Boxed (W.setCell ⟨N + 1, 0, none⟩ (.int .i64 (x : Nat))) (N + 2) 23 (.int .i64 0) := (heap_setCell_ne _ _ _ _ (by simp)).trans b2
              exact k2.set _
            have hBX : Below N w WX := by
              rw [hWX]
              exact (hBW.setCell (p := ⟨N + 1, 0, none⟩) (by simp) _).setCell (p := ⟨N + 1 + 1, 0, none⟩) (by simp; try omega) _
            have hKX : KeepsOthers W WX := by
              rw [hWX]
              exact KeepsOthers.trans (KeepsOthers.setCell _ _ _) (KeepsOthers.setCell _ _ _)
            rw [← hWX]
            exact ⟨hKX, g1, g2, (hne D (by omega) (by omega)).trans bD, hBX, by rw [HX.out, HRM.out], rfl⟩
          · have hz4 : ((R : Int) - m == 0) = false := by simpa using hz3
            gi_wp2
            have e9 : (R : Int) - ((m + 1 : Nat) : Int) = (R : Int) - m - 1 := by omega
            have hne : ∀ k, k ≠ M → (W.setCell ⟨M, 0, none⟩ (.int .i64 ((R : Int) - m - 1))).heap[k]? = W.heap[k]? := fun k hk => heap_setCell_ne _ _ _ _ (by simpa using hk)
            refine ⟨KeepsOthers.setCell _ _ _, ⟨by rw [← HN.out]; exact (Below.refl N W).setCell (p := ⟨M, 0, none⟩) (by simp; omega) _, hne _ (by omega), hne _ (by omega)⟩, (hne _ (by omega)).trans b1, (hne _ (by omega)).trans b2, ?_, (hne _ (by omega)).trans bD, hBW.setCell (p := ⟨M, 0, none⟩) (by simp; omega) _, by rw [HX.out]; omega⟩
            rw [HX.out, e9]
            exact b3.set _
        case done2 =>
          rintro D2 ys W hD2 hys ⟨_, _, _, _, _, hle⟩ _
          exfalso
          rw [hys, ← HLL.out, ← HFF.out] at hle
          omega
        case stop2 =>
          rintro D2 k pre W hD2 ⟨j, hj, hpj, _⟩ ⟨b1, b2, bD, hBW, hpre, rfl⟩ hK2
          have HF : Hid (L.getD R 0 = lastP pre) := Lib.hid (by
            obtain ⟨tl, htl⟩ := plcs_pre t E j len hj
            rw [HLL.out, htl, ← hpj]
            exact last_at pre tl R hpre)
          clear hpj
          gi_wp2
          have hKD : (W.putObj D2 (Obj.deferred none)).heap[D]? = some (.deferred (some [])) := (World.putObj_heap_other (by omega)).trans bD
          refine ⟨by simp, .inl ⟨_, _, rfl, run_takeDeferred hK2, by simp, .inl ⟨_, _, rfl, run_takeDeferred hKD, ?_⟩⟩⟩
          have hr1 : Boxed ((W.putObj D2 (Obj.deferred none)).putObj D (Obj.deferred none)) (N + 1) 3 (.int .i64 (lastP pre : Nat)) := (World.putObj_heap_other (by omega)).trans ((World.putObj_heap_other (by omega)).trans b1)
          have hr2 : Boxed ((W.putObj D2 (Obj.deferred none)).putObj D (Obj.deferred none)) (N + 2) 23 (.int .i64 0) := (World.putObj_heap_other (by omega)).trans ((World.putObj_heap_other (by omega)).trans b2)
          have q1 : ((W.putObj D2 (Obj.deferred none)).putObj D (Obj.deferred none)).cell? ⟨N + 1, 0, none⟩ = some (.int .i64 (lastP pre : Nat)) := hr1.cell
          have q2 : ((W.putObj D2 (Obj.deferred none)).putObj D (Obj.deferred none)).cell? ⟨N + 1 + 1, 0, none⟩ = some (.int .i64 0) := hr2.cell
          refine ⟨_, (by simp [results, Try.results23, go_sem, q1, q2]; rfl), by rw [HKK.out, HEE.out, HF.out], ?_⟩
          rw [← HN.out]
          exact (hBW.trans (belowK_b (w := W2) (by omega) W D2 _ _ hD2 hK2 rfl rfl)).trans (belowK_b (w := W0) (by omega) _ D _ _ hD hKD rfl rfl)
  case stop =>
    rintro D c pre W _ _ h _
    exact h.elim
end Go.Proofs.Ytoodmocapagapaa
namespace Go.Proofs.Ytoodmocapagapaa
open Go.RowKit
set_option linter.unusedSimpArgs false
set_option linter.unusedVariables false

theorem p_one_at (W : World) (x : Value) (e : TypeId) : ∀ (j : Nat) (u : Value), [x][j]? = some u → (W.alloc (.cells #[x] e)).cell? ((⟨W.heap.size, 0, none⟩ : Addr).add j) = some u := by
  intro j u h
  match j with
  | 0 =>
    simp only [List.getElem?_cons_zero] at h
    rw [show ((⟨W.heap.size, 0, none⟩ : Addr).add 0) = ⟨W.heap.size, 0, none⟩ by rfl, cell_at (heap_alloc_new W _) 0]
    simpa using h
  | j + 1 => simp at h
def ownV (l : List Nat) : List Value := l.map fun x => .int .i64 (x : Nat)
theorem infoI64 : (Try.prog.info? 3).map (fun i => (i.zero, i.size, i.bytes)) = some (some (.int .i64 0), 1, 8) := by kernel_rfl

set_option maxRecDepth 100000 in
set_option maxHeartbeats 8000000 in
theorem rflow_any (num t c : Int) (la : Option Addr) (ln lc : Nat) (a : Option Addr) (len cap b o : Nat) (E : Nat → FlowE) (w : World) (hs : FlowIn w a len cap b o E) (h60 : len ≤ 60) :
    Calls Try.prog 37 #[.slice a len cap, .agg #[.int .i64 num, .int .i64 t, .int .i64 c, .slice la ln lc]] w fun e w' => e = .returned (.tuple #[.int .i64 (flowK t c E len), .int .i64 (flowE t c E len)]) ∧ Below w.heap.size w w' := by
  obtain ⟨i0, hi, hz0, hz1, hz2⟩ := info_parts infoI64
  have HI := Lib.hid hi
  have HZ0 := Lib.hid hz0
  have HZ1 := Lib.hid hz1
  have HZ2 := Lib.hid hz2
  have hm := hs.max
  have hl := hs.le
  unfold maxLen at hm
  have HS := Lib.hid hs
  have HKF : Hid (flowK t c E len = if (plcs t E len).length = 0 then 0 else if c < 0 then 0 else (((plcs t E len).getD (c % ((plcs t E len).length : Int)).toNat 0 : Nat) : Int)) := Lib.hid rfl
  have HEF : Hid (flowE t c E len = if (plcs t E len).length = 0 then 161 else if c < 0 then 2 else 0) := Lib.hid rfl
  obtain ⟨kf, hkf⟩ : ∃ kf, kf = flowK t c E len := ⟨_, rfl⟩
  obtain ⟨ef, hef⟩ : ∃ ef, ef = flowE t c E len := ⟨_, rfl⟩
  rw [← hkf] at HKF ⊢
  rw [← hef] at HEF ⊢
  clear hs hi hz0 hz1 hz2 hkf hef
  obtain ⟨PB, hPB⟩ : ∃ PB, PB = Obj.cells #[.int .i64 num, .int .i64 t, .int .i64 c, .slice la ln lc] 53 (0, 0) := ⟨_, rfl⟩
  have HP0 : Hid (Blk (w.alloc PB) w.heap.size #[.int .i64 num, .int .i64 t, .int .i64 c, .slice la ln lc] 53) := Lib.hid (by rw [hPB]; exact heap_alloc_new w _)
  have HB0 : Hid (Below w.heap.size w (w.alloc PB)) := Lib.hid ((Below.refl _ _).alloc (Nat.le_refl _) _)
  subst hPB
  go_enter Try.func37, Try.ntmps37
  go_wp2_with fail
  go_loopw [6, 7] (fun v i wr => ∃ (k : Nat) (ob : Option Nat), k ≤ len ∧ i = .int .i64 k ∧ Row wr v ob 3 1 (plcs t E k).length (ownV (plcs t E k)) ∧ (∀ g, ob = some g → w.heap.size < g) ∧ Blk wr w.heap.size #[.int .i64 num, .int .i64 t, .int .i64 c, .slice la ln lc] 53 ∧ Below w.heap.size w wr) (fun _ i _ => len - (intOf i).toNat)
  case atStart => exact ⟨0, none, Nat.zero_le _, rfl, Row.nil _ _ _, (fun _ h => by cases h), HP0.out, HB0.out⟩
  case round =>
    obtain ⟨k, ob, hk, rfl, hr, hob, hP, hB⟩ := hrel
    have p1 : wr.cell? ⟨w.heap.size, 1, none⟩ = some (.int .i64 t) := cell_at hP 1
    have p2 : wr.cell? ⟨w.heap.size, 2, none⟩ = some (.int .i64 c) := cell_at hP 2
    have hPl := hP.lt
    have hpl := plcs_len t E k
    have HR := Lib.hid hr
    have HG := Lib.hid hob
    have HP := Lib.hid hP
    have HB := Lib.hid hB
    clear hr hob hP hB
    by_cases hlt : k < len
    · obtain ⟨e0, e1⟩ := HS.out.at_ (by omega)
      subst e0
      have HSr := Lib.hid (HS.out.below HB.out)
      obtain ⟨k0, _, _⟩ := HSr.out.cell k hlt
      obtain ⟨et, het⟩ : ∃ et, et = (E k).t := ⟨_, rfl⟩
      rw [← het] at k0
      obtain ⟨q, hq⟩ : ∃ q, q = (et == t) := ⟨_, rfl⟩
      have HT : Hid (plcs t E (k + 1) = plcs t E k ++ if q then [k] else []) := Lib.hid (by rw [hq, het]; rfl)
      have hq2 := hq.symm
      obtain ⟨L, hL⟩ : ∃ L, L = plcs t E k := ⟨_, rfl⟩
      rw [← hL] at HR HT hpl
      obtain ⟨f, hf⟩ : ∃ f, f = L.length := ⟨_, rfl⟩
      rw [← hf] at HR hpl
      have HF := Lib.hid hf
      clear hL hf het hq
      obtain ⟨av, cv, hv, hcv1, hcv2, hav⟩ := HR.out.shape
      subst hv
      unfold maxLen at hcv2
      clear hav
      cases q
      · go_wp2_with fail
        go_quiet (fail)
        obtain ⟨wq, hwq⟩ : ∃ wq, wq = wr.drewN nq := ⟨_, rfl⟩
        have HRq : Hid (Row wq (.slice av f cv) ob 3 1 f (ownV L)) := Lib.hid (by rw [hwq]; exact HR.out.congr fun _ _ => rfl)
        have HBq : Hid (Below w.heap.size w wq) := Lib.hid (by rw [hwq]; exact below_drewN HB.out _)
        have HPq : Hid (Blk wq w.heap.size #[.int .i64 num, .int .i64 t, .int .i64 c, .slice la ln lc] 53) := Lib.hid (by rw [hwq]; exact HP.out)
        have hPlq := HPq.out.lt
        try rw [← hwq]
        clear hwq p1 p2 k0 hPl
        go_wp2_with fail
        go_roundw
        case rel => exact ⟨k + 1, ob, by omega, by go_num, by rw [HT.out]; simpa [← HF.out] using HRq.out, HG.out, HPq.out, HBq.out⟩
        case measure => first | (simp [intOf]; done) | (simp [intOf]; omega)
      · have hb8 : ((f : Int) + 1) * 8 ≤ 140737488355328 := by omega
        go_wp2_with fail
        go_quiet (fail)
        obtain ⟨wq, hwq⟩ : ∃ wq, wq = wr.drewN nq := ⟨_, rfl⟩
        have HRq : Hid (Row wq (.slice av f cv) ob 3 1 f (ownV L)) := Lib.hid (by rw [hwq]; exact HR.out.congr fun _ _ => rfl)
        have HBq : Hid (Below w.heap.size w wq) := Lib.hid (by rw [hwq]; exact below_drewN HB.out _)
        have HPq : Hid (Blk wq w.heap.size #[.int .i64 num, .int .i64 t, .int .i64 c, .slice la ln lc] 53) := Lib.hid (by rw [hwq]; exact HP.out)
        have hPlq := HPq.out.lt
        try rw [← hwq]
        clear hwq p1 p2 k0 hPl
        go_wp2_with (at_builtin; refine wpList_append_row _ rfl (.tmp 22) (.tmp 24) 76 rfl 3 i0 _ 1 8 Try.underlying76 HI.out HZ0.out HZ1.out HZ2.out rfl (by decide) _ ob f (ownV L) rfl (HRq.out.alloc _) ⟨wq.heap.size, 0, none⟩ 1 1 [.int .i64 (k : Nat)] rfl (by decide) rfl ?c1 ?c2 ?c3 ?c4 ?_)
        case c1 => exact p_one_at wq _ _
        case c2 => intro u hu; exact (List.all_eq_true (p := fun u : Value => u.oneCell')).1 rfl u hu
        case c3 => unfold maxLen; omega
        case c4 => omega
        intro v1' ob1' W3 hrow3 hg3 hob3
        have hzA : (wq.alloc (.cells #[.int .i64 (k : Nat)] 3)).heap.size = wq.heap.size + 1 := by simp
        have hob1 : w.heap.size < ob1' := by
          rcases hob3 with h | h
          · exact HG.out _ h
          · omega
        have HP3 : Hid (Blk W3 w.heap.size #[.int .i64 num, .int .i64 t, .int .i64 c, .slice la ln lc] 53) := Lib.hid ((hg3.block _ (by omega) (fun e => by have := HG.out _ e.symm; omega)).trans ((Below.heap_alloc _ _ _ hPlq).trans HPq.out))
        have HB3 : Hid (Below w.heap.size w W3) := Lib.hid ((HBq.out.alloc HBq.out.size _).grown hg3 (by omega) (fun g e => by have := HG.out _ e; omega))
        have HR3 := Lib.hid hrow3
        have HO3 := Lib.hid hob1
        clear hg3 hob3 hrow3 hob1
        go_wp2_with fail
        go_roundw
        case rel => exact ⟨k + 1, some ob1', by omega, by go_num, by rw [HT.out]; simp only [if_true, List.length_append, ← HF.out, ownV, List.map_append]; exact HR3.out, (fun g e => by obtain rfl := Option.some.inj e; exact HO3.out), HP3.out, HB3.out⟩
        case measure => first | (simp [intOf]; done) | (simp [intOf]; omega)
    · obtain rfl : k = len := by omega
      obtain ⟨L, hL⟩ : ∃ L, L = plcs t E k := ⟨_, rfl⟩
      rw [← hL] at HR hpl HKF HEF
      obtain ⟨f, hf⟩ : ∃ f, f = L.length := ⟨_, rfl⟩
      rw [← hf] at HR hpl HKF HEF
      have HF := Lib.hid hf
      clear hL hf
      obtain ⟨av, cv, hv, hcv1, hcv2, hav⟩ := HR.out.shape
      subst hv
      unfold maxLen at hcv2
      by_cases hz : f = 0
      · subst hz
        go_wp2_with fail
        go_ret2
        exact ⟨by rw [HKF.out, HEF.out]; simp, HB.out⟩
      · have hz2 : ((f : Int) == 0) = false := by simpa using hz
        by_cases hc0 : c < 0
        · have d0 : decide (c < 0) = true := by simpa using hc0
          go_wp2_with fail
          go_ret2
          exact ⟨by rw [HKF.out, HEF.out]; simp [hz, hc0], HB.out⟩
        · have d0 : decide (c < 0) = false := by simpa using hc0
          obtain ⟨R, hR⟩ : ∃ R : Nat, c % (f : Int) = (R : Nat) := ⟨(c % (f : Int)).toNat, by have := Int.emod_nonneg c (b := (f : Int)) (by omega); omega⟩
          have hRf : R < f := by have := Int.emod_lt_of_pos c (b := (f : Int)) (by omega); omega
          rw [hR] at HKF
          have HKK : Hid (kf = (L.getD R 0 : Nat)) := Lib.hid (by rw [HKF.out, if_neg hz, if_neg (by omega)]; simp)
          have HEE : Hid (ef = 0) := Lib.hid (by rw [HEF.out, if_neg hz, if_neg (by omega)])
          obtain ⟨g, hg, hgc, _⟩ := HR.out.cell R (by omega)
          have hgc2 : wr.cell? ⟨g, R, none⟩ = some (.int .i64 (L.getD R 0 : Nat)) := by
            rw [hgc, ownV, List.getElem?_map, List.getD_eq_getElem?_getD, List.getElem?_eq_getElem (by rw [← HF.out]; exact hRf)]
            rfl
          obtain ⟨y, hy⟩ : ∃ y, y = L.getD R 0 := ⟨_, rfl⟩
          rw [← hy] at hgc2
          rw [hg] at hav
          simp only [Option.map_some] at hav
          subst hav
          have HY := Lib.hid hy
          clear hgc hg hy
          go_wp2_with fail
          go_ret2
          exact ⟨by rw [HKK.out, HEE.out, ← HY.out]; rfl, HB.out⟩
end Go.Proofs.Ytoodmocapagapaa
namespace Go.Proofs.Ytoodmocapagapaa
open Go.RowKit
set_option linter.unusedSimpArgs false
set_option linter.unusedVariables false

/-- A row of bytes. -/
structure ByIn (W : World) (a : Option Addr) (len cap : Nat) (b o : Nat) (X : Nat → Nat) : Prop where
  le : len ≤ cap
  max : cap ≤ maxLen
  at_ : 0 < len → a = some ⟨b, o, none⟩ ∧ b < W.heap.size
  cell : ∀ k, k < len → W.cell? ⟨b, o + k, none⟩ = some (.int .u8 (X k : Nat))
  bd : ∀ k, X k < 256
theorem by_cells (W : World) {a : Option Addr} {len cap : Nat} {xs : List Dt} (h : SliceFits Try.prog W 5 a len cap xs) : ∃ (b o : Nat) (X : Nat → Nat), ByIn W a len cap b o X := by
  have hc : Try.prog.cellsOf 5 = 1 := by kernel_rfl
  obtain ⟨b, o, h1, h2⟩ := h.spot (by rw [hc]; omega)
  have hex : ∀ k, ∃ q : Nat, (k < len → W.cell? ⟨b, o + k, none⟩ = some (.int .u8 (q : Nat))) ∧ q < 256 := fun k => by
    by_cases hk : k < len
    · have hl := h.length
      have hx := List.getElem?_eq_getElem (l := xs) (i := k) (by omega)
      obtain ⟨n0, e0, g0⟩ := (h.each k _ hx).1.int_inv Try.underlying5
      have hcell := h2 k _ hx
      rw [e0, hc] at hcell
      have g1 : 0 ≤ n0 ∧ n0 ≤ 255 := g0
      obtain ⟨q, rfl⟩ := Int.eq_ofNat_of_zero_le g1.1
      exact ⟨q, fun _ => by have := hcell 0 _ rfl; rwa [Nat.mul_one] at this, by omega⟩
    · exact ⟨0, fun h => absurd h hk, by omega⟩
  have hg := fun k => Classical.choose_spec (hex k)
  exact ⟨b, o, fun k => Classical.choose (hex k), h.le, h.max, h1, fun k hk => (hg k).1 hk, fun k => (hg k).2⟩
theorem ByIn.below {W W' : World} {a : Option Addr} {len cap b o : Nat} {X : Nat → Nat} (h : ByIn W a len cap b o X) (hB : Below W.heap.size W W') : ByIn W' a len cap b o X :=
  ⟨h.le, h.max, fun hk => ⟨(h.at_ hk).1, by have := (h.at_ hk).2; have := hB.size; omega⟩, fun k hk => (hB.cell (p := ⟨b, _, none⟩) (h.at_ (by omega)).2).trans (h.cell k hk), h.bd⟩


/-- what goes beyond 16 bits, brought round -/
def carN (s : Nat) : Nat := if 65535 < s then s - 65535 else s
theorem carN_le {s : Nat} (h : s ≤ 131070) : carN s ≤ 65535 := by unfold carN; split <;> omega
theorem p_wraps_u32 (n : Int) (h0 : 0 ≤ n) (h1 : n < 4294967296) : IntKind.u32.wrap n = n := by rw [IntKind.wrap_u32]; omega
theorem and_low16 (s : Nat) (h : s ≤ 131070) : bits .and .u32 s 65535 = ((s % 65536 : Nat) : Int) := by
  have h1 := bits_mask .u32 32 (by decide) (fun n h0 h1 => p_wraps_u32 n h0 (by omega)) 16 (by omega) (s : Int) (by omega) (by omega)
  simp only [Int.reducePow, Int.reduceSub] at h1
  rw [h1]; omega
theorem carry_any (s : Nat) (h : s ≤ 131070) (w : World) : Calls Try.prog 74 #[.int .u32 (s : Nat)] w fun e w' => e = .returned (.int .u32 (carN s : Nat)) ∧ w = w' := by
  have h1 := and_low16 s h
  have HC : Hid (((carN s : Nat) : Int) = (s : Int) % 65536 + (s : Int) / 65536) := Lib.hid (by unfold carN; split <;> omega)
  go_enter Try.func74, Try.ntmps74
  go_wp2_with fail
  go_ret
  exact ⟨by rw [HC.out]; rfl, rfl⟩

theorem carry_anyI (v : Int) (s : Nat) (hv : v = (s : Nat)) (h : s ≤ 131070) (w : World) : Calls Try.prog 74 #[.int .u32 v] w fun e w' => e = .returned (.int .u32 (carN s : Nat)) ∧ w = w' := by
  subst hv
  exact carry_any s h w
theorem p_quietQ {P : Program} {f : FuncId} {args : Array Value} {w : World} {n : Nat} {v : Value}
    (h : Calls P f args (w.drewN n) fun e w' => e = .returned v ∧ w.drewN n = w') : Calls P f args (w.drewN n) fun e w'' => e = .returned v ∧ ∃ m, w'' = w.drewN m :=
  h.mono fun _ _ ⟨he, hm⟩ => ⟨he, n, hm.symm⟩
theorem not_u16 (s : Nat) (h : s ≤ 65535) : bits .xor .u16 IntKind.u16.max (s : Int) = 65535 - (s : Int) := by
  have e1 : BitVec.ofInt 16 (s : Int) = BitVec.ofNat 16 s := by simp [BitVec.ofInt_natCast]
  have e2 : BitVec.ofInt 16 IntKind.u16.max = BitVec.allOnes 16 := by decide
  show IntKind.u16.wrap ((BitVec.ofInt 16 IntKind.u16.max ^^^ BitVec.ofInt 16 (s : Int)).toNat : Int) = _
  rw [e1, e2, BitVec.allOnes_xor, BitVec.toNat_not, BitVec.toNat_ofNat, Nat.mod_eq_of_lt (by omega)]
  have : IntKind.u16.wrap ((2 ^ 16 - 1 - s : Nat) : Int) = ((2 ^ 16 - 1 - s : Nat) : Int) := by rw [IntKind.wrap_u16]; omega
  rw [this]
  omega

/-- the sum behind j words -/
def psumW (X : Nat → Nat) : Nat → Nat
  | 0 => 0
  | j + 1 => carN (psumW X j + X (2 * j) * 256 + X (2 * j + 1))
theorem sumW_le (X : Nat → Nat) (hX : ∀ k, X k < 256) : ∀ j, psumW X j ≤ 65535
  | 0 => by simp [psumW]
  | j + 1 => by
    have := sumW_le X hX j
    have h1 := hX (2 * j)
    have h2 := hX (2 * j + 1)
    exact carN_le (by omega)
/-- the sum of n bytes -/
def sumN16 (X : Nat → Nat) (n : Nat) : Nat := if n % 2 = 0 then psumW X (n / 2) else carN (psumW X (n / 2) + X (n - 1) * 256)
theorem sumN16_le (X : Nat → Nat) (hX : ∀ k, X k < 256) (n : Nat) : sumN16 X n ≤ 65535 := by
  unfold sumN16
  have := sumW_le X hX (n / 2)
  have h1 := hX (n - 1)
  split
  · exact this
  · exact carN_le (by omega)

set_option maxRecDepth 100000 in
set_option maxHeartbeats 4000000 in
theorem pcheck_any (a : Option Addr) (len cap b o : Nat) (X : Nat → Nat) (w : World) (hb : ByIn w a len cap b o X) :
    Calls Try.prog 58 #[.slice a len cap] w fun e w' => e = .returned (.int .u16 ((65535 : Int) - (sumN16 X len : Nat))) ∧ Below w.heap.size w w' := by
  have hm := hb.max
  have hl := hb.le
  unfold maxLen at hm
  have HB := Lib.hid hb
  clear hb
  obtain ⟨S, hS⟩ : ∃ S, S = sumN16 X len := ⟨_, rfl⟩
  have hS9 : S ≤ 65535 := by rw [hS]; exact sumN16_le X HB.out.bd len
  have HSN := Lib.hid hS
  rw [← hS]
  clear hS
  go_enter Try.func58, Try.ntmps58
  go_wp2_with fail
  go_step3
  go_wp2_with fail
  go_step3
  go_wp2_with fail
  go_loopw [3, 4] (fun s i wr => ∃ j : Nat, 2 * j ≤ len ∧ i = .int .i64 ((2 * j : Nat) : Int) ∧ s = .int .u32 (psumW X j : Nat) ∧ Below w.heap.size w wr) (fun _ i _ => len - (intOf i).toNat)
  case atStart => exact ⟨0, by omega, rfl, rfl, Below.refl _ _⟩
  case round =>
    obtain ⟨j, hj, rfl, rfl, hB⟩ := hrel
    have hsl := sumW_le X HB.out.bd j
    obtain ⟨s, hs⟩ : ∃ s, s = psumW X j := ⟨_, rfl⟩
    rw [← hs] at hsl ⊢
    have HSJ := Lib.hid hs
    have HBB := Lib.hid hB
    clear hs hB
    by_cases h0 : len = 2 * j
    · have d0 : ((len : Int) - ((2 * j : Nat) : Int) == 0) = true := by simp; omega
      have hn := not_u16 s hsl
      have HS2 : Hid (S = s) := Lib.hid (by rw [HSN.out, HSJ.out, sumN16, if_pos (by omega), h0]; simp)
      go_wp2_with fail
      go_ret
      exact ⟨by rw [HS2.out]; rfl, HBB.out⟩
    · have d0 : ((len : Int) - ((2 * j : Nat) : Int) == 0) = false := by simp; omega
      obtain ⟨e0, e1⟩ := HB.out.at_ (by omega)
      subst e0
      have HBr := Lib.hid (HB.out.below HBB.out)
      have k0 := HBr.out.cell (2 * j) (by omega)
      have x0 := HB.out.bd (2 * j)
      obtain ⟨x, hx⟩ : ∃ x, x = X (2 * j) := ⟨_, rfl⟩
      rw [← hx] at k0 x0
      have HX := Lib.hid hx
      clear hx
      by_cases h1 : len = 2 * j + 1
      · have d1 : ((len : Int) - ((2 * j : Nat) : Int) == 1) = true := by simp; omega
        have hcl : carN (s + x * 256) ≤ 65535 := carN_le (by omega)
        have HS2 : Hid (S = carN (s + x * 256)) := Lib.hid (by rw [HSN.out, HSJ.out, sumN16, if_neg (by omega), HX.out, h1, show (2 * j + 1) / 2 = j by omega, show 2 * j + 1 - 1 = 2 * j by omega])
        have HC : Hid (∀ v W, v = ((s + x * 256 : Nat) : Int) → Calls Try.prog 74 #[.int .u32 v] W fun e w' => e = .returned (.int .u32 (carN (s + x * 256) : Nat)) ∧ W = w') := Lib.hid (fun v W hv => carry_anyI v _ hv (by omega) W)
        obtain ⟨c, hc⟩ : ∃ c, c = carN (s + x * 256) := ⟨_, rfl⟩
        rw [← hc] at hcl HS2 HC
        clear hc
        have hn := not_u16 c hcl
        go_wp2_with (go_at_call 74; refine (HC.out _ _ (by omega)).mono ?_; rintro e w1 ⟨rfl, rfl⟩)
        go_ret
        exact ⟨by rw [HS2.out]; rfl, HBB.out⟩
      · have d1 : ((len : Int) - ((2 * j : Nat) : Int) == 1) = false := by simp; omega
        have k1 := HBr.out.cell (2 * j + 1) (by omega)
        have y0 := HB.out.bd (2 * j + 1)
        obtain ⟨y, hy⟩ : ∃ y, y = X (2 * j + 1) := ⟨_, rfl⟩
        rw [← hy] at k1 y0
        have HY := Lib.hid hy
        clear hy
        have HC : Hid (∀ v W, v = ((s + x * 256 + y : Nat) : Int) → Calls Try.prog 74 #[.int .u32 v] W fun e w' => e = .returned (.int .u32 (carN (s + x * 256 + y) : Nat)) ∧ W = w') := Lib.hid (fun v W hv => carry_anyI v _ hv (by omega) W)
        have HN : Hid (psumW X (j + 1) = carN (s + x * 256 + y)) := Lib.hid (by rw [psumW, HSJ.out, HX.out, HY.out])
        obtain ⟨c, hc⟩ : ∃ c, c = carN (s + x * 256 + y) := ⟨_, rfl⟩
        rw [← hc] at HN HC
        clear hc
        go_wp2_with fail
        go_quiet ((go_at_call 74; exact p_quietQ (HC.out _ _ (by omega))))
        go_wp2_with fail
        go_roundw
        case rel => exact ⟨j + 1, by omega, by go_num, by rw [HN.out], below_drewN HBB.out _⟩
        case measure => first | (simp [intOf]; done) | (simp [intOf]; omega)
end Go.Proofs.Ytoodmocapagapaa
namespace Go.Proofs.Ytoodmocapagapaa
open Go.RowKit
set_option linter.unusedSimpArgs false
set_option linter.unusedVariables false

def eqB (X Y : Nat → Nat) : Nat → Bool
  | 0 => true
  | k + 1 => eqB X Y k && X k == Y k
theorem eqB_false (X Y : Nat → Nat) (k : Nat) (h : (X k == Y k) = false) : ∀ n, k < n → eqB X Y n = false
  | 0, hk => by omega
  | n + 1, hk => by
    unfold eqB
    by_cases e : k = n
    · subst e; rw [h, Bool.and_false]
    · rw [eqB_false X Y k h n (by omega), Bool.false_and]
theorem eqB_iff (X Y : Nat → Nat) : ∀ n, eqB X Y n = true ↔ ∀ k, k < n → X k = Y k
  | 0 => by simp [eqB]
  | n + 1 => by
    unfold eqB
    rw [Bool.and_eq_true, eqB_iff X Y n, beq_iff_eq]
    refine ⟨fun h k hk => ?_, fun h => ⟨fun k hk => h k (by omega), h n (by omega)⟩⟩
    by_cases e : k = n
    · subst e; exact h.2
    · exact h.1 k (by omega)

set_option maxRecDepth 100000 in
set_option maxHeartbeats 4000000 in
theorem equal_any (a : Option Addr) (n c b o : Nat) (X : Nat → Nat) (a' : Option Addr) (n' c' b' o' : Nat) (Y : Nat → Nat) (w : World) (h1 : ByIn w a n c b o X) (h2 : ByIn w a' n' c' b' o' Y) :
    Calls Try.prog 40 #[.slice a n c, .slice a' n' c'] w fun e w' => e = .returned (.bool ((n == n') && eqB X Y n)) ∧ Below w.heap.size w w' := by
  have hm := h1.max
  have hl := h1.le
  have hm' := h2.max
  have hl' := h2.le
  unfold maxLen at hm hm'
  have HA := Lib.hid h1
  have HB := Lib.hid h2
  clear h1 h2
  obtain ⟨q, hq⟩ : ∃ q, q = ((n == n') && eqB X Y n) := ⟨_, rfl⟩
  have HQ := Lib.hid hq
  rw [← hq]
  clear hq
  by_cases hn : n = n'
  · subst hn
    have HQ2 : Hid (q = eqB X Y n) := Lib.hid (by rw [HQ.out]; simp)
    clear HQ
    go_enter Try.func40, Try.ntmps40
    go_wp2_with fail
    go_loopw [13] (fun i wr => ∃ k : Nat, k ≤ n ∧ i = .int .i64 k ∧ eqB X Y k = true ∧ Below w.heap.size w wr) (fun i _ => n - (intOf i).toNat)
    case atStart => exact ⟨0, Nat.zero_le _, rfl, rfl, Below.refl _ _⟩
    case round =>
      obtain ⟨k, hk, rfl, he, hB⟩ := hrel
      have HBB := Lib.hid hB
      have HE := Lib.hid he
      clear hB he
      by_cases hlt : k < n
      · obtain ⟨e0, e1⟩ := HA.out.at_ (by omega)
        obtain ⟨e2, e3⟩ := HB.out.at_ (by omega)
        subst e0 e2
        have k0 := (HA.out.below HBB.out).cell k hlt
        have k1 := (HB.out.below HBB.out).cell k hlt
        have x0 := HA.out.bd k
        have y0 := HB.out.bd k
        have HF : Hid ((X k == Y k) = false → eqB X Y n = false) := Lib.hid (fun h => eqB_false X Y k h n hlt)
        have HT : Hid ((X k == Y k) = true → eqB X Y (k + 1) = true) := Lib.hid (fun h => by unfold eqB; rw [HE.out, h]; rfl)
        obtain ⟨x, hx⟩ : ∃ x, x = X k := ⟨_, rfl⟩
        obtain ⟨y, hy⟩ : ∃ y, y = Y k := ⟨_, rfl⟩
        rw [← hx] at k0 x0 HF HT
        rw [← hy] at k1 y0 HF HT
        clear hx hy
        by_cases hxy : x = y
        · subst hxy
          have HT2 : Hid (eqB X Y (k + 1) = true) := Lib.hid (HT.out (by simp))
          go_wp2_with fail
          go_quiet (fail)
          go_wp2_with fail
          go_roundw
          case rel => exact ⟨k + 1, by omega, by go_num, HT2.out, below_drewN HBB.out _⟩
          case measure => first | (simp [intOf]; done) | (simp [intOf]; omega)
        · have HF2 : Hid (q = false) := Lib.hid (by rw [HQ2.out]; exact HF.out (by simpa using hxy))
          have d0 : ((x : Int) == (y : Int)) = false := by simp; omega
          go_wp2_with fail
          go_quiet (fail)
          go_wp2_with fail
          go_ret
          exact ⟨by rw [HF2.out]; rfl, below_drewN HBB.out _⟩
      · obtain rfl : k = n := by omega
        have HT2 : Hid (q = true) := Lib.hid (by rw [HQ2.out, HE.out])
        go_wp2_with fail
        go_ret
        exact ⟨by rw [HT2.out]; rfl, HBB.out⟩
  · have HF2 : Hid (q = false) := Lib.hid (by rw [HQ.out]; simp [hn])
    have d0 : ((n : Int) == (n' : Int)) = false := by simp; omega
    go_enter Try.func40, Try.ntmps40
    go_wp2_with fail
    go_ret
    exact ⟨by rw [HF2.out]; rfl, Below.refl _ _⟩
end Go.Proofs.Ytoodmocapagapaa
namespace Go.Proofs.Ytoodmocapagapaa
open Go.RowKit
set_option linter.unusedSimpArgs false
set_option linter.unusedVariables false

section
variable {P : Program} (w : World)
end

/-- some bytes, and more of them -/
def putB (Y : Nat → Nat) (n : Nat) (X : Nat → Nat) (j : Nat) : Nat := if j < n then Y j else X (j - n)
def rowV (Y : Nat → Nat) (n : Nat) : List Value := (List.range n).map fun j => .int .u8 (Y j : Nat)
theorem rowV_len (Y : Nat → Nat) (n : Nat) : (rowV Y n).length = n := by simp [rowV]
theorem rowV_at (Y : Nat → Nat) (n j : Nat) (h : j < n) : (rowV Y n)[j]? = some (.int .u8 (Y j : Nat)) := by simp [rowV, h]
theorem rowV_put (Y X : Nat → Nat) (n m : Nat) : rowV (putB Y n X) (n + m) = rowV Y n ++ rowV X m := by
  refine List.ext_getElem? fun j => ?_
  rw [List.getElem?_append, rowV_len]
  by_cases h : j < n
  · rw [if_pos h, rowV_at _ _ _ (by omega), rowV_at _ _ _ h, putB, if_pos h]
  · rw [if_neg h]
    by_cases h2 : j < n + m
    · rw [rowV_at _ _ _ h2, rowV_at _ _ _ (by omega), putB, if_neg h]
    · rw [List.getElem?_eq_none (by rw [rowV_len]; omega), List.getElem?_eq_none (by rw [rowV_len]; omega)]
theorem infoU8' : (Try.prog.info? 5).map (fun i => (i.zero, i.size, i.bytes)) = some (some (.int .u8 0), 1, 1) := by kernel_rfl
theorem rowV_one (Y : Nat → Nat) (n : Nat) : ∀ u ∈ rowV Y n, u.oneCell' = true := by
  intro u hu
  simp only [rowV, List.mem_map] at hu
  obtain ⟨j, _, rfl⟩ := hu
  rfl
theorem row_by {W : World} {v : Value} {ob : Option Nat} {n : Nat} {Y : Nat → Nat} (h : Row W v ob 5 1 n (rowV Y n)) (hY : ∀ j, Y j < 256) : ∃ a cap, v = .slice a n cap ∧ ByIn W a n cap (ob.getD 0) 0 Y := by
  obtain ⟨a, cap, rfl, h1, h2, h3⟩ := h.shape
  refine ⟨a, cap, rfl, h1, h2, fun hn => ?_, fun k hk => ?_, hY⟩
  · obtain ⟨g, hg, hc, _⟩ := h.cell 0 (by omega)
    subst hg
    exact ⟨h3, h.lt⟩
  · obtain ⟨g, hg, hc, _⟩ := h.cell k (by omega)
    subst hg
    rw [Nat.zero_add, Option.getD_some, hc, rowV_at Y n k hk]


set_option maxRecDepth 100000 in
set_option maxHeartbeats 4000000 in
theorem pclone_any (a : Option Addr) (n c b o : Nat) (X : Nat → Nat) (w : World) (h1 : ByIn w a n c b o X) (hn5 : n ≤ 5000) :
    Calls Try.prog 39 #[.slice a n c] w fun e w' => ∃ a' c' b', e = .returned (.slice a' n c') ∧ ByIn w' a' n c' b' 0 X ∧ (0 < n → w.heap.size ≤ b') ∧ Below w.heap.size w w' := by
  obtain ⟨i0, hi, hz0, hz1, hz2⟩ := info_parts infoU8'
  have HI := Lib.hid hi
  have HZ0 := Lib.hid hz0
  have HZ1 := Lib.hid hz1
  have HZ2 := Lib.hid hz2
  have hm := h1.max
  have hl := h1.le
  unfold maxLen at hm
  have HA := Lib.hid h1
  clear h1 hi hz0 hz1 hz2
  cases a with
  | none =>
    obtain rfl : n = 0 := by
      rcases Nat.eq_zero_or_pos n with h | h
      · exact h
      · exact absurd (HA.out.at_ h).1 (by simp)
    have hnil : ∀ W, (binOp .eql 42 (.slice none 0 c) (.slice none 0 0)).run Try.prog W = .ok (.bool true) W := fun _ => rfl
    go_enter Try.func39, Try.ntmps39
    go_wp2_with fail
    go_ret
    exact ⟨none, 0, 0, rfl, ⟨Nat.le_refl _, by unfold maxLen; omega, fun h => by omega, fun k hk => by omega, HA.out.bd⟩, (fun h => by omega), Below.refl _ _⟩
  | some p =>
    have hnil : ∀ W, (binOp .eql 42 (.slice (some p) n c) (.slice none 0 0)).run Try.prog W = .ok (.bool false) W := fun _ => rfl
    go_enter Try.func39, Try.ntmps39
    have HR0 : Hid (Row (w.alloc (.cells #[] 5)) (.slice (some ⟨w.heap.size, 0, none⟩) 0 0) (some w.heap.size) 5 1 0 (rowV X 0)) := Lib.hid (Row.mk (heap_alloc_new w _) (Nat.le_refl _) (by unfold maxLen; omega) rfl rfl)
    have HB0 : Hid (Below w.heap.size w (w.alloc (.cells #[] 5))) := Lib.hid ((Below.refl _ _).alloc (Nat.le_refl _) _)
    have hbd := HA.out.bd
    by_cases h0 : n = 0
    · subst h0
      go_wp2_with (at_builtin; refine wpList_append_row_zero _ rfl (.tmp 5) (.tmp 6) 42 rfl 5 i0 1 Try.underlying42 HI.out _ _ 0 _ rfl HR0.out (some p) c rfl ?_)
      go_wp2_with fail
      go_ret
      exact ⟨_, _, 0, rfl, ⟨Nat.le_refl _, by unfold maxLen; omega, fun h => by omega, fun k hk => by omega, HA.out.bd⟩, (fun h => by omega), HB0.out⟩
    · obtain ⟨e0, e1⟩ := HA.out.at_ (by omega)
      obtain rfl : p = ⟨b, o, none⟩ := Option.some.inj e0
      have hb8 : (0 + (n : Int)) * 1 ≤ 140737488355328 := by omega
      go_wp2_with (at_builtin; refine wpList_append_row _ rfl (.tmp 5) (.tmp 6) 42 rfl 5 i0 _ 1 1 Try.underlying42 HI.out HZ0.out HZ1.out HZ2.out rfl (by decide) _ _ 0 (rowV X 0) rfl HR0.out ⟨b, o, none⟩ n c (rowV X n) rfl (by omega) (by rw [rowV_len, Nat.mul_one]) ?c1 (rowV_one X n) ?c3 ?c4 ?_)
      case c1 =>
        intro j u hu
        have hj : j < n := by have := (List.getElem?_eq_some_iff.1 hu).1; rwa [rowV_len] at this
        rw [rowV_at X n j hj] at hu
        obtain rfl := Option.some.inj hu
        exact HA.out.cell j hj
      case c3 => unfold maxLen; omega
      case c4 => omega
      intro v' ob' W3 hrow3 hg3 hob3
      have hB3 : Below w.heap.size w W3 := HB0.out.grown hg3 (by simp) (fun g e => by obtain rfl := Option.some.inj e; exact Nat.le_refl _)
      have hrow4 : Row W3 v' (some ob') 5 1 n (rowV X n) := by
        first | exact hrow3 | (rw [Nat.zero_add] at hrow3; exact hrow3)
      obtain ⟨a', c', rfl, hby⟩ := row_by hrow4 hbd
      have HBY := Lib.hid hby
      have HB3 := Lib.hid hB3
      have HOB : Hid (w.heap.size ≤ ob') := Lib.hid (by
        rcases hob3 with h | h
        · exact Nat.le_of_eq (by first | exact h | exact Option.some.inj h)
        · rw [h]; simp)
      clear hrow3 hg3 hob3 hrow4 hby hB3
      go_wp2_with fail
      go_ret
      exact ⟨a', c', _, rfl, HBY.out, (fun _ => HOB.out), HB3.out⟩
end Go.Proofs.Ytoodmocapagapaa
namespace Go.Proofs.Ytoodmocapagapaa
open Go.RowKit
set_option linter.unusedSimpArgs false
set_option linter.unusedVariables false

set_option maxRecDepth 100000 in
set_option maxHeartbeats 4000000 in
theorem grow_nil (n : Nat) (w : World) (h0 : 0 < n) (h1 : n ≤ 5000) :
    Calls Try.prog 73 #[.slice none 0 0, .int .i64 (n : Nat)] w fun e w' => ∃ v g, e = .returned v ∧ Row w' v (some g) 5 1 0 [] ∧ w.heap.size ≤ g ∧ Below w.heap.size w w' := by
  obtain ⟨i0, hi, hz0, hz1, hz2⟩ := info_parts infoU8'
  have hrun := Lib.run_append_nil_zeros (P := Try.prog) w 42 3 42 5 i0 (.int .u8 0) .i64 .i64 Try.underlying42 Try.underlying3 hi hz0 n h0 (by rw [hz1]; omega) (by omega) (by rw [hz2]; omega)
  obtain ⟨G, hG⟩ : ∃ G, G = grownCap w n 0 5 := ⟨_, rfl⟩
  have hG1 : n ≤ G := by rw [hG]; exact grownCap_ge w n 0 _
  have hG2 : G ≤ maxLen := by rw [hG]; exact grownCap_le_maxLen w n 0 _ (by unfold maxLen; omega)
  rw [← hG] at hrun
  have HROW : Hid (Row (w.drew.alloc (.cells (Builtin.zeroCells (Value.int .u8 0).cells n ++ Builtin.zeroCells (Value.int .u8 0).cells (G - n)) 5)) (.slice (some ⟨w.heap.size, 0, none⟩) 0 G) (some w.heap.size) 5 1 0 []) :=
    Lib.hid (Row.mk (heap_alloc_new w.drew _) (Nat.zero_le _) hG2 (by simp only [Array.size_append, size_zeroCells]; show n * 1 + (G - n) * 1 = G * 1; omega) rfl)
  have HBL : Hid (Below w.heap.size w (w.drew.alloc (.cells (Builtin.zeroCells (Value.int .u8 0).cells n ++ Builtin.zeroCells (Value.int .u8 0).cells (G - n)) 5))) := Lib.hid ((Below.refl _ _).drew.alloc (Nat.le_refl _) _)
  obtain ⟨W1, hW1⟩ : ∃ W1, W1 = w.drew.alloc (.cells (Builtin.zeroCells (Value.int .u8 0).cells n ++ Builtin.zeroCells (Value.int .u8 0).cells (G - n)) 5) := ⟨_, rfl⟩
  rw [← hW1] at hrun HROW HBL
  have HRUN := Lib.hid hrun
  unfold maxLen at hG2
  clear hG hi hz0 hz1 hz2 hrun hW1
  go_enter Try.func73, Try.ntmps73
  go_wp2_with (at_builtin; refine Lib.wpList_append_run _ rfl (.tmp 20) (.tmp 21) 42 3 rfl _ _ rfl rfl _ _ HRUN.out ?_)
  go_wp2_with fail
  go_ret
  exact ⟨_, _, rfl, HROW.out, Nat.le_refl _, HBL.out⟩
end Go.Proofs.Ytoodmocapagapaa
namespace Go.Proofs.Ytoodmocapagapaa
open Go.RowKit
set_option linter.unusedSimpArgs false
set_option linter.unusedVariables false

def cN (n m k : Nat) : Nat := if k = 0 then 0 else if k = 1 then n else n + m
theorem rowV_left (X Y : Nat → Nat) (n : Nat) : rowV (putB X n Y) n = rowV X n := by
  refine List.ext_getElem? fun j => ?_
  by_cases h : j < n
  · rw [rowV_at _ _ _ h, rowV_at _ _ _ h, putB, if_pos h]
  · rw [List.getElem?_eq_none (by rw [rowV_len]; omega), List.getElem?_eq_none (by rw [rowV_len]; omega)]

set_option maxRecDepth 100000 in
set_option maxHeartbeats 8000000 in
theorem concat2_any (g cg : Nat) (a : Option Addr) (n c b o : Nat) (X : Nat → Nat) (a' : Option Addr) (m c' b' o' : Nat) (Y : Nat → Nat) (w : World) (hg : g < w.heap.size) (hcg : 2 ≤ cg) (hcg2 : cg ≤ 5000)
    (g0 : w.cell? ⟨g, 0, none⟩ = some (.slice a n c)) (g1 : w.cell? ⟨g, 1, none⟩ = some (.slice a' m c')) (h1 : ByIn w a n c b o X) (h2 : ByIn w a' m c' b' o' Y) (hn : 0 < n) (hnm : n + m ≤ 5000) :
    Calls Try.prog 57 #[.slice (some ⟨g, 0, none⟩) 2 cg] w fun e w' => ∃ v ob, e = .returned v ∧ Row w' v (some ob) 5 1 (n + m) (rowV (putB X n Y) (n + m)) ∧ w.heap.size ≤ ob ∧ Below w.heap.size w w' := by
  obtain ⟨i0, hi, hz0, hz1, hz2⟩ := info_parts infoU8'
  have HI := Lib.hid hi
  have HZ0 := Lib.hid hz0
  have HZ1 := Lib.hid hz1
  have HZ2 := Lib.hid hz2
  have hm := h1.max
  have hl := h1.le
  have hm' := h2.max
  have hl' := h2.le
  unfold maxLen at hm hm'
  have HA := Lib.hid h1
  have HB := Lib.hid h2
  have HG0 := Lib.hid g0
  have HG1 := Lib.hid g1
  have HGR := Lib.hid (grow_nil (n + m))
  clear h1 h2 g0 g1 hi hz0 hz1 hz2
  go_enter Try.func57, Try.ntmps57
  go_wp2_with fail
  go_loopw [3, 11] (fun s i wr => ∃ k : Nat, k ≤ 2 ∧ i = .int .i64 k ∧ s = .int .i64 (cN n m k : Nat) ∧ Below w.heap.size w wr) (fun _ i _ => 2 - (intOf i).toNat)
  case atStart => exact ⟨0, by omega, rfl, rfl, Below.refl _ _⟩
  case round =>
    obtain ⟨k, hk, rfl, rfl, hB⟩ := hrel
    have HBB := Lib.hid hB
    clear hB
    have k0 := (HBB.out.cell (p := ⟨g, 0, none⟩) hg).trans HG0.out
    have k1 := (HBB.out.cell (p := ⟨g, 1, none⟩) hg).trans HG1.out
    have hk3 : k = 0 ∨ k = 1 ∨ k = 2 := by omega
    rcases hk3 with rfl | rfl | rfl
    · have e0 : cN n m 0 = 0 := rfl
      rw [e0]
      go_wp2_with fail
      go_roundw
      case rel => exact ⟨1, by omega, rfl, by simp [cN], HBB.out⟩
      case measure => simp [intOf]
    · have e0 : cN n m 1 = n := rfl
      rw [e0]
      have d0 : decide ((n : Int) + m < 0) = false := by simp; omega
      go_wp2_with fail
      go_roundw
      case rel => exact ⟨2, by omega, rfl, by simp [cN], HBB.out⟩
      case measure => simp [intOf]
    · have e0 : cN n m 2 = n + m := rfl
      rw [e0]
      go_wp2_with fail
      go_at_call 73
      refine (HGR.out _ (by omega) (by omega)).mono ?_
      rintro e W2 ⟨v, ob, rfl, hr, hob, hB2⟩
      have HR := Lib.hid hr
      have HOB : Hid (w.heap.size ≤ ob) := Lib.hid (Nat.le_trans HBB.out.size hob)
      have HB2 := Lib.hid (HBB.out.trans (hB2.mono HBB.out.size))
      clear hr hob hB2 k0 k1
      go_wp2_with fail
      go_loopw [6, 27] (fun v i wr => ∃ (k ob : Nat), k ≤ 2 ∧ i = .int .i64 k ∧ Row wr v (some ob) 5 1 (cN n m k) (rowV (putB X n Y) (cN n m k)) ∧ w.heap.size ≤ ob ∧ Below w.heap.size w wr) (fun _ i _ => 2 - (intOf i).toNat)
      case atStart => exact ⟨0, ob, by omega, rfl, HR.out, HOB.out, HB2.out⟩
      case round =>
        clear HR HOB HB2
        obtain ⟨k, ob, hk, rfl, hr, hob, hB⟩ := hrel
        obtain ⟨av, cv, hv, hcv1, hcv2, hav⟩ := hr.shape
        clear hav
        subst hv
        unfold maxLen at hcv2
        have HR := Lib.hid hr
        have HOB := Lib.hid hob
        have HB3 := Lib.hid hB
        have k0 := (hB.cell (p := ⟨g, 0, none⟩) hg).trans HG0.out
        have k1 := (hB.cell (p := ⟨g, 1, none⟩) hg).trans HG1.out
        clear hr hob hB
        have hk3 : k = 0 ∨ k = 1 ∨ k = 2 := by omega
        rcases hk3 with rfl | rfl | rfl
        · have z0 : cN n m 0 = 0 := rfl
          rw [z0] at hcv1 ⊢
          have HRz : Hid (Row wr (.slice av 0 cv) (some ob) 5 1 0 (rowV X 0)) := Lib.hid HR.out
          obtain ⟨e0, e1⟩ := HA.out.at_ hn
          subst e0
          have hb8 : (0 + (n : Int)) * 1 ≤ 140737488355328 := by omega
          go_wp2_with (at_builtin; refine wpList_append_row _ rfl (.tmp 31) (.tmp 32) 42 rfl 5 i0 _ 1 1 Try.underlying42 HI.out HZ0.out HZ1.out HZ2.out rfl (by decide) _ (some ob) 0 (rowV X 0) rfl HRz.out ⟨b, o, none⟩ n c (rowV X n) rfl hn (by rw [rowV_len, Nat.mul_one]) ?c1 (rowV_one X n) ?c3 ?c4 ?_)
          case c1 =>
            intro j u hu
            have hj : j < n := by have := (List.getElem?_eq_some_iff.1 hu).1; rwa [rowV_len] at this
            rw [rowV_at X n j hj] at hu
            obtain rfl := Option.some.inj hu
            first | exact (HA.out.below HB3.out).cell j hj | (rw [addr_add]; exact (HA.out.below HB3.out).cell j hj)
          case c3 => unfold maxLen; omega
          case c4 => omega
          intro v' ob' W3 hrow3 hg3 hob3
          have hz9 := HB3.out.size
          have hob' : w.heap.size ≤ ob' := by
            rcases hob3 with h | h
            · first | (rw [← h]; exact HOB.out) | (obtain rfl := Option.some.inj h; exact HOB.out)
            · omega
          have HB4 : Hid (Below w.heap.size w W3) := Lib.hid (HB3.out.grown hg3 (by omega) (fun g e => by obtain rfl := Option.some.inj e; exact HOB.out))
          have HR4 : Hid (Row W3 v' (some ob') 5 1 n (rowV X n)) := Lib.hid (by first | exact hrow3 | (rw [Nat.zero_add] at hrow3; exact hrow3))
          have HO4 := Lib.hid hob'
          clear hrow3 hg3 hob3 hob'
          go_wp2_with fail
          go_roundw
          case rel => exact ⟨1, ob', by omega, rfl, by show Row _ _ _ _ 1 n (rowV (putB X n Y) n); rw [rowV_left]; exact HR4.out, HO4.out, HB4.out⟩
          case measure => simp [intOf]
        · have z0 : cN n m 1 = n := rfl
          rw [z0] at hcv1 ⊢
          have HRn : Hid (Row wr (.slice av n cv) (some ob) 5 1 n (rowV X n)) := Lib.hid (by rw [← rowV_left X Y n]; exact HR.out)
          by_cases hm0 : m = 0
          · have HM0 := Lib.hid hm0
            clear hm0
            go_wp2_with (at_builtin; refine wpList_append_row_zero _ rfl (.tmp 31) (.tmp 32) 42 rfl 5 i0 1 Try.underlying42 HI.out _ (some ob) n (rowV X n) rfl HRn.out a' c' (show Value.slice a' m c' = .slice a' 0 c' by rw [HM0.out]) ?_)
            go_wp2_with fail
            go_roundw
            case rel => exact ⟨2, ob, by omega, rfl, by show Row _ _ _ _ 1 (n + m) (rowV (putB X n Y) (n + m)); rw [HM0.out, Nat.add_zero, rowV_left]; exact HRn.out, HOB.out, HB3.out⟩
            case measure => simp [intOf]
          · obtain ⟨e0, e1⟩ := HB.out.at_ (by omega)
            subst e0
            have hb8 : ((n : Int) + (m : Int)) * 1 ≤ 140737488355328 := by omega
            go_wp2_with (at_builtin; refine wpList_append_row _ rfl (.tmp 31) (.tmp 32) 42 rfl 5 i0 _ 1 1 Try.underlying42 HI.out HZ0.out HZ1.out HZ2.out rfl (by decide) _ (some ob) n (rowV X n) rfl HRn.out ⟨b', o', none⟩ m c' (rowV Y m) rfl (by omega) (by rw [rowV_len, Nat.mul_one]) ?c1 (rowV_one Y m) ?c3 ?c4 ?_)
            case c1 =>
              intro j u hu
              have hj : j < m := by have := (List.getElem?_eq_some_iff.1 hu).1; rwa [rowV_len] at this
              rw [rowV_at Y m j hj] at hu
              obtain rfl := Option.some.inj hu
              first | exact (HB.out.below HB3.out).cell j hj | (rw [addr_add]; exact (HB.out.below HB3.out).cell j hj)
            case c3 => unfold maxLen; omega
            case c4 => omega
            intro v' ob' W3 hrow3 hg3 hob3
            have hz9 := HB3.out.size
            have hob' : w.heap.size ≤ ob' := by
              rcases hob3 with h | h
              · first | (rw [← h]; exact HOB.out) | (obtain rfl := Option.some.inj h; exact HOB.out)
              · omega
            have HB4 : Hid (Below w.heap.size w W3) := Lib.hid (HB3.out.grown hg3 (by omega) (fun g e => by obtain rfl := Option.some.inj e; exact HOB.out))
            have HR4 : Hid (Row W3 v' (some ob') 5 1 (n + m) (rowV (putB X n Y) (n + m))) := Lib.hid (by rw [rowV_put]; exact hrow3)
            have HO4 := Lib.hid hob'
            clear hrow3 hg3 hob3 hob'
            go_wp2_with fail
            go_roundw
            case rel => exact ⟨2, ob', by omega, rfl, HR4.out, HO4.out, HB4.out⟩
            case measure => simp [intOf]
        · have z0 : cN n m 2 = n + m := rfl
          rw [z0] at hcv1 ⊢
          go_wp2_with fail
          go_ret
          exact ⟨_, ob, rfl, HR.out, HOB.out, HB3.out⟩
end Go.Proofs.Ytoodmocapagapaa
namespace Go.Proofs.Ytoodmocapagapaa
open Go.RowKit
set_option linter.unusedSimpArgs false
set_option linter.unusedVariables false

def headB (t c n : Nat) (j : Nat) : Nat := if j = 0 then 105 else if j = 1 then t else if j = 2 then c else if j = 4 then n / 256 else if j = 5 then n % 256 else 0

/-- the check laid in -/
def fixB (Z : Nat → Nat) (S : Nat) (j : Nat) : Nat := if j = 6 then S / 256 else if j = 7 then S % 256 else Z j
theorem row_set {W : World} {v : Value} {ob n : Nat} {Y : Nat → Nat} (h : Row W v (some ob) 5 1 n (rowV Y n)) (i : Nat) (hi : i < n) (x : Nat) :
    Row (W.setCell ⟨ob, i, none⟩ (.int .u8 (x : Nat))) v (some ob) 5 1 n (rowV (fun j => if j = i then x else Y j) n) := by
  rcases h.cases with ⟨_, h2, _, _⟩ | ⟨g, cap, cur, hob, rfl, hg, hnc, hcm, hcs, htake⟩
  · omega
  · obtain rfl := Option.some.inj hob
    refine Row.mk (heap_setCell_same hg i _) hnc hcm (by simp [hcs]) ?_
    rw [Array.toList_setIfInBounds, List.take_set, htake]
    refine List.ext_getElem? fun j => ?_
    rw [List.getElem?_set]
    by_cases hj : j < n
    · rw [rowV_at _ n j hj, rowV_len]
      by_cases e : i = j
      · subst e; rw [rowV_at _ n i hj]; simp [hj]
      · rw [if_neg e, rowV_at _ n j hj, if_neg (fun h => e h.symm)]
    · rw [List.getElem?_eq_none (l := rowV (fun j => if j = i then x else Y j) n) (by rw [rowV_len]; omega), if_neg (by omega), List.getElem?_eq_none (by rw [rowV_len]; omega)]

set_option maxRecDepth 100000 in
set_option maxHeartbeats 8000000 in
theorem build_any (num : Int) (t c : Nat) (a : Option Addr) (n ca b o : Nat) (X : Nat → Nat) (w : World) (h1 : ByIn w a n ca b o X) (ht : 1 ≤ t ∧ t ≤ 16) (hc : c ≤ 255) (hn : n ≤ 1492) :
    Calls Try.prog 33 #[.agg #[.int .i64 num, .int .i64 (t : Nat), .int .i64 (c : Nat), .slice a n ca]] w fun e w' => ∃ v ob, e = .returned (.tuple #[v, .int .i64 0]) ∧ Row w' v (some ob) 5 1 (8 + n) (rowV (fixB (putB (headB t c n) 8 X) (65535 - sumN16 (putB (headB t c n) 8 X) (8 + n))) (8 + n)) ∧ w.heap.size ≤ ob ∧ Below w.heap.size w w' := by
  obtain ⟨t1, t2⟩ := ht
  have d1 : decide ((t : Int) < 1) = false := by simp; omega
  have d2 : decide ((16 : Int) < t) = false := by simp; omega
  have d3 : decide ((c : Int) < 0) = false := by simp
  have d4 : decide ((255 : Int) < c) = false := by simp; omega
  have d5 : decide ((1492 : Int) < n) = false := by simp; omega
  have hm := h1.max
  have hl := h1.le
  unfold maxLen at hm
  have HA := Lib.hid h1
  clear h1
  go_enter Try.func33, Try.ntmps33
  go_wp2_with fail
  obtain ⟨N, hN⟩ : ∃ N, N = w.heap.size := ⟨_, rfl⟩
  rw [← hN]
  obtain ⟨W0, hW0⟩ : ∃ W0, W0 = ((w.alloc (.cells #[.int .i64 num, .int .i64 (t : Nat), .int .i64 (c : Nat), .slice a n ca] 53)).alloc (.cells #[.int .u8 105, .int .u8 (t : Nat), .int .u8 (c : Nat), .int .u8 0, .int .u8 ((n : Int) / 256), .int .u8 ((n : Int) % 256), .int .u8 0, .int .u8 0] 5)).alloc (.cells #[.slice (some ⟨N + 1, 0, none⟩) 8 8, .slice a n ca] 42) := ⟨_, rfl⟩
  have hs0 : W0.heap.size = N + 3 := by rw [hW0, hN]; simp
  have bH : Blk W0 (N + 1) #[.int .u8 105, .int .u8 (t : Nat), .int .u8 (c : Nat), .int .u8 0, .int .u8 ((n : Int) / 256), .int .u8 ((n : Int) % 256), .int .u8 0, .int .u8 0] 5 := by
    rw [hW0, hN]
    show _ = _
    rw [Below.heap_alloc _ _ _ (by simp; try omega), ← World.size_alloc w (.cells #[.int .i64 num, .int .i64 (t : Nat), .int .i64 (c : Nat), .slice a n ca] 53)]
    exact heap_alloc_new _ _
  have bS : Blk W0 (N + 2) #[.slice (some ⟨N + 1, 0, none⟩) 8 8, .slice a n ca] 42 := by
    rw [hW0, hN]
    show _ = _
    rw [show w.heap.size + 2 = ((w.alloc (.cells #[.int .i64 num, .int .i64 (t : Nat), .int .i64 (c : Nat), .slice a n ca] 53)).alloc (.cells #[.int .u8 105, .int .u8 (t : Nat), .int .u8 (c : Nat), .int .u8 0, .int .u8 ((n : Int) / 256), .int .u8 ((n : Int) % 256), .int .u8 0, .int .u8 0] 5)).heap.size by simp]
    exact heap_alloc_new _ _
  have bP : Blk W0 N #[.int .i64 num, .int .i64 (t : Nat), .int .i64 (c : Nat), .slice a n ca] 53 := by
    rw [hW0, hN]
    show _ = _
    rw [Below.heap_alloc _ _ _ (by simp; try omega), Below.heap_alloc _ _ _ (by simp; try omega)]
    exact heap_alloc_new w _
  have hB0 : Below N w W0 := by rw [hW0, hN]; exact (((Below.refl _ _).alloc (Nat.le_refl _) _).alloc (by simp) _).alloc (by simp; omega) _
  have hH : ByIn W0 (some ⟨N + 1, 0, none⟩) 8 8 (N + 1) 0 (headB t c n) := by
    refine ⟨Nat.le_refl _, by unfold maxLen; omega, fun _ => ⟨rfl, by omega⟩, fun k hk => ?_, fun k => ?_⟩
    · rw [Nat.zero_add, cell_at bH k]
      have hk8 : k = 0 ∨ k = 1 ∨ k = 2 ∨ k = 3 ∨ k = 4 ∨ k = 5 ∨ k = 6 ∨ k = 7 := by omega
      rcases hk8 with rfl | rfl | rfl | rfl | rfl | rfl | rfl | rfl <;> simp [headB]
    · unfold headB
      repeat' split
      all_goals omega
  rw [← hW0]
  have HC := Lib.hid (concat2_any (N + 2) 2 (some ⟨N + 1, 0, none⟩) 8 8 (N + 1) 0 (headB t c n) a n ca b o X W0 (by omega) (by omega) (by omega) (cell_at bS 0) (cell_at bS 1) hH (HA.out.below (by rw [← hN]; exact hB0)) (by omega) (by omega))
  refine HC.out.mono ?_
  rintro e W1 ⟨v, ob, rfl, hr, hob, hB1⟩
  have hZ : ∀ j, putB (headB t c n) 8 X j < 256 := fun j => by unfold putB; split; exact hH.bd j; exact HA.out.bd _
  obtain ⟨Z, hZe⟩ : ∃ Z, Z = putB (headB t c n) 8 X := ⟨_, rfl⟩
  rw [← hZe] at hr hZ
  obtain ⟨av, cv, rfl, hby⟩ := row_by hr hZ
  have HR := Lib.hid hr
  have HBY := Lib.hid hby
  have HOB : Hid (N ≤ ob) := Lib.hid (by omega)
  have HB1 : Hid (Below N w W1) := Lib.hid (hB0.trans (hB1.mono (by omega)))
  have HN := Lib.hid hN
  have HZE := Lib.hid hZe
  have hcv1 := hby.le
  have hcv2 := hby.max
  unfold maxLen at hcv2
  have HS := Lib.hid (sumN16_le Z hZ (8 + n))
  clear hr hby hob hB1 hN hZe hW0 bH bS bP hB0 hH HC hs0
  go_wp2_with fail
  go_at_call 58
  refine (pcheck_any _ _ _ _ _ Z _ HBY.out).mono ?_
  rintro e W2 ⟨rfl, hB2⟩
  have hsz := HR.out.lt
  have HR2 := Lib.hid (HR.out.congr (w' := W2) fun g hg => by obtain rfl := Option.some.inj hg; exact hB2.block _ hsz)
  have HB3 : Hid (Below N w W2) := Lib.hid (HB1.out.trans (hB2.mono (by have := HB1.out.size; have := HN.out; omega)))
  obtain ⟨S, hS⟩ : ∃ S : Nat, (65535 : Int) - (sumN16 Z (8 + n) : Nat) = (S : Nat) := ⟨65535 - sumN16 Z (8 + n), by have := HS.out; omega⟩
  rw [hS]
  have hS9 : S ≤ 65535 := by omega
  obtain ⟨e0, _⟩ := HBY.out.at_ (by omega)
  simp only [Option.getD_some] at e0
  have HSS := Lib.hid hS
  subst e0
  obtain ⟨q6, hq6, hc6, hf6⟩ := HR2.out.cell 6 (by omega)
  obtain rfl := Option.some.inj hq6
  obtain ⟨q7, hq7, hc7, hf7⟩ := HR2.out.cell 7 (by omega)
  obtain rfl := Option.some.inj hq7
  rw [rowV_at Z (8 + n) 6 (by omega)] at hc6
  rw [rowV_at Z (8 + n) 7 (by omega)] at hc7
  clear hS hq6 hq7 hB2
  go_wp2_with fail
  go_ret2
  refine ⟨_, ob, rfl, ?_, Nat.le_trans (by have := HN.out; omega) HOB.out, ?_⟩
  · have hr := row_set (row_set HR2.out 6 (by omega) (S / 256)) 7 (by omega) (S % 256)
    have e : rowV (fun j => if j = 7 then S % 256 else if j = 6 then S / 256 else Z j) (8 + n) = rowV (fixB Z (65535 - sumN16 Z (8 + n))) (8 + n) := by
      have e2 : S = 65535 - sumN16 Z (8 + n) := by have := HSS.out; have := HS.out; omega
      rw [← e2]
      congr 1
      funext j
      unfold fixB
      by_cases h6 : j = 6
      · subst h6; simp
      · simp [h6]
    rw [← HZE.out, ← e]
    exact hr
  · rw [← HN.out]
    have := HOB.out
    exact (HB3.out.setCell (p := ⟨ob, 6, none⟩) (by simp only; omega) _).setCell (p := ⟨ob, 7, none⟩) (by simp only; omega) _
end Go.Proofs.Ytoodmocapagapaa
namespace Go.Proofs.Ytoodmocapagapaa
open Go.RowKit
set_option linter.unusedSimpArgs false
set_option linter.unusedVariables false

theorem cell_congr {A B : World} {b : Nat} (h : B.heap[b]? = A.heap[b]?) (o : Nat) : B.cell? ⟨b, o, none⟩ = A.cell? ⟨b, o, none⟩ := by
  unfold World.cell?
  simp only [h]
theorem ByIn.ne {W : World} {a : Option Addr} {len cap b o : Nat} {X : Nat → Nat} (h : ByIn W a len cap b o X) (p : Addr) (hp : 0 < len → b ≠ p.block) (u : Value) : ByIn (W.setCell p u) a len cap b o X :=
  ⟨h.le, h.max, fun hk => ⟨(h.at_ hk).1, by have := (h.at_ hk).2; simpa using this⟩, fun k hk => (cell_congr (heap_setCell_ne _ _ _ _ (hp (by omega))) _).trans (h.cell k hk), h.bd⟩
theorem build_arg (num t c : Int) (a : Option Addr) (n ca : Nat) (w : World) (h : t < 1 ∨ 16 < t ∨ c < 0 ∨ 255 < c) (hn : n ≤ 9223372036854775807) :
    Calls Try.prog 33 #[.agg #[.int .i64 num, .int .i64 t, .int .i64 c, .slice a n ca]] w fun e w' => e = .returned (.tuple #[.slice none 0 0, .int .i64 2]) ∧ Below w.heap.size w w' := by
  by_cases h1 : t < 1
  · have d1 : decide (t < 1) = true := by simpa using h1
    clear h
    go_enter Try.func33, Try.ntmps33
    go_wp2_with fail
    go_ret2
    exact ⟨rfl, (Below.refl _ _).alloc (Nat.le_refl _) _⟩
  · have d1 : decide (t < 1) = false := by simpa using h1
    by_cases h2 : 16 < t
    · have d2 : decide (16 < t) = true := by simpa using h2
      clear h
      go_enter Try.func33, Try.ntmps33
      go_wp2_with fail
      go_ret2
      exact ⟨rfl, (Below.refl _ _).alloc (Nat.le_refl _) _⟩
    · have d2 : decide (16 < t) = false := by simpa using h2
      by_cases h3 : c < 0
      · have d3 : decide (c < 0) = true := by simpa using h3
        clear h
        go_enter Try.func33, Try.ntmps33
        go_wp2_with fail
        go_ret2
        exact ⟨rfl, (Below.refl _ _).alloc (Nat.le_refl _) _⟩
      · have d3 : decide (c < 0) = false := by simpa using h3
        have h4 : 255 < c := by omega
        have d4 : decide (255 < c) = true := by simpa using h4
        clear h
        go_enter Try.func33, Try.ntmps33
        go_wp2_with fail
        go_ret2
        exact ⟨rfl, (Below.refl _ _).alloc (Nat.le_refl _) _⟩

theorem build_long (num t c : Int) (a : Option Addr) (n ca : Nat) (w : World) (h : 1 ≤ t ∧ t ≤ 16 ∧ 0 ≤ c ∧ c ≤ 255) (hn : n ≤ 9223372036854775807) (hl : 1492 < n) :
    Calls Try.prog 33 #[.agg #[.int .i64 num, .int .i64 t, .int .i64 c, .slice a n ca]] w fun e w' => e = .returned (.tuple #[.slice none 0 0, .int .i64 3]) ∧ Below w.heap.size w w' := by
  obtain ⟨t1, t2, c1, c2⟩ := h
  have d1 : decide (t < 1) = false := by simp; omega
  have d2 : decide ((16 : Int) < t) = false := by simp; omega
  have d3 : decide (c < 0) = false := by simp; omega
  have d4 : decide ((255 : Int) < c) = false := by simp; omega
  have d5 : decide ((1492 : Int) < n) = true := by simp; omega
  go_enter Try.func33, Try.ntmps33
  go_wp2_with fail
  go_ret2
  exact ⟨rfl, (Below.refl _ _).alloc (Nat.le_refl _) _⟩

theorem fix_bd {Z : Nat → Nat} {S : Nat} (hZ : ∀ j, Z j < 256) (hS : S ≤ 65535) (j : Nat) : fixB Z S j < 256 := by
  unfold fixB
  split
  · omega
  · split
    · omega
    · exact hZ j
theorem head_bd {t c n : Nat} {X : Nat → Nat} (ht : t < 256) (hc : c < 256) (hn : n < 65536) (hX : ∀ j, X j < 256) (j : Nat) : putB (headB t c n) 8 X j < 256 := by
  unfold putB
  split
  · unfold headB
    repeat' split
    all_goals omega
  · exact hX _
/-- what a packet's bytes would be, by the bytes that stand there -/
def againB (X : Nat → Nat) (n : Nat) : Nat → Nat := fixB (putB (headB (X 1) (X 2) (n - 8)) 8 fun j => X (8 + j)) (65535 - sumN16 (putB (headB (X 1) (X 2) (n - 8)) 8 fun j => X (8 + j)) n)
def parseOk (X : Nat → Nat) (n : Nat) : Bool := decide (8 ≤ n ∧ n ≤ 1500) && (decide (1 ≤ X 1 ∧ X 1 ≤ 16) && eqB (againB X n) X n)
def ParseP (w : World) (n : Nat) (X : Nat → Nat) (e : Ending) (w' : World) : Prop :=
  Below w.heap.size w w' ∧ ((parseOk X n = false ∧ e = .returned (.tuple #[.agg #[.int .i64 0, .int .i64 0, .int .i64 0, .slice none 0 0], .int .i64 230])) ∨
    (parseOk X n = true ∧ ∃ a' c' b', e = .returned (.tuple #[.agg #[.int .i64 0, .int .i64 (X 1 : Nat), .int .i64 (X 2 : Nat), .slice a' ((n - 8 : Nat)) c'], .int .i64 0]) ∧ ByIn w' a' (n - 8) c' b' 0 (fun j => X (8 + j)) ∧ (0 < n - 8 → w.heap.size ≤ b')))

set_option maxRecDepth 100000 in
set_option maxHeartbeats 8000000 in
theorem parse_short (a : Option Addr) (n ca : Nat) (X : Nat → Nat) (w : World) (hn : n ≤ 9223372036854775807) (h : n < 8 ∨ 1500 < n) : Calls Try.prog 22 #[.slice a n ca] w (ParseP w n X) := by
  have HP : Hid (parseOk X n = false) := Lib.hid (by unfold parseOk; rw [decide_eq_false (by omega)]; rfl)
  have H0 : Hid (∀ (W : World), Below w.heap.size w W → ParseP w n X (.returned (.tuple #[.agg #[.int .i64 0, .int .i64 0, .int .i64 0, .slice none 0 0], .int .i64 230])) W) := Lib.hid (fun W hB => ⟨hB, .inl ⟨HP.out, rfl⟩⟩)
  by_cases h1 : n < 8
  · have d1 : decide ((n : Int) < 8) = true := by simp; omega
    clear h
    go_enter Try.func22, Try.ntmps22
    go_wp2_with fail
    exact bodyPost_ret (v := .tuple #[.agg #[.int .i64 0, .int .i64 0, .int .i64 0, .slice none 0 0], .int .i64 230]) (by simp [results, Try.results22, go_sem]) rfl (H0.out _ ((Below.refl _ _).alloc (Nat.le_refl _) _))
  · have d1 : decide ((n : Int) < 8) = false := by simp; omega
    have d2 : decide ((1500 : Int) < n) = true := by simp; omega
    clear h
    go_enter Try.func22, Try.ntmps22
    go_wp2_with fail
    exact bodyPost_ret (v := .tuple #[.agg #[.int .i64 0, .int .i64 0, .int .i64 0, .slice none 0 0], .int .i64 230]) (by simp [results, Try.results22, go_sem]) rfl (H0.out _ ((Below.refl _ _).alloc (Nat.le_refl _) _))
end Go.Proofs.Ytoodmocapagapaa
namespace Go.Proofs.Ytoodmocapagapaa
open Go.RowKit
set_option linter.unusedSimpArgs false
set_option linter.unusedVariables false

theorem ByIn.tail {W : World} {n ca b o : Nat} {X : Nat → Nat} (h : ByIn W (some ⟨b, o, none⟩) n ca b o X) (k : Nat) (hk : k ≤ n) (h2 : ca ≠ k) : ByIn W (some ⟨b, o + k, none⟩) (n - k) (ca - k) b (o + k) fun j => X (k + j) := by
  have := h.le
  have := h.max
  refine ⟨by omega, by omega, fun hp => ⟨rfl, (h.at_ (by omega)).2⟩, fun j hj => ?_, fun j => h.bd _⟩
  rw [Nat.add_assoc]
  exact h.cell (k + j) (by omega)
theorem by_none {W : World} {n ca b o : Nat} {X : Nat → Nat} {a : Option Addr} (h : ByIn W a n ca b o X) (k : Nat) (hk : n = k) : ByIn W a (n - k) (ca - k) b o fun j => X (k + j) := by
  have := h.le
  have := h.max
  exact ⟨by omega, by omega, fun hp => by omega, fun j hj => by omega, fun j => h.bd _⟩

set_option maxRecDepth 100000 in
set_option maxHeartbeats 8000000 in
theorem parse_full (n ca b o : Nat) (X : Nat → Nat) (w : World) (h1 : ByIn w (some ⟨b, o, none⟩) n ca b o X) (h8 : 8 ≤ n) (h15 : n ≤ 1500) (hca : ca ≠ 8) : Calls Try.prog 22 #[.slice (some ⟨b, o, none⟩) n ca] w (ParseP w n X) := by
  have hm := h1.max
  have hl := h1.le
  unfold maxLen at hm
  have HA := Lib.hid h1
  have hlt : b < w.heap.size := (h1.at_ (by omega)).2
  have f1 := h1.cell 1 (by omega)
  have f2 := h1.cell 2 (by omega)
  have x1 := h1.bd 1
  have x2 := h1.bd 2
  have d1 : decide ((n : Int) < 8) = false := by simp; omega
  have d2 : decide ((1500 : Int) < n) = false := by simp; omega
  obtain ⟨t, ht⟩ : ∃ t, t = X 1 := ⟨_, rfl⟩
  obtain ⟨c, hc⟩ : ∃ c, c = X 2 := ⟨_, rfl⟩
  rw [← ht] at f1 x1
  rw [← hc] at f2 x2
  have HT := Lib.hid ht
  have HC := Lib.hid hc
  have HB0 : Hid (Below w.heap.size w (w.alloc (.cells #[.int .i64 0, .int .i64 0, .int .i64 0, .slice none 0 0] 53)).drew) := Lib.hid ((Below.refl _ _).alloc (Nat.le_refl _) _).drew
  have HH0 : Hid (Blk (w.alloc (.cells #[.int .i64 0, .int .i64 0, .int .i64 0, .slice none 0 0] 53)).drew w.heap.size #[.int .i64 0, .int .i64 0, .int .i64 0, .slice none 0 0] 53) := Lib.hid (blk_new _ _ _)
  have HB2 : Hid (Below w.heap.size w ((w.alloc (.cells #[.int .i64 0, .int .i64 0, .int .i64 0, .slice none 0 0] 53)).alloc (.cells #[.int .i64 0, .int .i64 0, .int .i64 0, .slice none 0 0] 53)).drew) := Lib.hid (((Below.refl _ _).alloc (Nat.le_refl _) _).alloc (by simp) _).drew
  have HH2 : Hid (Blk ((w.alloc (.cells #[.int .i64 0, .int .i64 0, .int .i64 0, .slice none 0 0] 53)).alloc (.cells #[.int .i64 0, .int .i64 0, .int .i64 0, .slice none 0 0] 53)).drew w.heap.size #[.int .i64 0, .int .i64 0, .int .i64 0, .slice none 0 0] 53 ∧ Blk ((w.alloc (.cells #[.int .i64 0, .int .i64 0, .int .i64 0, .slice none 0 0] 53)).alloc (.cells #[.int .i64 0, .int .i64 0, .int .i64 0, .slice none 0 0] 53)).drew (w.heap.size + 1) #[.int .i64 0, .int .i64 0, .int .i64 0, .slice none 0 0] 53) := Lib.hid ⟨(blk_new _ _ _).alloc _, by have h := blk_new (w.alloc (.cells #[.int .i64 0, .int .i64 0, .int .i64 0, .slice none 0 0] 53)) #[.int .i64 0, .int .i64 0, .int .i64 0, .slice none 0 0] 53; rw [World.size_alloc] at h; exact h⟩
  have wt : IntKind.i64.wrap (t : Int) = t := IntWalk.i64_in _ (by omega)
  have wc : IntKind.i64.wrap (c : Int) = c := IntWalk.i64_in _ (by omega)
  clear h1 ht hc
  have HTL : Hid (∀ W, Below w.heap.size w W → ByIn W (some ⟨b, o + 8, none⟩) (n - 8) (ca - 8) b (o + 8) fun j => X (8 + j)) := Lib.hid (fun W h => (HA.out.below h).tail 8 h8 hca)
  have q1 : (b = w.heap.size + 1) = False := eq_false (by omega)
  have q2 : (w.heap.size + 1 = b) = False := eq_false (by omega)
  have i1 : (1 : Int) < (n : Int) := by omega
  have i2 : (2 : Int) < (n : Int) := by omega
  have i8 : (8 : Int) ≤ (n : Int) := by omega
  have il : (n : Int) ≤ (ca : Int) := by omega
  have ic : (8 : Int) < (ca : Int) := by omega
  go_enter Try.func22, Try.ntmps22
  go_wp2_with fail
  go_cut [4] (fun p W => ∃ g a' c' b', p = .pointer (some ⟨g, 0, none⟩) ∧ Blk W g #[.int .i64 0, .int .i64 (t : Nat), .int .i64 (c : Nat), .slice a' (n - 8 : Nat) c'] 53 ∧ ByIn W a' (n - 8) c' b' 0 (fun j => X (8 + j)) ∧ Blk W w.heap.size #[.int .i64 0, .int .i64 0, .int .i64 0, .slice none 0 0] 53 ∧ w.heap.size < g ∧ (0 < n - 8 → w.heap.size < b') ∧ Below w.heap.size w W)
  case first =>
    go_region_held3 (fun W => W.cell? ⟨b, o + 1, none⟩ = some (.int .u8 (t : Nat)) ∧ W.cell? ⟨b, o + 2, none⟩ = some (.int .u8 (c : Nat))) (first | with_reducible exact ⟨f1, f2⟩ | go_keep)
      (first
      | (go_at_call 39; refine (pclone_any _ _ _ _ _ _ _ (HTL.out _ HB0.out) (by omega)).mono ?_; rintro e W1 ⟨a', c', b', rfl, hby, hfr, hB1⟩; have HB1 := Lib.hid (HB0.out.trans (hB1.mono HB0.out.size)); have HH1 := Lib.hid (Blk.step HH0.out hB1); have f1 := (HB1.out.cell (p := ⟨b, o + 1, none⟩) hlt).trans f1; have f2 := (HB1.out.cell (p := ⟨b, o + 2, none⟩) hlt).trans f2)
      | (go_at_call 39; refine (pclone_any _ _ _ _ _ _ _ (HTL.out _ HB2.out) (by omega)).mono ?_; rintro e W1 ⟨a', c', b', rfl, hby, hfr, hB1⟩; have HB1 := Lib.hid (HB2.out.trans (hB1.mono HB2.out.size)); have HH1 := Lib.hid (And.intro (Blk.step HH2.out.1 hB1) (Blk.step HH2.out.2 hB1)); have c0 : W1.cell? ⟨w.heap.size + 1, 0, none⟩ = some (.int .i64 0) := cell_at HH1.out.2 0; have z0 : W1.frozen? ⟨w.heap.size + 1, 0, none⟩ = false := free_at HH1.out.2 0; have c1 : W1.cell? ⟨w.heap.size + 1, 1, none⟩ = some (.int .i64 0) := cell_at HH1.out.2 1; have z1 : W1.frozen? ⟨w.heap.size + 1, 1, none⟩ = false := free_at HH1.out.2 1; have c2 : W1.cell? ⟨w.heap.size + 1, 2, none⟩ = some (.int .i64 0) := cell_at HH1.out.2 2; have z2 : W1.frozen? ⟨w.heap.size + 1, 2, none⟩ = false := free_at HH1.out.2 2; have c3 : W1.cell? ⟨w.heap.size + 1, 3, none⟩ = some (.slice none 0 0) := cell_at HH1.out.2 3; have z3 : W1.frozen? ⟨w.heap.size + 1, 3, none⟩ = false := free_at HH1.out.2 3; have f1 := (HB1.out.cell (p := ⟨b, o + 1, none⟩) hlt).trans f1; have f2 := (HB1.out.cell (p := ⟨b, o + 2, none⟩) hlt).trans f2))
    · go_wp2_with fail
      go_meet
      have hal : Below W1.heap.size W1 (W1.alloc (.cells #[.int .i64 0, .int .i64 (t : Nat), .int .i64 (c : Nat), .slice a' (n - 8 : Nat) c'] 53)) := (Below.refl _ _).alloc (Nat.le_refl _) _
      exact ⟨W1.heap.size, a', c', b', rfl, blk_new _ _ _, hby.below hal, Blk.step HH1.out hal, HH1.out.lt, (fun hp => by have := hfr hp; simp at this; omega), HB1.out.alloc HB1.out.size _⟩
    · go_wp2_with fail
      go_meet
      have k1 := (((HH1.out.2.set 0 (.int .i64 0)).set 1 (.int .i64 (t : Nat))).set 2 (.int .i64 (c : Nat))).set 3 (.slice a' (n - 8 : Nat) c')
      have k2 := (((HH1.out.1.ne ⟨w.heap.size + 1, 0, none⟩ (by simp) (.int .i64 0)).ne ⟨w.heap.size + 1, 1, none⟩ (by simp) (.int .i64 (t : Nat))).ne ⟨w.heap.size + 1, 2, none⟩ (by simp) (.int .i64 (c : Nat))).ne ⟨w.heap.size + 1, 3, none⟩ (by simp) (.slice a' (n - 8 : Nat) c')
      have hz2 : w.heap.size + 2 ≤ W1.heap.size := by have := hB1.size; simpa using this
      have hfr2 : 0 < n - 8 → b' ≠ w.heap.size + 1 := fun hp => by have := hfr hp; simp at this; omega
      have k3 := (((hby.ne ⟨w.heap.size + 1, 0, none⟩ hfr2 (.int .i64 0)).ne ⟨w.heap.size + 1, 1, none⟩ hfr2 (.int .i64 (t : Nat))).ne ⟨w.heap.size + 1, 2, none⟩ hfr2 (.int .i64 (c : Nat))).ne ⟨w.heap.size + 1, 3, none⟩ hfr2 (.slice a' (n - 8 : Nat) c')
      exact ⟨w.heap.size + 1, a', c', b', rfl, k1, k3, k2, by omega, (fun hp => by have := hfr hp; simp at this; omega), (((HB1.out.setCell (p := ⟨w.heap.size + 1, 0, none⟩) (by simp) _).setCell (p := ⟨w.heap.size + 1, 1, none⟩) (by simp) _).setCell (p := ⟨w.heap.size + 1, 2, none⟩) (by simp) _).setCell (p := ⟨w.heap.size + 1, 3, none⟩) (by simp) _⟩
  case rest =>
    obtain ⟨g, a', c', b', rfl, hg, hby, hh, hlg, hfr, hB⟩ := hcut
    have g0 : wc.cell? ⟨g, 0, none⟩ = some (.int .i64 0) := cell_at hg 0
    have g1 : wc.cell? ⟨g, 1, none⟩ = some (.int .i64 (t : Nat)) := cell_at hg 1
    have g2 : wc.cell? ⟨g, 2, none⟩ = some (.int .i64 (c : Nat)) := cell_at hg 2
    have g3 : wc.cell? ⟨g, 3, none⟩ = some (.slice a' (n - 8 : Nat) c') := cell_at hg 3
    obtain ⟨N, hN⟩ : ∃ N, N = w.heap.size := ⟨_, rfl⟩
    rw [← hN] at hh hlg hfr
    rw [← hN]
    have HN := Lib.hid hN
    have HG := Lib.hid hg
    have HBY := Lib.hid hby
    have HHZ := Lib.hid hh
    have HB := Lib.hid hB
    have HF := Lib.hid hfr
    clear hN hg hby hh hB hfr q1 q2 HB0 HH0 HB2 HH2 HTL
    by_cases htt : 1 ≤ t ∧ t ≤ 16
    · obtain ⟨q, hq⟩ : ∃ q, q = eqB (againB X n) X n := ⟨_, rfl⟩
      have HQ : Hid (parseOk X n = q) := Lib.hid (by unfold parseOk; rw [← HT.out, decide_eq_true ⟨h8, h15⟩, decide_eq_true htt, hq]; rfl)
      have HQ2 : Hid (∀ m, m = 8 + (n - 8) → (m == n && eqB (fixB (putB (headB t c (n - 8)) 8 fun j => X (8 + j)) (65535 - sumN16 (putB (headB t c (n - 8)) 8 fun j => X (8 + j)) m)) X m) = q) := Lib.hid (fun m hm => by
        obtain rfl : m = n := by omega
        rw [hq, againB, HT.out, HC.out]
        simp)
      have hbdZ : ∀ j, (fixB (putB (headB t c (n - 8)) 8 fun j => X (8 + j)) (65535 - sumN16 (putB (headB t c (n - 8)) 8 fun j => X (8 + j)) (8 + (n - 8)))) j < 256 := fun j => fix_bd (head_bd x1 x2 (by omega) fun j => HA.out.bd _) (by omega) j
      have HZ := Lib.hid hbdZ
      clear hq hbdZ
      go_wp2_with fail
      go_at_call 33
      refine (build_any 0 t c a' (n - 8) c' b' 0 (fun j => X (8 + j)) _ HBY.out htt (by omega) (by omega)).mono ?_
      rintro e W2 ⟨v, ob, rfl, hr, hob, hB2⟩
      obtain ⟨av, cv, rfl, hby2⟩ := row_by hr HZ.out
      have e8 : 8 + (n - 8) = n := by omega
      rw [e8] at hby2 ⊢
      clear e8
      have HB3 : Hid (Below w.heap.size w W2) := Lib.hid (HB.out.trans (hB2.mono HB.out.size))
      have HBY2 := Lib.hid hby2
      have HG2 := Lib.hid (HG.out.step hB2)
      have HHZ2 := Lib.hid (HHZ.out.step hB2)
      have HBYb := Lib.hid (HBY.out.below hB2)
      clear hr hob hB2 hby2 g0 g1 g2 g3 HBY HB HG HHZ
      go_wp2_with fail
      go_at_call 40
      refine (equal_any _ _ _ _ _ _ _ _ _ _ _ _ _ HBY2.out (HA.out.below HB3.out)).mono ?_
      rintro e W3 ⟨rfl, hB3⟩
      have e4 := HQ2.out n (by omega)
      rw [e4]
      have HB4 : Hid (Below w.heap.size w W3) := Lib.hid (HB3.out.trans (hB3.mono HB3.out.size))
      have HBYc := Lib.hid (HBYb.out.below hB3)
      have hg := HG2.out.step hB3
      have hh := HHZ2.out.step hB3
      have g0 : W3.cell? ⟨g, 0, none⟩ = some (.int .i64 0) := cell_at hg 0
      have g1 : W3.cell? ⟨g, 1, none⟩ = some (.int .i64 (t : Nat)) := cell_at hg 1
      have g2 : W3.cell? ⟨g, 2, none⟩ = some (.int .i64 (c : Nat)) := cell_at hg 2
      have g3 : W3.cell? ⟨g, 3, none⟩ = some (.slice a' (n - 8 : Nat) c') := cell_at hg 3
      have h0 : W3.cell? ⟨N, 0, none⟩ = some (.int .i64 0) := cell_at hh 0
      have h1 : W3.cell? ⟨N, 1, none⟩ = some (.int .i64 0) := cell_at hh 1
      have h2 : W3.cell? ⟨N, 2, none⟩ = some (.int .i64 0) := cell_at hh 2
      have h3 : W3.cell? ⟨N, 3, none⟩ = some (.slice none 0 0) := cell_at hh 3
      have z0 := free_at hh 0
      have z1 := free_at hh 1
      have z2 := free_at hh 2
      have z3 := free_at hh 3
      have HHN := Lib.hid hh
      have hlt3 : N < W3.heap.size := hh.lt
      clear e4 hB3 HB3 HBY2 HG2 HHZ2 HBYb hg hh HQ2
      cases q
      · go_wp2_with fail
        obtain ⟨WF, hWF⟩ : ∃ WF, WF = (((W3.setCell ⟨N, 0, none⟩ (.int .i64 0)).setCell ⟨N, 1, none⟩ (.int .i64 0)).setCell ⟨N, 2, none⟩ (.int .i64 0)).setCell ⟨N, 3, none⟩ (.slice none 0 0) := ⟨_, rfl⟩
        have k1 : Blk WF N #[(.int .i64 0), (.int .i64 0), (.int .i64 0), (.slice none 0 0)] 53 := by rw [hWF]; exact (((HHN.out.set 0 (.int .i64 0)).set 1 (.int .i64 0)).set 2 (.int .i64 0)).set 3 (.slice none 0 0)
        have hBF : Below w.heap.size w WF := by rw [hWF]; exact (((HB4.out.setCell (p := ⟨N, 0, none⟩) (by have := HN.out; simp only; omega) _).setCell (p := ⟨N, 1, none⟩) (by have := HN.out; simp only; omega) _).setCell (p := ⟨N, 2, none⟩) (by have := HN.out; simp only; omega) _).setCell (p := ⟨N, 3, none⟩) (by have := HN.out; simp only; omega) _
        skip
        rw [← hWF]
        have r0 : WF.cell? ⟨N, 0, none⟩ = some ((.int .i64 0)) := cell_at k1 0
        have r1 : WF.cell? ⟨N, 1, none⟩ = some ((.int .i64 0)) := cell_at k1 1
        have r2 : WF.cell? ⟨N, 2, none⟩ = some ((.int .i64 0)) := cell_at k1 2
        have r3 : WF.cell? ⟨N, 3, none⟩ = some ((.slice none 0 0)) := cell_at k1 3
        exact bodyPost_ret (v := .tuple #[.agg #[(.int .i64 0), (.int .i64 0), (.int .i64 0), (.slice none 0 0)], .int .i64 230]) (by simp [results, Try.results22, go_sem, r0, r1, r2, r3]) rfl ⟨hBF, .inl ⟨HQ.out, rfl⟩⟩
      · go_wp2_with fail
        obtain ⟨WF, hWF⟩ : ∃ WF, WF = (((W3.setCell ⟨N, 0, none⟩ (.int .i64 0)).setCell ⟨N, 1, none⟩ (.int .i64 (t : Nat))).setCell ⟨N, 2, none⟩ (.int .i64 (c : Nat))).setCell ⟨N, 3, none⟩ (.slice a' (n - 8 : Nat) c') := ⟨_, rfl⟩
        have k1 : Blk WF N #[(.int .i64 0), (.int .i64 (t : Nat)), (.int .i64 (c : Nat)), (.slice a' (n - 8 : Nat) c')] 53 := by rw [hWF]; exact (((HHN.out.set 0 (.int .i64 0)).set 1 (.int .i64 (t : Nat))).set 2 (.int .i64 (c : Nat))).set 3 (.slice a' (n - 8 : Nat) c')
        have hBF : Below w.heap.size w WF := by rw [hWF]; exact (((HB4.out.setCell (p := ⟨N, 0, none⟩) (by have := HN.out; simp only; omega) _).setCell (p := ⟨N, 1, none⟩) (by have := HN.out; simp only; omega) _).setCell (p := ⟨N, 2, none⟩) (by have := HN.out; simp only; omega) _).setCell (p := ⟨N, 3, none⟩) (by have := HN.out; simp only; omega) _
        have hq9 : 0 < n - 8 → b' ≠ N := fun hp => by have := HF.out hp; omega
        have hbF : ByIn WF a' (n - 8) c' b' 0 fun j => X (8 + j) := by rw [hWF]; exact (((HBYc.out.ne ⟨N, 0, none⟩ hq9 _).ne ⟨N, 1, none⟩ hq9 _).ne ⟨N, 2, none⟩ hq9 _).ne ⟨N, 3, none⟩ hq9 _
        rw [← hWF]
        have r0 : WF.cell? ⟨N, 0, none⟩ = some ((.int .i64 0)) := cell_at k1 0
        have r1 : WF.cell? ⟨N, 1, none⟩ = some ((.int .i64 (t : Nat))) := cell_at k1 1
        have r2 : WF.cell? ⟨N, 2, none⟩ = some ((.int .i64 (c : Nat))) := cell_at k1 2
        have r3 : WF.cell? ⟨N, 3, none⟩ = some ((.slice a' (n - 8 : Nat) c')) := cell_at k1 3
        exact bodyPost_ret (v := .tuple #[.agg #[(.int .i64 0), (.int .i64 (t : Nat)), (.int .i64 (c : Nat)), (.slice a' (n - 8 : Nat) c')], .int .i64 0]) (by simp [results, Try.results22, go_sem, r0, r1, r2, r3]) rfl ⟨hBF, .inr ⟨HQ.out, a', c', b', by rw [← HT.out, ← HC.out], hbF, fun hp => by have := HF.out hp; have := HN.out; omega⟩⟩
    · have HQ : Hid (parseOk X n = false) := Lib.hid (by unfold parseOk; rw [← HT.out, decide_eq_false htt]; simp)
      go_wp2_with fail
      go_at_call 33
      refine (build_arg 0 t c a' (n - 8) c' _ (by omega) (by omega)).mono ?_
      rintro e W2 ⟨rfl, hB2⟩
      have HB3 : Hid (Below w.heap.size w W2) := Lib.hid (HB.out.trans (hB2.mono HB.out.size))
      have HHZ2 := Lib.hid (HHZ.out.step hB2)
      have hh := HHZ2.out
      have h0 : W2.cell? ⟨N, 0, none⟩ = some (.int .i64 0) := cell_at hh 0
      have h1 : W2.cell? ⟨N, 1, none⟩ = some (.int .i64 0) := cell_at hh 1
      have h2 : W2.cell? ⟨N, 2, none⟩ = some (.int .i64 0) := cell_at hh 2
      have h3 : W2.cell? ⟨N, 3, none⟩ = some (.slice none 0 0) := cell_at hh 3
      have z0 := free_at hh 0
      have z1 := free_at hh 1
      have z2 := free_at hh 2
      have z3 := free_at hh 3
      have hlt3 : N < W2.heap.size := hh.lt
      clear hB2 g0 g1 g2 g3 HBY HB HG HHZ hh
      go_wp2_with fail
      obtain ⟨WF, hWF⟩ : ∃ WF, WF = (((W2.setCell ⟨N, 0, none⟩ (.int .i64 0)).setCell ⟨N, 1, none⟩ (.int .i64 0)).setCell ⟨N, 2, none⟩ (.int .i64 0)).setCell ⟨N, 3, none⟩ (.slice none 0 0) := ⟨_, rfl⟩
      have k1 : Blk WF N #[(.int .i64 0), (.int .i64 0), (.int .i64 0), (.slice none 0 0)] 53 := by rw [hWF]; exact (((HHZ2.out.set 0 (.int .i64 0)).set 1 (.int .i64 0)).set 2 (.int .i64 0)).set 3 (.slice none 0 0)
      have hBF : Below w.heap.size w WF := by rw [hWF]; exact (((HB3.out.setCell (p := ⟨N, 0, none⟩) (by have := HN.out; simp only; omega) _).setCell (p := ⟨N, 1, none⟩) (by have := HN.out; simp only; omega) _).setCell (p := ⟨N, 2, none⟩) (by have := HN.out; simp only; omega) _).setCell (p := ⟨N, 3, none⟩) (by have := HN.out; simp only; omega) _
      skip
      rw [← hWF]
      have r0 : WF.cell? ⟨N, 0, none⟩ = some ((.int .i64 0)) := cell_at k1 0
      have r1 : WF.cell? ⟨N, 1, none⟩ = some ((.int .i64 0)) := cell_at k1 1
      have r2 : WF.cell? ⟨N, 2, none⟩ = some ((.int .i64 0)) := cell_at k1 2
      have r3 : WF.cell? ⟨N, 3, none⟩ = some ((.slice none 0 0)) := cell_at k1 3
      exact bodyPost_ret (v := .tuple #[.agg #[(.int .i64 0), (.int .i64 0), (.int .i64 0), (.slice none 0 0)], .int .i64 230]) (by simp [results, Try.results22, go_sem, r0, r1, r2, r3]) rfl ⟨hBF, .inl ⟨HQ.out, rfl⟩⟩
end Go.Proofs.Ytoodmocapagapaa
namespace Go.Proofs.Ytoodmocapagapaa
open Go.RowKit
set_option linter.unusedSimpArgs false
set_option linter.unusedVariables false

set_option maxRecDepth 100000 in
set_option maxHeartbeats 8000000 in
theorem parse_eight (b o : Nat) (X : Nat → Nat) (w : World) (h1 : ByIn w (some ⟨b, o, none⟩) 8 8 b o X) : Calls Try.prog 22 #[.slice (some ⟨b, o, none⟩) 8 8] w (ParseP w 8 X) := by
  have HA := Lib.hid h1
  have hlt : b < w.heap.size := (h1.at_ (by omega)).2
  have f1 := h1.cell 1 (by omega)
  have f2 := h1.cell 2 (by omega)
  have x1 := h1.bd 1
  have x2 := h1.bd 2
  obtain ⟨t, ht⟩ : ∃ t, t = X 1 := ⟨_, rfl⟩
  obtain ⟨c, hc⟩ : ∃ c, c = X 2 := ⟨_, rfl⟩
  rw [← ht] at f1 x1
  rw [← hc] at f2 x2
  have HT := Lib.hid ht
  have HC := Lib.hid hc
  have HB0 : Hid (Below w.heap.size w (w.alloc (.cells #[.int .i64 0, .int .i64 0, .int .i64 0, .slice none 0 0] 53)).drew) := Lib.hid ((Below.refl _ _).alloc (Nat.le_refl _) _).drew
  have HH0 : Hid (Blk (w.alloc (.cells #[.int .i64 0, .int .i64 0, .int .i64 0, .slice none 0 0] 53)).drew w.heap.size #[.int .i64 0, .int .i64 0, .int .i64 0, .slice none 0 0] 53) := Lib.hid (blk_new _ _ _)
  have HB2 : Hid (Below w.heap.size w ((w.alloc (.cells #[.int .i64 0, .int .i64 0, .int .i64 0, .slice none 0 0] 53)).alloc (.cells #[.int .i64 0, .int .i64 0, .int .i64 0, .slice none 0 0] 53)).drew) := Lib.hid (((Below.refl _ _).alloc (Nat.le_refl _) _).alloc (by simp) _).drew
  have HH2 : Hid (Blk ((w.alloc (.cells #[.int .i64 0, .int .i64 0, .int .i64 0, .slice none 0 0] 53)).alloc (.cells #[.int .i64 0, .int .i64 0, .int .i64 0, .slice none 0 0] 53)).drew w.heap.size #[.int .i64 0, .int .i64 0, .int .i64 0, .slice none 0 0] 53 ∧ Blk ((w.alloc (.cells #[.int .i64 0, .int .i64 0, .int .i64 0, .slice none 0 0] 53)).alloc (.cells #[.int .i64 0, .int .i64 0, .int .i64 0, .slice none 0 0] 53)).drew (w.heap.size + 1) #[.int .i64 0, .int .i64 0, .int .i64 0, .slice none 0 0] 53) := Lib.hid ⟨(blk_new _ _ _).alloc _, by have h := blk_new (w.alloc (.cells #[.int .i64 0, .int .i64 0, .int .i64 0, .slice none 0 0] 53)) #[.int .i64 0, .int .i64 0, .int .i64 0, .slice none 0 0] 53; rw [World.size_alloc] at h; exact h⟩
  have wt : IntKind.i64.wrap (t : Int) = t := IntWalk.i64_in _ (by omega)
  have wc : IntKind.i64.wrap (c : Int) = c := IntWalk.i64_in _ (by omega)
  clear h1 ht hc
  have HTL : Hid (∀ W, Below w.heap.size w W → ByIn W (some ⟨b, o, none⟩) 0 0 b o fun j => X (8 + j)) := Lib.hid (fun W h => by_none (HA.out.below h) 8 rfl)
  have q1 : (b = w.heap.size + 1) = False := eq_false (by omega)
  have q2 : (w.heap.size + 1 = b) = False := eq_false (by omega)
  go_enter Try.func22, Try.ntmps22
  go_wp2_with fail
  go_cut [4] (fun p W => ∃ g a' c' b', p = .pointer (some ⟨g, 0, none⟩) ∧ Blk W g #[.int .i64 0, .int .i64 (t : Nat), .int .i64 (c : Nat), .slice a' 0 c'] 53 ∧ ByIn W a' 0 c' b' 0 (fun j => X (8 + j)) ∧ Blk W w.heap.size #[.int .i64 0, .int .i64 0, .int .i64 0, .slice none 0 0] 53 ∧ w.heap.size < g ∧ (0 < 0 → w.heap.size < b') ∧ Below w.heap.size w W)
  case first =>
    go_region_held3 (fun W => W.cell? ⟨b, o + 1, none⟩ = some (.int .u8 (t : Nat)) ∧ W.cell? ⟨b, o + 2, none⟩ = some (.int .u8 (c : Nat))) (first | with_reducible exact ⟨f1, f2⟩ | go_keep)
      (first
      | (go_at_call 39; refine (pclone_any _ _ _ _ _ _ _ (HTL.out _ HB0.out) (by omega)).mono ?_; rintro e W1 ⟨a', c', b', rfl, hby, hfr, hB1⟩; have HB1 := Lib.hid (HB0.out.trans (hB1.mono HB0.out.size)); have HH1 := Lib.hid (Blk.step HH0.out hB1); have f1 := (HB1.out.cell (p := ⟨b, o + 1, none⟩) hlt).trans f1; have f2 := (HB1.out.cell (p := ⟨b, o + 2, none⟩) hlt).trans f2)
      | (go_at_call 39; refine (pclone_any _ _ _ _ _ _ _ (HTL.out _ HB2.out) (by omega)).mono ?_; rintro e W1 ⟨a', c', b', rfl, hby, hfr, hB1⟩; have HB1 := Lib.hid (HB2.out.trans (hB1.mono HB2.out.size)); have HH1 := Lib.hid (And.intro (Blk.step HH2.out.1 hB1) (Blk.step HH2.out.2 hB1)); have c0 : W1.cell? ⟨w.heap.size + 1, 0, none⟩ = some (.int .i64 0) := cell_at HH1.out.2 0; have z0 : W1.frozen? ⟨w.heap.size + 1, 0, none⟩ = false := free_at HH1.out.2 0; have c1 : W1.cell? ⟨w.heap.size + 1, 1, none⟩ = some (.int .i64 0) := cell_at HH1.out.2 1; have z1 : W1.frozen? ⟨w.heap.size + 1, 1, none⟩ = false := free_at HH1.out.2 1; have c2 : W1.cell? ⟨w.heap.size + 1, 2, none⟩ = some (.int .i64 0) := cell_at HH1.out.2 2; have z2 : W1.frozen? ⟨w.heap.size + 1, 2, none⟩ = false := free_at HH1.out.2 2; have c3 : W1.cell? ⟨w.heap.size + 1, 3, none⟩ = some (.slice none 0 0) := cell_at HH1.out.2 3; have z3 : W1.frozen? ⟨w.heap.size + 1, 3, none⟩ = false := free_at HH1.out.2 3; have f1 := (HB1.out.cell (p := ⟨b, o + 1, none⟩) hlt).trans f1; have f2 := (HB1.out.cell (p := ⟨b, o + 2, none⟩) hlt).trans f2))
    · go_wp2_with fail
      go_meet
      have hal : Below W1.heap.size W1 (W1.alloc (.cells #[.int .i64 0, .int .i64 (t : Nat), .int .i64 (c : Nat), .slice a' 0 c'] 53)) := (Below.refl _ _).alloc (Nat.le_refl _) _
      exact ⟨W1.heap.size, a', c', b', rfl, blk_new _ _ _, hby.below hal, Blk.step HH1.out hal, HH1.out.lt, (fun hp => by have := hfr hp; simp at this; omega), HB1.out.alloc HB1.out.size _⟩
    · go_wp2_with fail
      go_meet
      have k1 := (((HH1.out.2.set 0 (.int .i64 0)).set 1 (.int .i64 (t : Nat))).set 2 (.int .i64 (c : Nat))).set 3 (.slice a' 0 c')
      have k2 := (((HH1.out.1.ne ⟨w.heap.size + 1, 0, none⟩ (by simp) (.int .i64 0)).ne ⟨w.heap.size + 1, 1, none⟩ (by simp) (.int .i64 (t : Nat))).ne ⟨w.heap.size + 1, 2, none⟩ (by simp) (.int .i64 (c : Nat))).ne ⟨w.heap.size + 1, 3, none⟩ (by simp) (.slice a' 0 c')
      have hz2 : w.heap.size + 2 ≤ W1.heap.size := by have := hB1.size; simpa using this
      have hfr2 : 0 < 0 → b' ≠ w.heap.size + 1 := fun hp => by have := hfr hp; simp at this; omega
      have k3 := (((hby.ne ⟨w.heap.size + 1, 0, none⟩ hfr2 (.int .i64 0)).ne ⟨w.heap.size + 1, 1, none⟩ hfr2 (.int .i64 (t : Nat))).ne ⟨w.heap.size + 1, 2, none⟩ hfr2 (.int .i64 (c : Nat))).ne ⟨w.heap.size + 1, 3, none⟩ hfr2 (.slice a' 0 c')
      exact ⟨w.heap.size + 1, a', c', b', rfl, k1, k3, k2, by omega, (fun hp => by have := hfr hp; simp at this; omega), (((HB1.out.setCell (p := ⟨w.heap.size + 1, 0, none⟩) (by simp) _).setCell (p := ⟨w.heap.size + 1, 1, none⟩) (by simp) _).setCell (p := ⟨w.heap.size + 1, 2, none⟩) (by simp) _).setCell (p := ⟨w.heap.size + 1, 3, none⟩) (by simp) _⟩
  case rest =>
    obtain ⟨g, a', c', b', rfl, hg, hby, hh, hlg, hfr, hB⟩ := hcut
    have g0 : wc.cell? ⟨g, 0, none⟩ = some (.int .i64 0) := cell_at hg 0
    have g1 : wc.cell? ⟨g, 1, none⟩ = some (.int .i64 (t : Nat)) := cell_at hg 1
    have g2 : wc.cell? ⟨g, 2, none⟩ = some (.int .i64 (c : Nat)) := cell_at hg 2
    have g3 : wc.cell? ⟨g, 3, none⟩ = some (.slice a' 0 c') := cell_at hg 3
    obtain ⟨N, hN⟩ : ∃ N, N = w.heap.size := ⟨_, rfl⟩
    rw [← hN] at hh hlg hfr
    rw [← hN]
    have HN := Lib.hid hN
    have HG := Lib.hid hg
    have HBY := Lib.hid hby
    have HHZ := Lib.hid hh
    have HB := Lib.hid hB
    have HF := Lib.hid hfr
    clear hN hg hby hh hB hfr q1 q2 HB0 HH0 HB2 HH2 HTL
    by_cases htt : 1 ≤ t ∧ t ≤ 16
    · obtain ⟨q, hq⟩ : ∃ q, q = eqB (againB X 8) X 8 := ⟨_, rfl⟩
      have HQ : Hid (parseOk X 8 = q) := Lib.hid (by unfold parseOk; rw [← HT.out, decide_eq_true (by omega), decide_eq_true htt, hq]; rfl)
      have HQ2 : Hid (∀ m, m = 8 + 0 → (m == 8 && eqB (fixB (putB (headB t c 0) 8 fun j => X (8 + j)) (65535 - sumN16 (putB (headB t c 0) 8 fun j => X (8 + j)) m)) X m) = q) := Lib.hid (fun m hm => by
        obtain rfl : m = 8 := by omega
        rw [hq, againB, HT.out, HC.out]
        simp)
      have hbdZ : ∀ j, (fixB (putB (headB t c 0) 8 fun j => X (8 + j)) (65535 - sumN16 (putB (headB t c 0) 8 fun j => X (8 + j)) (8 + 0))) j < 256 := fun j => fix_bd (head_bd x1 x2 (by omega) fun j => HA.out.bd _) (by omega) j
      have HZ := Lib.hid hbdZ
      clear hq hbdZ
      go_wp2_with fail
      go_at_call 33
      refine (build_any 0 t c a' 0 c' b' 0 (fun j => X (8 + j)) _ HBY.out htt (by omega) (by omega)).mono ?_
      rintro e W2 ⟨v, ob, rfl, hr, hob, hB2⟩
      obtain ⟨av, cv, rfl, hby2⟩ := row_by hr HZ.out
      have e8 : 8 + 0 = 8 := by omega
      rw [e8] at hby2 ⊢
      clear e8
      have HB3 : Hid (Below w.heap.size w W2) := Lib.hid (HB.out.trans (hB2.mono HB.out.size))
      have HBY2 := Lib.hid hby2
      have HG2 := Lib.hid (HG.out.step hB2)
      have HHZ2 := Lib.hid (HHZ.out.step hB2)
      have HBYb := Lib.hid (HBY.out.below hB2)
      clear hr hob hB2 hby2 g0 g1 g2 g3 HBY HB HG HHZ
      go_wp2_with fail
      go_at_call 40
      refine (equal_any _ _ _ _ _ _ _ _ _ _ _ _ _ HBY2.out (HA.out.below HB3.out)).mono ?_
      rintro e W3 ⟨rfl, hB3⟩
      have e4 := HQ2.out 8 (by omega)
      rw [e4]
      have HB4 : Hid (Below w.heap.size w W3) := Lib.hid (HB3.out.trans (hB3.mono HB3.out.size))
      have HBYc := Lib.hid (HBYb.out.below hB3)
      have hg := HG2.out.step hB3
      have hh := HHZ2.out.step hB3
      have g0 : W3.cell? ⟨g, 0, none⟩ = some (.int .i64 0) := cell_at hg 0
      have g1 : W3.cell? ⟨g, 1, none⟩ = some (.int .i64 (t : Nat)) := cell_at hg 1
      have g2 : W3.cell? ⟨g, 2, none⟩ = some (.int .i64 (c : Nat)) := cell_at hg 2
      have g3 : W3.cell? ⟨g, 3, none⟩ = some (.slice a' 0 c') := cell_at hg 3
      have h0 : W3.cell? ⟨N, 0, none⟩ = some (.int .i64 0) := cell_at hh 0
      have h1 : W3.cell? ⟨N, 1, none⟩ = some (.int .i64 0) := cell_at hh 1
      have h2 : W3.cell? ⟨N, 2, none⟩ = some (.int .i64 0) := cell_at hh 2
      have h3 : W3.cell? ⟨N, 3, none⟩ = some (.slice none 0 0) := cell_at hh 3
      have z0 := free_at hh 0
      have z1 := free_at hh 1
      have z2 := free_at hh 2
      have z3 := free_at hh 3
      have HHN := Lib.hid hh
      have hlt3 : N < W3.heap.size := hh.lt
      clear e4 hB3 HB3 HBY2 HG2 HHZ2 HBYb hg hh HQ2
      cases q
      · go_wp2_with fail
        obtain ⟨WF, hWF⟩ : ∃ WF, WF = (((W3.setCell ⟨N, 0, none⟩ (.int .i64 0)).setCell ⟨N, 1, none⟩ (.int .i64 0)).setCell ⟨N, 2, none⟩ (.int .i64 0)).setCell ⟨N, 3, none⟩ (.slice none 0 0) := ⟨_, rfl⟩
        have k1 : Blk WF N #[(.int .i64 0), (.int .i64 0), (.int .i64 0), (.slice none 0 0)] 53 := by rw [hWF]; exact (((HHN.out.set 0 (.int .i64 0)).set 1 (.int .i64 0)).set 2 (.int .i64 0)).set 3 (.slice none 0 0)
        have hBF : Below w.heap.size w WF := by rw [hWF]; exact (((HB4.out.setCell (p := ⟨N, 0, none⟩) (by have := HN.out; simp only; omega) _).setCell (p := ⟨N, 1, none⟩) (by have := HN.out; simp only; omega) _).setCell (p := ⟨N, 2, none⟩) (by have := HN.out; simp only; omega) _).setCell (p := ⟨N, 3, none⟩) (by have := HN.out; simp only; omega) _
        skip
        rw [← hWF]
        have r0 : WF.cell? ⟨N, 0, none⟩ = some ((.int .i64 0)) := cell_at k1 0
        have r1 : WF.cell? ⟨N, 1, none⟩ = some ((.int .i64 0)) := cell_at k1 1
        have r2 : WF.cell? ⟨N, 2, none⟩ = some ((.int .i64 0)) := cell_at k1 2
        have r3 : WF.cell? ⟨N, 3, none⟩ = some ((.slice none 0 0)) := cell_at k1 3
        exact bodyPost_ret (v := .tuple #[.agg #[(.int .i64 0), (.int .i64 0), (.int .i64 0), (.slice none 0 0)], .int .i64 230]) (by simp [results, Try.results22, go_sem, r0, r1, r2, r3]) rfl ⟨hBF, .inl ⟨HQ.out, rfl⟩⟩
      · go_wp2_with fail
        obtain ⟨WF, hWF⟩ : ∃ WF, WF = (((W3.setCell ⟨N, 0, none⟩ (.int .i64 0)).setCell ⟨N, 1, none⟩ (.int .i64 (t : Nat))).setCell ⟨N, 2, none⟩ (.int .i64 (c : Nat))).setCell ⟨N, 3, none⟩ (.slice a' 0 c') := ⟨_, rfl⟩
        have k1 : Blk WF N #[(.int .i64 0), (.int .i64 (t : Nat)), (.int .i64 (c : Nat)), (.slice a' 0 c')] 53 := by rw [hWF]; exact (((HHN.out.set 0 (.int .i64 0)).set 1 (.int .i64 (t : Nat))).set 2 (.int .i64 (c : Nat))).set 3 (.slice a' 0 c')
        have hBF : Below w.heap.size w WF := by rw [hWF]; exact (((HB4.out.setCell (p := ⟨N, 0, none⟩) (by have := HN.out; simp only; omega) _).setCell (p := ⟨N, 1, none⟩) (by have := HN.out; simp only; omega) _).setCell (p := ⟨N, 2, none⟩) (by have := HN.out; simp only; omega) _).setCell (p := ⟨N, 3, none⟩) (by have := HN.out; simp only; omega) _
        have hq9 : 0 < 0 → b' ≠ N := fun hp => by have := HF.out hp; omega
        have hbF : ByIn WF a' 0 c' b' 0 fun j => X (8 + j) := by rw [hWF]; exact (((HBYc.out.ne ⟨N, 0, none⟩ hq9 _).ne ⟨N, 1, none⟩ hq9 _).ne ⟨N, 2, none⟩ hq9 _).ne ⟨N, 3, none⟩ hq9 _
        rw [← hWF]
        have r0 : WF.cell? ⟨N, 0, none⟩ = some ((.int .i64 0)) := cell_at k1 0
        have r1 : WF.cell? ⟨N, 1, none⟩ = some ((.int .i64 (t : Nat))) := cell_at k1 1
        have r2 : WF.cell? ⟨N, 2, none⟩ = some ((.int .i64 (c : Nat))) := cell_at k1 2
        have r3 : WF.cell? ⟨N, 3, none⟩ = some ((.slice a' 0 c')) := cell_at k1 3
        exact bodyPost_ret (v := .tuple #[.agg #[(.int .i64 0), (.int .i64 (t : Nat)), (.int .i64 (c : Nat)), (.slice a' 0 c')], .int .i64 0]) (by simp [results, Try.results22, go_sem, r0, r1, r2, r3]) rfl ⟨hBF, .inr ⟨HQ.out, a', c', b', by rw [← HT.out, ← HC.out], hbF, fun hp => by have := HF.out hp; have := HN.out; omega⟩⟩
    · have HQ : Hid (parseOk X 8 = false) := Lib.hid (by unfold parseOk; rw [← HT.out, decide_eq_false htt]; simp)
      go_wp2_with fail
      go_at_call 33
      refine (build_arg 0 t c a' 0 c' _ (by omega) (by omega)).mono ?_
      rintro e W2 ⟨rfl, hB2⟩
      have HB3 : Hid (Below w.heap.size w W2) := Lib.hid (HB.out.trans (hB2.mono HB.out.size))
      have HHZ2 := Lib.hid (HHZ.out.step hB2)
      have hh := HHZ2.out
      have h0 : W2.cell? ⟨N, 0, none⟩ = some (.int .i64 0) := cell_at hh 0
      have h1 : W2.cell? ⟨N, 1, none⟩ = some (.int .i64 0) := cell_at hh 1
      have h2 : W2.cell? ⟨N, 2, none⟩ = some (.int .i64 0) := cell_at hh 2
      have h3 : W2.cell? ⟨N, 3, none⟩ = some (.slice none 0 0) := cell_at hh 3
      have z0 := free_at hh 0
      have z1 := free_at hh 1
      have z2 := free_at hh 2
      have z3 := free_at hh 3
      have hlt3 : N < W2.heap.size := hh.lt
      clear hB2 g0 g1 g2 g3 HBY HB HG HHZ hh
      go_wp2_with fail
      obtain ⟨WF, hWF⟩ : ∃ WF, WF = (((W2.setCell ⟨N, 0, none⟩ (.int .i64 0)).setCell ⟨N, 1, none⟩ (.int .i64 0)).setCell ⟨N, 2, none⟩ (.int .i64 0)).setCell ⟨N, 3, none⟩ (.slice none 0 0) := ⟨_, rfl⟩
      have k1 : Blk WF N #[(.int .i64 0), (.int .i64 0), (.int .i64 0), (.slice none 0 0)] 53 := by rw [hWF]; exact (((HHZ2.out.set 0 (.int .i64 0)).set 1 (.int .i64 0)).set 2 (.int .i64 0)).set 3 (.slice none 0 0)
      have hBF : Below w.heap.size w WF := by rw [hWF]; exact (((HB3.out.setCell (p := ⟨N, 0, none⟩) (by have := HN.out; simp only; omega) _).setCell (p := ⟨N, 1, none⟩) (by have := HN.out; simp only; omega) _).setCell (p := ⟨N, 2, none⟩) (by have := HN.out; simp only; omega) _).setCell (p := ⟨N, 3, none⟩) (by have := HN.out; simp only; omega) _
      skip
      rw [← hWF]
      have r0 : WF.cell? ⟨N, 0, none⟩ = some ((.int .i64 0)) := cell_at k1 0
      have r1 : WF.cell? ⟨N, 1, none⟩ = some ((.int .i64 0)) := cell_at k1 1
      have r2 : WF.cell? ⟨N, 2, none⟩ = some ((.int .i64 0)) := cell_at k1 2
      have r3 : WF.cell? ⟨N, 3, none⟩ = some ((.slice none 0 0)) := cell_at k1 3
      exact bodyPost_ret (v := .tuple #[.agg #[(.int .i64 0), (.int .i64 0), (.int .i64 0), (.slice none 0 0)], .int .i64 230]) (by simp [results, Try.results22, go_sem, r0, r1, r2, r3]) rfl ⟨hBF, .inl ⟨HQ.out, rfl⟩⟩

theorem parse_any (a : Option Addr) (n ca b o : Nat) (X : Nat → Nat) (w : World) (h : ByIn w a n ca b o X) : Calls Try.prog 22 #[.slice a n ca] w (ParseP w n X) := by
  have hm := h.max
  have hl := h.le
  unfold maxLen at hm
  by_cases h1 : n < 8 ∨ 1500 < n
  · exact parse_short a n ca X w (by omega) h1
  · obtain ⟨e0, _⟩ := h.at_ (by omega)
    subst e0
    by_cases h2 : ca = 8
    · obtain rfl := h2.symm
      obtain rfl : n = 8 := by omega
      exact parse_eight b o X w h
    · exact parse_full n ca b o X w h (by omega) (by omega) h2
end Go.Proofs.Ytoodmocapagapaa
namespace Go.Proofs.Ytoodmocapagapaa
open Go.RowKit
set_option linter.unusedSimpArgs false
set_option linter.unusedVariables false

end Go.Proofs.Ytoodmocapagapaa
namespace Go.Proofs.Ytoodmocapagapaa
open Go.RowKit
set_option linter.unusedSimpArgs false
set_option linter.unusedVariables false

def bytesOf (X : Nat → Nat) (n : Nat) : List UInt8 := (List.range n).map fun j => UInt8.ofNat (X j)
theorem bytesOf_len (X : Nat → Nat) (n : Nat) : (bytesOf X n).length = n := by simp [bytesOf]
theorem ByIn.string {W : World} {a : Option Addr} {n c b o : Nat} {X : Nat → Nat} (h : ByIn W a n c b o X) : (convert 42 9 (.slice a n c)).run Try.prog W = .ok (.string ⟨(bytesOf X n).toArray⟩) W := by
  by_cases h0 : n = 0
  · subst h0
    cases a with
    | none =>
      rw [run_convert_bytes_string W 42 9 5 none _ c Try.underlying42 Try.underlying5 Try.underlying9]
      rfl
    | some x => exact run_convert_bytes_back (P := Try.prog) W 42 9 5 x c [] Try.underlying42 Try.underlying5 Try.underlying9 fun j hj => by simp at hj
  · obtain ⟨e0, _⟩ := h.at_ (by omega)
    subst e0
    have hr := run_convert_bytes_back (P := Try.prog) W 42 9 5 ⟨b, o, none⟩ c (bytesOf X n) Try.underlying42 Try.underlying5 Try.underlying9 fun j hj => by
      rw [bytesOf_len] at hj
      rw [addr_add, h.cell j hj]
      have hb := h.bd j
      simp [bytesOf]
      omega
    rw [bytesOf_len] at hr
    exact hr

theorem fsize_any (num t c : Int) (la : Option Addr) (ln lc : Nat) (w : World) (hn : ln ≤ 4611686018427387904) :
    Calls Try.prog 42 #[.agg #[.int .i64 num, .int .i64 t, .int .i64 c, .slice la ln lc]] w fun e w' => e = .returned (.int .i64 (8 + (ln : Int))) ∧ Below w.heap.size w w' := by
  go_enter Try.func42, Try.ntmps42
  go_wp2_with fail
  go_ret
  exact ⟨rfl, (Below.refl _ _).alloc (Nat.le_refl _) _⟩

set_option maxRecDepth 100000 in
set_option maxHeartbeats 8000000 in
theorem ftwin_any (num t c : Int) (a : Option Addr) (n ca b o : Nat) (X : Nat → Nat) (w : World) (h1 : ByIn w a n ca b o X) (hn : n ≤ 5000) :
    Calls Try.prog 44 #[.agg #[.int .i64 num, .int .i64 t, .int .i64 c, .slice a n ca]] w fun e w' => ∃ a' c' b', e = .returned (.agg #[.int .i64 num, .int .i64 t, .int .i64 c, .slice a' n c']) ∧ ByIn w' a' n c' b' 0 X ∧ (0 < n → w.heap.size ≤ b') ∧ Below w.heap.size w w' := by
  have HS := Lib.hid h1
  clear h1
  obtain ⟨N, hN⟩ : ∃ N, N = w.heap.size := ⟨_, rfl⟩
  have HN := Lib.hid hN
  have HB0 : Hid (Below w.heap.size w ((w.alloc (.cells #[.int .i64 num, .int .i64 t, .int .i64 c, .slice a n ca] 53)).alloc (.cells #[.int .i64 0, .int .i64 0, .int .i64 0, .slice none 0 0] 53))) := Lib.hid (((Below.refl _ _).alloc (Nat.le_refl _) _).alloc (by simp) _)
  have HP : Hid (Blk ((w.alloc (.cells #[.int .i64 num, .int .i64 t, .int .i64 c, .slice a n ca] 53)).alloc (.cells #[.int .i64 0, .int .i64 0, .int .i64 0, .slice none 0 0] 53)) N #[.int .i64 num, .int .i64 t, .int .i64 c, .slice a n ca] 53) := Lib.hid (by rw [hN]; exact (blk_new _ _ _).alloc _)
  have HR : Hid (Blk ((w.alloc (.cells #[.int .i64 num, .int .i64 t, .int .i64 c, .slice a n ca] 53)).alloc (.cells #[.int .i64 0, .int .i64 0, .int .i64 0, .slice none 0 0] 53)) (N + 1) #[.int .i64 0, .int .i64 0, .int .i64 0, .slice none 0 0] 53) := Lib.hid (by have := blk_new (w.alloc (.cells #[.int .i64 num, .int .i64 t, .int .i64 c, .slice a n ca] 53)) #[.int .i64 0, .int .i64 0, .int .i64 0, .slice none 0 0] 53; rw [World.size_alloc, ← hN] at this; exact this)
  clear hN
  go_enter Try.func44, Try.ntmps44
  go_wp2_with fail
  go_at_call 39
  refine (pclone_any _ _ _ _ _ _ _ (HS.out.below HB0.out) hn).mono ?_
  rintro e W1 ⟨a', c', b', rfl, hby, hfr, hB1⟩
  rw [← HN.out]
  have HB1 := Lib.hid (HB0.out.trans (hB1.mono HB0.out.size))
  have HP1 := Lib.hid (HP.out.step hB1)
  have HR1 := Lib.hid (HR.out.step hB1)
  have HBY := Lib.hid hby
  have HF : Hid (0 < n → N + 2 ≤ b') := Lib.hid (fun hp => by have := hfr hp; simp only [World.size_alloc] at this; rw [← HN.out] at this; omega)
  clear hby hfr hB1 HB0 HP HR
  have c0 : W1.cell? ⟨N, 0, none⟩ = some (.int .i64 num) := cell_at HP1.out 0
  have c1 : W1.cell? ⟨N, 1, none⟩ = some (.int .i64 t) := cell_at HP1.out 1
  have c2 : W1.cell? ⟨N, 2, none⟩ = some (.int .i64 c) := cell_at HP1.out 2
  have c3 : W1.cell? ⟨N, 3, none⟩ = some (.slice a n ca) := cell_at HP1.out 3
  have z3 := free_at HP1.out 3
  have d0 : W1.cell? ⟨N + 1, 0, none⟩ = some (.int .i64 0) := cell_at HR1.out 0
  have d1 : W1.cell? ⟨N + 1, 1, none⟩ = some (.int .i64 0) := cell_at HR1.out 1
  have d2 : W1.cell? ⟨N + 1, 2, none⟩ = some (.int .i64 0) := cell_at HR1.out 2
  have d3 : W1.cell? ⟨N + 1, 3, none⟩ = some (.slice none 0 0) := cell_at HR1.out 3
  have y0 := free_at HR1.out 0
  have y1 := free_at HR1.out 1
  have y2 := free_at HR1.out 2
  have y3 := free_at HR1.out 3
  have hl1 : N < W1.heap.size := HP1.out.lt
  have hl2 : N + 1 < W1.heap.size := HR1.out.lt
  go_wp2_with fail
  obtain ⟨WF, hWF⟩ : ∃ WF, WF = ((((W1.setCell ⟨N, 3, none⟩ (.slice a' n c')).setCell ⟨N + 1, 0, none⟩ (.int .i64 num)).setCell ⟨N + 1, 1, none⟩ (.int .i64 t)).setCell ⟨N + 1, 2, none⟩ (.int .i64 c)).setCell ⟨N + 1, 3, none⟩ (.slice a' n c') := ⟨_, rfl⟩
  have k1 : Blk WF (N + 1) #[.int .i64 num, .int .i64 t, .int .i64 c, .slice a' n c'] 53 := by rw [hWF]; exact ((((HR1.out.ne ⟨N, 3, none⟩ (by simp) _).set 0 (.int .i64 num)).set 1 (.int .i64 t)).set 2 (.int .i64 c)).set 3 (.slice a' n c')
  have hBF : Below w.heap.size w WF := by rw [hWF]; exact ((((HB1.out.setCell (p := ⟨N, 3, none⟩) (by have := HN.out; simp only; omega) _).setCell (p := ⟨N + 1, 0, none⟩) (by have := HN.out; simp only; omega) _).setCell (p := ⟨N + 1, 1, none⟩) (by have := HN.out; simp only; omega) _).setCell (p := ⟨N + 1, 2, none⟩) (by have := HN.out; simp only; omega) _).setCell (p := ⟨N + 1, 3, none⟩) (by have := HN.out; simp only; omega) _
  have hn1 : 0 < n → b' ≠ N := fun hp => by have := HF.out hp; omega
  have hn2 : 0 < n → b' ≠ N + 1 := fun hp => by have := HF.out hp; omega
  have k2 : ByIn WF a' n c' b' 0 X := by rw [hWF]; exact ((((HBY.out.ne ⟨N, 3, none⟩ hn1 _).ne ⟨N + 1, 0, none⟩ hn2 _).ne ⟨N + 1, 1, none⟩ hn2 _).ne ⟨N + 1, 2, none⟩ hn2 _).ne ⟨N + 1, 3, none⟩ hn2 _
  rw [← hWF]
  have r0 : WF.cell? ⟨N + 1, 0, none⟩ = some (.int .i64 num) := cell_at k1 0
  have r1 : WF.cell? ⟨N + 1, 1, none⟩ = some (.int .i64 t) := cell_at k1 1
  have r2 : WF.cell? ⟨N + 1, 2, none⟩ = some (.int .i64 c) := cell_at k1 2
  have r3 : WF.cell? ⟨N + 1, 3, none⟩ = some (.slice a' n c') := cell_at k1 3
  exact bodyPost_ret (v := .agg #[.int .i64 num, .int .i64 t, .int .i64 c, .slice a' n c']) (by simp [results, Try.results44, go_sem, r0, r1, r2, r3]) rfl ⟨a', c', b', rfl, k2, (fun hp => by have := HF.out hp; have := HN.out; omega), hBF⟩
end Go.Proofs.Ytoodmocapagapaa
namespace Go.Proofs.Ytoodmocapagapaa
open Go.RowKit
set_option linter.unusedSimpArgs false
set_option linter.unusedVariables false

/-- a packet, and where its load lies -/
structure PkE where
  num : Int
  t : Int
  c : Int
  a : Option Addr
  n : Nat
  ca : Nat
  b : Nat
  o : Nat
  X : Nat → Nat
def PkE.cells (p : PkE) : List Value := [.int .i64 p.num, .int .i64 p.t, .int .i64 p.c, .slice p.a p.n p.ca]
def putE (E : Nat → PkE) (k : Nat) (p : PkE) (j : Nat) : PkE := if j = k then p else E j

/-- a packet's load, apart from the queue's own blocks -/
structure LdIn (W : World) (D R : Nat) (p : PkE) : Prop where
  by_ : ByIn W p.a p.n p.ca p.b p.o p.X
  le : p.n ≤ 1492
  d : 0 < p.n → p.b ≠ D
  r : 0 < p.n → p.b ≠ R

/-- a queue: its block D, its ring's block R -/
structure FqIn (W : World) (D R o room f n : Nat) (by_ dr : Int) (E : Nat → PkE) : Prop where
  own : Blk W D #[.slice (some ⟨R, o, none⟩) room room, .int .i64 (f : Nat), .int .i64 (n : Nat), .int .i64 by_, .int .i64 dr] 91
  ring : ∃ cur : Array Value, Blk W R cur 53 ∧ cur.size = o + room * 4 ∧ ∀ j, j < n → ∀ i, i < 4 → cur[o + (f + j) % room * 4 + i]? = (E j).cells[i]?
  ne : D ≠ R
  r1 : 1 ≤ room
  r64 : room ≤ 64
  fl : f < room
  nl : n ≤ room
  ld : ∀ j, j < n → LdIn W D R (E j)

theorem LdIn.fr {W W' : World} {D R : Nat} {p : PkE} (h : LdIn W D R p) (hF : Fr [D, R] W W') : LdIn W' D R p :=
  ⟨⟨h.by_.le, h.by_.max, fun hk => ⟨(h.by_.at_ hk).1, by have := (h.by_.at_ hk).2; have := hF.size; omega⟩, fun k hk => by
    have hb := (h.by_.at_ (by omega)).2
    have h1 := h.d (by omega)
    have h2 := h.r (by omega)
    exact (cell_congr (hF.block p.b hb (by simp [h1, h2])) _).trans (h.by_.cell k hk), h.by_.bd⟩, h.le, h.d, h.r⟩

theorem mod_ne {f n j room : Nat} (hf : f < room) (hn : n < room) (hj : j < n) : (f + j) % room ≠ (f + n) % room := by
  intro h
  have e1 : (f + j) % room = if f + j < room then f + j else f + j - room := by
    split
    · exact Nat.mod_eq_of_lt (by omega)
    · rw [Nat.mod_eq_sub_mod (by omega), Nat.mod_eq_of_lt (by omega)]
  have e2 : (f + n) % room = if f + n < room then f + n else f + n - room := by
    split
    · exact Nat.mod_eq_of_lt (by omega)
    · rw [Nat.mod_eq_sub_mod (by omega), Nat.mod_eq_of_lt (by omega)]
  rw [e1, e2] at h
  split at h <;> split at h <;> omega

def put4 (cur : Array Value) (m : Nat) (v0 v1 v2 v3 : Value) : Array Value := (((cur.setIfInBounds m v0).setIfInBounds (m + 1) v1).setIfInBounds (m + 2) v2).setIfInBounds (m + 3) v3
theorem put4_size (cur : Array Value) (m : Nat) (v0 v1 v2 v3 : Value) : (put4 cur m v0 v1 v2 v3).size = cur.size := by simp [put4]
theorem put4_at (cur : Array Value) (m : Nat) (v0 v1 v2 v3 : Value) (h : m + 4 ≤ cur.size) (i : Nat) (hi : i < 4) : (put4 cur m v0 v1 v2 v3)[m + i]? = [v0, v1, v2, v3][i]? := by
  unfold put4
  have h4 : i = 0 ∨ i = 1 ∨ i = 2 ∨ i = 3 := by omega
  have q0 : m < cur.size := by omega
  have q1 : m + 1 < cur.size := by omega
  have q2 : m + 2 < cur.size := by omega
  have q3 : m + 3 < cur.size := by omega
  rcases h4 with rfl | rfl | rfl | rfl <;> simp [Array.getElem?_setIfInBounds, q0, q1, q2, q3]
theorem put4_ne (cur : Array Value) (m : Nat) (v0 v1 v2 v3 : Value) (x : Nat) (h : x < m ∨ m + 4 ≤ x) : (put4 cur m v0 v1 v2 v3)[x]? = cur[x]? := by
  unfold put4
  simp only [Array.getElem?_setIfInBounds, Array.size_setIfInBounds]
  rw [if_neg (by omega), if_neg (by omega), if_neg (by omega), if_neg (by omega)]
theorem LdIn.drewN' {W : World} {D R : Nat} {p : PkE} (h : LdIn W D R p) : LdIn W.drew D R p := h.fr ((Fr.refl _ _).drew)

set_option maxRecDepth 100000 in
set_option maxHeartbeats 8000000 in
theorem ring_push (D R o room f n : Nat) (by_ dr : Int) (E : Nat → PkE) (num t c : Int) (a : Option Addr) (ln ca : Nat) (w : World) (hq : FqIn w D R o room f n by_ dr E) (hn : n < room) (b ob : Nat) (X : Nat → Nat) (hl : LdIn w D R ⟨num, t, c, a, ln, ca, b, ob, X⟩) :
    Calls Try.prog 43 #[.pointer (some ⟨D, 0, none⟩), .agg #[.int .i64 num, .int .i64 t, .int .i64 c, .slice a ln ca]] w fun e w' => e = .returned (.bool true) ∧ FqIn w' D R o room f (n + 1) by_ dr (putE E n ⟨num, t, c, a, ln, ca, b, ob, X⟩) ∧ Fr [D, R] w w' := by
  obtain ⟨W1, hW1⟩ : ∃ W1, W1 = w.alloc (.cells #[.int .i64 num, .int .i64 t, .int .i64 c, .slice a ln ca] 53) := ⟨_, rfl⟩
  have hB1 : Below w.heap.size w W1 := by rw [hW1]; exact (Below.refl _ _).alloc (Nat.le_refl _) _
  have hD := hq.own.lt
  obtain ⟨cur, hr, hcs, hce⟩ := hq.ring
  have hR := hr.lt
  have hown1 := hq.own.step hB1
  have hr1 := hr.step hB1
  have hr64 := hq.r64
  have hf := hq.fl
  have hr0 := hq.r1
  obtain ⟨N, hN⟩ : ∃ N, N = w.heap.size := ⟨_, rfl⟩
  have hp : Blk W1 N #[.int .i64 num, .int .i64 t, .int .i64 c, .slice a ln ca] 53 := by rw [hW1, hN]; exact blk_new _ _ _
  obtain ⟨k, hk⟩ : ∃ k, k = (f + n) % room := ⟨_, rfl⟩
  have hkr : k < room := by rw [hk]; exact Nat.mod_lt _ (by omega)
  have hmod : Int.tmod ((f : Int) + (n : Int)) (room : Int) = (k : Nat) := by rw [hk, ← Int.natCast_add, ← Int.ofNat_tmod]
  have HK := Lib.hid hk
  have hcell : ∀ i, i < 4 → ∃ v, cur[o + k * 4 + i]? = some v := fun i hi => ⟨_, Array.getElem?_eq_getElem (by omega)⟩
  obtain ⟨v0, e0⟩ := hcell 0 (by omega)
  obtain ⟨v1, e1⟩ := hcell 1 (by omega)
  obtain ⟨v2, e2⟩ := hcell 2 (by omega)
  obtain ⟨v3, e3⟩ := hcell 3 (by omega)
  have q0 : W1.cell? ⟨R, o + k * 4, none⟩ = some v0 := (cell_at hr1 _).trans e0
  have q1 : W1.cell? ⟨R, o + k * 4 + 1, none⟩ = some v1 := (cell_at hr1 _).trans e1
  have q2 : W1.cell? ⟨R, o + k * 4 + 2, none⟩ = some v2 := (cell_at hr1 _).trans e2
  have q3 : W1.cell? ⟨R, o + k * 4 + 3, none⟩ = some v3 := (cell_at hr1 _).trans e3
  have y0 := free_at hr1 (o + k * 4)
  have y1 := free_at hr1 (o + k * 4 + 1)
  have y2 := free_at hr1 (o + k * 4 + 2)
  have y3 := free_at hr1 (o + k * 4 + 3)
  have c0 : W1.cell? ⟨D, 0, none⟩ = some (.slice (some ⟨R, o, none⟩) room room) := cell_at hown1 0
  have c1 : W1.cell? ⟨D, 1, none⟩ = some (.int .i64 (f : Nat)) := cell_at hown1 1
  have c2 : W1.cell? ⟨D, 2, none⟩ = some (.int .i64 (n : Nat)) := cell_at hown1 2
  have z2 := free_at hown1 2
  have p0 : W1.cell? ⟨N, 0, none⟩ = some (.int .i64 num) := cell_at hp 0
  have p1 : W1.cell? ⟨N, 1, none⟩ = some (.int .i64 t) := cell_at hp 1
  have p2 : W1.cell? ⟨N, 2, none⟩ = some (.int .i64 c) := cell_at hp 2
  have p3 : W1.cell? ⟨N, 3, none⟩ = some (.slice a ln ca) := cell_at hp 3
  have hD1 : D < W1.heap.size := hown1.lt
  have hR1 : R < W1.heap.size := hr1.lt
  have hN1 : N < W1.heap.size := hp.lt
  have hne := hq.ne
  have d1 : decide ((room : Int) ≤ n) = false := by simp; omega
  have d2 : decide (room ≤ n) = false := by simp; omega
  have HQ := Lib.hid hq
  have HL := Lib.hid hl
  have HB1 := Lib.hid hB1
  have HOWN := Lib.hid hown1
  have HR1 := Lib.hid hr1
  have HN := Lib.hid hN
  have HCE := Lib.hid hce
  clear hq hl hB1 hown1 hr1 hr hcell e0 e1 e2 e3 hp hce hk
  go_enter Try.func43, Try.ntmps43
  go_wp2_with fail
  rw [← hN, ← hW1]
  clear hN hW1
  go_quiet (fail)
  go_wp2_with fail
  generalize hWA : World.drewN W1 _ = WA
  have hdc : ∀ p, W1.cell? p = WA.cell? p := fun p => by rw [← hWA]; rfl
  have hdf : ∀ p, W1.frozen? p = WA.frozen? p := fun p => by rw [← hWA]; rfl
  have hds : W1.heap.size = WA.heap.size := by rw [← hWA]; rfl
  have HOWA : Hid (Blk WA D #[.slice (some ⟨R, o, none⟩) room room, .int .i64 (f : Nat), .int .i64 (n : Nat), .int .i64 by_, .int .i64 dr] 91) := Lib.hid (by rw [← hWA]; exact HOWN.out)
  have HRA : Hid (Blk WA R cur 53) := Lib.hid (by rw [← hWA]; exact HR1.out)
  have HBA : Hid (Below w.heap.size w WA) := Lib.hid (by rw [← hWA]; exact below_drewN HB1.out _)
  rw [hdc] at q0 q1 q2 q3 c0 c1 c2 p0 p1 p2 p3
  rw [hdf] at y0 y1 y2 y3 z2
  rw [hds] at hD1 hR1 hN1
  clear hdc hdf hds hWA HB1 HOWN HR1
  have hw : IntKind.i64.wrap ((f : Int) + (n : Int)) = (f : Int) + n := by rw [IntKind.wrap_i64]; omega
  have hz : (room = 0) = False := eq_false (by omega)
  go_still_tail 21, (by kernel_rfl)
  change wpList _ _ _ _ _ WA.drew
  go_wp2_with fail
  go_ret
  obtain ⟨WF, hWF⟩ : ∃ WF, WF = ((((WA.drew.setCell ⟨R, o + k * 4, none⟩ (.int .i64 num)).setCell ⟨R, o + k * 4 + 1, none⟩ (.int .i64 t)).setCell ⟨R, o + k * 4 + 2, none⟩ (.int .i64 c)).setCell ⟨R, o + k * 4 + 3, none⟩ (.slice a ln ca)).setCell ⟨D, 2, none⟩ (.int .i64 ((n : Int) + 1)) := ⟨_, rfl⟩
  have hRD : R ≠ D := fun e => hne e.symm
  have k1 : Blk WF D #[.slice (some ⟨R, o, none⟩) room room, .int .i64 (f : Nat), .int .i64 ((n : Int) + 1), .int .i64 by_, .int .i64 dr] 91 := by
    rw [hWF]
    exact ((((Blk.ne (A := WA.drew) HOWA.out ⟨R, o + k * 4, none⟩ hne (.int .i64 num)).ne ⟨R, o + k * 4 + 1, none⟩ hne (.int .i64 t)).ne ⟨R, o + k * 4 + 2, none⟩ hne (.int .i64 c)).ne ⟨R, o + k * 4 + 3, none⟩ hne (.slice a ln ca)).set 2 (.int .i64 ((n : Int) + 1))
  have k2 : Blk WF R (put4 cur (o + k * 4) (.int .i64 num) (.int .i64 t) (.int .i64 c) (.slice a ln ca)) 53 := by
    rw [hWF]
    exact ((((Blk.set (A := WA.drew) HRA.out (o + k * 4) (.int .i64 num)).set (o + k * 4 + 1) (.int .i64 t)).set (o + k * 4 + 2) (.int .i64 c)).set (o + k * 4 + 3) (.slice a ln ca)).ne ⟨D, 2, none⟩ hRD (.int .i64 ((n : Int) + 1))
  have hFA : Fr [D, R] w WA.drew := ((Fr.of_below HBA.out).mono (by simp)).drew
  have k3 : Fr [D, R] w WF := by
    rw [hWF]
    exact ((((hFA.setCell ⟨R, o + k * 4, none⟩ (.inl (by simp)) (.int .i64 num)).setCell ⟨R, o + k * 4 + 1, none⟩ (.inl (by simp)) (.int .i64 t)).setCell ⟨R, o + k * 4 + 2, none⟩ (.inl (by simp)) (.int .i64 c)).setCell ⟨R, o + k * 4 + 3, none⟩ (.inl (by simp)) (.slice a ln ca)).setCell ⟨D, 2, none⟩ (.inl (by simp)) (.int .i64 ((n : Int) + 1))
  have hfin : FqIn WF D R o room f (n + 1) by_ dr (putE E n ⟨num, t, c, a, ln, ca, b, ob, X⟩) := by
    refine ⟨by rw [Int.natCast_add]; exact k1, ⟨_, k2, by rw [put4_size, hcs], fun j hj i hi => ?_⟩, hne, hr0, hr64, hf, hn, fun j hj => ?_⟩
    · unfold putE
      by_cases e : j = n
      · rw [if_pos e, e, ← HK.out, put4_at _ _ _ _ _ _ (by omega) i hi]; rfl
      · have hm : (f + j) % room ≠ k := by rw [HK.out]; exact mod_ne hf hn (by omega)
        have hm2 : (f + j) % room < room := Nat.mod_lt _ (by omega)
        rw [if_neg e, put4_ne _ _ _ _ _ _ _ (by omega), HCE.out j (by omega) i hi]
    · unfold putE
      by_cases e : j = n
      · rw [if_pos e]; exact HL.out.fr k3
      · rw [if_neg e]; exact (HQ.out.ld j (by omega)).fr k3
  rw [hWF] at hfin k3
  exact ⟨rfl, hfin, k3⟩
end Go.Proofs.Ytoodmocapagapaa
namespace Go.Proofs.Ytoodmocapagapaa
open Go.RowKit
set_option linter.unusedSimpArgs false
set_option linter.unusedVariables false

theorem infoPkt : (Try.prog.info? 53).map (fun i => (i.zero, i.size, i.bytes)) = some (some (.agg #[.int .i64 0, .int .i64 0, .int .i64 0, .slice none 0 0]), 4, 48) := by kernel_rfl
theorem make_pkts (k : Nat) (h8 : k ≤ 64) (w : World) : (Instr.makeSlice 87 (.int .i64 (k : Int)) (.int .i64 (k : Int))).run Try.prog w = .ok (.slice (some ⟨w.heap.size, 0, none⟩) k k) (w.alloc (.cells (madeCells (Value.agg #[.int .i64 0, .int .i64 0, .int .i64 0, .slice none 0 0]).cells (k * 4)) 53)) := by
  obtain ⟨i0, hi, hz0, hz1, hz2⟩ := info_parts infoPkt
  have hr := run_makeSlice (P := Try.prog) w 87 53 i0 _ Try.underlying87 hi hz0 .i64 .i64 k k (by omega) (Int.le_refl _) (by rw [hz1]; simp; omega) (by rw [hz2]; omega) (by omega)
  rw [hz1] at hr
  simpa only [Int.toNat_natCast] using hr

set_option maxRecDepth 100000 in
set_option maxHeartbeats 4000000 in
theorem fnew_bad (n : Int) (w : World) (h : n < 1 ∨ (1 ≤ n ∧ 64 < n)) : Calls Try.prog 35 #[.int .i64 n] w fun e w' => e = .returned (.tuple #[.pointer none, .int .i64 2]) ∧ w = w' := by
  rcases h with h | ⟨h, h2⟩
  all_goals
    go_enter Try.func35, Try.ntmps35
    go_wp2_with fail
    go_ret2
    exact ⟨rfl, rfl⟩

set_option maxRecDepth 100000 in
set_option maxHeartbeats 4000000 in
theorem qnew_any (room : Nat) (E : Nat → PkE) (w : World) (h : 1 ≤ room) (h64 : room ≤ 64) : Calls Try.prog 35 #[.int .i64 (room : Int)] w fun e w' => e = .returned (.tuple #[.pointer (some ⟨w.heap.size + 1, 0, none⟩), .int .i64 0]) ∧ FqIn w' (w.heap.size + 1) w.heap.size 0 room 0 0 0 0 E ∧ Below w.heap.size w w' := by
  have hmk := make_pkts room h64
  go_enter Try.func35, Try.ntmps35
  go_wp2_with fail
  go_ret2
  refine ⟨rfl, ⟨?_, ⟨madeCells (Value.agg #[.int .i64 0, .int .i64 0, .int .i64 0, .slice none 0 0]).cells (room * 4), ?_, ?_, fun j hj => absurd hj (Nat.not_lt_zero _)⟩, by omega, h, h64, by omega, by omega, fun j hj => absurd hj (Nat.not_lt_zero _)⟩, ?_⟩
  · have h1 := blk_new (w.alloc (.cells (madeCells (Value.agg #[.int .i64 0, .int .i64 0, .int .i64 0, .slice none 0 0]).cells (room * 4)) 53)) #[.slice (some ⟨w.heap.size, 0, none⟩) room room, .int .i64 0, .int .i64 0, .int .i64 0, .int .i64 0] 91
    rw [World.size_alloc] at h1
    exact h1
  · exact (blk_new _ _ _).alloc _
  · simp [size_madeCells]
  · exact ((Below.refl _ _).alloc (Nat.le_refl _) _).alloc (by simp) _

set_option maxRecDepth 100000 in
set_option maxHeartbeats 8000000 in
theorem ring_full (D R o room f n : Nat) (by_ dr : Int) (E : Nat → PkE) (num t c : Int) (a : Option Addr) (ln ca : Nat) (w : World) (hq : FqIn w D R o room f n by_ dr E) (hn : n = room) :
    Calls Try.prog 43 #[.pointer (some ⟨D, 0, none⟩), .agg #[.int .i64 num, .int .i64 t, .int .i64 c, .slice a ln ca]] w fun e w' => e = .returned (.bool false) ∧ Below w.heap.size w w' := by
  have hB1 : Below w.heap.size w (w.alloc (.cells #[.int .i64 num, .int .i64 t, .int .i64 c, .slice a ln ca] 53)) := (Below.refl _ _).alloc (Nat.le_refl _) _
  have hD := hq.own.lt
  have c0 : w.cell? ⟨D, 0, none⟩ = some (.slice (some ⟨R, o, none⟩) room room) := cell_at hq.own 0
  have c2 : w.cell? ⟨D, 2, none⟩ = some (.int .i64 (n : Nat)) := cell_at hq.own 2
  have HB1 := Lib.hid hB1
  have d1 : decide ((room : Int) ≤ n) = true := by simp; omega
  have d2 : decide (room ≤ n) = true := by simp; omega
  clear hq hB1
  go_enter Try.func43, Try.ntmps43
  go_wp2_with fail
  go_quiet (fail)
  go_wp2_with fail
  go_ret
  exact ⟨rfl, below_drewN HB1.out _⟩

set_option maxRecDepth 100000 in
set_option maxHeartbeats 4000000 in
theorem flen_any (D R o room f n : Nat) (by_ dr : Int) (E : Nat → PkE) (w : World) (hq : FqIn w D R o room f n by_ dr E) :
    Calls Try.prog 31 #[.pointer (some ⟨D, 0, none⟩)] w fun e w' => e = .returned (.int .i64 (n : Nat)) ∧ w = w' := by
  have hD := hq.own.lt
  have c2 : w.cell? ⟨D, 2, none⟩ = some (.int .i64 (n : Nat)) := cell_at hq.own 2
  clear hq
  go_enter Try.func31, Try.ntmps31
  go_wp2_with fail
  go_ret
  exact ⟨rfl, rfl⟩
set_option maxRecDepth 100000 in
set_option maxHeartbeats 4000000 in
theorem fbytes_any (D R o room f n : Nat) (by_ dr : Int) (E : Nat → PkE) (w : World) (hq : FqIn w D R o room f n by_ dr E) :
    Calls Try.prog 32 #[.pointer (some ⟨D, 0, none⟩)] w fun e w' => e = .returned (.int .i64 by_) ∧ w = w' := by
  have hD := hq.own.lt
  have c3 : w.cell? ⟨D, 3, none⟩ = some (.int .i64 by_) := cell_at hq.own 3
  clear hq
  go_enter Try.func32, Try.ntmps32
  go_wp2_with fail
  go_ret
  exact ⟨rfl, rfl⟩
end Go.Proofs.Ytoodmocapagapaa
namespace Go.Proofs.Ytoodmocapagapaa
open Go.RowKit
set_option linter.unusedSimpArgs false
set_option linter.unusedVariables false

theorem FqIn.below {W W' : World} {D R o room f n : Nat} {by_ dr : Int} {E : Nat → PkE} (h : FqIn W D R o room f n by_ dr E) (hB : Below W.heap.size W W') : FqIn W' D R o room f n by_ dr E := by
  obtain ⟨cur, h1, h2, h3⟩ := h.ring
  exact ⟨h.own.step hB, ⟨cur, h1.step hB, h2, h3⟩, h.ne, h.r1, h.r64, h.fl, h.nl, fun j hj => (h.ld j hj).fr ((Fr.of_below hB).mono (by simp))⟩

theorem FqIn.bytes {W : World} {D R o room f n : Nat} {by_ dr : Int} {E : Nat → PkE} (h : FqIn W D R o room f n by_ dr E) (v : Int) : FqIn (W.setCell ⟨D, 3, none⟩ (.int .i64 v)) D R o room f n v dr E := by
  obtain ⟨cur, h1, h2, h3⟩ := h.ring
  exact ⟨h.own.set 3 (.int .i64 v), ⟨cur, h1.ne ⟨D, 3, none⟩ (fun e => h.ne e.symm) _, h2, h3⟩, h.ne, h.r1, h.r64, h.fl, h.nl, fun j hj => (h.ld j hj).fr ((Fr.refl [D, R] W).setCell ⟨D, 3, none⟩ (.inl (by simp)) _)⟩
theorem FqIn.drops {W : World} {D R o room f n : Nat} {by_ dr : Int} {E : Nat → PkE} (h : FqIn W D R o room f n by_ dr E) (v : Int) : FqIn (W.setCell ⟨D, 4, none⟩ (.int .i64 v)) D R o room f n by_ v E := by
  obtain ⟨cur, h1, h2, h3⟩ := h.ring
  exact ⟨h.own.set 4 (.int .i64 v), ⟨cur, h1.ne ⟨D, 4, none⟩ (fun e => h.ne e.symm) _, h2, h3⟩, h.ne, h.r1, h.r64, h.fl, h.nl, fun j hj => (h.ld j hj).fr ((Fr.refl [D, R] W).setCell ⟨D, 4, none⟩ (.inl (by simp)) _)⟩

set_option maxRecDepth 100000 in
set_option maxHeartbeats 4000000 in
theorem fpush_long (D : Nat) (num t c : Int) (a : Option Addr) (ln ca : Nat) (w : World) (h : 1492 < ln) (h2 : ln ≤ 4611686018427387904) :
    Calls Try.prog 24 #[.pointer (some ⟨D, 0, none⟩), .agg #[.int .i64 num, .int .i64 t, .int .i64 c, .slice a ln ca]] w fun e w' => e = .returned (.int .i64 2) ∧ Below w.heap.size w w' := by
  have HB1 : Hid (Below w.heap.size w (w.alloc (.cells #[.int .i64 num, .int .i64 t, .int .i64 c, .slice a ln ca] 53))) := Lib.hid ((Below.refl _ _).alloc (Nat.le_refl _) _)
  have hnil : ∀ W, (binOp .eql 65 (.pointer (some ⟨D, 0, none⟩)) (.pointer none)).run Try.prog W = .ok (.bool false) W := fun _ => rfl
  have d1 : decide ((1500 : Int) < 8 + ln) = true := by simp; omega
  go_enter Try.func24, Try.ntmps24
  go_wp2_with fail
  go_at_call 42
  refine (fsize_any _ _ _ _ _ _ _ h2).mono ?_
  rintro e W2 ⟨rfl, hB2⟩
  have HB2 := Lib.hid (HB1.out.trans (hB2.mono HB1.out.size))
  clear hB2
  go_wp2_with fail
  go_ret
  exact ⟨rfl, HB2.out⟩

set_option maxRecDepth 100000 in
set_option maxHeartbeats 8000000 in
theorem fpush_any (D R o room f n : Nat) (by_ dr : Int) (E : Nat → PkE) (num t c : Int) (a : Option Addr) (ln ca : Nat) (w : World) (hq : FqIn w D R o room f n by_ dr E) (hn : n < room) (b ob : Nat) (X : Nat → Nat) (hl : ByIn w a ln ca b ob X) (h14 : ln ≤ 1492) (hby : 0 ≤ by_ ∧ by_ ≤ 1000000) :
    Calls Try.prog 24 #[.pointer (some ⟨D, 0, none⟩), .agg #[.int .i64 num, .int .i64 t, .int .i64 c, .slice a ln ca]] w fun e w' => e = .returned (.int .i64 0) ∧ (∃ a' c' b', FqIn w' D R o room f (n + 1) (by_ + (8 + (ln : Int))) dr (putE E n ⟨num, t, c, a', ln, c', b', 0, X⟩)) ∧ Fr [D, R] w w' := by
  obtain ⟨N, hN⟩ : ∃ N, N = w.heap.size := ⟨_, rfl⟩
  obtain ⟨W1, hW1⟩ : ∃ W1, W1 = w.alloc (.cells #[.int .i64 num, .int .i64 t, .int .i64 c, .slice a ln ca] 53) := ⟨_, rfl⟩
  have hB1 : Below w.heap.size w W1 := by rw [hW1]; exact (Below.refl _ _).alloc (Nat.le_refl _) _
  have hp : Blk W1 N #[.int .i64 num, .int .i64 t, .int .i64 c, .slice a ln ca] 53 := by rw [hW1, hN]; exact blk_new _ _ _
  have hD : D < N := by rw [hN]; exact hq.own.lt
  have hR : R < N := by rw [hN]; obtain ⟨_, h1, _⟩ := hq.ring; exact h1.lt
  have HB1 := Lib.hid hB1
  have HP1 := Lib.hid hp
  have HQ1 := Lib.hid (hq.below hB1)
  have HL1 := Lib.hid (hl.below hB1)
  have HN := Lib.hid hN
  have hnil : ∀ W, (binOp .eql 65 (.pointer (some ⟨D, 0, none⟩)) (.pointer none)).run Try.prog W = .ok (.bool false) W := fun _ => rfl
  have d1 : decide ((1500 : Int) < 8 + ln) = false := by simp; omega
  have p0 : W1.cell? ⟨N, 0, none⟩ = some (.int .i64 num) := cell_at hp 0
  have p1 : W1.cell? ⟨N, 1, none⟩ = some (.int .i64 t) := cell_at hp 1
  have p2 : W1.cell? ⟨N, 2, none⟩ = some (.int .i64 c) := cell_at hp 2
  have p3 : W1.cell? ⟨N, 3, none⟩ = some (.slice a ln ca) := cell_at hp 3
  have hN1 : N < W1.heap.size := hp.lt
  clear hq hl hB1 hp
  go_enter Try.func24, Try.ntmps24
  go_upto_region 3 with fail
  rw [← hN, ← hW1]
  clear hN hW1
  go_wp2_with fail
  go_at_call 42
  refine (fsize_any _ _ _ _ _ _ _ (by omega)).mono ?_
  rintro e W2 ⟨rfl, hB2⟩
  have HB2 := Lib.hid (HB1.out.trans (hB2.mono HB1.out.size))
  have HP2 := Lib.hid (HP1.out.step hB2)
  have HQ2 := Lib.hid (HQ1.out.below hB2)
  have HL2 := Lib.hid (HL1.out.below hB2)
  clear hB2 p0 p1 p2 p3 hN1
  go_upto_region 5 with fail
  have HB2d := Lib.hid (HB2.out.drew)
  have HP2d : Hid (Blk W2.drew N #[.int .i64 num, .int .i64 t, .int .i64 c, .slice a ln ca] 53) := Lib.hid HP2.out
  have HQ2d : Hid (FqIn W2.drew D R o room f n by_ dr E) := Lib.hid (HQ2.out.below ((Below.refl _ _).drew : Below W2.heap.size W2 W2.drew))
  have HL2d : Hid (ByIn W2.drew a ln ca b ob X) := Lib.hid (HL2.out.below ((Below.refl _ _).drew : Below W2.heap.size W2 W2.drew))
  refine wp_region_held_drew (S := fun X => X.cell? ⟨N, 0, none⟩ = some (.int .i64 num) ∧ X.cell? ⟨N, 1, none⟩ = some (.int .i64 t) ∧ X.cell? ⟨N, 2, none⟩ = some (.int .i64 c) ∧ X.cell? ⟨N, 3, none⟩ = some (.slice a ln ca) ∧ N < X.heap.size) (by kernel_rfl) ⟨cell_at HP2d.out 0, cell_at HP2d.out 1, cell_at HP2d.out 2, cell_at HP2d.out 3, HP2d.out.lt⟩ (fun hHeld => ?_)
  ((refine wpAnyH_take (i := 0) (v := ?_) (by (simp only [List.getElem?_toArray, List.getElem?_cons_succ, List.getElem?_cons_zero]); rfl) (by kernel_rfl) (by kernel_rfl) (by kernel_rfl) (by exact fun _ _ _ h => h) (Or.inl ⟨by rfl, ?_⟩) (by assumption) ?_); rotate_left; focus (intro wS hSw; (try dsimp only at hSw); go_simp; first | done | with_reducible rfl); try simp only [Act.put, List.setIfInBounds_toArray, List.set_cons_zero, List.set_cons_succ])
  ((refine wpAnyH_take (i := 1) (v := ?_) (by (simp only [List.getElem?_toArray, List.getElem?_cons_succ, List.getElem?_cons_zero]); rfl) (by kernel_rfl) (by kernel_rfl) (by kernel_rfl) (by exact fun _ _ _ h => h) (Or.inl ⟨by rfl, ?_⟩) (by assumption) ?_); rotate_left; focus (intro wS hSw; (try dsimp only at hSw); go_simp; first | done | with_reducible rfl); try simp only [Act.put, List.setIfInBounds_toArray, List.set_cons_zero, List.set_cons_succ])
  ((refine wpAnyH_take (i := 2) (v := ?_) (by (simp only [List.getElem?_toArray, List.getElem?_cons_succ, List.getElem?_cons_zero]); rfl) (by kernel_rfl) (by kernel_rfl) (by kernel_rfl) (by exact fun _ _ _ h => h) (Or.inl ⟨by rfl, ?_⟩) (by assumption) ?_); rotate_left; focus (intro wS hSw; (try dsimp only at hSw); go_simp; first | done | with_reducible rfl); try simp only [Act.put, List.setIfInBounds_toArray, List.set_cons_zero, List.set_cons_succ])
  ((refine wpAnyH_take (i := 3) (v := ?_) (by (simp only [List.getElem?_toArray, List.getElem?_cons_succ, List.getElem?_cons_zero]); rfl) (by kernel_rfl) (by kernel_rfl) (by kernel_rfl) (by exact fun _ _ _ h => h) (Or.inl ⟨by rfl, ?_⟩) (by assumption) ?_); rotate_left; focus (intro wS hSw; (try dsimp only at hSw); go_simp; first | done | with_reducible rfl); try simp only [Act.put, List.setIfInBounds_toArray, List.set_cons_zero, List.set_cons_succ])
  ((refine wpAnyH_ready (rs := [4]) (by kernel_rfl) (by simp) ?_); (refine AllReadyH.cons (by (simp only [List.getElem?_toArray, List.getElem?_cons_succ, List.getElem?_cons_zero]); rfl) (fun K hK => ?_) AllReadyH.nil); go_simp; refine Calls.mono (ftwin_any num t c a ln ca b ob X _ HL2d.out (by omega)) ?_)
  rintro e W3 ⟨a', c', b', rfl, hby3, hfr3, hB3⟩
  have HB3 := Lib.hid (HB2d.out.trans (hB3.mono HB2d.out.size))
  have HP3 := Lib.hid (HP2d.out.step hB3)
  have HQ3 := Lib.hid (HQ2d.out.below hB3)
  have HL3 : Hid (LdIn W3 D R ⟨num, t, c, a', ln, c', b', 0, X⟩) := Lib.hid ⟨hby3, h14, fun h0 => (by have := hfr3 h0; have := HP2d.out.lt; show b' ≠ D; omega), fun h0 => (by have := hfr3 h0; have := HP2d.out.lt; show b' ≠ R; omega)⟩
  clear hby3 hfr3 hB3
  go_wp2_with fail
  refine hK.out _ _ ⟨cell_at HP3.out 0, cell_at HP3.out 1, cell_at HP3.out 2, cell_at HP3.out 3, HP3.out.lt⟩ (fun hHeld => ?_)
  clear hK K
  try simp only [Act.put, List.setIfInBounds_toArray, List.set_cons_zero, List.set_cons_succ]
  ((refine wpAnyH_ready (rs := [5]) (by kernel_rfl) (by simp) ?_); (refine AllReadyH.cons (by (simp only [List.getElem?_toArray, List.getElem?_cons_succ, List.getElem?_cons_zero]); rfl) (fun K hK => ?_) AllReadyH.nil); go_simp; refine Calls.mono (ring_push D R o room f n by_ dr E num t c a' ln c' _ HQ3.out hn b' 0 X HL3.out) ?_)
  rintro e W4 ⟨rfl, hq4, hF4⟩
  have HP4 : Hid (Blk W4 N #[.int .i64 num, .int .i64 t, .int .i64 c, .slice a ln ca] 53) := Lib.hid ((hF4.block N HP3.out.lt (by simp; omega)).trans HP3.out)
  have HQ4 := Lib.hid hq4
  have HF4 : Hid (Fr [D, R] w W4) := Lib.hid (((Fr.of_below HB3.out).mono (by simp)).trans hF4 (by simp))
  clear hq4 hF4
  go_wp2_with fail
  refine hK.out _ _ ⟨cell_at HP4.out 0, cell_at HP4.out 1, cell_at HP4.out 2, cell_at HP4.out 3, HP4.out.lt⟩ (fun hHeld => ?_)
  clear hK K
  try simp only [Act.put, List.setIfInBounds_toArray, List.set_cons_zero, List.set_cons_succ]
  ((refine wpAnyH_take (i := 6) (v := ?_) (by (simp only [List.getElem?_toArray, List.getElem?_cons_succ, List.getElem?_cons_zero]); rfl) (by kernel_rfl) (by kernel_rfl) (by kernel_rfl) (by exact fun _ _ _ h => h) (Or.inl ⟨by rfl, ?_⟩) (by assumption) ?_); rotate_left; focus (intro wS hSw; (try dsimp only at hSw); go_simp; first | done | with_reducible rfl); try simp only [Act.put, List.setIfInBounds_toArray, List.set_cons_zero, List.set_cons_succ])
  ((refine wpAnyH_take (i := 7) (v := ?_) (by (simp only [List.getElem?_toArray, List.getElem?_cons_succ, List.getElem?_cons_zero]); rfl) (by kernel_rfl) (by kernel_rfl) (by kernel_rfl) (by exact fun _ _ _ h => h) (Or.inl ⟨by rfl, ?_⟩) (by assumption) ?_); rotate_left; focus (intro wS hSw; (try dsimp only at hSw); go_simp; first | done | with_reducible rfl); try simp only [Act.put, List.setIfInBounds_toArray, List.set_cons_zero, List.set_cons_succ])
  refine wpAnyH_done (by kernel_rfl) ?_ _
  go_upto_region 8 with fail
  have HP5 : Hid (Blk W4.drew N #[.int .i64 num, .int .i64 t, .int .i64 c, .slice a ln ca] 53) := Lib.hid HP4.out
  have HQ5 : Hid (FqIn W4.drew D R o room f (n + 1) by_ dr (putE E n ⟨num, t, c, a', ln, c', b', 0, X⟩)) := Lib.hid (HQ4.out.below ((Below.refl _ _).drew : Below W4.heap.size W4 W4.drew))
  have HF5 : Hid (Fr [D, R] w W4.drew) := Lib.hid HF4.out.drew
  have p0 : W4.cell? ⟨N, 0, none⟩ = some (.int .i64 num) := cell_at HP4.out 0
  have p1 : W4.cell? ⟨N, 1, none⟩ = some (.int .i64 t) := cell_at HP4.out 1
  have p2 : W4.cell? ⟨N, 2, none⟩ = some (.int .i64 c) := cell_at HP4.out 2
  have p3 : W4.cell? ⟨N, 3, none⟩ = some (.slice a ln ca) := cell_at HP4.out 3
  have pN : N < W4.heap.size := HP4.out.lt
  have k3 : W4.cell? ⟨D, 3, none⟩ = some (.int .i64 by_) := cell_at HQ4.out.own 3
  have z3 := free_at HQ4.out.own 3
  have hDW : D < W4.heap.size := HQ4.out.own.lt
  have hnD : D ≠ N := by omega
  have hw : IntKind.i64.wrap (by_ + (8 + (ln : Int))) = by_ + (8 + (ln : Int)) := by rw [IntKind.wrap_i64]; omega
  refine wp_region_held_drew (S := fun X => X.cell? ⟨N, 0, none⟩ = some (.int .i64 num) ∧ X.cell? ⟨N, 1, none⟩ = some (.int .i64 t) ∧ X.cell? ⟨N, 2, none⟩ = some (.int .i64 c) ∧ X.cell? ⟨N, 3, none⟩ = some (.slice a ln ca) ∧ N < X.heap.size) (by kernel_rfl) ⟨cell_at HP5.out 0, cell_at HP5.out 1, cell_at HP5.out 2, cell_at HP5.out 3, HP5.out.lt⟩ (fun hHeld => ?_)
  ((refine wpAnyH_take (i := 0) (v := ?_) (by (simp only [List.getElem?_toArray, List.getElem?_cons_succ, List.getElem?_cons_zero]); rfl) (by kernel_rfl) (by kernel_rfl) (by kernel_rfl) (by exact fun _ _ _ h => h) (Or.inl ⟨by rfl, ?_⟩) (by assumption) ?_); rotate_left; focus (intro wS hSw; (try dsimp only at hSw); go_simp; first | done | with_reducible rfl); try simp only [Act.put, List.setIfInBounds_toArray, List.set_cons_zero, List.set_cons_succ])
  ((refine wpAnyH_take (i := 1) (v := ?_) (by (simp only [List.getElem?_toArray, List.getElem?_cons_succ, List.getElem?_cons_zero]); rfl) (by kernel_rfl) (by kernel_rfl) (by kernel_rfl) (by exact fun _ _ _ h => h) (Or.inl ⟨by rfl, ?_⟩) (by assumption) ?_); rotate_left; focus (intro wS hSw; (try dsimp only at hSw); go_simp; first | done | with_reducible rfl); try simp only [Act.put, List.setIfInBounds_toArray, List.set_cons_zero, List.set_cons_succ])
  ((refine wpAnyH_take (i := 2) (v := ?_) (by (simp only [List.getElem?_toArray, List.getElem?_cons_succ, List.getElem?_cons_zero]); rfl) (by kernel_rfl) (by kernel_rfl) (by kernel_rfl) (by exact fun _ _ _ h => h) (Or.inl ⟨by rfl, ?_⟩) (by assumption) ?_); rotate_left; focus (intro wS hSw; (try dsimp only at hSw); go_simp; first | done | with_reducible rfl); try simp only [Act.put, List.setIfInBounds_toArray, List.set_cons_zero, List.set_cons_succ])
  ((refine wpAnyH_take (i := 4) (v := ?_) (by (simp only [List.getElem?_toArray, List.getElem?_cons_succ, List.getElem?_cons_zero]); rfl) (by kernel_rfl) (by kernel_rfl) (by kernel_rfl) (by exact fun _ _ _ h => h) (Or.inl ⟨by rfl, ?_⟩) (by assumption) ?_); rotate_left; focus (intro wS hSw; (try dsimp only at hSw); go_simp; first | done | with_reducible rfl); try simp only [Act.put, List.setIfInBounds_toArray, List.set_cons_zero, List.set_cons_succ])
  refine wpAnyH_ready (rs := [3, 5]) (by kernel_rfl) (by simp) ?_
  refine AllReadyH.cons (by (simp only [List.getElem?_toArray, List.getElem?_cons_succ, List.getElem?_cons_zero]); rfl) (fun K hK => ?_) (AllReadyH.cons (by (simp only [List.getElem?_toArray, List.getElem?_cons_succ, List.getElem?_cons_zero]); rfl) (fun K hK => ?_) AllReadyH.nil)
  · go_simp
    refine hK.out _ _ ⟨cell_at HP5.out 0, cell_at HP5.out 1, cell_at HP5.out 2, cell_at HP5.out 3, HP5.out.lt⟩ (fun hHeld => ?_)
    clear hK K
    try simp only [Act.put, List.setIfInBounds_toArray, List.set_cons_zero, List.set_cons_succ]
    ((refine wpAnyH_ready (rs := [5]) (by kernel_rfl) (by simp) ?_); (refine AllReadyH.cons (by (simp only [List.getElem?_toArray, List.getElem?_cons_succ, List.getElem?_cons_zero]); rfl) (fun K hK => ?_) AllReadyH.nil); go_simp; refine Calls.mono (fsize_any _ _ _ _ _ _ _ (by omega)) ?_)
    rintro e W6 ⟨rfl, hB6⟩
    have HP6 := Lib.hid (HP5.out.step hB6)
    have HQ6 := Lib.hid (HQ5.out.below hB6)
    have HF6 : Hid (Fr [D, R] w W6) := Lib.hid (HF5.out.trans (Fr.of_below hB6) (by simp))
    have k6 : W6.cell? ⟨D, 3, none⟩ = some (.int .i64 by_) := cell_at HQ6.out.own 3
    have z6 := free_at HQ6.out.own 3
    have hD6 : D < W6.heap.size := HQ6.out.own.lt
    clear hB6
    go_wp2_with fail
    refine hK.out _ _ ⟨cell_at HP6.out 0, cell_at HP6.out 1, cell_at HP6.out 2, cell_at HP6.out 3, HP6.out.lt⟩ (fun hHeld => ?_)
    clear hK K
    try simp only [Act.put, List.setIfInBounds_toArray, List.set_cons_zero, List.set_cons_succ]
    ((refine wpAnyH_take (i := 6) (v := ?_) (by (simp only [List.getElem?_toArray, List.getElem?_cons_succ, List.getElem?_cons_zero]); rfl) (by kernel_rfl) (by kernel_rfl) (by kernel_rfl) (by exact fun _ _ _ h => h) (Or.inl ⟨by rfl, ?_⟩) (by assumption) ?_); rotate_left; focus (intro wS hSw; (try dsimp only at hSw); go_simp; first | done | with_reducible rfl); try simp only [Act.put, List.setIfInBounds_toArray, List.set_cons_zero, List.set_cons_succ])
    ((refine wpAnyH_take (i := 7) (v := ?_) (by (simp only [List.getElem?_toArray, List.getElem?_cons_succ, List.getElem?_cons_zero]); rfl) (by kernel_rfl) (by kernel_rfl) (by kernel_rfl) (by exact fun _ _ _ h => h) (Or.inl ⟨by rfl, ?_⟩) (by assumption) ?_); rotate_left; focus (intro wS hSw; (try dsimp only at hSw); go_simp; first | done | with_reducible rfl); try simp only [Act.put, List.setIfInBounds_toArray, List.set_cons_zero, List.set_cons_succ])
    ((refine wpAnyH_take (i := 8) (v := ?_) (by (simp only [List.getElem?_toArray, List.getElem?_cons_succ, List.getElem?_cons_zero]); rfl) (by kernel_rfl) (by kernel_rfl) (by kernel_rfl) (by exact fun _ _ _ h => h) (Or.inl ⟨by rfl, ?_⟩) (by assumption) ?_); rotate_left; focus (intro wS hSw; (try dsimp only at hSw); go_simp; first | done | with_reducible rfl); try simp only [Act.put, List.setIfInBounds_toArray, List.set_cons_zero, List.set_cons_succ])
    refine wpAnyH_ready (rs := [9]) (by kernel_rfl) (by simp) ?_
    refine AllReadyH.cons (by (simp only [List.getElem?_toArray, List.getElem?_cons_succ, List.getElem?_cons_zero]); rfl) (fun K hK => ?_) AllReadyH.nil
    go_simp
    have HP7 := Lib.hid (HP6.out.ne ⟨D, 3, none⟩ hnD.symm (.int .i64 (by_ + (8 + (ln : Int)))))
    have HQ7 := Lib.hid (HQ6.out.bytes (by_ + (8 + (ln : Int))))
    have HF7 := Lib.hid (HF6.out.setCell ⟨D, 3, none⟩ (.inl (by simp)) (.int .i64 (by_ + (8 + (ln : Int)))))
    refine hK.out _ _ ⟨cell_at HP7.out 0, cell_at HP7.out 1, cell_at HP7.out 2, cell_at HP7.out 3, HP7.out.lt⟩ (fun hHeld => ?_)
    clear hK K
    try simp only [Act.put, List.setIfInBounds_toArray, List.set_cons_zero, List.set_cons_succ]
    refine wpAnyH_done (by kernel_rfl) ?_ _
    go_wp2_with fail
    go_ret
    exact ⟨rfl, ⟨a', c', b', HQ7.out⟩, HF7.out⟩
  · go_simp
    refine Calls.mono (fsize_any _ _ _ _ _ _ _ (by omega)) ?_
    rintro e W6 ⟨rfl, hB6⟩
    have HP6 := Lib.hid (HP5.out.step hB6)
    have HQ6 := Lib.hid (HQ5.out.below hB6)
    have HF6 : Hid (Fr [D, R] w W6) := Lib.hid (HF5.out.trans (Fr.of_below hB6) (by simp))
    have k6 : W6.cell? ⟨D, 3, none⟩ = some (.int .i64 by_) := cell_at HQ6.out.own 3
    have z6 := free_at HQ6.out.own 3
    have hD6 : D < W6.heap.size := HQ6.out.own.lt
    clear hB6
    go_wp2_with fail
    refine hK.out _ _ ⟨cell_at HP6.out 0, cell_at HP6.out 1, cell_at HP6.out 2, cell_at HP6.out 3, HP6.out.lt⟩ (fun hHeld => ?_)
    clear hK K
    try simp only [Act.put, List.setIfInBounds_toArray, List.set_cons_zero, List.set_cons_succ]
    refine wpAnyH_ready (rs := [3]) (by kernel_rfl) (by simp) ?_
    refine AllReadyH.cons (by (simp only [List.getElem?_toArray, List.getElem?_cons_succ, List.getElem?_cons_zero]); rfl) (fun K hK => ?_) AllReadyH.nil
    go_simp
    refine hK.out _ _ ⟨cell_at HP6.out 0, cell_at HP6.out 1, cell_at HP6.out 2, cell_at HP6.out 3, HP6.out.lt⟩ (fun hHeld => ?_)
    clear hK K
    try simp only [Act.put, List.setIfInBounds_toArray, List.set_cons_zero, List.set_cons_succ]
    ((refine wpAnyH_take (i := 6) (v := ?_) (by (simp only [List.getElem?_toArray, List.getElem?_cons_succ, List.getElem?_cons_zero]); rfl) (by kernel_rfl) (by kernel_rfl) (by kernel_rfl) (by exact fun _ _ _ h => h) (Or.inl ⟨by rfl, ?_⟩) (by assumption) ?_); rotate_left; focus (intro wS hSw; (try dsimp only at hSw); go_simp; first | done | with_reducible rfl); try simp only [Act.put, List.setIfInBounds_toArray, List.set_cons_zero, List.set_cons_succ])
    ((refine wpAnyH_take (i := 7) (v := ?_) (by (simp only [List.getElem?_toArray, List.getElem?_cons_succ, List.getElem?_cons_zero]); rfl) (by kernel_rfl) (by kernel_rfl) (by kernel_rfl) (by exact fun _ _ _ h => h) (Or.inl ⟨by rfl, ?_⟩) (by assumption) ?_); rotate_left; focus (intro wS hSw; (try dsimp only at hSw); go_simp; first | done | with_reducible rfl); try simp only [Act.put, List.setIfInBounds_toArray, List.set_cons_zero, List.set_cons_succ])
    ((refine wpAnyH_take (i := 8) (v := ?_) (by (simp only [List.getElem?_toArray, List.getElem?_cons_succ, List.getElem?_cons_zero]); rfl) (by kernel_rfl) (by kernel_rfl) (by kernel_rfl) (by exact fun _ _ _ h => h) (Or.inl ⟨by rfl, ?_⟩) (by assumption) ?_); rotate_left; focus (intro wS hSw; (try dsimp only at hSw); go_simp; first | done | with_reducible rfl); try simp only [Act.put, List.setIfInBounds_toArray, List.set_cons_zero, List.set_cons_succ])
    refine wpAnyH_ready (rs := [9]) (by kernel_rfl) (by simp) ?_
    refine AllReadyH.cons (by (simp only [List.getElem?_toArray, List.getElem?_cons_succ, List.getElem?_cons_zero]); rfl) (fun K hK => ?_) AllReadyH.nil
    go_simp
    have HP7 := Lib.hid (HP6.out.ne ⟨D, 3, none⟩ hnD.symm (.int .i64 (by_ + (8 + (ln : Int)))))
    have HQ7 := Lib.hid (HQ6.out.bytes (by_ + (8 + (ln : Int))))
    have HF7 := Lib.hid (HF6.out.setCell ⟨D, 3, none⟩ (.inl (by simp)) (.int .i64 (by_ + (8 + (ln : Int)))))
    refine hK.out _ _ ⟨cell_at HP7.out 0, cell_at HP7.out 1, cell_at HP7.out 2, cell_at HP7.out 3, HP7.out.lt⟩ (fun hHeld => ?_)
    clear hK K
    try simp only [Act.put, List.setIfInBounds_toArray, List.set_cons_zero, List.set_cons_succ]
    refine wpAnyH_done (by kernel_rfl) ?_ _
    go_wp2_with fail
    go_ret
    exact ⟨rfl, ⟨a', c', b', HQ7.out⟩, HF7.out⟩

set_option maxRecDepth 100000 in
set_option maxHeartbeats 8000000 in
theorem fpush_full (D R o room f n : Nat) (by_ dr : Int) (E : Nat → PkE) (num t c : Int) (a : Option Addr) (ln ca : Nat) (w : World) (hq : FqIn w D R o room f n by_ dr E) (hn : n = room) (b ob : Nat) (X : Nat → Nat) (hl : ByIn w a ln ca b ob X) (h14 : ln ≤ 1492) (hdr : 0 ≤ dr ∧ dr ≤ 1000000) :
    Calls Try.prog 24 #[.pointer (some ⟨D, 0, none⟩), .agg #[.int .i64 num, .int .i64 t, .int .i64 c, .slice a ln ca]] w fun e w' => e = .returned (.int .i64 100) ∧ FqIn w' D R o room f n by_ (dr + 1) E ∧ Fr [D, R] w w' := by
  obtain ⟨N, hN⟩ : ∃ N, N = w.heap.size := ⟨_, rfl⟩
  obtain ⟨W1, hW1⟩ : ∃ W1, W1 = w.alloc (.cells #[.int .i64 num, .int .i64 t, .int .i64 c, .slice a ln ca] 53) := ⟨_, rfl⟩
  have hB1 : Below w.heap.size w W1 := by rw [hW1]; exact (Below.refl _ _).alloc (Nat.le_refl _) _
  have hp : Blk W1 N #[.int .i64 num, .int .i64 t, .int .i64 c, .slice a ln ca] 53 := by rw [hW1, hN]; exact blk_new _ _ _
  have hD : D < N := by rw [hN]; exact hq.own.lt
  have hR : R < N := by rw [hN]; obtain ⟨_, h1, _⟩ := hq.ring; exact h1.lt
  have HB1 := Lib.hid hB1
  have HP1 := Lib.hid hp
  have HQ1 := Lib.hid (hq.below hB1)
  have HL1 := Lib.hid (hl.below hB1)
  have HN := Lib.hid hN
  have hnil : ∀ W, (binOp .eql 65 (.pointer (some ⟨D, 0, none⟩)) (.pointer none)).run Try.prog W = .ok (.bool false) W := fun _ => rfl
  have d1 : decide ((1500 : Int) < 8 + ln) = false := by simp; omega
  have p0 : W1.cell? ⟨N, 0, none⟩ = some (.int .i64 num) := cell_at hp 0
  have p1 : W1.cell? ⟨N, 1, none⟩ = some (.int .i64 t) := cell_at hp 1
  have p2 : W1.cell? ⟨N, 2, none⟩ = some (.int .i64 c) := cell_at hp 2
  have p3 : W1.cell? ⟨N, 3, none⟩ = some (.slice a ln ca) := cell_at hp 3
  have hN1 : N < W1.heap.size := hp.lt
  clear hq hl hB1 hp
  go_enter Try.func24, Try.ntmps24
  go_upto_region 3 with fail
  rw [← hN, ← hW1]
  clear hN hW1
  go_wp2_with fail
  go_at_call 42
  refine (fsize_any _ _ _ _ _ _ _ (by omega)).mono ?_
  rintro e W2 ⟨rfl, hB2⟩
  have HB2 := Lib.hid (HB1.out.trans (hB2.mono HB1.out.size))
  have HP2 := Lib.hid (HP1.out.step hB2)
  have HQ2 := Lib.hid (HQ1.out.below hB2)
  have HL2 := Lib.hid (HL1.out.below hB2)
  clear hB2 p0 p1 p2 p3 hN1
  go_upto_region 5 with fail
  have HB2d := Lib.hid (HB2.out.drew)
  have HP2d : Hid (Blk W2.drew N #[.int .i64 num, .int .i64 t, .int .i64 c, .slice a ln ca] 53) := Lib.hid HP2.out
  have HQ2d : Hid (FqIn W2.drew D R o room f n by_ dr E) := Lib.hid (HQ2.out.below ((Below.refl _ _).drew : Below W2.heap.size W2 W2.drew))
  have HL2d : Hid (ByIn W2.drew a ln ca b ob X) := Lib.hid (HL2.out.below ((Below.refl _ _).drew : Below W2.heap.size W2 W2.drew))
  refine wp_region_held_drew (S := fun X => X.cell? ⟨N, 0, none⟩ = some (.int .i64 num) ∧ X.cell? ⟨N, 1, none⟩ = some (.int .i64 t) ∧ X.cell? ⟨N, 2, none⟩ = some (.int .i64 c) ∧ X.cell? ⟨N, 3, none⟩ = some (.slice a ln ca) ∧ N < X.heap.size) (by kernel_rfl) ⟨cell_at HP2d.out 0, cell_at HP2d.out 1, cell_at HP2d.out 2, cell_at HP2d.out 3, HP2d.out.lt⟩ (fun hHeld => ?_)
  ((refine wpAnyH_take (i := 0) (v := ?_) (by (simp only [List.getElem?_toArray, List.getElem?_cons_succ, List.getElem?_cons_zero]); rfl) (by kernel_rfl) (by kernel_rfl) (by kernel_rfl) (by exact fun _ _ _ h => h) (Or.inl ⟨by rfl, ?_⟩) (by assumption) ?_); rotate_left; focus (intro wS hSw; (try dsimp only at hSw); go_simp; first | done | with_reducible rfl); try simp only [Act.put, List.setIfInBounds_toArray, List.set_cons_zero, List.set_cons_succ])
  ((refine wpAnyH_take (i := 1) (v := ?_) (by (simp only [List.getElem?_toArray, List.getElem?_cons_succ, List.getElem?_cons_zero]); rfl) (by kernel_rfl) (by kernel_rfl) (by kernel_rfl) (by exact fun _ _ _ h => h) (Or.inl ⟨by rfl, ?_⟩) (by assumption) ?_); rotate_left; focus (intro wS hSw; (try dsimp only at hSw); go_simp; first | done | with_reducible rfl); try simp only [Act.put, List.setIfInBounds_toArray, List.set_cons_zero, List.set_cons_succ])
  ((refine wpAnyH_take (i := 2) (v := ?_) (by (simp only [List.getElem?_toArray, List.getElem?_cons_succ, List.getElem?_cons_zero]); rfl) (by kernel_rfl) (by kernel_rfl) (by kernel_rfl) (by exact fun _ _ _ h => h) (Or.inl ⟨by rfl, ?_⟩) (by assumption) ?_); rotate_left; focus (intro wS hSw; (try dsimp only at hSw); go_simp; first | done | with_reducible rfl); try simp only [Act.put, List.setIfInBounds_toArray, List.set_cons_zero, List.set_cons_succ])
  ((refine wpAnyH_take (i := 3) (v := ?_) (by (simp only [List.getElem?_toArray, List.getElem?_cons_succ, List.getElem?_cons_zero]); rfl) (by kernel_rfl) (by kernel_rfl) (by kernel_rfl) (by exact fun _ _ _ h => h) (Or.inl ⟨by rfl, ?_⟩) (by assumption) ?_); rotate_left; focus (intro wS hSw; (try dsimp only at hSw); go_simp; first | done | with_reducible rfl); try simp only [Act.put, List.setIfInBounds_toArray, List.set_cons_zero, List.set_cons_succ])
  ((refine wpAnyH_ready (rs := [4]) (by kernel_rfl) (by simp) ?_); (refine AllReadyH.cons (by (simp only [List.getElem?_toArray, List.getElem?_cons_succ, List.getElem?_cons_zero]); rfl) (fun K hK => ?_) AllReadyH.nil); go_simp; refine Calls.mono (ftwin_any num t c a ln ca b ob X _ HL2d.out (by omega)) ?_)
  rintro e W3 ⟨a', c', b', rfl, hby3, hfr3, hB3⟩
  have HB3 := Lib.hid (HB2d.out.trans (hB3.mono HB2d.out.size))
  have HP3 := Lib.hid (HP2d.out.step hB3)
  have HQ3 := Lib.hid (HQ2d.out.below hB3)
  clear hby3 hfr3 hB3
  go_wp2_with fail
  refine hK.out _ _ ⟨cell_at HP3.out 0, cell_at HP3.out 1, cell_at HP3.out 2, cell_at HP3.out 3, HP3.out.lt⟩ (fun hHeld => ?_)
  clear hK K
  try simp only [Act.put, List.setIfInBounds_toArray, List.set_cons_zero, List.set_cons_succ]
  ((refine wpAnyH_ready (rs := [5]) (by kernel_rfl) (by simp) ?_); (refine AllReadyH.cons (by (simp only [List.getElem?_toArray, List.getElem?_cons_succ, List.getElem?_cons_zero]); rfl) (fun K hK => ?_) AllReadyH.nil); go_simp; refine Calls.mono (ring_full D R o room f n by_ dr E num t c a' ln c' _ HQ3.out hn) ?_)
  rintro e W4 ⟨rfl, hB4⟩
  have HP4 := Lib.hid (HP3.out.step hB4)
  have HQ4 := Lib.hid (HQ3.out.below hB4)
  have HF4 : Hid (Fr [D, R] w W4) := Lib.hid (((Fr.of_below HB3.out).mono (by simp)).trans (Fr.of_below hB4) (by simp))
  clear hB4
  go_wp2_with fail
  refine hK.out _ _ ⟨cell_at HP4.out 0, cell_at HP4.out 1, cell_at HP4.out 2, cell_at HP4.out 3, HP4.out.lt⟩ (fun hHeld => ?_)
  clear hK K
  try simp only [Act.put, List.setIfInBounds_toArray, List.set_cons_zero, List.set_cons_succ]
  ((refine wpAnyH_take (i := 6) (v := ?_) (by (simp only [List.getElem?_toArray, List.getElem?_cons_succ, List.getElem?_cons_zero]); rfl) (by kernel_rfl) (by kernel_rfl) (by kernel_rfl) (by exact fun _ _ _ h => h) (Or.inl ⟨by rfl, ?_⟩) (by assumption) ?_); rotate_left; focus (intro wS hSw; (try dsimp only at hSw); go_simp; first | done | with_reducible rfl); try simp only [Act.put, List.setIfInBounds_toArray, List.set_cons_zero, List.set_cons_succ])
  ((refine wpAnyH_take (i := 7) (v := ?_) (by (simp only [List.getElem?_toArray, List.getElem?_cons_succ, List.getElem?_cons_zero]); rfl) (by kernel_rfl) (by kernel_rfl) (by kernel_rfl) (by exact fun _ _ _ h => h) (Or.inl ⟨by rfl, ?_⟩) (by assumption) ?_); rotate_left; focus (intro wS hSw; (try dsimp only at hSw); go_simp; first | done | with_reducible rfl); try simp only [Act.put, List.setIfInBounds_toArray, List.set_cons_zero, List.set_cons_succ])
  refine wpAnyH_done (by kernel_rfl) ?_ _
  have k4 : W4.cell? ⟨D, 4, none⟩ = some (.int .i64 dr) := cell_at HQ4.out.own 4
  have z4 := free_at HQ4.out.own 4
  have hD4 : D < W4.heap.size := HQ4.out.own.lt
  have HQ5 : Hid (FqIn W4.drew D R o room f n by_ dr E) := Lib.hid (HQ4.out.below ((Below.refl _ _).drew : Below W4.heap.size W4 W4.drew))
  go_wp2_with fail
  go_ret
  exact ⟨rfl, by first | exact HQ4.out.drops _ | exact HQ5.out.drops _, by first | exact HF4.out.setCell ⟨D, 4, none⟩ (.inl (by simp)) _ | exact HF4.out.drew.setCell ⟨D, 4, none⟩ (.inl (by simp)) _⟩
end Go.Proofs.Ytoodmocapagapaa
namespace Go.Proofs.Ytoodmocapagapaa
open Go.RowKit
set_option linter.unusedSimpArgs false
set_option linter.unusedVariables false

set_option maxRecDepth 100000 in
set_option maxHeartbeats 8000000 in
theorem ring_pop (D R o room f n : Nat) (by_ dr : Int) (E : Nat → PkE) (w : World) (hq : FqIn w D R o room f n by_ dr E) (hn : 0 < n) :
    Calls Try.prog 72 #[.pointer (some ⟨D, 0, none⟩)] w fun e w' => e = .returned (.agg #[.int .i64 (E 0).num, .int .i64 (E 0).t, .int .i64 (E 0).c, .slice (E 0).a (E 0).n (E 0).ca]) ∧ FqIn w' D R o room ((f + 1) % room) (n - 1) by_ dr (fun j => E (j + 1)) ∧ Fr [D, R] w w' := by
  obtain ⟨N, hN⟩ : ∃ N, N = w.heap.size := ⟨_, rfl⟩
  obtain ⟨W1, hW1⟩ : ∃ W1, W1 = (w.alloc (.cells #[.int .i64 0, .int .i64 0, .int .i64 0, .slice none 0 0] 53)).alloc (.cells #[.int .i64 0, .int .i64 0, .int .i64 0, .slice none 0 0] 53) := ⟨_, rfl⟩
  have hB1 : Below w.heap.size w W1 := by rw [hW1]; exact ((Below.refl _ _).alloc (Nat.le_refl _) _).alloc (by simp) _
  have hp0 : Blk W1 N #[.int .i64 0, .int .i64 0, .int .i64 0, .slice none 0 0] 53 := by rw [hW1, hN]; exact (blk_new _ _ _).alloc _
  have hp1 : Blk W1 (N + 1) #[.int .i64 0, .int .i64 0, .int .i64 0, .slice none 0 0] 53 := by
    have h1 := blk_new (w.alloc (.cells #[.int .i64 0, .int .i64 0, .int .i64 0, .slice none 0 0] 53)) #[.int .i64 0, .int .i64 0, .int .i64 0, .slice none 0 0] 53
    rw [World.size_alloc, ← hN, ← hW1] at h1
    exact h1
  have hD : D < N := by rw [hN]; exact hq.own.lt
  have hq1 := hq.below hB1
  have hnl := hq.nl
  have hf := hq.fl
  have hr0 := hq.r1
  have hr64 := hq.r64
  have hne := hq.ne
  obtain ⟨cur, hr, hcs, hce⟩ := hq1.ring
  have hR : R < N := by rw [hN]; obtain ⟨_, h1, _⟩ := hq.ring; exact h1.lt
  have hc0 := hce 0 hn
  rw [Nat.add_zero, Nat.mod_eq_of_lt hf] at hc0
  obtain ⟨p, hp⟩ : ∃ p, p = E 0 := ⟨_, rfl⟩
  rw [← hp] at hc0
  have q0 : W1.cell? ⟨R, o + f * 4, none⟩ = some (.int .i64 p.num) := (cell_at hr _).trans (hc0 0 (by omega))
  have q1 : W1.cell? ⟨R, o + f * 4 + 1, none⟩ = some (.int .i64 p.t) := (cell_at hr _).trans (hc0 1 (by omega))
  have q2 : W1.cell? ⟨R, o + f * 4 + 2, none⟩ = some (.int .i64 p.c) := (cell_at hr _).trans (hc0 2 (by omega))
  have q3 : W1.cell? ⟨R, o + f * 4 + 3, none⟩ = some (.slice p.a p.n p.ca) := (cell_at hr _).trans (hc0 3 (by omega))
  have c0 : W1.cell? ⟨D, 0, none⟩ = some (.slice (some ⟨R, o, none⟩) room room) := cell_at hq1.own 0
  have c1 : W1.cell? ⟨D, 1, none⟩ = some (.int .i64 (f : Nat)) := cell_at hq1.own 1
  have hD1 : D < W1.heap.size := hq1.own.lt
  have hR1 : R < W1.heap.size := hr.lt
  have HLD := Lib.hid hq.ld
  have HN := Lib.hid hN
  have HP0 := Lib.hid hp0
  have HP1 := Lib.hid hp1
  have HQ1 := Lib.hid hq1
  have HB1 := Lib.hid hB1
  have HP := Lib.hid hp
  rw [← hp]
  clear hq hq1 hr hce hc0 hB1 hp0 hp1 hp hcs
  go_enter Try.func72, Try.ntmps72
  go_upto_region 2 with fail
  rw [← hN, ← hW1]
  clear hN hW1
  have HS : Hid (∀ X, Below W1.heap.size W1 X → (X.cell? ⟨R, o + f * 4, none⟩ = some (.int .i64 p.num) ∧ X.cell? ⟨R, o + f * 4 + 1, none⟩ = some (.int .i64 p.t) ∧ X.cell? ⟨R, o + f * 4 + 2, none⟩ = some (.int .i64 p.c) ∧ X.cell? ⟨R, o + f * 4 + 3, none⟩ = some (.slice p.a p.n p.ca) ∧ X.cell? ⟨D, 0, none⟩ = some (.slice (some ⟨R, o, none⟩) room room) ∧ X.cell? ⟨D, 1, none⟩ = some (.int .i64 (f : Nat)) ∧ R < X.heap.size ∧ D < X.heap.size)) := Lib.hid (fun X hB => ⟨(hB.cell (p := ⟨R, _, none⟩) hR1).trans q0, (hB.cell (p := ⟨R, _, none⟩) hR1).trans q1, (hB.cell (p := ⟨R, _, none⟩) hR1).trans q2, (hB.cell (p := ⟨R, _, none⟩) hR1).trans q3, (hB.cell (p := ⟨D, _, none⟩) hD1).trans c0, (hB.cell (p := ⟨D, _, none⟩) hD1).trans c1, by have := hB.size; omega, by have := hB.size; omega⟩)
  refine wp_region_held_drew (S := fun X => X.cell? ⟨R, o + f * 4, none⟩ = some (.int .i64 p.num) ∧ X.cell? ⟨R, o + f * 4 + 1, none⟩ = some (.int .i64 p.t) ∧ X.cell? ⟨R, o + f * 4 + 2, none⟩ = some (.int .i64 p.c) ∧ X.cell? ⟨R, o + f * 4 + 3, none⟩ = some (.slice p.a p.n p.ca) ∧ X.cell? ⟨D, 0, none⟩ = some (.slice (some ⟨R, o, none⟩) room room) ∧ X.cell? ⟨D, 1, none⟩ = some (.int .i64 (f : Nat)) ∧ R < X.heap.size ∧ D < X.heap.size) (by kernel_rfl) (HS.out _ ((Below.refl _ _).drew)) (fun hHeld => ?_)
  ((refine wpAnyH_take (i := 0) (v := ?_) (by (simp only [List.getElem?_toArray, List.getElem?_cons_succ, List.getElem?_cons_zero]); rfl) (by kernel_rfl) (by kernel_rfl) (by kernel_rfl) (by exact fun _ _ _ h => h) (Or.inl ⟨by rfl, ?_⟩) (by assumption) ?_); rotate_left; focus (intro wS hSw; (try dsimp only at hSw); go_simp; first | done | with_reducible rfl); try simp only [Act.put, List.setIfInBounds_toArray, List.set_cons_zero, List.set_cons_succ])
  ((refine wpAnyH_take (i := 1) (v := ?_) (by (simp only [List.getElem?_toArray, List.getElem?_cons_succ, List.getElem?_cons_zero]); rfl) (by kernel_rfl) (by kernel_rfl) (by kernel_rfl) (by exact fun _ _ _ h => h) (Or.inl ⟨by rfl, ?_⟩) (by assumption) ?_); rotate_left; focus (intro wS hSw; (try dsimp only at hSw); go_simp; first | done | with_reducible rfl); try simp only [Act.put, List.setIfInBounds_toArray, List.set_cons_zero, List.set_cons_succ])
  ((refine wpAnyH_take (i := 2) (v := ?_) (by (simp only [List.getElem?_toArray, List.getElem?_cons_succ, List.getElem?_cons_zero]); rfl) (by kernel_rfl) (by kernel_rfl) (by kernel_rfl) (by exact fun _ _ _ h => h) (Or.inl ⟨by rfl, ?_⟩) (by assumption) ?_); rotate_left; focus (intro wS hSw; (try dsimp only at hSw); go_simp; first | done | with_reducible rfl); try simp only [Act.put, List.setIfInBounds_toArray, List.set_cons_zero, List.set_cons_succ])
  ((refine wpAnyH_take (i := 3) (v := ?_) (by (simp only [List.getElem?_toArray, List.getElem?_cons_succ, List.getElem?_cons_zero]); rfl) (by kernel_rfl) (by kernel_rfl) (by kernel_rfl) (by exact fun _ _ _ h => h) (Or.inl ⟨by rfl, ?_⟩) (by assumption) ?_); rotate_left; focus (intro wS hSw; (try dsimp only at hSw); go_simp; first | done | with_reducible rfl); try simp only [Act.put, List.setIfInBounds_toArray, List.set_cons_zero, List.set_cons_succ])
  ((refine wpAnyH_take (i := 4) (v := ?_) (by (simp only [List.getElem?_toArray, List.getElem?_cons_succ, List.getElem?_cons_zero]); rfl) (by kernel_rfl) (by kernel_rfl) (by kernel_rfl) (by exact fun _ _ _ h => h) (Or.inl ⟨by rfl, ?_⟩) (by assumption) ?_); rotate_left; focus (intro wS hSw; (try dsimp only at hSw); go_simp; first | done | with_reducible rfl); try simp only [Act.put, List.setIfInBounds_toArray, List.set_cons_zero, List.set_cons_succ])
  ((refine wpAnyH_take (i := 5) (v := ?_) (by (simp only [List.getElem?_toArray, List.getElem?_cons_succ, List.getElem?_cons_zero]); rfl) (by kernel_rfl) (by kernel_rfl) (by kernel_rfl) (by exact fun _ _ _ h => h) (Or.inl ⟨by rfl, ?_⟩) (by assumption) ?_); rotate_left; focus (intro wS hSw; (try dsimp only at hSw); go_simp; first | done | with_reducible rfl); try simp only [Act.put, List.setIfInBounds_toArray, List.set_cons_zero, List.set_cons_succ])
  ((refine wpAnyH_take (i := 6) (v := ?_) (by (simp only [List.getElem?_toArray, List.getElem?_cons_succ, List.getElem?_cons_zero]); rfl) (by kernel_rfl) (by kernel_rfl) (by kernel_rfl) (by exact fun _ _ _ h => h) (Or.inl ⟨by rfl, ?_⟩) (by assumption) ?_); rotate_left; focus (intro wS hSw; (try dsimp only at hSw); go_simp; first | done | with_reducible rfl); try simp only [Act.put, List.setIfInBounds_toArray, List.set_cons_zero, List.set_cons_succ])
  ((refine wpAnyH_take (i := 7) (v := ?_) (by (simp only [List.getElem?_toArray, List.getElem?_cons_succ, List.getElem?_cons_zero]); rfl) (by kernel_rfl) (by kernel_rfl) (by kernel_rfl) (by exact fun _ _ _ h => h) (Or.inl ⟨by rfl, ?_⟩) (by assumption) ?_); rotate_left; focus (intro wS hSw; (try dsimp only at hSw); go_simp; first | done | with_reducible rfl); try simp only [Act.put, List.setIfInBounds_toArray, List.set_cons_zero, List.set_cons_succ])
  ((refine wpAnyH_take (i := 8) (v := ?_) (by (simp only [List.getElem?_toArray, List.getElem?_cons_succ, List.getElem?_cons_zero]); rfl) (by kernel_rfl) (by kernel_rfl) (by kernel_rfl) (by exact fun _ _ _ h => h) (Or.inl ⟨by rfl, ?_⟩) (by assumption) ?_); rotate_left; focus (intro wS hSw; (try dsimp only at hSw); go_simp; first | done | with_reducible rfl); try simp only [Act.put, List.setIfInBounds_toArray, List.set_cons_zero, List.set_cons_succ])
  ((refine wpAnyH_take (i := 9) (v := ?_) (by (simp only [List.getElem?_toArray, List.getElem?_cons_succ, List.getElem?_cons_zero]); rfl) (by kernel_rfl) (by kernel_rfl) (by kernel_rfl) (by exact fun _ _ _ h => h) (Or.inl ⟨by rfl, ?_⟩) (by assumption) ?_); rotate_left; focus (intro wS hSw; (try dsimp only at hSw); go_simp; first | done | with_reducible rfl); try simp only [Act.put, List.setIfInBounds_toArray, List.set_cons_zero, List.set_cons_succ])
  refine wpAnyH_ready (rs := [10]) (by kernel_rfl) (by simp) ?_
  refine AllReadyH.cons (by (simp only [List.getElem?_toArray, List.getElem?_cons_succ, List.getElem?_cons_zero]); rfl) (fun K hK => ?_) AllReadyH.nil
  go_simp
  refine hK.out _ _ (HS.out _ (((Below.refl _ _).drew).alloc (by simp) _)) (fun hHeld => ?_)
  clear hK K
  try simp only [Act.put, List.setIfInBounds_toArray, List.set_cons_zero, List.set_cons_succ]
  refine wpAnyH_ready (rs := [11]) (by kernel_rfl) (by simp) ?_
  refine AllReadyH.cons (by (simp only [List.getElem?_toArray, List.getElem?_cons_succ, List.getElem?_cons_zero]); rfl) (fun K hK => ?_) AllReadyH.nil
  go_simp
  refine hK.out _ _ (HS.out _ (((Below.refl _ _).alloc (Nat.le_refl _) _).drew)) (fun hHeld => ?_)
  clear hK K
  try simp only [Act.put, List.setIfInBounds_toArray, List.set_cons_zero, List.set_cons_succ]
  refine wpAnyH_done (by kernel_rfl) ?_ _
  obtain ⟨M, hM⟩ : ∃ M, M = W1.heap.size := ⟨_, rfl⟩
  obtain ⟨W2, hW2⟩ : ∃ W2, W2 = (W1.alloc (.cells #[.int .i64 p.num, .int .i64 p.t, .int .i64 p.c, .slice p.a p.n p.ca] 53)).drew := ⟨_, rfl⟩
  have hB2 : Below W1.heap.size W1 W2 := by rw [hW2]; exact ((Below.refl _ _).alloc (Nat.le_refl _) _).drew
  have HQ2 := Lib.hid (HQ1.out.below hB2)
  have HP02 := Lib.hid (HP0.out.step hB2)
  have HP12 := Lib.hid (HP1.out.step hB2)
  have HPM : Hid (Blk W2 M #[.int .i64 p.num, .int .i64 p.t, .int .i64 p.c, .slice p.a p.n p.ca] 53) := Lib.hid (by rw [hW2, hM]; exact blk_new _ _ _)
  have HF2 : Hid (Fr [D, R] w W2) := Lib.hid ((Fr.of_below (HB1.out.trans (hB2.mono HB1.out.size))).mono (by simp))
  have hNM : N + 1 < M := by rw [hM]; exact HP1.out.lt
  rw [← hM, ← hW2]
  clear q0 q1 q2 q3 c0 c1 hD1 hR1 HS hB2 hM hW2 hHeld
  obtain ⟨cur, hr2, hcs, hce⟩ := HQ2.out.ring
  have HR2 := Lib.hid hr2
  have HCE := Lib.hid hce
  have hcell : ∀ i, i < 4 → ∃ v, cur[o + f * 4 + i]? = some v := fun i hi => ⟨_, Array.getElem?_eq_getElem (by omega)⟩
  obtain ⟨v0, e0⟩ := hcell 0 (by omega)
  obtain ⟨v1, e1⟩ := hcell 1 (by omega)
  obtain ⟨v2, e2⟩ := hcell 2 (by omega)
  obtain ⟨v3, e3⟩ := hcell 3 (by omega)
  have q0 : W2.cell? ⟨R, o + f * 4, none⟩ = some v0 := (cell_at hr2 _).trans e0
  have q1 : W2.cell? ⟨R, o + f * 4 + 1, none⟩ = some v1 := (cell_at hr2 _).trans e1
  have q2 : W2.cell? ⟨R, o + f * 4 + 2, none⟩ = some v2 := (cell_at hr2 _).trans e2
  have q3 : W2.cell? ⟨R, o + f * 4 + 3, none⟩ = some v3 := (cell_at hr2 _).trans e3
  have y0 := free_at hr2 (o + f * 4)
  have y1 := free_at hr2 (o + f * 4 + 1)
  have y2 := free_at hr2 (o + f * 4 + 2)
  have y3 := free_at hr2 (o + f * 4 + 3)
  have c0 : W2.cell? ⟨D, 0, none⟩ = some (.slice (some ⟨R, o, none⟩) room room) := cell_at HQ2.out.own 0
  have c1 : W2.cell? ⟨D, 1, none⟩ = some (.int .i64 (f : Nat)) := cell_at HQ2.out.own 1
  have n0 : W2.cell? ⟨N + 1, 0, none⟩ = some (.int .i64 0) := cell_at HP12.out 0
  have n1 : W2.cell? ⟨N + 1, 1, none⟩ = some (.int .i64 0) := cell_at HP12.out 1
  have n2 : W2.cell? ⟨N + 1, 2, none⟩ = some (.int .i64 0) := cell_at HP12.out 2
  have n3 : W2.cell? ⟨N + 1, 3, none⟩ = some (.slice none 0 0) := cell_at HP12.out 3
  have hD1 : D < W2.heap.size := HQ2.out.own.lt
  have hR1 : R < W2.heap.size := hr2.lt
  have hN1 : N + 1 < W2.heap.size := HP12.out.lt
  clear hr2 hce hcell e0 e1 e2 e3
  go_upto_region 3 with fail
  go_still_tail 10, (by kernel_rfl)
  change wpList _ _ _ _ _ W2.drew
  go_wp2_with fail
  obtain ⟨W3, hW3⟩ : ∃ W3, W3 = ((((W2.setCell ⟨R, o + f * 4, none⟩ (.int .i64 0)).setCell ⟨R, o + f * 4 + 1, none⟩ (.int .i64 0)).setCell ⟨R, o + f * 4 + 2, none⟩ (.int .i64 0)).setCell ⟨R, o + f * 4 + 3, none⟩ (.slice none 0 0)).drew := ⟨_, rfl⟩
  rw [← hW3]
  have hRD : R ≠ D := fun e => hne e.symm
  have ne4 : ∀ {B : Nat} {cs : Array Value} {t : TypeId}, B ≠ R → Blk W2 B cs t → Blk W3 B cs t := fun h1 h2 => by
    rw [hW3]
    exact (((h2.ne ⟨R, o + f * 4, none⟩ h1 _).ne ⟨R, o + f * 4 + 1, none⟩ h1 _).ne ⟨R, o + f * 4 + 2, none⟩ h1 _).ne ⟨R, o + f * 4 + 3, none⟩ h1 _
  have HO3 := Lib.hid (ne4 hne (show Blk W2 D _ _ from HQ2.out.own))
  have HP03 := Lib.hid (ne4 (by omega : N ≠ R) (show Blk W2 N _ _ from HP02.out))
  have HPM3 := Lib.hid (ne4 (by omega : M ≠ R) (show Blk W2 M _ _ from HPM.out))
  have HR3 : Hid (Blk W3 R (put4 cur (o + f * 4) (.int .i64 0) (.int .i64 0) (.int .i64 0) (.slice none 0 0)) 53) := Lib.hid (by
    rw [hW3]
    exact (((Blk.set (A := W2) HR2.out (o + f * 4) (.int .i64 0)).set (o + f * 4 + 1) (.int .i64 0)).set (o + f * 4 + 2) (.int .i64 0)).set (o + f * 4 + 3) (.slice none 0 0))
  have HF3 : Hid (Fr [D, R] w W3) := Lib.hid (by
    rw [hW3]
    exact ((((HF2.out.setCell ⟨R, o + f * 4, none⟩ (.inl (by simp)) _).setCell ⟨R, o + f * 4 + 1, none⟩ (.inl (by simp)) _).setCell ⟨R, o + f * 4 + 2, none⟩ (.inl (by simp)) _).setCell ⟨R, o + f * 4 + 3, none⟩ (.inl (by simp)) _).drew)
  clear q0 q1 q2 q3 y0 y1 y2 y3 c0 c1 n0 n1 n2 n3 hD1 hR1 hN1 ne4 hW3
  obtain ⟨k, hk⟩ : ∃ k, k = (f + 1) % room := ⟨_, rfl⟩
  have hmod : Int.tmod ((f : Int) + 1) (room : Int) = (k : Nat) := by
    have : ((f : Int) + 1) = ((f + 1 : Nat) : Int) := by omega
    rw [hk, this, ← Int.ofNat_tmod]
  have hkr : k < room := by rw [hk]; exact Nat.mod_lt _ (by omega)
  have HK := Lib.hid hk
  have hz : (room = 0) = False := eq_false (by omega)
  have hw : IntKind.i64.wrap ((f : Int) + 1) = (f : Int) + 1 := by rw [IntKind.wrap_i64]; omega
  have hw2 : IntKind.i64.wrap ((n : Int) - 1) = (n : Int) - 1 := by rw [IntKind.wrap_i64]; omega
  have hD3 : D < W3.heap.size := HO3.out.lt
  have hM3 : M < W3.heap.size := HPM3.out.lt
  have hN3 : N < W3.heap.size := HP03.out.lt
  have c0 : W3.cell? ⟨D, 0, none⟩ = some (.slice (some ⟨R, o, none⟩) room room) := cell_at HO3.out 0
  have c1 : W3.cell? ⟨D, 1, none⟩ = some (.int .i64 (f : Nat)) := cell_at HO3.out 1
  have c2 : W3.cell? ⟨D, 2, none⟩ = some (.int .i64 (n : Nat)) := cell_at HO3.out 2
  have z1 := free_at HO3.out 1
  have z2 := free_at HO3.out 2
  have m0 : W3.cell? ⟨M, 0, none⟩ = some (.int .i64 p.num) := cell_at HPM3.out 0
  have m1 : W3.cell? ⟨M, 1, none⟩ = some (.int .i64 p.t) := cell_at HPM3.out 1
  have m2 : W3.cell? ⟨M, 2, none⟩ = some (.int .i64 p.c) := cell_at HPM3.out 2
  have m3 : W3.cell? ⟨M, 3, none⟩ = some (.slice p.a p.n p.ca) := cell_at HPM3.out 3
  have b0 : W3.cell? ⟨N, 0, none⟩ = some (.int .i64 0) := cell_at HP03.out 0
  have b1 : W3.cell? ⟨N, 1, none⟩ = some (.int .i64 0) := cell_at HP03.out 1
  have b2 : W3.cell? ⟨N, 2, none⟩ = some (.int .i64 0) := cell_at HP03.out 2
  have b3 : W3.cell? ⟨N, 3, none⟩ = some (.slice none 0 0) := cell_at HP03.out 3
  have x0 := free_at HP03.out 0
  have x1 := free_at HP03.out 1
  have x2 := free_at HP03.out 2
  have x3 := free_at HP03.out 3
  have hDN : D ≠ N := by omega
  have hDM : D ≠ M := by omega
  have hNM2 : N ≠ M := by omega
  clear hk
  go_still_tail 14, (by kernel_rfl)
  change wpList _ _ _ _ _ W3.drew
  go_wp2_with fail
  obtain ⟨WS, hWS⟩ : ∃ WS, WS = ((((((W3.setCell ⟨D, 1, none⟩ (.int .i64 (k : Nat))).setCell ⟨D, 2, none⟩ (.int .i64 ((n : Int) - 1))).setCell ⟨N, 0, none⟩ (.int .i64 p.num)).setCell ⟨N, 1, none⟩ (.int .i64 p.t)).setCell ⟨N, 2, none⟩ (.int .i64 p.c)).setCell ⟨N, 3, none⟩ (.slice p.a p.n p.ca)) := ⟨_, rfl⟩
  have hRN : R ≠ N := by omega
  have s1 : Blk WS D #[.slice (some ⟨R, o, none⟩) room room, .int .i64 (k : Nat), .int .i64 ((n : Int) - 1), .int .i64 by_, .int .i64 dr] 91 := by rw [hWS]; exact ((((((HO3.out).set 1 (.int .i64 (k : Nat))).set 2 (.int .i64 ((n : Int) - 1))).ne ⟨N, 0, none⟩ hDN (.int .i64 p.num)).ne ⟨N, 1, none⟩ hDN (.int .i64 p.t)).ne ⟨N, 2, none⟩ hDN (.int .i64 p.c)).ne ⟨N, 3, none⟩ hDN (.slice p.a p.n p.ca)
  have s2 : Blk WS N #[.int .i64 p.num, .int .i64 p.t, .int .i64 p.c, .slice p.a p.n p.ca] 53 := by rw [hWS]; exact ((((((HP03.out).ne ⟨D, 1, none⟩ hDN.symm (.int .i64 (k : Nat))).ne ⟨D, 2, none⟩ hDN.symm (.int .i64 ((n : Int) - 1))).set 0 (.int .i64 p.num)).set 1 (.int .i64 p.t)).set 2 (.int .i64 p.c)).set 3 (.slice p.a p.n p.ca)
  have s3 : Blk WS R (put4 cur (o + f * 4) (.int .i64 0) (.int .i64 0) (.int .i64 0) (.slice none 0 0)) 53 := by rw [hWS]; exact ((((((HR3.out).ne ⟨D, 1, none⟩ hRD (.int .i64 (k : Nat))).ne ⟨D, 2, none⟩ hRD (.int .i64 ((n : Int) - 1))).ne ⟨N, 0, none⟩ hRN (.int .i64 p.num)).ne ⟨N, 1, none⟩ hRN (.int .i64 p.t)).ne ⟨N, 2, none⟩ hRN (.int .i64 p.c)).ne ⟨N, 3, none⟩ hRN (.slice p.a p.n p.ca)
  have s4 : Fr [D, R] w WS := by rw [hWS]; exact ((((((HF3.out).setCell ⟨D, 1, none⟩ (.inl (by simp)) (.int .i64 (k : Nat))).setCell ⟨D, 2, none⟩ (.inl (by simp)) (.int .i64 ((n : Int) - 1))).setCell ⟨N, 0, none⟩ (.inr (Nat.le_of_eq HN.out.symm)) (.int .i64 p.num)).setCell ⟨N, 1, none⟩ (.inr (Nat.le_of_eq HN.out.symm)) (.int .i64 p.t)).setCell ⟨N, 2, none⟩ (.inr (Nat.le_of_eq HN.out.symm)) (.int .i64 p.c)).setCell ⟨N, 3, none⟩ (.inr (Nat.le_of_eq HN.out.symm)) (.slice p.a p.n p.ca)
  rw [← hWS]
  clear hWS
  obtain ⟨WF, hWF⟩ : ∃ WF, WF = WS.drew := ⟨_, rfl⟩
  have k1 : Blk WF D #[.slice (some ⟨R, o, none⟩) room room, .int .i64 (k : Nat), .int .i64 ((n : Int) - 1), .int .i64 by_, .int .i64 dr] 91 := by rw [hWF]; exact s1
  have k2 : Blk WF N #[.int .i64 p.num, .int .i64 p.t, .int .i64 p.c, .slice p.a p.n p.ca] 53 := by rw [hWF]; exact s2
  have k3 : Blk WF R (put4 cur (o + f * 4) (.int .i64 0) (.int .i64 0) (.int .i64 0) (.slice none 0 0)) 53 := by rw [hWF]; exact s3
  have k4 : Fr [D, R] w WF := by rw [hWF]; exact s4.drew
  have hfin : FqIn WF D R o room ((f + 1) % room) (n - 1) by_ dr (fun j => E (j + 1)) := by
    have hn1 : ((n - 1 : Nat) : Int) = (n : Int) - 1 := by omega
    refine ⟨by rw [hn1, ← HK.out]; exact k1, ⟨_, k3, by rw [put4_size, hcs], fun j hj i hi => ?_⟩, hne, hr0, hr64, Nat.mod_lt _ (by omega), by omega, fun j hj => (HLD.out (j + 1) (by omega)).fr k4⟩
    have hm := mod_ne (f := f) (n := j + 1) (j := 0) hf (by omega) (by omega)
    rw [Nat.add_zero, Nat.mod_eq_of_lt hf] at hm
    have e1 : ((f + 1) % room + j) % room = (f + (j + 1)) % room := by rw [Nat.mod_add_mod]; congr 1; omega
    rw [e1, put4_ne _ _ _ _ _ _ _ (by omega), HCE.out (j + 1) (by omega) i hi]
  rw [← hWF]
  have r0 : WF.cell? ⟨N, 0, none⟩ = some (.int .i64 p.num) := cell_at k2 0
  have r1 : WF.cell? ⟨N, 1, none⟩ = some (.int .i64 p.t) := cell_at k2 1
  have r2 : WF.cell? ⟨N, 2, none⟩ = some (.int .i64 p.c) := cell_at k2 2
  have r3 : WF.cell? ⟨N, 3, none⟩ = some (.slice p.a p.n p.ca) := cell_at k2 3
  exact bodyPost_ret (v := .agg #[.int .i64 p.num, .int .i64 p.t, .int .i64 p.c, .slice p.a p.n p.ca]) (by simp [results, Try.results72, go_sem, r0, r1, r2, r3]) rfl ⟨rfl, hfin, k4⟩
end Go.Proofs.Ytoodmocapagapaa
namespace Go.Proofs.Ytoodmocapagapaa
open Go.RowKit
set_option linter.unusedSimpArgs false
set_option linter.unusedVariables false

set_option maxRecDepth 100000 in
set_option maxHeartbeats 8000000 in
theorem fpop_any (D R o room f n : Nat) (by_ dr : Int) (E : Nat → PkE) (w : World) (hq : FqIn w D R o room f n by_ dr E) (hn : 0 < n) (hby : 0 ≤ by_ ∧ by_ ≤ 1000000) :
    Calls Try.prog 56 #[.pointer (some ⟨D, 0, none⟩)] w fun e w' => ∃ a' c' b', e = .returned (.tuple #[.agg #[.int .i64 (E 0).num, .int .i64 (E 0).t, .int .i64 (E 0).c, .slice a' (E 0).n c'], .int .i64 0]) ∧ ByIn w' a' (E 0).n c' b' 0 (E 0).X ∧ (0 < (E 0).n → w.heap.size ≤ b') ∧ FqIn w' D R o room ((f + 1) % room) (n - 1) (by_ - (8 + ((E 0).n : Int))) dr (fun j => E (j + 1)) ∧ Fr [D, R] w w' := by
  obtain ⟨N, hN⟩ : ∃ N, N = w.heap.size := ⟨_, rfl⟩
  obtain ⟨W1, hW1⟩ : ∃ W1, W1 = w.alloc (.cells #[.int .i64 0, .int .i64 0, .int .i64 0, .slice none 0 0] 53) := ⟨_, rfl⟩
  have hB1 : Below w.heap.size w W1 := by rw [hW1]; exact (Below.refl _ _).alloc (Nat.le_refl _) _
  have hp : Blk W1 N #[.int .i64 0, .int .i64 0, .int .i64 0, .slice none 0 0] 53 := by rw [hW1, hN]; exact blk_new _ _ _
  have hD : D < N := by rw [hN]; exact hq.own.lt
  have hR : R < N := by rw [hN]; obtain ⟨_, h1, _⟩ := hq.ring; exact h1.lt
  have hq1 := hq.below hB1
  have hld0 := (hq1.ld 0 hn)
  obtain ⟨p, hpE⟩ : ∃ p, p = E 0 := ⟨_, rfl⟩
  have hrp := ring_pop D R o room f n by_ dr E W1 hq1 hn
  rw [← hpE] at hld0 hrp ⊢
  have hp14 := hld0.le
  have hld := hld0.d
  have HLD := Lib.hid hld0
  have HLA := Lib.hid hq.ld
  have HRP := Lib.hid hrp
  have HB1 := Lib.hid hB1
  have HP1 := Lib.hid hp
  have HN := Lib.hid hN
  have hnil : ∀ W, (binOp .eql 65 (.pointer (some ⟨D, 0, none⟩)) (.pointer none)).run Try.prog W = .ok (.bool false) W := fun _ => rfl
  have hz : (n = 0) = False := eq_false (by omega)
  have c2 : W1.cell? ⟨D, 2, none⟩ = some (.int .i64 (n : Nat)) := cell_at hq1.own 2
  have hD1 : D < W1.heap.size := hq1.own.lt
  have dn : ((n : Int) == 0) = false := by simp; omega
  clear hq hq1 hB1 hp hpE hld0 hrp
  go_enter Try.func56, Try.ntmps56
  go_upto_region 3 with fail
  rw [← hN, ← hW1]
  clear hN hW1
  go_wp2_with fail
  go_at_call 72
  refine Calls.mono HRP.out ?_
  rintro e W2 ⟨rfl, hq2, hF2⟩
  have HN2 : Hid (Blk W2 N #[.int .i64 0, .int .i64 0, .int .i64 0, .slice none 0 0] 53) := Lib.hid ((hF2.block N HP1.out.lt (by simp; omega)).trans HP1.out)
  have HL2 := Lib.hid (HLD.out.fr hF2)
  have HQ2 := Lib.hid hq2
  have HF2 : Hid (Fr [D, R] w W2) := Lib.hid (((Fr.of_below HB1.out).mono (by simp)).trans hF2 (by simp))
  clear hq2 hF2 c2 hD1
  go_upto_region 6 with fail
  obtain ⟨M, hM⟩ : ∃ M, M = W2.heap.size := ⟨_, rfl⟩
  obtain ⟨W3, hW3⟩ : ∃ W3, W3 = W2.alloc (.cells #[.int .i64 p.num, .int .i64 p.t, .int .i64 p.c, .slice p.a p.n p.ca] 53) := ⟨_, rfl⟩
  have hB3 : Below W2.heap.size W2 W3.drew := by rw [hW3]; exact ((Below.refl _ _).alloc (Nat.le_refl _) _).drew
  have HP5 : Hid (Blk W3.drew M #[.int .i64 p.num, .int .i64 p.t, .int .i64 p.c, .slice p.a p.n p.ca] 53) := Lib.hid (by rw [hW3, hM]; exact blk_new _ _ _)
  have HN5 := Lib.hid (HN2.out.step hB3)
  have HQ5 := Lib.hid (HQ2.out.below hB3)
  have HL5 := Lib.hid (HL2.out.by_.below hB3)
  have HF5 : Hid (Fr [D, R] w W3.drew) := Lib.hid (HF2.out.trans (Fr.of_below hB3) (by simp))
  have hNM : N < M := by rw [hM]; exact HN2.out.lt
  rw [← hM, ← hW3]
  have hk3 : W3.cell? ⟨D, 3, none⟩ = some (.int .i64 by_) := cell_at HQ5.out.own 3
  have hD3 : D < W3.heap.size := HQ5.out.own.lt
  clear hM hW3 hB3
  have hnD : D ≠ M := by omega
  have hnN : N ≠ D := by omega
  have hDN : D ≠ N := by omega
  have hRN : R ≠ N := by omega
  have hw : IntKind.i64.wrap (by_ - (8 + (p.n : Int))) = by_ - (8 + (p.n : Int)) := by rw [IntKind.wrap_i64]; omega
  refine wp_region_held_drew (S := fun X => X.cell? ⟨M, 0, none⟩ = some (.int .i64 p.num) ∧ X.cell? ⟨M, 1, none⟩ = some (.int .i64 p.t) ∧ X.cell? ⟨M, 2, none⟩ = some (.int .i64 p.c) ∧ X.cell? ⟨M, 3, none⟩ = some (.slice p.a p.n p.ca) ∧ M < X.heap.size) (by kernel_rfl) ⟨cell_at HP5.out 0, cell_at HP5.out 1, cell_at HP5.out 2, cell_at HP5.out 3, HP5.out.lt⟩ (fun hHeld => ?_)
  ((refine wpAnyH_take (i := 0) (v := ?_) (by (simp only [List.getElem?_toArray, List.getElem?_cons_succ, List.getElem?_cons_zero]); rfl) (by kernel_rfl) (by kernel_rfl) (by kernel_rfl) (by exact fun _ _ _ h => h) (Or.inl ⟨by rfl, ?_⟩) (by assumption) ?_); rotate_left; focus (intro wS hSw; (try dsimp only at hSw); go_simp; first | done | with_reducible rfl); try simp only [Act.put, List.setIfInBounds_toArray, List.set_cons_zero, List.set_cons_succ])
  ((refine wpAnyH_take (i := 1) (v := ?_) (by (simp only [List.getElem?_toArray, List.getElem?_cons_succ, List.getElem?_cons_zero]); rfl) (by kernel_rfl) (by kernel_rfl) (by kernel_rfl) (by exact fun _ _ _ h => h) (Or.inl ⟨by rfl, ?_⟩) (by assumption) ?_); rotate_left; focus (intro wS hSw; (try dsimp only at hSw); go_simp; first | done | with_reducible rfl); try simp only [Act.put, List.setIfInBounds_toArray, List.set_cons_zero, List.set_cons_succ])
  ((refine wpAnyH_take (i := 2) (v := ?_) (by (simp only [List.getElem?_toArray, List.getElem?_cons_succ, List.getElem?_cons_zero]); rfl) (by kernel_rfl) (by kernel_rfl) (by kernel_rfl) (by exact fun _ _ _ h => h) (Or.inl ⟨by rfl, ?_⟩) (by assumption) ?_); rotate_left; focus (intro wS hSw; (try dsimp only at hSw); go_simp; first | done | with_reducible rfl); try simp only [Act.put, List.setIfInBounds_toArray, List.set_cons_zero, List.set_cons_succ])
  ((refine wpAnyH_take (i := 4) (v := ?_) (by (simp only [List.getElem?_toArray, List.getElem?_cons_succ, List.getElem?_cons_zero]); rfl) (by kernel_rfl) (by kernel_rfl) (by kernel_rfl) (by exact fun _ _ _ h => h) (Or.inl ⟨by rfl, ?_⟩) (by assumption) ?_); rotate_left; focus (intro wS hSw; (try dsimp only at hSw); go_simp; first | done | with_reducible rfl); try simp only [Act.put, List.setIfInBounds_toArray, List.set_cons_zero, List.set_cons_succ])
  refine wpAnyH_ready (rs := [3, 5]) (by kernel_rfl) (by simp) ?_
  refine AllReadyH.cons (by (simp only [List.getElem?_toArray, List.getElem?_cons_succ, List.getElem?_cons_zero]); rfl) (fun K hK => ?_) (AllReadyH.cons (by (simp only [List.getElem?_toArray, List.getElem?_cons_succ, List.getElem?_cons_zero]); rfl) (fun K hK => ?_) AllReadyH.nil)
  · go_simp
    refine hK.out _ _ ⟨cell_at HP5.out 0, cell_at HP5.out 1, cell_at HP5.out 2, cell_at HP5.out 3, HP5.out.lt⟩ (fun hHeld => ?_)
    clear hK K
    try simp only [Act.put, List.setIfInBounds_toArray, List.set_cons_zero, List.set_cons_succ]
    ((refine wpAnyH_ready (rs := [5]) (by kernel_rfl) (by simp) ?_); (refine AllReadyH.cons (by (simp only [List.getElem?_toArray, List.getElem?_cons_succ, List.getElem?_cons_zero]); rfl) (fun K hK => ?_) AllReadyH.nil); go_simp; refine Calls.mono (fsize_any _ _ _ _ _ _ _ (by omega)) ?_)
    rintro e W6 ⟨rfl, hB6⟩
    have HP6 := Lib.hid (HP5.out.step hB6)
    have HQ6 := Lib.hid (HQ5.out.below hB6)
    have HN6 := Lib.hid (HN5.out.step hB6)
    have HL6 := Lib.hid (HL5.out.below hB6)
    have HF6 : Hid (Fr [D, R] w W6) := Lib.hid (HF5.out.trans (Fr.of_below hB6) (by simp))
    have k6 : W6.cell? ⟨D, 3, none⟩ = some (.int .i64 by_) := cell_at HQ6.out.own 3
    have z6 := free_at HQ6.out.own 3
    have hD6 : D < W6.heap.size := HQ6.out.own.lt
    clear hB6
    go_wp2_with fail
    refine hK.out _ _ ⟨cell_at HP6.out 0, cell_at HP6.out 1, cell_at HP6.out 2, cell_at HP6.out 3, HP6.out.lt⟩ (fun hHeld => ?_)
    clear hK K
    try simp only [Act.put, List.setIfInBounds_toArray, List.set_cons_zero, List.set_cons_succ]
    ((refine wpAnyH_take (i := 6) (v := ?_) (by (simp only [List.getElem?_toArray, List.getElem?_cons_succ, List.getElem?_cons_zero]); rfl) (by kernel_rfl) (by kernel_rfl) (by kernel_rfl) (by exact fun _ _ _ h => h) (Or.inl ⟨by rfl, ?_⟩) (by assumption) ?_); rotate_left; focus (intro wS hSw; (try dsimp only at hSw); go_simp; first | done | with_reducible rfl); try simp only [Act.put, List.setIfInBounds_toArray, List.set_cons_zero, List.set_cons_succ])
    ((refine wpAnyH_take (i := 7) (v := ?_) (by (simp only [List.getElem?_toArray, List.getElem?_cons_succ, List.getElem?_cons_zero]); rfl) (by kernel_rfl) (by kernel_rfl) (by kernel_rfl) (by exact fun _ _ _ h => h) (Or.inl ⟨by rfl, ?_⟩) (by assumption) ?_); rotate_left; focus (intro wS hSw; (try dsimp only at hSw); go_simp; first | done | with_reducible rfl); try simp only [Act.put, List.setIfInBounds_toArray, List.set_cons_zero, List.set_cons_succ])
    ((refine wpAnyH_take (i := 8) (v := ?_) (by (simp only [List.getElem?_toArray, List.getElem?_cons_succ, List.getElem?_cons_zero]); rfl) (by kernel_rfl) (by kernel_rfl) (by kernel_rfl) (by exact fun _ _ _ h => h) (Or.inl ⟨by rfl, ?_⟩) (by assumption) ?_); rotate_left; focus (intro wS hSw; (try dsimp only at hSw); go_simp; first | done | with_reducible rfl); try simp only [Act.put, List.setIfInBounds_toArray, List.set_cons_zero, List.set_cons_succ])
    refine wpAnyH_ready (rs := [9]) (by kernel_rfl) (by simp) ?_
    refine AllReadyH.cons (by (simp only [List.getElem?_toArray, List.getElem?_cons_succ, List.getElem?_cons_zero]); rfl) (fun K hK => ?_) AllReadyH.nil
    go_simp
    have HP7 := Lib.hid (HP6.out.ne ⟨D, 3, none⟩ hnD.symm (.int .i64 (by_ - (8 + (p.n : Int)))))
    have HN7 := Lib.hid (HN6.out.ne ⟨D, 3, none⟩ hnN (.int .i64 (by_ - (8 + (p.n : Int)))))
    have HQ7 := Lib.hid (HQ6.out.bytes (by_ - (8 + (p.n : Int))))
    have HL7 := Lib.hid (HL6.out.ne ⟨D, 3, none⟩ hld (.int .i64 (by_ - (8 + (p.n : Int)))))
    have HF7 := Lib.hid (HF6.out.setCell ⟨D, 3, none⟩ (.inl (by simp)) (.int .i64 (by_ - (8 + (p.n : Int)))))
    refine hK.out _ _ ⟨cell_at HP7.out 0, cell_at HP7.out 1, cell_at HP7.out 2, cell_at HP7.out 3, HP7.out.lt⟩ (fun hHeld => ?_)
    clear hK K
    try simp only [Act.put, List.setIfInBounds_toArray, List.set_cons_zero, List.set_cons_succ]
    refine wpAnyH_done (by kernel_rfl) ?_ _
    obtain ⟨W7, hW7⟩ : ∃ W7, W7 = W6.setCell ⟨D, 3, none⟩ (.int .i64 (by_ - (8 + (p.n : Int)))) := ⟨_, rfl⟩
    rw [← hW7] at HP7 HN7 HQ7 HL7 HF7 ⊢
    clear hW7 k6 z6 hD6 hHeld
    have m0 : W7.cell? ⟨M, 0, none⟩ = some (.int .i64 p.num) := cell_at HP7.out 0
    have m1 : W7.cell? ⟨M, 1, none⟩ = some (.int .i64 p.t) := cell_at HP7.out 1
    have m2 : W7.cell? ⟨M, 2, none⟩ = some (.int .i64 p.c) := cell_at HP7.out 2
    have m3 : W7.cell? ⟨M, 3, none⟩ = some (.slice p.a p.n p.ca) := cell_at HP7.out 3
    have hM7 : M < W7.heap.size := HP7.out.lt
    go_wp2_with fail
    go_at_call 44
    refine (ftwin_any _ _ _ _ _ _ _ _ _ _ HL7.out (by omega)).mono ?_
    rintro e W8 ⟨a', c', b', rfl, hby8, hfr8, hB8⟩
    have hn8 := HN7.out.step hB8
    have n0 : W8.cell? ⟨N, 0, none⟩ = some (.int .i64 0) := cell_at hn8 0
    have n1 : W8.cell? ⟨N, 1, none⟩ = some (.int .i64 0) := cell_at hn8 1
    have n2 : W8.cell? ⟨N, 2, none⟩ = some (.int .i64 0) := cell_at hn8 2
    have n3 : W8.cell? ⟨N, 3, none⟩ = some (.slice none 0 0) := cell_at hn8 3
    have x0 := free_at hn8 0
    have x1 := free_at hn8 1
    have x2 := free_at hn8 2
    have x3 := free_at hn8 3
    have hN8 : N < W8.heap.size := hn8.lt
    have HN8 := Lib.hid hn8
    have HQ8 := Lib.hid (HQ7.out.below hB8)
    have HF8 : Hid (Fr [D, R] w W8) := Lib.hid (HF7.out.trans (Fr.of_below hB8) (by simp))
    have HL8 := Lib.hid hby8
    have HB8 : Hid (0 < p.n → N < b') := Lib.hid (fun h0 => by have := hfr8 h0; have := HN7.out.lt; omega)
    clear hby8 hfr8 hB8 hn8 m0 m1 m2 m3 hM7
    go_wp2_with fail
    obtain ⟨WF, hWF⟩ : ∃ WF, WF = ((((W8.setCell ⟨N, 0, none⟩ (.int .i64 p.num)).setCell ⟨N, 1, none⟩ (.int .i64 p.t)).setCell ⟨N, 2, none⟩ (.int .i64 p.c)).setCell ⟨N, 3, none⟩ (.slice a' p.n c')) := ⟨_, rfl⟩
    have k2 : Blk WF N #[.int .i64 p.num, .int .i64 p.t, .int .i64 p.c, .slice a' p.n c'] 53 := by rw [hWF]; exact ((((HN8.out).set 0 (.int .i64 p.num)).set 1 (.int .i64 p.t)).set 2 (.int .i64 p.c)).set 3 (.slice a' p.n c')
    have k4 : Fr [D, R] w WF := by rw [hWF]; exact ((((HF8.out).setCell ⟨N, 0, none⟩ (.inr (Nat.le_of_eq HN.out.symm)) (.int .i64 p.num)).setCell ⟨N, 1, none⟩ (.inr (Nat.le_of_eq HN.out.symm)) (.int .i64 p.t)).setCell ⟨N, 2, none⟩ (.inr (Nat.le_of_eq HN.out.symm)) (.int .i64 p.c)).setCell ⟨N, 3, none⟩ (.inr (Nat.le_of_eq HN.out.symm)) (.slice a' p.n c')
    have k5 : ByIn WF a' p.n c' b' 0 p.X := by rw [hWF]; exact ((((HL8.out).ne ⟨N, 0, none⟩ (fun h0 => Nat.ne_of_gt (HB8.out h0)) (.int .i64 p.num)).ne ⟨N, 1, none⟩ (fun h0 => Nat.ne_of_gt (HB8.out h0)) (.int .i64 p.t)).ne ⟨N, 2, none⟩ (fun h0 => Nat.ne_of_gt (HB8.out h0)) (.int .i64 p.c)).ne ⟨N, 3, none⟩ (fun h0 => Nat.ne_of_gt (HB8.out h0)) (.slice a' p.n c')
    obtain ⟨cur, h1, h2, h3⟩ := HQ8.out.ring
    have hfin : FqIn WF D R o room ((f + 1) % room) (n - 1) (by_ - (8 + (p.n : Int))) dr (fun j => E (j + 1)) := ⟨by rw [hWF]; exact ((((HQ8.out.own).ne ⟨N, 0, none⟩ hDN (.int .i64 p.num)).ne ⟨N, 1, none⟩ hDN (.int .i64 p.t)).ne ⟨N, 2, none⟩ hDN (.int .i64 p.c)).ne ⟨N, 3, none⟩ hDN (.slice a' p.n c'), ⟨cur, by rw [hWF]; exact ((((h1).ne ⟨N, 0, none⟩ hRN (.int .i64 p.num)).ne ⟨N, 1, none⟩ hRN (.int .i64 p.t)).ne ⟨N, 2, none⟩ hRN (.int .i64 p.c)).ne ⟨N, 3, none⟩ hRN (.slice a' p.n c'), h2, h3⟩, HQ8.out.ne, HQ8.out.r1, HQ8.out.r64, HQ8.out.fl, HQ8.out.nl, fun j hj => (HLA.out (j + 1) (by omega)).fr k4⟩
    rw [← hWF]
    have r0 : WF.cell? ⟨N, 0, none⟩ = some (.int .i64 p.num) := cell_at k2 0
    have r1 : WF.cell? ⟨N, 1, none⟩ = some (.int .i64 p.t) := cell_at k2 1
    have r2 : WF.cell? ⟨N, 2, none⟩ = some (.int .i64 p.c) := cell_at k2 2
    have r3 : WF.cell? ⟨N, 3, none⟩ = some (.slice a' p.n c') := cell_at k2 3
    exact bodyPost_ret (v := .tuple #[.agg #[.int .i64 p.num, .int .i64 p.t, .int .i64 p.c, .slice a' p.n c'], .int .i64 0]) (by simp [results, Try.results56, go_sem, r0, r1, r2, r3]) rfl ⟨a', c', b', rfl, k5, (fun h0 => by have := HB8.out h0; have := HN.out; omega), hfin, k4⟩
  · go_simp
    refine Calls.mono (fsize_any _ _ _ _ _ _ _ (by omega)) ?_
    rintro e W6 ⟨rfl, hB6⟩
    have HP6 := Lib.hid (HP5.out.step hB6)
    have HQ6 := Lib.hid (HQ5.out.below hB6)
    have HN6 := Lib.hid (HN5.out.step hB6)
    have HL6 := Lib.hid (HL5.out.below hB6)
    have HF6 : Hid (Fr [D, R] w W6) := Lib.hid (HF5.out.trans (Fr.of_below hB6) (by simp))
    have k6 : W6.cell? ⟨D, 3, none⟩ = some (.int .i64 by_) := cell_at HQ6.out.own 3
    have z6 := free_at HQ6.out.own 3
    have hD6 : D < W6.heap.size := HQ6.out.own.lt
    clear hB6
    go_wp2_with fail
    refine hK.out _ _ ⟨cell_at HP6.out 0, cell_at HP6.out 1, cell_at HP6.out 2, cell_at HP6.out 3, HP6.out.lt⟩ (fun hHeld => ?_)
    clear hK K
    try simp only [Act.put, List.setIfInBounds_toArray, List.set_cons_zero, List.set_cons_succ]
    refine wpAnyH_ready (rs := [3]) (by kernel_rfl) (by simp) ?_
    refine AllReadyH.cons (by (simp only [List.getElem?_toArray, List.getElem?_cons_succ, List.getElem?_cons_zero]); rfl) (fun K hK => ?_) AllReadyH.nil
    go_simp
    refine hK.out _ _ ⟨cell_at HP6.out 0, cell_at HP6.out 1, cell_at HP6.out 2, cell_at HP6.out 3, HP6.out.lt⟩ (fun hHeld => ?_)
    clear hK K
    try simp only [Act.put, List.setIfInBounds_toArray, List.set_cons_zero, List.set_cons_succ]
    ((refine wpAnyH_take (i := 6) (v := ?_) (by (simp only [List.getElem?_toArray, List.getElem?_cons_succ, List.getElem?_cons_zero]); rfl) (by kernel_rfl) (by kernel_rfl) (by kernel_rfl) (by exact fun _ _ _ h => h) (Or.inl ⟨by rfl, ?_⟩) (by assumption) ?_); rotate_left; focus (intro wS hSw; (try dsimp only at hSw); go_simp; first | done | with_reducible rfl); try simp only [Act.put, List.setIfInBounds_toArray, List.set_cons_zero, List.set_cons_succ])
    ((refine wpAnyH_take (i := 7) (v := ?_) (by (simp only [List.getElem?_toArray, List.getElem?_cons_succ, List.getElem?_cons_zero]); rfl) (by kernel_rfl) (by kernel_rfl) (by kernel_rfl) (by exact fun _ _ _ h => h) (Or.inl ⟨by rfl, ?_⟩) (by assumption) ?_); rotate_left; focus (intro wS hSw; (try dsimp only at hSw); go_simp; first | done | with_reducible rfl); try simp only [Act.put, List.setIfInBounds_toArray, List.set_cons_zero, List.set_cons_succ])
    ((refine wpAnyH_take (i := 8) (v := ?_) (by (simp only [List.getElem?_toArray, List.getElem?_cons_succ, List.getElem?_cons_zero]); rfl) (by kernel_rfl) (by kernel_rfl) (by kernel_rfl) (by exact fun _ _ _ h => h) (Or.inl ⟨by rfl, ?_⟩) (by assumption) ?_); rotate_left; focus (intro wS hSw; (try dsimp only at hSw); go_simp; first | done | with_reducible rfl); try simp only [Act.put, List.setIfInBounds_toArray, List.set_cons_zero, List.set_cons_succ])
    refine wpAnyH_ready (rs := [9]) (by kernel_rfl) (by simp) ?_
    refine AllReadyH.cons (by (simp only [List.getElem?_toArray, List.getElem?_cons_succ, List.getElem?_cons_zero]); rfl) (fun K hK => ?_) AllReadyH.nil
    go_simp
    have HP7 := Lib.hid (HP6.out.ne ⟨D, 3, none⟩ hnD.symm (.int .i64 (by_ - (8 + (p.n : Int)))))
    have HN7 := Lib.hid (HN6.out.ne ⟨D, 3, none⟩ hnN (.int .i64 (by_ - (8 + (p.n : Int)))))
    have HQ7 := Lib.hid (HQ6.out.bytes (by_ - (8 + (p.n : Int))))
    have HL7 := Lib.hid (HL6.out.ne ⟨D, 3, none⟩ hld (.int .i64 (by_ - (8 + (p.n : Int)))))
    have HF7 := Lib.hid (HF6.out.setCell ⟨D, 3, none⟩ (.inl (by simp)) (.int .i64 (by_ - (8 + (p.n : Int)))))
    refine hK.out _ _ ⟨cell_at HP7.out 0, cell_at HP7.out 1, cell_at HP7.out 2, cell_at HP7.out 3, HP7.out.lt⟩ (fun hHeld => ?_)
    clear hK K
    try simp only [Act.put, List.setIfInBounds_toArray, List.set_cons_zero, List.set_cons_succ]
    refine wpAnyH_done (by kernel_rfl) ?_ _
    obtain ⟨W7, hW7⟩ : ∃ W7, W7 = W6.setCell ⟨D, 3, none⟩ (.int .i64 (by_ - (8 + (p.n : Int)))) := ⟨_, rfl⟩
    rw [← hW7] at HP7 HN7 HQ7 HL7 HF7 ⊢
    clear hW7 k6 z6 hD6 hHeld
    have m0 : W7.cell? ⟨M, 0, none⟩ = some (.int .i64 p.num) := cell_at HP7.out 0
    have m1 : W7.cell? ⟨M, 1, none⟩ = some (.int .i64 p.t) := cell_at HP7.out 1
    have m2 : W7.cell? ⟨M, 2, none⟩ = some (.int .i64 p.c) := cell_at HP7.out 2
    have m3 : W7.cell? ⟨M, 3, none⟩ = some (.slice p.a p.n p.ca) := cell_at HP7.out 3
    have hM7 : M < W7.heap.size := HP7.out.lt
    go_wp2_with fail
    go_at_call 44
    refine (ftwin_any _ _ _ _ _ _ _ _ _ _ HL7.out (by omega)).mono ?_
    rintro e W8 ⟨a', c', b', rfl, hby8, hfr8, hB8⟩
    have hn8 := HN7.out.step hB8
    have n0 : W8.cell? ⟨N, 0, none⟩ = some (.int .i64 0) := cell_at hn8 0
    have n1 : W8.cell? ⟨N, 1, none⟩ = some (.int .i64 0) := cell_at hn8 1
    have n2 : W8.cell? ⟨N, 2, none⟩ = some (.int .i64 0) := cell_at hn8 2
    have n3 : W8.cell? ⟨N, 3, none⟩ = some (.slice none 0 0) := cell_at hn8 3
    have x0 := free_at hn8 0
    have x1 := free_at hn8 1
    have x2 := free_at hn8 2
    have x3 := free_at hn8 3
    have hN8 : N < W8.heap.size := hn8.lt
    have HN8 := Lib.hid hn8
    have HQ8 := Lib.hid (HQ7.out.below hB8)
    have HF8 : Hid (Fr [D, R] w W8) := Lib.hid (HF7.out.trans (Fr.of_below hB8) (by simp))
    have HL8 := Lib.hid hby8
    have HB8 : Hid (0 < p.n → N < b') := Lib.hid (fun h0 => by have := hfr8 h0; have := HN7.out.lt; omega)
    clear hby8 hfr8 hB8 hn8 m0 m1 m2 m3 hM7
    go_wp2_with fail
    obtain ⟨WF, hWF⟩ : ∃ WF, WF = ((((W8.setCell ⟨N, 0, none⟩ (.int .i64 p.num)).setCell ⟨N, 1, none⟩ (.int .i64 p.t)).setCell ⟨N, 2, none⟩ (.int .i64 p.c)).setCell ⟨N, 3, none⟩ (.slice a' p.n c')) := ⟨_, rfl⟩
    have k2 : Blk WF N #[.int .i64 p.num, .int .i64 p.t, .int .i64 p.c, .slice a' p.n c'] 53 := by rw [hWF]; exact ((((HN8.out).set 0 (.int .i64 p.num)).set 1 (.int .i64 p.t)).set 2 (.int .i64 p.c)).set 3 (.slice a' p.n c')
    have k4 : Fr [D, R] w WF := by rw [hWF]; exact ((((HF8.out).setCell ⟨N, 0, none⟩ (.inr (Nat.le_of_eq HN.out.symm)) (.int .i64 p.num)).setCell ⟨N, 1, none⟩ (.inr (Nat.le_of_eq HN.out.symm)) (.int .i64 p.t)).setCell ⟨N, 2, none⟩ (.inr (Nat.le_of_eq HN.out.symm)) (.int .i64 p.c)).setCell ⟨N, 3, none⟩ (.inr (Nat.le_of_eq HN.out.symm)) (.slice a' p.n c')
    have k5 : ByIn WF a' p.n c' b' 0 p.X := by rw [hWF]; exact ((((HL8.out).ne ⟨N, 0, none⟩ (fun h0 => Nat.ne_of_gt (HB8.out h0)) (.int .i64 p.num)).ne ⟨N, 1, none⟩ (fun h0 => Nat.ne_of_gt (HB8.out h0)) (.int .i64 p.t)).ne ⟨N, 2, none⟩ (fun h0 => Nat.ne_of_gt (HB8.out h0)) (.int .i64 p.c)).ne ⟨N, 3, none⟩ (fun h0 => Nat.ne_of_gt (HB8.out h0)) (.slice a' p.n c')
    obtain ⟨cur, h1, h2, h3⟩ := HQ8.out.ring
    have hfin : FqIn WF D R o room ((f + 1) % room) (n - 1) (by_ - (8 + (p.n : Int))) dr (fun j => E (j + 1)) := ⟨by rw [hWF]; exact ((((HQ8.out.own).ne ⟨N, 0, none⟩ hDN (.int .i64 p.num)).ne ⟨N, 1, none⟩ hDN (.int .i64 p.t)).ne ⟨N, 2, none⟩ hDN (.int .i64 p.c)).ne ⟨N, 3, none⟩ hDN (.slice a' p.n c'), ⟨cur, by rw [hWF]; exact ((((h1).ne ⟨N, 0, none⟩ hRN (.int .i64 p.num)).ne ⟨N, 1, none⟩ hRN (.int .i64 p.t)).ne ⟨N, 2, none⟩ hRN (.int .i64 p.c)).ne ⟨N, 3, none⟩ hRN (.slice a' p.n c'), h2, h3⟩, HQ8.out.ne, HQ8.out.r1, HQ8.out.r64, HQ8.out.fl, HQ8.out.nl, fun j hj => (HLA.out (j + 1) (by omega)).fr k4⟩
    rw [← hWF]
    have r0 : WF.cell? ⟨N, 0, none⟩ = some (.int .i64 p.num) := cell_at k2 0
    have r1 : WF.cell? ⟨N, 1, none⟩ = some (.int .i64 p.t) := cell_at k2 1
    have r2 : WF.cell? ⟨N, 2, none⟩ = some (.int .i64 p.c) := cell_at k2 2
    have r3 : WF.cell? ⟨N, 3, none⟩ = some (.slice a' p.n c') := cell_at k2 3
    exact bodyPost_ret (v := .tuple #[.agg #[.int .i64 p.num, .int .i64 p.t, .int .i64 p.c, .slice a' p.n c'], .int .i64 0]) (by simp [results, Try.results56, go_sem, r0, r1, r2, r3]) rfl ⟨a', c', b', rfl, k5, (fun h0 => by have := HB8.out h0; have := HN.out; omega), hfin, k4⟩
end Go.Proofs.Ytoodmocapagapaa
namespace Go.Proofs.Ytoodmocapagapaa
open Go.RowKit
set_option linter.unusedSimpArgs false
set_option linter.unusedVariables false

def nilP : PkE := ⟨0, 0, 0, none, 0, 0, 0, 0, fun _ => 0⟩
theorem by_nil (w : World) : ByIn w none 0 0 0 0 (fun _ => 0) := ⟨Nat.le_refl _, by unfold maxLen; omega, fun h => by omega, fun k hk => by omega, fun _ => by decide⟩

end Go.Proofs.Ytoodmocapagapaa
namespace Go.Proofs.Ytoodmocapagapaa
open Go.RowKit
set_option linter.unusedSimpArgs false
set_option linter.unusedVariables false

set_option maxRecDepth 100000 in
set_option maxHeartbeats 4000000 in
theorem npop_any (w : World) : Calls Try.prog 56 #[.pointer none] w fun e w' => e = .returned (.tuple #[.agg #[.int .i64 0, .int .i64 0, .int .i64 0, .slice none 0 0], .int .i64 1]) ∧ Below w.heap.size w w' := by
  have hp : ∀ W, (binOp .eql 65 (.pointer none) (.pointer none)).run Try.prog W = .ok (.bool true) W := fun _ => rfl
  go_enter Try.func56, Try.ntmps56
  go_wp2_with fail
  exact bodyPost_ret (v := .tuple #[.agg #[.int .i64 0, .int .i64 0, .int .i64 0, .slice none 0 0], .int .i64 1]) (by simp [results, Try.results56, go_sem]) rfl ⟨rfl, (Below.refl _ _).alloc (Nat.le_refl _) _⟩
set_option maxRecDepth 100000 in
set_option maxHeartbeats 4000000 in
theorem npush_any (v : Value) (w : World) (num t c : Int) (a : Option Addr) (ln ca : Nat) (hv : v = .agg #[.int .i64 num, .int .i64 t, .int .i64 c, .slice a ln ca]) : Calls Try.prog 24 #[.pointer none, v] w fun e w' => e = .returned (.int .i64 1) ∧ Below w.heap.size w w' := by
  subst hv
  have hp : ∀ W, (binOp .eql 65 (.pointer none) (.pointer none)).run Try.prog W = .ok (.bool true) W := fun _ => rfl
  go_enter Try.func24, Try.ntmps24
  go_wp2_with fail
  go_ret
  exact ⟨rfl, (Below.refl _ _).alloc (Nat.le_refl _) _⟩
set_option maxRecDepth 100000 in
set_option maxHeartbeats 4000000 in
theorem zpop_any (D R o room f : Nat) (by_ dr : Int) (E : Nat → PkE) (w : World) (hq : FqIn w D R o room f 0 by_ dr E) : Calls Try.prog 56 #[.pointer (some ⟨D, 0, none⟩)] w fun e w' => e = .returned (.tuple #[.agg #[.int .i64 0, .int .i64 0, .int .i64 0, .slice none 0 0], .int .i64 4]) ∧ Below w.heap.size w w' := by
  have hp : ∀ W, (binOp .eql 65 (.pointer (some ⟨D, 0, none⟩)) (.pointer none)).run Try.prog W = .ok (.bool false) W := fun _ => rfl
  have hD := hq.own.lt
  have c2 : w.cell? ⟨D, 2, none⟩ = some (.int .i64 0) := cell_at hq.own 2
  clear hq
  go_enter Try.func56, Try.ntmps56
  go_wp2_with fail
  exact bodyPost_ret (v := .tuple #[.agg #[.int .i64 0, .int .i64 0, .int .i64 0, .slice none 0 0], .int .i64 4]) (by simp [results, Try.results56, go_sem]) rfl ⟨rfl, (Below.refl _ _).alloc (Nat.le_refl _) _⟩
set_option maxRecDepth 100000 in
set_option maxHeartbeats 4000000 in
theorem nlen_any (w : World) : Calls Try.prog 31 #[.pointer none] w fun e w' => e = .returned (.int .i64 0) ∧ w = w' := by
  have hp : ∀ W, (binOp .eql 65 (.pointer none) (.pointer none)).run Try.prog W = .ok (.bool true) W := fun _ => rfl
  go_enter Try.func31, Try.ntmps31
  go_wp2_with fail
  go_ret
  exact ⟨rfl, rfl⟩
set_option maxRecDepth 100000 in
set_option maxHeartbeats 4000000 in
theorem nbytes_any (w : World) : Calls Try.prog 32 #[.pointer none] w fun e w' => e = .returned (.int .i64 0) ∧ w = w' := by
  have hp : ∀ W, (binOp .eql 65 (.pointer none) (.pointer none)).run Try.prog W = .ok (.bool true) W := fun _ => rfl
  go_enter Try.func32, Try.ntmps32
  go_wp2_with fail
  go_ret
  exact ⟨rfl, rfl⟩
set_option maxRecDepth 100000 in
set_option maxHeartbeats 4000000 in
theorem nhead_any (w : World) : Calls Try.prog 45 #[.pointer none] w fun e w' => e = .returned (.tuple #[.agg #[.int .i64 0, .int .i64 0, .int .i64 0, .slice none 0 0], .bool false]) ∧ Below w.heap.size w w' := by
  go_enter Try.func45, Try.ntmps45
  go_wp2_with (go_at_call 31; refine (nlen_any _).mono ?_; rintro e W ⟨rfl, rfl⟩)
  exact bodyPost_ret (v := .tuple #[.agg #[.int .i64 0, .int .i64 0, .int .i64 0, .slice none 0 0], .bool false]) (by simp [results, Try.results45, go_sem]) rfl ⟨rfl, (Below.refl _ _).alloc (Nat.le_refl _) _⟩
end Go.Proofs.Ytoodmocapagapaa
/-
  Two packets, the same or not: the program's Same and the document's.
-/
namespace Go.Proofs.Ytoodmocapagapaa
open Go.RowKit
set_option linter.unusedSimpArgs false
set_option linter.unusedVariables false

def markB (n t c n' t' c' : Int) : Bool := n == n' && (t == t' && c == c')
/-- are two packets the same? -/
def sameP (p q : PkE) : Bool := markB p.num p.t p.c q.num q.t q.c && (p.n == q.n && eqB p.X q.X p.n)

/-- two blocks of the call's own -/
def F2 (w : World) (n1 n2 : Nat) (c0 c1 : Array Value) (X : World) : Prop := Holds X n1 c0 ∧ Holds X n2 c1 ∧ Below w.heap.size w X
theorem F2.step {w A B : World} {n1 n2 : Nat} {c0 c1 : Array Value} (h : F2 w n1 n2 c0 c1 A) (hB : Below A.heap.size A B) : F2 w n1 n2 c0 c1 B := ⟨Holds.step h.1 hB, Holds.step h.2.1 hB, h.2.2.trans (hB.mono h.2.2.size)⟩

theorem bytesOf_eq (X Y : Nat → Nat) (hX : ∀ k, X k < 256) (hY : ∀ k, Y k < 256) (n m : Nat) : (bytesOf X n == bytesOf Y m) = (n == m && eqB X Y n) := by
  rw [Bool.eq_iff_iff]
  simp only [beq_iff_eq, Bool.and_eq_true, eqB_iff]
  constructor
  · intro h
    have hl : n = m := by have := congrArg List.length h; rwa [bytesOf_len, bytesOf_len] at this
    subst hl
    refine ⟨rfl, fun k hk => ?_⟩
    have h2 : (bytesOf X n)[k]? = (bytesOf Y n)[k]? := by rw [h]
    simp only [bytesOf, List.getElem?_map, List.getElem?_range hk, Option.map_some, Option.some.injEq] at h2
    have h3 := congrArg UInt8.toNat h2
    simp only [UInt8.toNat_ofNat'] at h3
    have := hX k
    have := hY k
    omega
  · rintro ⟨rfl, h⟩
    unfold bytesOf
    refine List.map_congr_left fun k hk => ?_
    rw [h k (List.mem_range.1 hk)]
theorem str_eql (w : World) (A B : List UInt8) : (binOp .eql 9 (.string ⟨A.toArray⟩) (.string ⟨B.toArray⟩)).run Try.prog w = .ok (.bool (A == B)) w := by
  have h : (binOp .eql 9 (.string ⟨A.toArray⟩) (.string ⟨B.toArray⟩)).run Try.prog w = .ok (.bool ((⟨A.toArray⟩ : ByteArray).toList == (⟨B.toArray⟩ : ByteArray).toList)) w := rfl
  rw [h, ByteArray.toList_eq, ByteArray.toList_eq]

end Go.Proofs.Ytoodmocapagapaa
namespace Go.Proofs.Ytoodmocapagapaa
open Go.RowKit
set_option linter.unusedSimpArgs false
set_option linter.unusedVariables false

/-- An iterator, called in any world behind W0: the elements come one by one, each as E says in the world in which it comes; a round may change what Kp lets it. -/
def SeqE {α : Type} (n : Nat) (P : Program) (g : Nat) (lb : Array Value) (encs : α → Array Value) (E : List α → α → World → Prop) (Kp : World → World → Prop) (S : List α → Prop) (N : Nat) (W0 : World) : Prop :=
  ∀ (l : Nat) (J Jx : List α → World → Prop) (W : World), Below W0.heap.size W0 W → (∀ s A B, J s A → Below A.heap.size A B → J s B) →
    (∀ pre x W1, J pre W1 → E pre x W1 → pre.length < N → YieldAt Fence.wide (n - 1) P l (encs x) W1 fun e W' =>
      (e = .returned (.bool true) ∧ J (pre ++ [x]) W' ∧ Kp W1 W') ∨ (e = .returned (.bool false) ∧ Jx (pre ++ [x]) W')) →
    J [] W →
    CallsIn Fence.wide n P g (#[.func (.yield l) #[] #[]] ++ lb) W fun e W' => (∃ v, e = .returned v) ∧ ((∃ xs, S xs ∧ J xs W') ∨ (∃ pre, Jx pre W'))

/-- Of the blocks below n only those of l may have turned. -/
structure FrB (n : Nat) (l : List Nat) (w w' : World) : Prop where
  os : w'.os = w.os
  tape : w'.tape = w.tape
  output : w'.output = w.output
  size : w.heap.size ≤ w'.heap.size
  block : ∀ k, k < n → k ∉ l → w'.heap[k]? = w.heap[k]?
theorem FrB.refl (n : Nat) (l : List Nat) (w : World) : FrB n l w w := ⟨rfl, rfl, rfl, Nat.le_refl _, fun _ _ _ => rfl⟩
theorem FrB.trans {n : Nat} {l : List Nat} {a b c : World} (h : FrB n l a b) (k : FrB n l b c) : FrB n l a c :=
  ⟨k.os.trans h.os, k.tape.trans h.tape, k.output.trans h.output, Nat.le_trans h.size k.size, fun i hi hn => (k.block i hi hn).trans (h.block i hi hn)⟩
theorem FrB.mono {n : Nat} {l l' : List Nat} {a b : World} (h : FrB n l a b) (hl : ∀ x ∈ l, x ∈ l') : FrB n l' a b := ⟨h.os, h.tape, h.output, h.size, fun i hi hn => h.block i hi fun hm => hn (hl i hm)⟩
theorem FrB.of_fr {n : Nat} {l : List Nat} {a b : World} (h : Fr l a b) (hn : n ≤ a.heap.size) : FrB n l a b := ⟨h.os, h.tape, h.output, h.size, fun i hi hm => h.block i (by omega) hm⟩
theorem FrB.of_below {n : Nat} {l : List Nat} {B : Nat} {a b : World} (h : Below B a b) (hn : n ≤ B) : FrB n l a b := ⟨h.os, h.tape, h.output, h.size, fun i hi _ => h.block i (by omega)⟩
theorem FrB.put (n : Nat) (W : World) (L : Nat) (o : Obj) : FrB n [L] W (W.putObj L o) := ⟨rfl, rfl, rfl, by simp, fun k _ hk => World.putObj_heap_other (by simpa using hk)⟩
theorem FrB.below {n : Nat} {l : List Nat} {B : Nat} {a b : World} (h : FrB n l a b) (hB : B ≤ n) (hl : ∀ x ∈ l, B ≤ x) : Below B a b := ⟨h.os, h.tape, h.output, h.size, fun k hk => h.block k (by omega) fun hm => by have := hl k hm; omega⟩

/-- how a round's body may be left -/
def roundE {α : Type} (n : Nat) (bl : List Nat) (I : List α → World → Prop) (Ix : Code → List α → World → Prop) (xs : List α) (W : World) : Exit → Act → World → Prop
  | .normal, _, W' => FrB n bl W W' ∧ I xs W'
  | .ret, _, W' => FrB n bl W W' ∧ Ix .ret xs W'
  | .exit id, _, W' => FrB n bl W W' ∧ Ix (.exit id) xs W'
  | .goto t, _, W' => FrB n bl W W' ∧ Ix (.goto t) xs W'
  | .panic _, _, _ => False
  | .outgrown, _, _ => False

theorem range_E {α : Type} {P : Program} {n : Nat} (h1 : 1 ≤ n) {g : Operand} {ps : Array Tmp} {assign body : Code} {Q : Exit → Act → World → Prop} {a : Act} {w : World} {gf : Nat} {lb : Array Value}
    (hg : a.eval g = .func (.func gf) #[] lb) (eg : ∀ args w, (callFunc gf args).run P w = .ok (.enter gf args) w)
    {encs : α → Array Value} {E : List α → α → World → Prop} {S : List α → Prop} {N : Nat} (bl : List Nat) (hseq : SeqE (n - 1) P gf lb encs E (FrB (w.heap.size + 2) ((w.heap.size + 1) :: bl)) S N w) (hps : ∀ x, (encs x).size = ps.size)
    (I : List α → World → Prop) (Ix : Code → List α → World → Prop)
    (hIb : ∀ s A B, I s A → Below A.heap.size A B → I s B)
    (hIp : ∀ s A o, I s A → w.heap.size + 1 < A.heap.size → I s (A.putObj (w.heap.size + 1) o))
    (hXp : ∀ c s A o, Ix c s A → w.heap.size + 1 < A.heap.size → Ix c s (A.putObj (w.heap.size + 1) o))
    (hb0 : w.heap.size ∉ bl) (hb1 : w.heap.size + 1 ∉ bl) (h0 : I [] w)
    (hround : ∀ pre x W, I pre W → E pre x W → pre.length < N → w.heap.size + 1 < W.heap.size →
      assign.wpIn (Fence.wide.inRound (w.heap.size + 1)) (n - 1 - 1) P (Exit.then (fun a₁ w₁ => Below W.heap.size W w₁ ∧ ∀ o, body.wpIn (Fence.wide.inRound (w.heap.size + 1)) (n - 1 - 1) P (roundE (w.heap.size + 2) bl I Ix (pre ++ [x]) (w₁.putObj (w.heap.size + 1) o)) a₁ (w₁.putObj (w.heap.size + 1) o)) (fun _ _ _ => False))
        { tmps := (ps.zip (encs x)).foldl (fun t (p, v) => t.setIfInBounds p v) a.tmps, defers := [] } W)
    (hdone : ∀ xs W, S xs → I xs W → W.heap[w.heap.size]? = some (.deferred (some [])) → Q .normal { a with defers := { target := .collected w.heap.size, args := #[] } :: a.defers } W)
    (hstop : ∀ c xs W, Ix c xs W → W.heap[w.heap.size]? = some (.deferred (some [])) → c.wpIn Fence.wide n P Q { a with defers := { target := .collected w.heap.size, args := #[] } :: a.defers } W) :
    (Code.rangeFunc g ps assign body).wpIn Fence.wide n P Q a w := by
  refine wpIn_rangeFunc fun fn hfn => ?_
  obtain ⟨L, hL⟩ : ∃ L, L = w.heap.size + 1 := ⟨_, rfl⟩
  rw [← hL] at hseq hIp hXp hb1 hround
  let rc : LoopState → Option Code → Obj := fun st pe => .loop { state := st, pending := pe, fn, tmps := a.tmps, params := ps, assign, body, defers := w.heap.size }
  obtain ⟨W1, hW1⟩ : ∃ W1, W1 = (w.alloc (.deferred (some []))).alloc (rc .ready none) := ⟨_, rfl⟩
  have hB1 : Below w.heap.size w W1 := by rw [hW1]; exact ((Below.refl _ _).alloc (Nat.le_refl _) _).alloc (by simp) _
  have hl1 : W1.heap[L]? = some (rc .ready none) := by
    have := World.alloc_heap_new (w.alloc (.deferred (some []))) (rc .ready none)
    rw [World.size_alloc, ← hL, ← hW1] at this
    exact this
  have hd1 : W1.heap[w.heap.size]? = some (.deferred (some [])) := by
    rw [hW1]
    exact (Below.heap_alloc _ _ _ (by simp)).trans (World.alloc_heap_new w _)
  refine ⟨L, [{ target := .collected w.heap.size, args := #[] }], W1, { target := .fn (.func gf) lb, args := #[.func (.yield L) #[] #[]] }, W1, gf, #[.func (.yield L) #[] #[]] ++ lb, W1, ?_, ?_, ?_, ?_, fun _ => h1, ?_⟩
  · rw [hW1, hL]
    exact run_enterLoop_outer _ _ _ _ _
  · simp only [resolve, hg]
    simp [go_sem]
  · intro f' _
    trivial
  · simp [invoke, go_sem, eg]
  refine (hseq L (fun s A => I s A ∧ A.heap[L]? = some (rc .ready none) ∧ A.heap[w.heap.size]? = some (.deferred (some [])))
    (fun s A => ∃ c, Ix c s A ∧ A.heap[L]? = some (rc .done (some c)) ∧ A.heap[w.heap.size]? = some (.deferred (some []))) W1 hB1 ?_ ?_ ⟨hIb _ _ _ h0 hB1, hl1, hd1⟩).mono ?_
  · rintro s A B ⟨q1, q2, q3⟩ hB
    exact ⟨hIb _ _ _ q1 hB, (hB.block L (Array.getElem?_eq_some_iff.1 q2).1).trans q2, (hB.block _ (Array.getElem?_eq_some_iff.1 q3).1).trans q3⟩
  · rintro pre x A ⟨q1, q2, q3⟩ hE hlen
    have hlt : L < A.heap.size := (Array.getElem?_eq_some_iff.1 q2).1
    refine ⟨fn, _, assign, body, run_yield q2 (hps x), roundIn_of_wpIn hfn (wpIn_mono (hround pre x A q1 hE hlen hlt) ?_)⟩
    rintro e1 a1 A1 hp
    cases e1 with
    | normal =>
      obtain ⟨hB, hbody⟩ := hp
      have hlt1 : L < A1.heap.size := Nat.lt_of_lt_of_le hlt hB.size
      have r1 : A1.heap[L]? = some (rc .ready none) := (hB.block L hlt).trans q2
      have r2 : A1.heap[w.heap.size]? = some (.deferred (some [])) := (hB.block _ (by omega)).trans q3
      refine ⟨A1.putObj L (rc .busy none), run_beginRound r1 rfl, wpIn_mono (hbody (rc .busy none)) ?_⟩
      have s1 : (A1.putObj L (rc .busy none)).heap[L]? = some (rc .busy none) := World.putObj_heap_same hlt1
      have s2 : (A1.putObj L (rc .busy none)).heap[w.heap.size]? = some (.deferred (some [])) := (World.putObj_heap_other (by omega)).trans r2
      have hfin : ∀ (j : Option Code) (A3 : World), FrB (w.heap.size + 2) bl (A1.putObj L (rc .busy none)) A3 → (Instr.endRound L j).run P A3 = .ok (.bool j.isNone) (A3.putObj L (rc (if j.isNone then .ready else .done) j)) ∧ L < A3.heap.size ∧
          (A3.putObj L (rc (if j.isNone then .ready else .done) j)).heap[L]? = some (rc (if j.isNone then .ready else .done) j) ∧ (A3.putObj L (rc (if j.isNone then .ready else .done) j)).heap[w.heap.size]? = some (.deferred (some [])) := fun j A3 hF => by
        have t1 : A3.heap[L]? = some (rc .busy none) := (hF.block L (by omega) hb1).trans s1
        have t0 : L < A3.heap.size := (Array.getElem?_eq_some_iff.1 t1).1
        exact ⟨run_endRound j t1, t0, World.putObj_heap_same t0, (World.putObj_heap_other (by omega)).trans ((hF.block _ (by omega) hb0).trans s2)⟩
      rintro e3 a3 A3 hp3
      cases e3 with
      | normal =>
        obtain ⟨hF, hi⟩ := hp3
        obtain ⟨f1, f0, f2, f3⟩ := hfin none A3 hF
        refine ⟨_, _, f1, .inl ⟨rfl, ⟨hIp _ _ _ hi f0, f2, f3⟩, ?_⟩⟩
        exact (((FrB.of_below hB (by omega)).trans ((FrB.put _ A1 L (rc .busy none)).mono (by simp))).trans (hF.mono (by simp +contextual))).trans ((FrB.put _ A3 L _).mono (by simp))
      | ret =>
        obtain ⟨hF, hi⟩ := hp3
        obtain ⟨f1, f0, f2, f3⟩ := hfin (some .ret) A3 hF
        exact ⟨_, _, f1, .inr ⟨rfl, .ret, hXp _ _ _ _ hi f0, f2, f3⟩⟩
      | exit id =>
        obtain ⟨hF, hi⟩ := hp3
        obtain ⟨f1, f0, f2, f3⟩ := hfin (some (.exit id)) A3 hF
        exact ⟨_, _, f1, .inr ⟨rfl, .exit id, hXp _ _ _ _ hi f0, f2, f3⟩⟩
      | goto t =>
        obtain ⟨hF, hi⟩ := hp3
        obtain ⟨f1, f0, f2, f3⟩ := hfin (some (.goto t)) A3 hF
        exact ⟨_, _, f1, .inr ⟨rfl, .goto t, hXp _ _ _ _ hi f0, f2, f3⟩⟩
      | panic ch => exact hp3.elim
      | outgrown => exact hp3.elim
    | ret => exact hp.elim
    | exit id => exact hp.elim
    | goto t => exact hp.elim
    | panic ch => exact hp.elim
    | outgrown => exact hp.elim
  · rintro e W2 ⟨⟨v, rfl⟩, (⟨xs, hS, hi, q2, q3⟩ | ⟨pre, c, hi, q2, q3⟩)⟩
    · have hlt : L < W2.heap.size := (Array.getElem?_eq_some_iff.1 q2).1
      exact ⟨none, _, run_endLoop q2 (by simp), hdone xs _ hS (hIp _ _ _ hi hlt) ((World.putObj_heap_other (by omega)).trans q3)⟩
    · have hlt : L < W2.heap.size := (Array.getElem?_eq_some_iff.1 q2).1
      exact ⟨some c, _, run_endLoop q2 (by simp), hstop c pre _ (hXp _ _ _ _ hi hlt) ((World.putObj_heap_other (by omega)).trans q3)⟩
end Go.Proofs.Ytoodmocapagapaa
namespace Go.Proofs.Ytoodmocapagapaa
open Go.RowKit Go.Shelf
set_option linter.unusedSimpArgs false
set_option linter.unusedVariables false

attribute [local go_sem] Oper.semAt_some

def encPk (x : PkE) : Array Value := #[.agg #[.int .i64 x.num, .int .i64 x.t, .int .i64 x.c, .slice x.a x.n x.ca]]

end Go.Proofs.Ytoodmocapagapaa
