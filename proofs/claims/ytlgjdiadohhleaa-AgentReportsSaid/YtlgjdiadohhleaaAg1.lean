/-
  An agent in memory, of at most one lease; what is kept of it.
-/
import Derived.OwnWalk
import Derived.IntWalk
import Derived.Deep.RegionHeld3
import Derived.OrdersHeld
import Derived.WalkMore
import Derived.WalkSpells
import Derived.Laws.OwnMore
import Derived.Outline
import Derived.Deep.QuietTactic
import Derived.BigQuiet
import Derived.BigRegion
import Derived.RegionTactic
import Derived.Lib.Small
import Derived.Lib.Hide
import Derived.Deep.DeepCutAuto
import Derived.Test.YtlgjdiadohhleaaProg
import Derived.Test.YtlgjdiadohhleaaLib2
import Derived.Test.YtlgjdiadohhleaaDt
import Derived.Test.YtlgjdiadohhleaaBl
namespace Go.Proofs.Ytlgjdiadohhleaa
open Go.RowKit
set_option linter.unusedSimpArgs false
set_option linter.unusedVariables false

structure Lz where
  id : Int
  te : Int
  le : Int
  un : Int
  sp : Int
  re : Int
def Lz.cells (x : Lz) : List Value := [.int .i64 x.id, .int .i64 x.te, .int .i64 x.le, .int .i64 x.un, .int .i64 x.sp, .int .i64 x.re]

structure OneL (W : World) (b c : Nat) (x : Lz) : Prop where
  blk : ∃ cur, W.heap[b]? = some (.cells cur 111 (0, 0)) ∧ cur.size = c * 6 ∧ ∀ j, j < 6 → cur[j]? = x.cells[j]?
  pos : 1 ≤ c
  max : c ≤ maxLen
theorem OneL.lt {W : World} {b c : Nat} {x : Lz} (h : OneL W b c x) : b < W.heap.size := by
  obtain ⟨cur, h1, _⟩ := h.blk
  exact (Array.getElem?_eq_some_iff.1 h1).1
theorem OneL.cell {W : World} {b c : Nat} {x : Lz} (h : OneL W b c x) (j : Nat) (hj : j < 6) : W.cell? ⟨b, j, none⟩ = x.cells[j]? := by
  obtain ⟨cur, h1, _, h3⟩ := h.blk
  exact (cell_at h1 j).trans (h3 j hj)
theorem OneL.free {W : World} {b c : Nat} {x : Lz} (h : OneL W b c x) (j : Nat) : W.frozen? ⟨b, j, none⟩ = false := by
  obtain ⟨cur, h1, _⟩ := h.blk
  exact free_at h1 j
theorem OneL.congr {W W' : World} {b c : Nat} {x : Lz} (h : OneL W b c x) (hb : W'.heap[b]? = W.heap[b]?) : OneL W' b c x := by
  obtain ⟨cur, h1, h2, h3⟩ := h.blk
  exact ⟨⟨cur, hb.trans h1, h2, h3⟩, h.pos, h.max⟩
theorem OneL.set {W : World} {b c : Nat} {x y : Lz} (h : OneL W b c x) (i : Nat) (u : Value) (hy : ∀ j, j < 6 → y.cells[j]? = if j = i then some u else x.cells[j]?) (hi : i < 6) : OneL (W.setCell ⟨b, i, none⟩ u) b c y := by
  obtain ⟨cur, h1, h2, h3⟩ := h.blk
  have hc := h.pos
  refine ⟨⟨_, heap_setCell_same h1 i u, by simpa using h2, fun j hj => ?_⟩, h.pos, h.max⟩
  rw [hy j hj, Array.getElem?_setIfInBounds]
  by_cases e : i = j
  · subst e
    rw [if_pos rfl, if_pos rfl, if_pos (by omega)]
  · rw [if_neg e, if_neg (fun e' => e e'.symm)]
    exact h3 j hj

inductive Hd where
  | gone (a : Option Addr) (c : Nat)
  | one (b c : Nat) (x : Lz)
def Hd.val : Hd → Value
  | .gone a c => .slice a 0 c
  | .one b c _ => .slice (some ⟨b, 0, none⟩) 1 c
def Hd.bl : Hd → List Nat
  | .gone _ _ => []
  | .one b _ _ => [b]
def Hd.at_ (H : Hd) (W : World) (g : Nat) : Prop := match H with
  | .gone _ c => c ≤ maxLen
  | .one b c x => OneL W b c x ∧ b ≠ g
def Hd.keep (H : Hd) (d : Lz → Bool) : Hd := match H with
  | .gone a c => .gone a c
  | .one b c x => if d x then .one b c x else .gone (some ⟨b, 0, none⟩) c
theorem Hd.at_.congr {H : Hd} {W W' : World} {g : Nat} (h : H.at_ W g) (hb : ∀ b, b ∈ H.bl → W'.heap[b]? = W.heap[b]?) : H.at_ W' g := by
  cases H with
  | gone a c => exact h
  | one b c x => exact ⟨h.1.congr (hb b (by simp [Hd.bl])), h.2⟩
theorem Hd.at_.below {H : Hd} {W W' : World} {g : Nat} (h : H.at_ W g) (hB : Below W.heap.size W W') : H.at_ W' g := by
  cases H with
  | gone a c => exact h
  | one b c x => exact ⟨h.1.congr (hB.block b h.1.lt), h.2⟩

structure Ag where
  sh : Int
  ep : Int
  la : Int
  now : Int
  nu : Int
  un : Bool
  ae : Int
  an : Int
  at_ : Int
  sz : Int
  st : Int
def Ag.cells (s : Ag) (v : Value) : Array Value := #[.int .i64 s.sh, .int .i64 s.ep, .int .i64 s.la, .int .i64 s.now, .int .i64 s.nu, .bool s.un, .int .i64 s.ae, .int .i64 s.an, .int .i64 s.at_, .int .i64 s.sz, .int .i64 s.st, v]
structure AgAt (W : World) (g : Nat) (s : Ag) (H : Hd) : Prop where
  blk : Blk W g (s.cells H.val) 107
  held : H.at_ W g
theorem AgAt.below {W W' : World} {g : Nat} {s : Ag} {H : Hd} (h : AgAt W g s H) (hB : Below W.heap.size W W') : AgAt W' g s H := ⟨h.blk.step hB, h.held.below hB⟩

set_option maxRecDepth 100000 in
set_option maxHeartbeats 2000000 in
theorem belowA {B : Nat} {w w' : World} (h : Below B w w') (n : Nat) : Below B w (w'.drewN n) := ⟨h.os, h.tape, h.output, h.size, h.block⟩

set_option maxRecDepth 100000 in
set_option maxHeartbeats 2000000 in
theorem drop1_any (x : Lz) (p g : Nat) (s : Ag) (v : Value) (w : World) (hp : Blk w p #[.pointer (some ⟨g, 0, none⟩)] 27) (hg : Blk w g (s.cells v) 107) :
    Calls Try.prog 88 #[.agg #[.int .i64 x.id, .int .i64 x.te, .int .i64 x.le, .int .i64 x.un, .int .i64 x.sp, .int .i64 x.re], .pointer (some ⟨p, 0, none⟩)] w fun e w' => e = .returned (.bool (decide (s.now < x.un))) ∧ Below w.heap.size w w' := by
  obtain ⟨W1, hW1⟩ : ∃ W1, W1 = w.alloc (.cells #[.int .i64 x.id, .int .i64 x.te, .int .i64 x.le, .int .i64 x.un, .int .i64 x.sp, .int .i64 x.re] 111) := ⟨_, rfl⟩
  obtain ⟨N, hN⟩ : ∃ N, N = w.heap.size := ⟨_, rfl⟩
  have hB1 : Below w.heap.size w W1 := by rw [hW1]; exact (Below.refl _ _).alloc (Nat.le_refl _) _
  have hb1 : Blk W1 N #[.int .i64 x.id, .int .i64 x.te, .int .i64 x.le, .int .i64 x.un, .int .i64 x.sp, .int .i64 x.re] 111 := by rw [hW1, hN]; exact blk_new _ _ _
  have c0 : W1.cell? ⟨N, 3, none⟩ = some (.int .i64 x.un) := cell_at hb1 3
  have c1 : W1.cell? ⟨p, 0, none⟩ = some (.pointer (some ⟨g, 0, none⟩)) := cell_at (hp.step hB1) 0
  have c2 : W1.cell? ⟨g, 3, none⟩ = some (.int .i64 s.now) := cell_at (hg.step hB1) 3
  have HB1 := Lib.hid hB1
  have hl := hb1.lt
  clear hg hp hb1 hB1
  go_enter Try.func88, Try.ntmps88
  go_upto_region 1 with fail
  rw [← hN, ← hW1]
  clear hW1 hN
  go_quiet (fail)
  go_wp2
  go_ret
  exact ⟨rfl, belowA HB1.out _⟩

set_option maxRecDepth 100000 in
set_option maxHeartbeats 2000000 in
theorem reports1_any (x : Lz) (w : World) :
    Calls Try.prog 56 #[.agg #[.int .i64 x.id, .int .i64 x.te, .int .i64 x.le, .int .i64 x.un, .int .i64 x.sp, .int .i64 x.re]] w fun e w' => e = .returned (.bool (decide (0 < x.le))) ∧ Below w.heap.size w w' := by
  go_enter Try.func56, Try.ntmps56
  go_wp2_with fail
  go_ret
  exact ⟨rfl, (Below.refl _ _).alloc (Nat.le_refl _) _⟩

set_option maxRecDepth 100000 in
set_option maxHeartbeats 2000000 in
theorem close1_any (x : Lz) (p : Nat) (te : Int) (w : World) (hp : Blk w p #[.int .i64 te] 3) :
    Calls Try.prog 57 #[.agg #[.int .i64 x.id, .int .i64 x.te, .int .i64 x.le, .int .i64 x.un, .int .i64 x.sp, .int .i64 x.re], .pointer (some ⟨p, 0, none⟩)] w fun e w' => e = .returned (.bool (!(x.te == te))) ∧ Below w.heap.size w w' := by
  have c1 : ∀ o, (w.alloc o).cell? ⟨p, 0, none⟩ = some (.int .i64 te) := fun o => cell_at (hp.alloc o) 0
  go_enter Try.func57, Try.ntmps57
  go_wp2_with fail
  go_ret
  exact ⟨rfl, (Below.refl _ _).alloc (Nat.le_refl _) _⟩

def EntK (k : FuncId) : Prop := ∀ (args : Array Value) (w : World), (callFunc k args).run Try.prog w = .ok (.enter k args) w
theorem ent_drop1 : EntK 88 := fun _ _ => by kernel_rfl
theorem ent_reports1 : EntK 56 := fun _ _ => by kernel_rfl
theorem ent_close1 : EntK 57 := fun _ _ => by kernel_rfl
theorem ent_keep1 : EntK 94 := fun _ _ => by kernel_rfl
/-- a closure of leases, what it answers -/
def StayC (k : FuncId) (cs : Array Value) (d : Lz → Bool) (w : World) : Prop := ∀ (x : Lz) (W : World), Below w.heap.size w W → Calls Try.prog k (#[.agg #[.int .i64 x.id, .int .i64 x.te, .int .i64 x.le, .int .i64 x.un, .int .i64 x.sp, .int .i64 x.re]] ++ cs) W fun e w' => e = .returned (.bool (d x)) ∧ Below W.heap.size W w'
theorem StayC.below {k : FuncId} {cs : Array Value} {d : Lz → Bool} {w W : World} (h : StayC k cs d w) (hB : Below w.heap.size w W) : StayC k cs d W := fun x Y hY => h x Y (hB.trans (hY.mono hB.size))

set_option maxRecDepth 100000 in
set_option maxHeartbeats 2000000 in
theorem keep1_any (k : FuncId) (cs : Array Value) (d : Lz → Bool) (x : Lz) (q : Nat) (w : World) (hq : Blk w q #[.func (.func k) #[] cs] 112) (hk : EntK k) (CS : StayC k cs d w) :
    Calls Try.prog 94 #[.agg #[.int .i64 x.id, .int .i64 x.te, .int .i64 x.le, .int .i64 x.un, .int .i64 x.sp, .int .i64 x.re], .pointer (some ⟨q, 0, none⟩)] w fun e w' => e = .returned (.bool (!(d x))) ∧ Below w.heap.size w w' := by
  have c1 : ∀ o, (w.alloc o).cell? ⟨q, 0, none⟩ = some (.func (.func k) #[] cs) := fun o => cell_at (hq.alloc o) 0
  have HCS := Lib.hid CS
  have HB := Lib.hid (fun o => ((Below.refl w.heap.size w).alloc (Nat.le_refl _) o))
  have hent : ∀ (args : Array Value) (w : World), (callFunc k args).run Try.prog w = .ok (.enter k args) w := hk
  clear CS hq hk
  go_enter Try.func94, Try.ntmps94
  go_wp2_with (refine Calls.mono (HCS.out x _ (HB.out _)) ?_; rintro e w' ⟨rfl, hB⟩)
  have hB2 := (HB.out _).trans (hB.mono (by simp))
  go_ret
  exact ⟨rfl, hB2⟩

/-- at most one lease: where the first one is that is to go -/
def Hd.find (H : Hd) (d : Lz → Bool) : Int := match H with
  | .gone _ _ => -1
  | .one _ _ x => if d x then -1 else 0

set_option maxRecDepth 100000 in
set_option maxHeartbeats 4000000 in
theorem indexF_any (k : FuncId) (cs : Array Value) (d : Lz → Bool) (q g : Nat) (H : Hd) (w : World) (hH : H.at_ w g) (hq : Blk w q #[.func (.func k) #[] cs] 112) (hk : EntK k) (CS : StayC k cs d w) :
    Calls Try.prog 89 #[H.val, .func (.func 94) #[] #[.pointer (some ⟨q, 0, none⟩)]] w fun e w' => e = .returned (.int .i64 (H.find d)) ∧ Below w.heap.size w w' := by
  cases H with
  | gone a c =>
    have hm : c ≤ maxLen := hH
    unfold maxLen at hm
    simp only [Hd.val, Hd.find]
    clear hH hq hk CS
    go_enter Try.func89, Try.ntmps89
    go_wp2_with fail
    refine wp_loop_rounds 1 ?_
    rw [rounds_succ]
    go_wp2_with fail
    go_ret
    exact ⟨rfl, Below.refl _ _⟩
  | one b c x =>
    obtain ⟨h1, h2⟩ := hH
    have c0 : w.cell? ⟨b, 0, none⟩ = some (.int .i64 x.id) := h1.cell 0 (by omega)
    have c1 : w.cell? ⟨b, 1, none⟩ = some (.int .i64 x.te) := h1.cell 1 (by omega)
    have c2 : w.cell? ⟨b, 2, none⟩ = some (.int .i64 x.le) := h1.cell 2 (by omega)
    have c3 : w.cell? ⟨b, 3, none⟩ = some (.int .i64 x.un) := h1.cell 3 (by omega)
    have c4 : w.cell? ⟨b, 4, none⟩ = some (.int .i64 x.sp) := h1.cell 4 (by omega)
    have c5 : w.cell? ⟨b, 5, none⟩ = some (.int .i64 x.re) := h1.cell 5 (by omega)
    have hm := h1.max
    unfold maxLen at hm
    have KP := Lib.hid (keep1_any k cs d x q w hq hk CS)
    obtain ⟨D, hD⟩ : ∃ D, D = d x := ⟨_, rfl⟩
    simp only [Hd.val, Hd.find]
    rw [← hD] at KP ⊢
    clear h1 h2 hq hk CS hD
    go_enter Try.func89, Try.ntmps89
    go_wp2_with fail
    refine wp_loop_rounds 2 ?_
    rw [rounds_succ]
    go_wp2_with fail
    go_at_call 94
    refine Calls.mono KP.out ?_
    rintro e w' ⟨rfl, hB⟩
    have HB := Lib.hid hB
    clear hB KP
    cases D
    · go_wp2_with fail
      go_ret
      exact ⟨rfl, HB.out⟩
    · go_wp2_with fail
      rw [rounds_succ]
      go_wp2_with fail
      go_ret
      exact ⟨rfl, HB.out⟩
end Go.Proofs.Ytlgjdiadohhleaa
