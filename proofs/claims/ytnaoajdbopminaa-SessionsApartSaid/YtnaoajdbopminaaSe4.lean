/-
  Ask, on both sides.
-/
import Derived.Test.YtnaoajdbopminaaSe3
import Derived.Deep.DeepCutAuto
import Derived.WalkMore
import Derived.Laws.OwnMore
namespace Go.Proofs.Ytnaoajdbopminaa
open Go.RowKit
set_option linter.unusedSimpArgs false
set_option linter.unusedVariables false

/-- what is answered: whose answer, is it new, the error -/
def askX (S : Nat → SeE) (n : Nat) (c num : Int) : SeE × Bool × Int :=
  if mayB S n c num then (if num < (ofE S c n).number then (zeroE, false, 150) else if num = (ofE S c n).number then (ofE S c n, false, 0) else (zeroE, true, 0)) else (zeroE, false, 2)
def SeE.ans (x : SeE) : Value := .agg #[.int .i64 x.e, .int .i64 x.rate, .int .i64 x.burst, .int .i64 x.lease, .int .i64 x.size]
def askV (q : SeE × Bool × Int) : Value := .tuple #[q.1.ans, .bool q.2.1, .int .i64 q.2.2]

set_option maxRecDepth 100000 in
set_option maxHeartbeats 8000000 in
theorem ask_any (c num : Int) (a : Option Addr) (n cap b o : Nat) (S : Nat → SeE) (w : World) (hs : SeIn w a n cap b o S) :
    Calls Try.prog 49 #[.slice a n cap, .int .i64 c, .int .i64 num] w fun e w' => e = .returned (askV (askX S n c num)) ∧ Below w.heap.size w w' := by
  obtain ⟨N, hN⟩ : ∃ N, N = w.heap.size := ⟨_, rfl⟩
  obtain ⟨W1, hW1⟩ : ∃ W1, W1 = w.alloc (.cells #[.int .i64 0, .int .i64 0, .int .i64 0, .int .i64 0, .int .i64 0] 73) := ⟨_, rfl⟩
  have hB1 : Below w.heap.size w W1 := by rw [hW1]; exact (Below.refl _ _).alloc (Nat.le_refl _) _
  have hb1 : Blk W1 N #[.int .i64 0, .int .i64 0, .int .i64 0, .int .i64 0, .int .i64 0] 73 := by rw [hW1, hN]; exact blk_new _ _ _
  have H1 := Lib.hid (may_any c num a n cap b o S W1 (hs.below hB1))
  have H2 := Lib.hid (fun W (h : Below w.heap.size w W) => of_any c a n cap b o S W (hs.below h))
  obtain ⟨y, hy⟩ : ∃ y, y = ofE S c n := ⟨_, rfl⟩
  have hr0 : askX S n c num = if mayB S n c num then (if num < y.number then (zeroE, false, 150) else if num = y.number then (y, false, 0) else (zeroE, true, 0)) else (zeroE, false, 2) := by rw [hy]; rfl
  rw [← hy] at H2
  obtain ⟨C, hC⟩ : ∃ C, C = mayB S n c num := ⟨_, rfl⟩
  rw [← hC] at H1 hr0
  obtain ⟨R, hR⟩ : ∃ R, R = askX S n c num := ⟨_, rfl⟩
  rw [← hR] at hr0 ⊢
  have HR := Lib.hid hr0
  unfold SeE.agg at H2
  have HB1 := Lib.hid hB1
  have HK1 := Lib.hid hb1
  have HN := Lib.hid hN
  clear hs hy hC hB1 hb1 hr0 hR
  go_enter Try.func49, Try.ntmps49
  go_upto_region 1 with fail
  rw [← hN, ← hW1]
  clear hN hW1
  go_wp2_with fail
  go_at_call 78
  refine Calls.mono H1.out ?_
  rintro e W2 ⟨rfl, hB2⟩
  have hb2 := HK1.out.step hB2
  have HB2 := Lib.hid (HB1.out.trans (hB2.mono HB1.out.size))
  have HK2 := Lib.hid hb2
  have z0 := free_at hb2 0
  have z1 := free_at hb2 1
  have z2 := free_at hb2 2
  have z3 := free_at hb2 3
  have z4 := free_at hb2 4
  have c0 : W2.cell? ⟨N, 0, none⟩ = some (.int .i64 0) := cell_at hb2 0
  have c1 : W2.cell? ⟨N, 1, none⟩ = some (.int .i64 0) := cell_at hb2 1
  have c2 : W2.cell? ⟨N, 2, none⟩ = some (.int .i64 0) := cell_at hb2 2
  have c3 : W2.cell? ⟨N, 3, none⟩ = some (.int .i64 0) := cell_at hb2 3
  have c4 : W2.cell? ⟨N, 4, none⟩ = some (.int .i64 0) := cell_at hb2 4
  have hl := hb2.lt
  clear hB2 hb2 HB1 HK1 H1
  cases C
  · have hr : R = (zeroE, false, 2) := HR.out
    have HRR := Lib.hid hr
    clear hr
    go_wp2_with fail
    have hr := HRR.out
    (obtain ⟨WF, hWF⟩ : ∃ WF, WF = (((((W2.setCell ⟨N, 0, none⟩ (.int .i64 0)).setCell ⟨N, 1, none⟩ (.int .i64 0)).setCell ⟨N, 2, none⟩ (.int .i64 0)).setCell ⟨N, 3, none⟩ (.int .i64 0)).setCell ⟨N, 4, none⟩ (.int .i64 0)) := ⟨_, rfl⟩; have hNN : w.heap.size ≤ N := (by rw [HN.out]; exact Nat.le_refl _); have k1 : Blk WF N #[.int .i64 0, .int .i64 0, .int .i64 0, .int .i64 0, .int .i64 0] 73 := (by rw [hWF]; exact ((((((HK2).out.set 0 (.int .i64 0)).set 1 (.int .i64 0)).set 2 (.int .i64 0)).set 3 (.int .i64 0)).set 4 (.int .i64 0))); have kB : Below w.heap.size w WF := (by rw [hWF]; exact ((((((HB2).out.setCell (p := ⟨N, 0, none⟩) hNN _).setCell (p := ⟨N, 1, none⟩) hNN _).setCell (p := ⟨N, 2, none⟩) hNN _).setCell (p := ⟨N, 3, none⟩) hNN _).setCell (p := ⟨N, 4, none⟩) hNN _)); rw [← hWF]; have r0 : WF.cell? ⟨N, 0, none⟩ = some (.int .i64 0) := cell_at k1 0; have r1 : WF.cell? ⟨N, 1, none⟩ = some (.int .i64 0) := cell_at k1 1; have r2 : WF.cell? ⟨N, 2, none⟩ = some (.int .i64 0) := cell_at k1 2; have r3 : WF.cell? ⟨N, 3, none⟩ = some (.int .i64 0) := cell_at k1 3; have r4 : WF.cell? ⟨N, 4, none⟩ = some (.int .i64 0) := cell_at k1 4; exact bodyPost_ret (v := .tuple #[.agg #[.int .i64 0, .int .i64 0, .int .i64 0, .int .i64 0, .int .i64 0], .bool false, .int .i64 2]) (by simp [results, Try.results49, go_sem, r0, r1, r2, r3, r4]) rfl ⟨(by rw [hr]; rfl), kB⟩)
  · obtain ⟨W3, hW3⟩ : ∃ W3, W3 = W2 := ⟨_, rfl⟩
    clear z0 z1 z2 z3 z4 c0 c1 c2 c3 c4 hl hW3 W3
    go_wp2_with fail
    go_at_call 79
    refine Calls.mono (H2.out _ HB2.out) ?_
    rintro e W3 ⟨rfl, hB3⟩
    obtain ⟨W4, hW4⟩ : ∃ W4, W4 = W3.alloc (.cells #[.int .i64 y.client, .int .i64 y.number, .int .i64 y.e, .int .i64 y.rate, .int .i64 y.burst, .int .i64 y.lease, .int .i64 y.size] 113) := ⟨_, rfl⟩
    obtain ⟨M, hM⟩ : ∃ M, M = W3.heap.size := ⟨_, rfl⟩
    have hB4 : Below W3.heap.size W3 W4 := by rw [hW4]; exact (Below.refl _ _).alloc (Nat.le_refl _) _
    have hy4 : Blk W4 M #[.int .i64 y.client, .int .i64 y.number, .int .i64 y.e, .int .i64 y.rate, .int .i64 y.burst, .int .i64 y.lease, .int .i64 y.size] 113 := by rw [hW4, hM]; exact blk_new _ _ _
    have hb4 := (HK2.out.step hB3).step hB4
    have hbb : Below w.heap.size w W4 := (HB2.out.trans (hB3.mono HB2.out.size)).trans (hB4.mono (by have := HB2.out.size; have := hB3.size; omega))
    have hNM : N ≠ M := by rw [hM]; have := HK2.out.lt; have := hB3.size; omega
    have HB4 := Lib.hid hbb
    have HK4 := Lib.hid hb4
    have z0 := free_at hb4 0
    have z1 := free_at hb4 1
    have z2 := free_at hb4 2
    have z3 := free_at hb4 3
    have z4 := free_at hb4 4
    have c0 : W4.cell? ⟨N, 0, none⟩ = some (.int .i64 0) := cell_at hb4 0
    have c1 : W4.cell? ⟨N, 1, none⟩ = some (.int .i64 0) := cell_at hb4 1
    have c2 : W4.cell? ⟨N, 2, none⟩ = some (.int .i64 0) := cell_at hb4 2
    have c3 : W4.cell? ⟨N, 3, none⟩ = some (.int .i64 0) := cell_at hb4 3
    have c4 : W4.cell? ⟨N, 4, none⟩ = some (.int .i64 0) := cell_at hb4 4
    have hl := hb4.lt
    have y1 : W4.cell? ⟨M, 1, none⟩ = some (.int .i64 y.number) := cell_at hy4 1
    have y2 : W4.cell? ⟨M, 2, none⟩ = some (.int .i64 y.e) := cell_at hy4 2
    have y3 : W4.cell? ⟨M, 3, none⟩ = some (.int .i64 y.rate) := cell_at hy4 3
    have y4 : W4.cell? ⟨M, 4, none⟩ = some (.int .i64 y.burst) := cell_at hy4 4
    have y5 : W4.cell? ⟨M, 5, none⟩ = some (.int .i64 y.lease) := cell_at hy4 5
    have y6 : W4.cell? ⟨M, 6, none⟩ = some (.int .i64 y.size) := cell_at hy4 6
    have hl4 := hy4.lt
    clear hB3 hB4 hy4 hb4 hbb
    go_upto_region 4 with fail
    rw [← hW4, ← hM]
    clear hW4 hM
    by_cases h1 : num < y.number
    · go_wp2_with fail
      have hr : R = (zeroE, false, 150) := by rw [HR.out]; simp [h1]
      (obtain ⟨WF, hWF⟩ : ∃ WF, WF = (((((W4.setCell ⟨N, 0, none⟩ (.int .i64 0)).setCell ⟨N, 1, none⟩ (.int .i64 0)).setCell ⟨N, 2, none⟩ (.int .i64 0)).setCell ⟨N, 3, none⟩ (.int .i64 0)).setCell ⟨N, 4, none⟩ (.int .i64 0)) := ⟨_, rfl⟩; have hNN : w.heap.size ≤ N := (by rw [HN.out]; exact Nat.le_refl _); have k1 : Blk WF N #[.int .i64 0, .int .i64 0, .int .i64 0, .int .i64 0, .int .i64 0] 73 := (by rw [hWF]; exact ((((((HK4).out.set 0 (.int .i64 0)).set 1 (.int .i64 0)).set 2 (.int .i64 0)).set 3 (.int .i64 0)).set 4 (.int .i64 0))); have kB : Below w.heap.size w WF := (by rw [hWF]; exact ((((((HB4).out.setCell (p := ⟨N, 0, none⟩) hNN _).setCell (p := ⟨N, 1, none⟩) hNN _).setCell (p := ⟨N, 2, none⟩) hNN _).setCell (p := ⟨N, 3, none⟩) hNN _).setCell (p := ⟨N, 4, none⟩) hNN _)); rw [← hWF]; have r0 : WF.cell? ⟨N, 0, none⟩ = some (.int .i64 0) := cell_at k1 0; have r1 : WF.cell? ⟨N, 1, none⟩ = some (.int .i64 0) := cell_at k1 1; have r2 : WF.cell? ⟨N, 2, none⟩ = some (.int .i64 0) := cell_at k1 2; have r3 : WF.cell? ⟨N, 3, none⟩ = some (.int .i64 0) := cell_at k1 3; have r4 : WF.cell? ⟨N, 4, none⟩ = some (.int .i64 0) := cell_at k1 4; exact bodyPost_ret (v := .tuple #[.agg #[.int .i64 0, .int .i64 0, .int .i64 0, .int .i64 0, .int .i64 0], .bool false, .int .i64 150]) (by simp [results, Try.results49, go_sem, r0, r1, r2, r3, r4]) rfl ⟨(by rw [hr]; rfl), kB⟩)
    · cases h2 : num == y.number
      · go_wp2_with fail
        have h3 : ¬ num = y.number := by simpa using h2
        have hr : R = (zeroE, true, 0) := by rw [HR.out]; simp [h1, h3]
        (obtain ⟨WF, hWF⟩ : ∃ WF, WF = (((((W4.setCell ⟨N, 0, none⟩ (.int .i64 0)).setCell ⟨N, 1, none⟩ (.int .i64 0)).setCell ⟨N, 2, none⟩ (.int .i64 0)).setCell ⟨N, 3, none⟩ (.int .i64 0)).setCell ⟨N, 4, none⟩ (.int .i64 0)) := ⟨_, rfl⟩; have hNN : w.heap.size ≤ N := (by rw [HN.out]; exact Nat.le_refl _); have k1 : Blk WF N #[.int .i64 0, .int .i64 0, .int .i64 0, .int .i64 0, .int .i64 0] 73 := (by rw [hWF]; exact ((((((HK4).out.set 0 (.int .i64 0)).set 1 (.int .i64 0)).set 2 (.int .i64 0)).set 3 (.int .i64 0)).set 4 (.int .i64 0))); have kB : Below w.heap.size w WF := (by rw [hWF]; exact ((((((HB4).out.setCell (p := ⟨N, 0, none⟩) hNN _).setCell (p := ⟨N, 1, none⟩) hNN _).setCell (p := ⟨N, 2, none⟩) hNN _).setCell (p := ⟨N, 3, none⟩) hNN _).setCell (p := ⟨N, 4, none⟩) hNN _)); rw [← hWF]; have r0 : WF.cell? ⟨N, 0, none⟩ = some (.int .i64 0) := cell_at k1 0; have r1 : WF.cell? ⟨N, 1, none⟩ = some (.int .i64 0) := cell_at k1 1; have r2 : WF.cell? ⟨N, 2, none⟩ = some (.int .i64 0) := cell_at k1 2; have r3 : WF.cell? ⟨N, 3, none⟩ = some (.int .i64 0) := cell_at k1 3; have r4 : WF.cell? ⟨N, 4, none⟩ = some (.int .i64 0) := cell_at k1 4; exact bodyPost_ret (v := .tuple #[.agg #[.int .i64 0, .int .i64 0, .int .i64 0, .int .i64 0, .int .i64 0], .bool true, .int .i64 0]) (by simp [results, Try.results49, go_sem, r0, r1, r2, r3, r4]) rfl ⟨(by rw [hr]; rfl), kB⟩)
      · go_wp2_with fail
        have h3 : num = y.number := by simpa using h2
        have hr : R = (y, false, 0) := by rw [HR.out]; simp [h3]
        (obtain ⟨WF, hWF⟩ : ∃ WF, WF = (((((W4.setCell ⟨N, 0, none⟩ (.int .i64 y.e)).setCell ⟨N, 1, none⟩ (.int .i64 y.rate)).setCell ⟨N, 2, none⟩ (.int .i64 y.burst)).setCell ⟨N, 3, none⟩ (.int .i64 y.lease)).setCell ⟨N, 4, none⟩ (.int .i64 y.size)) := ⟨_, rfl⟩; have hNN : w.heap.size ≤ N := (by rw [HN.out]; exact Nat.le_refl _); have k1 : Blk WF N #[.int .i64 y.e, .int .i64 y.rate, .int .i64 y.burst, .int .i64 y.lease, .int .i64 y.size] 73 := (by rw [hWF]; exact ((((((HK4).out.set 0 (.int .i64 y.e)).set 1 (.int .i64 y.rate)).set 2 (.int .i64 y.burst)).set 3 (.int .i64 y.lease)).set 4 (.int .i64 y.size))); have kB : Below w.heap.size w WF := (by rw [hWF]; exact ((((((HB4).out.setCell (p := ⟨N, 0, none⟩) hNN _).setCell (p := ⟨N, 1, none⟩) hNN _).setCell (p := ⟨N, 2, none⟩) hNN _).setCell (p := ⟨N, 3, none⟩) hNN _).setCell (p := ⟨N, 4, none⟩) hNN _)); rw [← hWF]; have r0 : WF.cell? ⟨N, 0, none⟩ = some (.int .i64 y.e) := cell_at k1 0; have r1 : WF.cell? ⟨N, 1, none⟩ = some (.int .i64 y.rate) := cell_at k1 1; have r2 : WF.cell? ⟨N, 2, none⟩ = some (.int .i64 y.burst) := cell_at k1 2; have r3 : WF.cell? ⟨N, 3, none⟩ = some (.int .i64 y.lease) := cell_at k1 3; have r4 : WF.cell? ⟨N, 4, none⟩ = some (.int .i64 y.size) := cell_at k1 4; exact bodyPost_ret (v := .tuple #[.agg #[.int .i64 y.e, .int .i64 y.rate, .int .i64 y.burst, .int .i64 y.lease, .int .i64 y.size], .bool false, .int .i64 0]) (by simp [results, Try.results49, go_sem, r0, r1, r2, r3, r4]) rfl ⟨(by rw [hr]; rfl), kB⟩)
set_option maxRecDepth 100000 in
set_option maxHeartbeats 8000000 in
theorem rask_any (c num : Int) (a : Option Addr) (n cap b o : Nat) (S : Nat → SeE) (w : World) (hs : SeIn w a n cap b o S) :
    Calls Try.prog 50 #[.slice a n cap, .int .i64 c, .int .i64 num] w fun e w' => e = .returned (askV (askX S n c num)) ∧ Below w.heap.size w w' := by
  have m1 := hs.le
  have m2 := hs.max
  unfold maxLen at m2
  obtain ⟨N, hN⟩ : ∃ N, N = w.heap.size := ⟨_, rfl⟩
  obtain ⟨W1, hW1⟩ : ∃ W1, W1 = w.alloc (.cells #[.int .i64 0, .int .i64 0, .int .i64 0, .int .i64 0, .int .i64 0] 73) := ⟨_, rfl⟩
  have hB1 : Below w.heap.size w W1 := by rw [hW1]; exact (Below.refl _ _).alloc (Nat.le_refl _) _
  have hb1 : Blk W1 N #[.int .i64 0, .int .i64 0, .int .i64 0, .int .i64 0, .int .i64 0] 73 := by rw [hW1, hN]; exact blk_new _ _ _
  have H1 := Lib.hid (rmay_any c num a n cap b o S W1 (hs.below hB1))
  have H2 := Lib.hid (fun W (h : Below w.heap.size w W) => rlast_any c a n cap b o S W (hs.below h))
  have H3 := Lib.hid (fun W (h : Below w.heap.size w W) => rfind_any c a n cap b o S W (hs.below h))
  have HS := Lib.hid hs
  obtain ⟨y, hy⟩ : ∃ y, y = ofE S c n := ⟨_, rfl⟩
  have hr0 : askX S n c num = if mayB S n c num then (if num < y.number then (zeroE, false, 150) else if num = y.number then (y, false, 0) else (zeroE, true, 0)) else (zeroE, false, 2) := by rw [hy]; rfl
  obtain ⟨C, hC⟩ : ∃ C, C = mayB S n c num := ⟨_, rfl⟩
  rw [← hC] at H1 hr0
  obtain ⟨R, hR⟩ : ∃ R, R = askX S n c num := ⟨_, rfl⟩
  rw [← hR] at hr0 ⊢
  have HR := Lib.hid hr0
  have HC := Lib.hid hC
  have HY := Lib.hid hy
  have HB1 := Lib.hid hB1
  have HK1 := Lib.hid hb1
  have HN := Lib.hid hN
  clear hs hy hC hB1 hb1 hr0 hR
  go_enter Try.func50, Try.ntmps50
  go_upto_region 1 with fail
  rw [← hN, ← hW1]
  clear hN hW1
  go_wp2_with fail
  go_at_call 80
  refine Calls.mono H1.out ?_
  rintro e W2 ⟨rfl, hB2⟩
  have hb2 := HK1.out.step hB2
  have HB2 := Lib.hid (HB1.out.trans (hB2.mono HB1.out.size))
  have HK2 := Lib.hid hb2
  have z0 := free_at hb2 0
  have z1 := free_at hb2 1
  have z2 := free_at hb2 2
  have z3 := free_at hb2 3
  have z4 := free_at hb2 4
  have c0 : W2.cell? ⟨N, 0, none⟩ = some (.int .i64 0) := cell_at hb2 0
  have c1 : W2.cell? ⟨N, 1, none⟩ = some (.int .i64 0) := cell_at hb2 1
  have c2 : W2.cell? ⟨N, 2, none⟩ = some (.int .i64 0) := cell_at hb2 2
  have c3 : W2.cell? ⟨N, 3, none⟩ = some (.int .i64 0) := cell_at hb2 3
  have c4 : W2.cell? ⟨N, 4, none⟩ = some (.int .i64 0) := cell_at hb2 4
  have hl := hb2.lt
  clear hB2 hb2 HB1 HK1 H1
  cases C
  · have hr : R = (zeroE, false, 2) := HR.out
    have HRR := Lib.hid hr
    clear hr
    go_wp2_with fail
    have hr := HRR.out
    (obtain ⟨WF, hWF⟩ : ∃ WF, WF = (((((W2.setCell ⟨N, 0, none⟩ (.int .i64 0)).setCell ⟨N, 1, none⟩ (.int .i64 0)).setCell ⟨N, 2, none⟩ (.int .i64 0)).setCell ⟨N, 3, none⟩ (.int .i64 0)).setCell ⟨N, 4, none⟩ (.int .i64 0)) := ⟨_, rfl⟩; have hNN : w.heap.size ≤ N := (by rw [HN.out]; exact Nat.le_refl _); have k1 : Blk WF N #[.int .i64 0, .int .i64 0, .int .i64 0, .int .i64 0, .int .i64 0] 73 := (by rw [hWF]; exact ((((((HK2).out.set 0 (.int .i64 0)).set 1 (.int .i64 0)).set 2 (.int .i64 0)).set 3 (.int .i64 0)).set 4 (.int .i64 0))); have kB : Below w.heap.size w WF := (by rw [hWF]; exact ((((((HB2).out.setCell (p := ⟨N, 0, none⟩) hNN _).setCell (p := ⟨N, 1, none⟩) hNN _).setCell (p := ⟨N, 2, none⟩) hNN _).setCell (p := ⟨N, 3, none⟩) hNN _).setCell (p := ⟨N, 4, none⟩) hNN _)); rw [← hWF]; have r0 : WF.cell? ⟨N, 0, none⟩ = some (.int .i64 0) := cell_at k1 0; have r1 : WF.cell? ⟨N, 1, none⟩ = some (.int .i64 0) := cell_at k1 1; have r2 : WF.cell? ⟨N, 2, none⟩ = some (.int .i64 0) := cell_at k1 2; have r3 : WF.cell? ⟨N, 3, none⟩ = some (.int .i64 0) := cell_at k1 3; have r4 : WF.cell? ⟨N, 4, none⟩ = some (.int .i64 0) := cell_at k1 4; exact bodyPost_ret (v := .tuple #[.agg #[.int .i64 0, .int .i64 0, .int .i64 0, .int .i64 0, .int .i64 0], .bool false, .int .i64 2]) (by simp [results, Try.results50, go_sem, r0, r1, r2, r3, r4]) rfl ⟨(by rw [hr]; rfl), kB⟩)
  · clear z0 z1 z2 z3 z4 c0 c1 c2 c3 c4 hl
    have hmay := HC.out.symm
    unfold mayB at hmay
    simp only [Bool.and_eq_true, decide_eq_true_eq] at hmay
    obtain ⟨hck, _, _, hn1⟩ := hmay
    have hlast : lastN S c n = y.number := by unfold lastN; rw [hck, HY.out]; rfl
    rw [hlast] at H2
    have HCK := Lib.hid hck
    clear hck hlast
    go_wp2_with fail
    go_at_call 54
    refine Calls.mono (H2.out _ HB2.out) ?_
    rintro e W4 ⟨rfl, hB3⟩
    have hb4 := HK2.out.step hB3
    have hbb : Below w.heap.size w W4 := HB2.out.trans (hB3.mono HB2.out.size)
    have HB4 := Lib.hid hbb
    have HK4 := Lib.hid hb4
    have z0 := free_at hb4 0
    have z1 := free_at hb4 1
    have z2 := free_at hb4 2
    have z3 := free_at hb4 3
    have z4 := free_at hb4 4
    have c0 : W4.cell? ⟨N, 0, none⟩ = some (.int .i64 0) := cell_at hb4 0
    have c1 : W4.cell? ⟨N, 1, none⟩ = some (.int .i64 0) := cell_at hb4 1
    have c2 : W4.cell? ⟨N, 2, none⟩ = some (.int .i64 0) := cell_at hb4 2
    have c3 : W4.cell? ⟨N, 3, none⟩ = some (.int .i64 0) := cell_at hb4 3
    have c4 : W4.cell? ⟨N, 4, none⟩ = some (.int .i64 0) := cell_at hb4 4
    have hl := hb4.lt
    clear hB3 hb4 hbb
    by_cases h1 : num < y.number
    · go_wp2_with fail
      have hr : R = (zeroE, false, 150) := by rw [HR.out]; simp [h1]
      (obtain ⟨WF, hWF⟩ : ∃ WF, WF = (((((W4.setCell ⟨N, 0, none⟩ (.int .i64 0)).setCell ⟨N, 1, none⟩ (.int .i64 0)).setCell ⟨N, 2, none⟩ (.int .i64 0)).setCell ⟨N, 3, none⟩ (.int .i64 0)).setCell ⟨N, 4, none⟩ (.int .i64 0)) := ⟨_, rfl⟩; have hNN : w.heap.size ≤ N := (by rw [HN.out]; exact Nat.le_refl _); have k1 : Blk WF N #[.int .i64 0, .int .i64 0, .int .i64 0, .int .i64 0, .int .i64 0] 73 := (by rw [hWF]; exact ((((((HK4).out.set 0 (.int .i64 0)).set 1 (.int .i64 0)).set 2 (.int .i64 0)).set 3 (.int .i64 0)).set 4 (.int .i64 0))); have kB : Below w.heap.size w WF := (by rw [hWF]; exact ((((((HB4).out.setCell (p := ⟨N, 0, none⟩) hNN _).setCell (p := ⟨N, 1, none⟩) hNN _).setCell (p := ⟨N, 2, none⟩) hNN _).setCell (p := ⟨N, 3, none⟩) hNN _).setCell (p := ⟨N, 4, none⟩) hNN _)); rw [← hWF]; have r0 : WF.cell? ⟨N, 0, none⟩ = some (.int .i64 0) := cell_at k1 0; have r1 : WF.cell? ⟨N, 1, none⟩ = some (.int .i64 0) := cell_at k1 1; have r2 : WF.cell? ⟨N, 2, none⟩ = some (.int .i64 0) := cell_at k1 2; have r3 : WF.cell? ⟨N, 3, none⟩ = some (.int .i64 0) := cell_at k1 3; have r4 : WF.cell? ⟨N, 4, none⟩ = some (.int .i64 0) := cell_at k1 4; exact bodyPost_ret (v := .tuple #[.agg #[.int .i64 0, .int .i64 0, .int .i64 0, .int .i64 0, .int .i64 0], .bool false, .int .i64 150]) (by simp [results, Try.results50, go_sem, r0, r1, r2, r3, r4]) rfl ⟨(by rw [hr]; rfl), kB⟩)
    · cases h2 : num == y.number
      · go_wp2_with fail
        have h3 : ¬ num = y.number := by simpa using h2
        have hr : R = (zeroE, true, 0) := by rw [HR.out]; simp [h1, h3]
        (obtain ⟨WF, hWF⟩ : ∃ WF, WF = (((((W4.setCell ⟨N, 0, none⟩ (.int .i64 0)).setCell ⟨N, 1, none⟩ (.int .i64 0)).setCell ⟨N, 2, none⟩ (.int .i64 0)).setCell ⟨N, 3, none⟩ (.int .i64 0)).setCell ⟨N, 4, none⟩ (.int .i64 0)) := ⟨_, rfl⟩; have hNN : w.heap.size ≤ N := (by rw [HN.out]; exact Nat.le_refl _); have k1 : Blk WF N #[.int .i64 0, .int .i64 0, .int .i64 0, .int .i64 0, .int .i64 0] 73 := (by rw [hWF]; exact ((((((HK4).out.set 0 (.int .i64 0)).set 1 (.int .i64 0)).set 2 (.int .i64 0)).set 3 (.int .i64 0)).set 4 (.int .i64 0))); have kB : Below w.heap.size w WF := (by rw [hWF]; exact ((((((HB4).out.setCell (p := ⟨N, 0, none⟩) hNN _).setCell (p := ⟨N, 1, none⟩) hNN _).setCell (p := ⟨N, 2, none⟩) hNN _).setCell (p := ⟨N, 3, none⟩) hNN _).setCell (p := ⟨N, 4, none⟩) hNN _)); rw [← hWF]; have r0 : WF.cell? ⟨N, 0, none⟩ = some (.int .i64 0) := cell_at k1 0; have r1 : WF.cell? ⟨N, 1, none⟩ = some (.int .i64 0) := cell_at k1 1; have r2 : WF.cell? ⟨N, 2, none⟩ = some (.int .i64 0) := cell_at k1 2; have r3 : WF.cell? ⟨N, 3, none⟩ = some (.int .i64 0) := cell_at k1 3; have r4 : WF.cell? ⟨N, 4, none⟩ = some (.int .i64 0) := cell_at k1 4; exact bodyPost_ret (v := .tuple #[.agg #[.int .i64 0, .int .i64 0, .int .i64 0, .int .i64 0, .int .i64 0], .bool true, .int .i64 0]) (by simp [results, Try.results50, go_sem, r0, r1, r2, r3, r4]) rfl ⟨(by rw [hr]; rfl), kB⟩)
      · have h3 : num = y.number := by simpa using h2
        have hfl := find_last (c := c) HCK.out
        obtain ⟨j, hj⟩ : ∃ j, findS S c n = some j := by
          cases hf : findS S c n with
          | some j => exact ⟨j, rfl⟩
          | none =>
            have : y = zeroE := by rw [HY.out]; unfold ofE; rw [← hfl, hf]; rfl
            rw [this] at h3
            have h9 : zeroE.number = 0 := rfl
            omega
        have hyj : y = S j := by rw [HY.out]; unfold ofE; rw [← hfl, hj]; rfl
        have hfi : findI S c n = (j : Int) := by unfold findI; rw [hj]
        have hjn := (findS_some hj).1
        rw [hfi] at H3
        have hsr := HS.out.below HB4.out
        obtain ⟨e0, e1⟩ := hsr.at_ (by omega)
        subst e0
        obtain ⟨_, _, q2, q3, q4, q5, q6⟩ := hsr.cell j hjn
        rw [← hyj] at q2 q3 q4 q5 q6
        have hbN : b ≠ N := by rw [HN.out]; have := (HS.out.at_ (by omega)).2; omega
        have H3' := Lib.hid (H3.out _ HB4.out)
        clear hfl hj hyj hfi hsr h3
        go_wp2_with fail
        go_at_call 81
        refine Calls.mono H3'.out ?_
        rintro e W5 ⟨rfl, rfl⟩
        go_wp2_with fail
        have h3 : num = y.number := by simpa using h2
        have hr : R = (y, false, 0) := by rw [HR.out]; simp [h3]
        (obtain ⟨WF, hWF⟩ : ∃ WF, WF = (((((W4.setCell ⟨N, 0, none⟩ (.int .i64 y.e)).setCell ⟨N, 1, none⟩ (.int .i64 y.rate)).setCell ⟨N, 2, none⟩ (.int .i64 y.burst)).setCell ⟨N, 3, none⟩ (.int .i64 y.lease)).setCell ⟨N, 4, none⟩ (.int .i64 y.size)) := ⟨_, rfl⟩; have hNN : w.heap.size ≤ N := (by rw [HN.out]; exact Nat.le_refl _); have k1 : Blk WF N #[.int .i64 y.e, .int .i64 y.rate, .int .i64 y.burst, .int .i64 y.lease, .int .i64 y.size] 73 := (by rw [hWF]; exact ((((((HK4).out.set 0 (.int .i64 y.e)).set 1 (.int .i64 y.rate)).set 2 (.int .i64 y.burst)).set 3 (.int .i64 y.lease)).set 4 (.int .i64 y.size))); have kB : Below w.heap.size w WF := (by rw [hWF]; exact ((((((HB4).out.setCell (p := ⟨N, 0, none⟩) hNN _).setCell (p := ⟨N, 1, none⟩) hNN _).setCell (p := ⟨N, 2, none⟩) hNN _).setCell (p := ⟨N, 3, none⟩) hNN _).setCell (p := ⟨N, 4, none⟩) hNN _)); rw [← hWF]; have r0 : WF.cell? ⟨N, 0, none⟩ = some (.int .i64 y.e) := cell_at k1 0; have r1 : WF.cell? ⟨N, 1, none⟩ = some (.int .i64 y.rate) := cell_at k1 1; have r2 : WF.cell? ⟨N, 2, none⟩ = some (.int .i64 y.burst) := cell_at k1 2; have r3 : WF.cell? ⟨N, 3, none⟩ = some (.int .i64 y.lease) := cell_at k1 3; have r4 : WF.cell? ⟨N, 4, none⟩ = some (.int .i64 y.size) := cell_at k1 4; exact bodyPost_ret (v := .tuple #[.agg #[.int .i64 y.e, .int .i64 y.rate, .int .i64 y.burst, .int .i64 y.lease, .int .i64 y.size], .bool false, .int .i64 0]) (by simp [results, Try.results50, go_sem, r0, r1, r2, r3, r4]) rfl ⟨(by rw [hr]; rfl), kB⟩)
end Go.Proofs.Ytnaoajdbopminaa
