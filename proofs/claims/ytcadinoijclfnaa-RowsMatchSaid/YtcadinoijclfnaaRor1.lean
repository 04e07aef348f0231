/-
  An entry told; are two the same: the document.
-/
import Derived.Test.YtcadinoijclfnaaRoe
import Derived.Test.YtcadinoijclfnaaLib2
import Derived.Deep.DeepFit
namespace Go.Proofs.Ytcadinoijclfnaa
open Go.RowKit
set_option linter.unusedSimpArgs false
set_option linter.unusedVariables false

theorem map_eqB {X Y : Nat → Nat} {n m : Nat} (h : (List.range n).map X = (List.range m).map Y) (hX : ∀ k, X k < 256) (hY : ∀ k, Y k < 256) : (bytesOf X n == bytesOf Y m) = true := by
  rw [bytesOf_eq X Y hX hY]
  have hl : n = m := by have := congrArg List.length h; simpa using this
  subst hl
  simp only [beq_self_eq_true, Bool.true_and]
  refine (eqB_iff _ _ _).2 fun k hk => ?_
  have := congrArg (fun l => l[k]?) h
  simpa [hk] using this
theorem sameData2 (x y : DE) (w : World) (hx : x.by_ w) (hy : y.by_ w) :
    Calls Try.prog 42 #[.slice x.da x.dl x.dc, .slice y.da y.dl y.dc] w fun e w' => e = .returned (.bool (bytesOf x.X x.dl == bytesOf y.X y.dl)) ∧ w = w' := by
  have s1 := ByIn.string hx
  have s2 := ByIn.string hy
  have h1 := hx.le
  have h2 := hx.max
  have h3 := str_eql
  have s3 := fun W => str_eql W (bytesOf x.X x.dl) (bytesOf y.X y.dl)
  clear hx hy h3
  go_enter Try.func42, Try.ntmps42
  go_wp2_with fail
  go_ret
  exact ⟨by first | rfl | simp, rfl⟩
theorem rv_entry {W : World} {a : Option Addr} {n c : Nat} {L : List EnD} (h : RV W (.slice a n c) L) (k : Nat) (hk : k < n) : ∃ (g o : Nat) (x : DE), a = some ⟨g, o, none⟩ ∧ g < W.heap.size ∧ L[k]? = some x.pure ∧ x.by_ W ∧ W.cell? ⟨g, o + k * 5, none⟩ = some (.int .i64 x.t) ∧ W.cell? ⟨g, o + k * 5 + 1, none⟩ = some (.int .i8 x.k) ∧ W.cell? ⟨g, o + k * 5 + 2, none⟩ = some (.int .i64 x.s) ∧ W.cell? ⟨g, o + k * 5 + 3, none⟩ = some (.int .u8 x.st) ∧ W.cell? ⟨g, o + k * 5 + 4, none⟩ = some (.slice x.da x.dl x.dc) := by
  obtain ⟨a', c', g, o, F, e, h1, h2, h3, h4⟩ := h
  injection e with e1 e2 e3
  subst e1 e2 e3
  have := h1.at_ (by omega)
  refine ⟨g, o, F k, this.1, this.2, h2 k hk, h1.ld k hk, ?_, h1.cell k hk 1 (by omega), h1.cell k hk 2 (by omega), h1.cell k hk 3 (by omega), h1.cell k hk 4 (by omega)⟩
  have := h1.cell k hk 0 (by omega)
  rw [Nat.add_zero] at this
  exact this
set_option maxRecDepth 100000 in
set_option maxHeartbeats 8000000 in
theorem sameEntry2 (x y : DE) (w : World) (hx : x.by_ w) (hy : y.by_ w) :
    Calls Try.prog 24 #[.agg #[.int .i64 x.t, .int .i8 x.k, .int .i64 x.s, .int .u8 x.st, .slice x.da x.dl x.dc], .agg #[.int .i64 y.t, .int .i8 y.k, .int .i64 y.s, .int .u8 y.st, .slice y.da y.dl y.dc]] w fun e w' => ∃ q, e = .returned (.bool q) ∧ (x.pure = y.pure → q = true) ∧ Below w.heap.size w w' := by
  have HSD := Lib.hid (fun W (h : Below w.heap.size w W) => sameData2 x y W (ByIn.below hx h) (ByIn.below hy h))
  have HEQ : Hid (x.pure = y.pure → x.t = y.t ∧ x.k = y.k ∧ x.s = y.s ∧ x.st = y.st ∧ (bytesOf x.X x.dl == bytesOf y.X y.dl) = true) := Lib.hid (fun h => by
    unfold DE.pure at h
    injection h with e1 e2 e3 e4 e5
    exact ⟨e1, e2, e3, e4, map_eqB e5 hx.bd hy.bd⟩)
  clear hx hy
  obtain ⟨xt, xk, xs, xst, xda, xdl, xdc, xb, xo, xX⟩ := x
  obtain ⟨yt, yk, ys, yst, yda, ydl, ydc, yb, yo, yX⟩ := y
  simp only at HSD HEQ ⊢
  obtain ⟨Q, hQ⟩ : ∃ Q, Q = (bytesOf xX xdl == bytesOf yX ydl) := ⟨_, rfl⟩
  rw [← hQ] at HSD HEQ
  clear hQ
  obtain ⟨px, hpx⟩ : ∃ p, p = DE.pure ⟨xt, xk, xs, xst, xda, xdl, xdc, xb, xo, xX⟩ := ⟨_, rfl⟩
  obtain ⟨py, hpy⟩ : ∃ p, p = DE.pure ⟨yt, yk, ys, yst, yda, ydl, ydc, yb, yo, yX⟩ := ⟨_, rfl⟩
  rw [← hpx, ← hpy] at HEQ ⊢
  clear hpx hpy
  have HB : Hid (Below w.heap.size w w) := Lib.hid (Below.refl _ _)
  go_enter Try.func24, Try.ntmps24
  go_upto_region 1 with fail
  obtain ⟨N, hN⟩ : ∃ n0, n0 = w.heap.size := ⟨_, rfl⟩
  have HLON : Hid (w.heap.size ≤ N) := Lib.hid (by have := HB.out.size; omega)
  obtain ⟨W1, hA0⟩ : ∃ W0, W0 = w.alloc (.cells #[.int .i64 xt, .int .i8 xk, .int .i64 xs, .int .u8 xst, .slice xda xdl xdc] 47) := ⟨_, rfl⟩
  have hB : Below w.heap.size w W1 := by rw [hA0]; exact (Below.refl _ _).alloc (Nat.le_refl _) _
  have hS0 : W1.heap.size = N + 1 := by rw [hA0]; simp [← hN]
  have HX := Lib.hid (show Blk W1 N #[.int .i64 xt, .int .i8 xk, .int .i64 xs, .int .u8 xst, .slice xda xdl xdc] 47 by rw [hA0, hN]; exact blk_new _ _ _)
  replace HB := Lib.hid (HB.out.trans (hB.mono HB.out.size))
  clear hB
  obtain ⟨W2, hA1⟩ : ∃ W0, W0 = W1.alloc (.cells #[.int .i64 yt, .int .i8 yk, .int .i64 ys, .int .u8 yst, .slice yda ydl ydc] 47) := ⟨_, rfl⟩
  have hB : Below W1.heap.size W1 W2 := by rw [hA1]; exact (Below.refl _ _).alloc (Nat.le_refl _) _
  have hS1 : W2.heap.size = N + 2 := by rw [hA1]; simp [hS0]
  have HY := Lib.hid (show Blk W2 (N + 1) #[.int .i64 yt, .int .i8 yk, .int .i64 ys, .int .u8 yst, .slice yda ydl ydc] 47 by rw [hA1, ← hS0]; exact blk_new _ _ _)
  replace HB := Lib.hid (HB.out.trans (hB.mono HB.out.size))
  replace HX := Lib.hid (HX.out.step hB)
  clear hB
  have HSN := Lib.hid hS1
  rw [← hN, ← hA0, ← hA1]
  clear hA1 hA0 hN hS0 hS1
  have qX0 : W2.cell? ⟨N, 0, none⟩ = some (.int .i64 xt) := cell_at HX.out 0
  have qX1 : W2.cell? ⟨N, 1, none⟩ = some (.int .i8 xk) := cell_at HX.out 1
  have qX2 : W2.cell? ⟨N, 2, none⟩ = some (.int .i64 xs) := cell_at HX.out 2
  have qX3 : W2.cell? ⟨N, 3, none⟩ = some (.int .u8 xst) := cell_at HX.out 3
  have qX4 : W2.cell? ⟨N, 4, none⟩ = some (.slice xda xdl xdc) := cell_at HX.out 4
  have qXz : ∀ j, W2.frozen? ⟨N, j, none⟩ = false := fun j => free_at HX.out j
  have qXl : N < W2.heap.size := HX.out.lt
  have qY0 : W2.cell? ⟨(N + 1), 0, none⟩ = some (.int .i64 yt) := cell_at HY.out 0
  have qY1 : W2.cell? ⟨(N + 1), 1, none⟩ = some (.int .i8 yk) := cell_at HY.out 1
  have qY2 : W2.cell? ⟨(N + 1), 2, none⟩ = some (.int .i64 ys) := cell_at HY.out 2
  have qY3 : W2.cell? ⟨(N + 1), 3, none⟩ = some (.int .u8 yst) := cell_at HY.out 3
  have qY4 : W2.cell? ⟨(N + 1), 4, none⟩ = some (.slice yda ydl ydc) := cell_at HY.out 4
  have qYz : ∀ j, W2.frozen? ⟨(N + 1), j, none⟩ = false := fun j => free_at HY.out j
  have qYl : (N + 1) < W2.heap.size := HY.out.lt
  by_cases h0 : xt = yt
  · skip
    have d0 : (xt == yt) = true := beq_iff_eq.2 h0
    have f0 : (xt = yt) = True := eq_true h0
    clear h0
    by_cases h1 : xk = yk
    · skip
      have d1 : (xk == yk) = true := beq_iff_eq.2 h1
      have f1 : (xk = yk) = True := eq_true h1
      clear h1
      by_cases h2 : xs = ys
      · skip
        have d2 : (xs == ys) = true := beq_iff_eq.2 h2
        have f2 : (xs = ys) = True := eq_true h2
        clear h2
        by_cases h3 : xst = yst
        · skip
          have d3 : (xst == yst) = true := beq_iff_eq.2 h3
          have f3 : (xst = yst) = True := eq_true h3
          clear h3
          go_wp2_with fail
          go_at_call 42
          go_fit (HSD.out _ HB.out)
          rintro e W9 ⟨rfl, rfl⟩
          go_wp2_with fail
          go_ret
          exact ⟨_, rfl, (fun h => (HEQ.out h).2.2.2.2), HB.out⟩
        · skip
          have d3 : (xst == yst) = false := beq_eq_false_iff_ne.2 h3
          have f3 : (xst = yst) = False := eq_false h3
          have HNE : Hid (¬ px = py) := Lib.hid (fun h => h3 (HEQ.out h).2.2.2.1)
          clear h3
          go_wp2_with fail
          go_ret
          exact ⟨_, rfl, (fun h => absurd h HNE.out), HB.out⟩
      · skip
        have d2 : (xs == ys) = false := beq_eq_false_iff_ne.2 h2
        have f2 : (xs = ys) = False := eq_false h2
        have HNE : Hid (¬ px = py) := Lib.hid (fun h => h2 (HEQ.out h).2.2.1)
        clear h2
        go_wp2_with fail
        go_ret
        exact ⟨_, rfl, (fun h => absurd h HNE.out), HB.out⟩
    · skip
      have d1 : (xk == yk) = false := beq_eq_false_iff_ne.2 h1
      have f1 : (xk = yk) = False := eq_false h1
      have HNE : Hid (¬ px = py) := Lib.hid (fun h => h1 (HEQ.out h).2.1)
      clear h1
      go_wp2_with fail
      go_ret
      exact ⟨_, rfl, (fun h => absurd h HNE.out), HB.out⟩
  · skip
    have d0 : (xt == yt) = false := beq_eq_false_iff_ne.2 h0
    have f0 : (xt = yt) = False := eq_false h0
    have HNE : Hid (¬ px = py) := Lib.hid (fun h => h0 (HEQ.out h).1)
    clear h0
    go_wp2_with fail
    go_ret
    exact ⟨_, rfl, (fun h => absurd h HNE.out), HB.out⟩
end Go.Proofs.Ytcadinoijclfnaa
