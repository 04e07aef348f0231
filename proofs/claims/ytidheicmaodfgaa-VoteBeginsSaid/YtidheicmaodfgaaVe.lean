/-
  The document's answer: one that is given.
-/
import Derived.Test.YtidheicmaodfgaaVc
namespace Go.Proofs.Ytidheicmaodfgaa
open Go.RowKit

theorem setH {W : World} {N : Nat} {x0 x1 x2 y0 y1 y2 : Value} (h : W.heap[N]? = some (.cells #[x0, x1, x2] 23 (0, 0))) : (((W.setCell ⟨N, 0, none⟩ y0).setCell ⟨N, 1, none⟩ y1).setCell ⟨N, 2, none⟩ y2).heap[N]? = some (.cells #[y0, y1, y2] 23 (0, 0)) := by
  exact heap_setCell_same (heap_setCell_same (heap_setCell_same h 0 y0) 1 y1) 2 y2
theorem setO {W : World} {N k : Nat} {y0 y1 y2 : Value} (h : k ≠ N) : (((W.setCell ⟨N, 0, none⟩ y0).setCell ⟨N, 1, none⟩ y1).setCell ⟨N, 2, none⟩ y2).heap[k]? = W.heap[k]? := by
  rw [heap_setCell_ne _ _ _ _ h, heap_setCell_ne _ _ _ _ h, heap_setCell_ne _ _ _ _ h]

set_option maxRecDepth 100000 in
set_option maxHeartbeats 8000000 in
theorem ranswer_good (ht hv hb base term self : Int) (a : Option Addr) (len cap b o : Nat) (E : Nat → Ent) (k f tt t i l c : Int) (ok : Bool) (ea : Option Addr) (en ec : Nat) (si st ss : Int) (sa : Option Addr) (sn sc : Nat) (da : Option Addr) (dn dc : Nat) (w : World) (hs : EntsIn w a len cap b o E) (hk : rowsB base term len E = true) (hbad : badAsk k self f t = false) (g1 g2 g3 : Bool) (ot ov : Int) (hot : ot = riseT ht t) (hov : ov = riseV ht hv t)
    (h1 : g1 = decide (ht ≤ t)) (h2 : g2 = freeB ov f) (h3 : g3 = newerB base term len E i l) :
    Calls Try.prog 16 #[.agg #[.int .i64 ht, .int .i64 hv, .int .i64 hb], .agg #[.int .i64 base, .int .i64 term, .slice a len cap], .int .i64 self, .agg #[.int .i8 k, .int .i64 f, .int .i64 tt, .int .i64 t, .int .i64 i, .int .i64 l, .int .i64 c, .bool ok, .slice ea en ec, .int .i64 si, .int .i64 st, .int .u8 ss, .slice sa sn sc, .slice da dn dc]] w fun e w' => e = .returned (.tuple #[.agg #[.int .i64 ot, .int .i64 (if g1 && g2 && g3 then f else ov), .int .i64 hb], .agg #[.int .i8 2, .int .i64 self, .int .i64 f, .int .i64 ot, .int .i64 0, .int .i64 0, .int .i64 0, .bool (g1 && g2 && g3), .slice none 0 0, .int .i64 0, .int .i64 0, .int .u8 0, .slice none 0 0, .slice none 0 0], .int .i64 0]) ∧ Below w.heap.size w w' := by
  have HS := Lib.hid hs
  have he := rowsE_ok hk
  have cur := BxA.mk0 w ht hv hb base term (.slice a len cap) #[.int .i8 k, .int .i64 f, .int .i64 tt, .int .i64 t, .int .i64 i, .int .i64 l, .int .i64 c, .bool ok, .slice ea en ec, .int .i64 si, .int .i64 st, .int .u8 ss, .slice sa sn sc, .slice da dn dc]
  have HC := Lib.hid cur
  obtain ⟨rfl, n1, n2, b1, hge⟩ := badAsk_no k self f t hbad
  have b1 : (f == self) = false := by rw [beq_eq_false_iff_ne] at b1 ⊢; exact fun e => b1 e.symm
  have N1 : Hid (∀ w, Calls Try.prog 38 #[.int .i64 self] w fun e w' => e = .returned (.bool true) ∧ w = w') := Lib.hid (fun w => by rw [← n1]; exact rnode_any self w)
  have N2 : Hid (∀ w, Calls Try.prog 38 #[.int .i64 f] w fun e w' => e = .returned (.bool true) ∧ w = w') := Lib.hid (fun w => by rw [← n2]; exact rnode_any f w)
  have R1 : Hid (∀ w, Calls Try.prog 19 #[.agg #[.int .i64 ht, .int .i64 hv, .int .i64 hb], .int .i64 t] w fun e w' => e = .returned (.agg #[.int .i64 ot, .int .i64 ov, .int .i64 hb]) ∧ Below w.heap.size w w') := Lib.hid (fun w => by rw [hot, hov]; exact rrise_any ht hv hb t w)
  have t1 : (t == ot) = g1 := by
    rw [h1, hot, riseT, Bool.eq_iff_iff]
    split <;> simp <;> omega
  obtain ⟨x, hx⟩ : ∃ x, (ov == 0) = x := ⟨_, rfl⟩
  obtain ⟨y, hy⟩ : ∃ y, (ov == f) = y := ⟨_, rfl⟩
  have hg2 : g2 = (x || y) := by rw [h2, freeB, hx, hy]
  have G3 := Lib.hid h3
  obtain ⟨G, hG⟩ : ∃ G, G = (g1 && g2 && g3) := ⟨_, rfl⟩
  rw [← hG]
  rw [hg2] at hG
  clear hs hk cur hbad n1 n2 hot hov h1 h2 h3 hg2
  have hcs : (g1 = false ∧ G = false) ∨ (g1 = true ∧ x = false ∧ y = false ∧ G = false) ∨ (g1 = true ∧ x = true ∧ G = g3) ∨ (g1 = true ∧ x = false ∧ y = true ∧ G = g3) := by
    rw [hG]; cases g1 <;> cases x <;> cases y <;> simp
  clear hG
  go_enter Try.func16, Try.ntmps16
  go_upto_region 6 with (first
      | (go_at_call 24; refine (rcheck_any _ _ _ _ _ _ _ _ _ (HS.out.below HC.out.2.2.2.2.2.2)).mono ?_; rw [he]; rintro e W ⟨rfl, hW⟩; have HQ := Lib.hid (HC.out.step hW); have h0 := cell_at HQ.out.1 0; have h1 := cell_at HQ.out.1 1; have h2 := cell_at HQ.out.1 2; have m0 := cell_at HQ.out.2.2.1 0; have m1 := cell_at HQ.out.2.2.1 1; have m3 := cell_at HQ.out.2.2.1 3; clear hW)
      | (go_at_call_of 38 (Value.int .i64 f); with_reducible refine Calls.mono (N2.out _) ?_; rintro e w' ⟨rfl, rfl⟩)
      | (go_at_call 38; with_reducible refine Calls.mono (N1.out _) ?_; rintro e w' ⟨rfl, rfl⟩)
      | (go_at_call 19; refine (R1.out _).mono ?_; rintro e W2 ⟨rfl, hW2⟩; have HQ2 := Lib.hid (HQ.out.step hW2); clear h0 h1 h2 m0 m1 m3 hW2; have f0 := free_at HQ2.out.1 0; have f1 := free_at HQ2.out.1 1; have f2 := free_at HQ2.out.1 2; have h0 := cell_at HQ2.out.1 0; have h1 := cell_at HQ2.out.1 1; have h2 := cell_at HQ2.out.1 2; have m1 := cell_at HQ2.out.2.2.1 1; have m3 := cell_at HQ2.out.2.2.1 3))
  obtain ⟨N, hN⟩ : ∃ N, N = w.heap.size := ⟨_, rfl⟩
  rw [← hN]
  obtain ⟨W3, hW3⟩ : ∃ W3, W3 = ((W2.setCell ⟨N, 0, none⟩ (.int .i64 ot)).setCell ⟨N, 1, none⟩ (.int .i64 ov)).setCell ⟨N, 2, none⟩ (.int .i64 hb) := ⟨_, rfl⟩
  rw [← hW3]
  obtain ⟨q0, q1, q2, q3, q4, q5, q6⟩ := HQ2.out
  rw [← hN] at q0 q1 q2 q3 q4 q5
  replace q0 := setH (y0 := .int .i64 ot) (y1 := .int .i64 ov) (y2 := .int .i64 hb) q0
  replace q1 := (setO (W := W2) (N := N) (y0 := .int .i64 ot) (y1 := .int .i64 ov) (y2 := .int .i64 hb) (by omega)).trans q1
  replace q2 := (setO (W := W2) (N := N) (y0 := .int .i64 ot) (y1 := .int .i64 ov) (y2 := .int .i64 hb) (by omega)).trans q2
  replace q3 := (setO (W := W2) (N := N) (y0 := .int .i64 ot) (y1 := .int .i64 ov) (y2 := .int .i64 hb) (by omega)).trans q3
  replace q4 := (setO (W := W2) (N := N) (y0 := .int .i64 ot) (y1 := .int .i64 ov) (y2 := .int .i64 hb) (by omega)).trans q4
  rw [← hW3] at q0 q1 q2 q3 q4
  have hw6 : Below w.heap.size w W3 := by rw [hW3]; exact ((q6.setCell (by simp only; omega) _).setCell (by simp only; omega) _).setCell (by simp only; omega) _
  have hz : N + 4 < W3.heap.size := by rw [hW3]; simpa using q5
  have hNw : w.heap.size ≤ N := by omega
  have HN := Lib.hid hN
  clear hW3 q5 q6 HQ2 HQ HC hN f0 f1 f2 h0 h1 h2 m1 m3
  have h0 := cell_at q0 0
  have h1 := cell_at q0 1
  have m1 := cell_at q2 1
  have m3 := cell_at q2 3
  have x0 := cell_at q1 0
  have x1 := cell_at q1 1
  have x2 := cell_at q1 2
  have m4 := cell_at q2 4
  have m5 := cell_at q2 5
  rcases hcs with ⟨rfl, rfl⟩ | ⟨rfl, rfl, rfl, rfl⟩ | ⟨rfl, rfl, rfl⟩ | ⟨rfl, rfl, rfl, rfl⟩
  · have h2 := cell_at q0 2
    have r3 := fun j => cell_at q3 j
    have r4 := fun j => cell_at q4 j
    have z3 := fun j => free_at q3 j
    have z4 := fun j => free_at q4 j
    clear q0 q1 q2 q3 q4
    go_wp2_with fail
    go_region
    all_goals
      go_wp2_with fail
      refine bodyPost_ret (v := .tuple #[.agg #[.int .i64 ot, .int .i64 ov, .int .i64 hb], .agg #[.int .i8 2, .int .i64 self, .int .i64 f, .int .i64 ot, .int .i64 0, .int .i64 0, .int .i64 0, .bool false, .slice none 0 0, .int .i64 0, .int .i64 0, .int .u8 0, .slice none 0 0, .slice none 0 0], .int .i64 0]) (by simp [results, Try.results16, go_sem, r3, r4]) rfl ⟨rfl, ?_⟩
      refine Below.drew ?_
      (repeat (refine Below.setCell ?_ (by simp only; omega) _)); exact hw6
  · have h2 := cell_at q0 2
    have r3 := fun j => cell_at q3 j
    have r4 := fun j => cell_at q4 j
    have z3 := fun j => free_at q3 j
    have z4 := fun j => free_at q4 j
    clear q0 q1 q2 q3 q4
    go_wp2_with fail
    go_region
    all_goals
      go_wp2_with fail
      refine bodyPost_ret (v := .tuple #[.agg #[.int .i64 ot, .int .i64 ov, .int .i64 hb], .agg #[.int .i8 2, .int .i64 self, .int .i64 f, .int .i64 ot, .int .i64 0, .int .i64 0, .int .i64 0, .bool false, .slice none 0 0, .int .i64 0, .int .i64 0, .int .u8 0, .slice none 0 0, .slice none 0 0], .int .i64 0]) (by simp [results, Try.results16, go_sem, r3, r4]) rfl ⟨rfl, ?_⟩
      refine Below.drew ?_
      (repeat (refine Below.setCell ?_ (by simp only; omega) _)); exact hw6
  all_goals
    go_upto_region 7 with (go_at_call 39; refine (rnewer_any _ _ _ _ _ _ _ _ _ _ _ (HS.out.below hw6)).mono ?_; rw [← G3.out]; rintro e W4 ⟨rfl, hW4⟩)
    replace q0 := (hW4.block N (by omega)).trans q0
    replace q2 := (hW4.block (N + 1 + 1) (by omega)).trans q2
    replace q3 := (hW4.block (N + 1 + 1 + 1) (by omega)).trans q3
    replace q4 := (hW4.block (N + 1 + 1 + 1 + 1) (by omega)).trans q4
    replace hw6 := hw6.trans (hW4.mono (by omega))
    clear h0 h1 m1 m3 x0 x1 x2 m4 m5 q1 hW4
    cases G
    · have h0 := cell_at q0 0
      have h1 := cell_at q0 1
      have h2 := cell_at q0 2
      have m1 := cell_at q2 1
      have r3 := fun j => cell_at q3 j
      have r4 := fun j => cell_at q4 j
      have z3 := fun j => free_at q3 j
      have z4 := fun j => free_at q4 j
      clear q0 q2 q3 q4
      go_wp2_with fail
      go_region
      all_goals
        go_wp2_with fail
        refine bodyPost_ret (v := .tuple #[.agg #[.int .i64 ot, .int .i64 ov, .int .i64 hb], .agg #[.int .i8 2, .int .i64 self, .int .i64 f, .int .i64 ot, .int .i64 0, .int .i64 0, .int .i64 0, .bool false, .slice none 0 0, .int .i64 0, .int .i64 0, .int .u8 0, .slice none 0 0, .slice none 0 0], .int .i64 0]) (by simp [results, Try.results16, go_sem, r3, r4]) rfl ⟨rfl, ?_⟩
        refine Below.drew ?_
        (repeat (refine Below.setCell ?_ (by simp only; omega) _)); exact hw6
    · have m1 := cell_at q2 1
      have h1 := cell_at q0 1
      have p1 := free_at q0 1
      obtain ⟨Wt, hWt⟩ : ∃ Wt, Wt = W4.setCell ⟨N, 1, none⟩ (.int .i64 f) := ⟨_, rfl⟩
      have hO2 := heap_setCell_same q0 1 (.int .i64 f)
      rw [← hWt] at hO2
      have o0 : Wt.cell? ⟨N, 0, none⟩ = some (.int .i64 ot) := cell_at hO2 0
      have o1' : Wt.cell? ⟨N, 1, none⟩ = some (.int .i64 f) := cell_at hO2 1
      have o2 : Wt.cell? ⟨N, 2, none⟩ = some (.int .i64 hb) := cell_at hO2 2
      have m1' : Wt.cell? ⟨N + 1 + 1, 1, none⟩ = _ := cell_at (by rw [hWt, heap_setCell_ne _ _ _ _ (by simp only; omega)]; exact q2) 1
      have r3 : ∀ j, Wt.cell? ⟨N + 1 + 1 + 1, j, none⟩ = _ := fun j => cell_at (by rw [hWt, heap_setCell_ne _ _ _ _ (by simp only; omega)]; exact q3) j
      have r4 : ∀ j, Wt.cell? ⟨N + 1 + 1 + 1 + 1, j, none⟩ = _ := fun j => cell_at (by rw [hWt, heap_setCell_ne _ _ _ _ (by simp only; omega)]; exact q4) j
      have z3 : ∀ j, Wt.frozen? ⟨N + 1 + 1 + 1, j, none⟩ = _ := fun j => free_at (by rw [hWt, heap_setCell_ne _ _ _ _ (by simp only; omega)]; exact q3) j
      have z4 : ∀ j, Wt.frozen? ⟨N + 1 + 1 + 1 + 1, j, none⟩ = _ := fun j => free_at (by rw [hWt, heap_setCell_ne _ _ _ _ (by simp only; omega)]; exact q4) j
      replace hw6 : Below w.heap.size w Wt := by rw [hWt]; exact hw6.setCell (by simp only; omega) _
      have HWt := Lib.hid hWt
      clear q0 q2 q3 q4 hO2 hWt
      go_wp2_with fail
      rw [← HWt.out]
      go_region
      all_goals
        go_wp2_with fail
        refine bodyPost_ret (v := .tuple #[.agg #[.int .i64 ot, .int .i64 f, .int .i64 hb], .agg #[.int .i8 2, .int .i64 self, .int .i64 f, .int .i64 ot, .int .i64 0, .int .i64 0, .int .i64 0, .bool true, .slice none 0 0, .int .i64 0, .int .i64 0, .int .u8 0, .slice none 0 0, .slice none 0 0], .int .i64 0]) (by simp [results, Try.results16, go_sem, r3, r4]) rfl ⟨rfl, ?_⟩
        refine Below.drew ?_
        (repeat (refine Below.setCell ?_ (by simp only; omega) _)); exact hw6
end Go.Proofs.Ytidheicmaodfgaa
