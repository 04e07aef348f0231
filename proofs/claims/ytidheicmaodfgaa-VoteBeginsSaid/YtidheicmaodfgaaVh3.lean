/-
  weirlaw10: what the document says of three asks.
-/
import Derived.Test.YtidheicmaodfgaaVh2
namespace Go.Proofs.Ytidheicmaodfgaa
open Go.RowKit

set_option maxRecDepth 100000 in
set_option maxHeartbeats 60000000 in
theorem vwakes_any (w : World) : Calls Try.prog 11 #[] w fun e w' => e = .returned (.bool true) ∧ Below w.heap.size w w' := by
  go_enter Try.func11, Try.ntmps11
  go_upto_region 2 with (go_at_call 26; refine (rows_any w.heap.size 5 wT _ (by omega) (by simp) (by intro k hk; exact (cell_at (heap_alloc_new w _) k).trans (by rcases (show k = 0 ∨ k = 1 ∨ k = 2 ∨ k = 3 ∨ k = 4 by omega) with rfl | rfl | rfl | rfl | rfl <;> rfl))).mono ?_; rintro e W ⟨v, ob, rfl, hR, hB, hO⟩; obtain ⟨a, cap, b, rfl, hE⟩ := ents_in hR (by omega) (by intro k _; unfold wT; split <;> omega); have HE := Lib.hid hE; clear hR hO hE)
  have BW : Hid (Below w.heap.size w W) := Lib.hid (((Below.refl _ _).alloc (Nat.le_refl _) _).trans (hB.mono (by simp)))
  clear hB
  have cur0 := Box.mk0 W 0 0 (.slice a (5 : Nat) cap)
  obtain ⟨V, hV⟩ : ∃ V, V = W.alloc (.cells #[.int .i64 0, .int .i64 0, .slice a (5 : Nat) cap] 26) := ⟨_, rfl⟩
  rw [← hV] at cur0
  rw [← hV]
  have cur : Box W 0 0 (.slice a (5 : Nat) cap) V := cur0
  clear hV cur0
  obtain ⟨⟨f0, f1, f2⟩, f3, f4⟩ := id cur
  have AA : Hid (∀ X, Below W.heap.size W X → _) := Lib.hid (fun X hX => vw_a1 a cap b X (HE.out.below hX))
  go_cut [2, 3, 4] (fun x y z wx => At1 wx x 1 (.int .i64 2) ∧ At1 wx y 7 (.bool true) ∧ z = .int .i64 0 ∧ Below V.heap.size V wx)
  case first =>
    clear HE
    have hVW : W.heap.size < V.heap.size := f3
    have g1 : (W.heap.size = V.heap.size) = False := eq_false (by omega)
    have g2 : (V.heap.size = W.heap.size) = False := eq_false (by omega)
    have g3 : (W.heap.size = V.heap.size + 1) = False := eq_false (by omega)
    have g4 : (V.heap.size + 1 = W.heap.size) = False := eq_false (by omega)
    have g5 : (W.heap.size = V.heap.size + 1 + 1) = False := eq_false (by omega)
    have g7 : (W.heap.size = V.heap.size + 2) = False := eq_false (by omega)
    have g8 : (V.heap.size + 2 = W.heap.size) = False := eq_false (by omega)
    have k1 : W.heap.size < V.heap.size + 1 := by omega
    have k2 : W.heap.size < V.heap.size + 1 + 1 := by omega
    have k3 : W.heap.size < V.heap.size + 1 + 1 + 1 := by omega
    have g6 : (V.heap.size + 1 + 1 = W.heap.size) = False := eq_false (by omega)
    go_region_held3 (fun X => X.cell? ⟨W.heap.size, 0, none⟩ = some (.int .i64 0) ∧ X.cell? ⟨W.heap.size, 1, none⟩ = some (.int .i64 0) ∧ X.cell? ⟨W.heap.size, 2, none⟩ = some (.slice a (5 : Nat) cap)) (first | with_reducible exact ⟨f0, f1, f2⟩ | (refine ⟨?_, ?_, ?_⟩ <;> go_simp <;> done) | go_keep)
      (first
      | (go_at_call 27; refine (ask_any _ _ _ _).mono ?_; rintro e X ⟨rfl, rfl⟩)
      | (go_at_call 15; refine Calls.mono (AA.out _ ?_) ?_; (first | with_reducible exact (cur.alloc _).drew.bel | with_reducible exact ((cur.alloc _).alloc _).drew.bel | with_reducible exact (((cur.alloc _).alloc _).alloc _).drew.bel); rintro e X ⟨rfl, hX⟩; have hc2 : Box W 0 0 (.slice a (5 : Nat) cap) X := (by first | with_reducible exact (cur.alloc _).step (below_undrew hX) | with_reducible exact ((cur.alloc _).alloc _).step (below_undrew hX) | with_reducible exact (((cur.alloc _).alloc _).alloc _).step (below_undrew hX)); have hV2 : Below V.heap.size V X := (by first | with_reducible exact ((Below.refl _ _).alloc (Nat.le_refl _) _).trans ((below_undrew hX).mono (by simp)) | with_reducible exact (((Below.refl _ _).alloc (Nat.le_refl _) _).alloc (by simp) _).trans ((below_undrew hX).mono (by simp; omega)) | with_reducible exact ((((Below.refl _ _).alloc (Nat.le_refl _) _).alloc (by simp) _).alloc (by simp; omega) _).trans ((below_undrew hX).mono (by simp; omega))); have hz2 := hV2.size; obtain ⟨⟨f0, f1, f2⟩, f3, f4⟩ := id hc2; have hb4 : (W.heap.size = X.heap.size) = False := eq_false (by omega); have hb5 : (X.heap.size = W.heap.size) = False := eq_false (by omega);
          (first
           | (have T := tw3 (n := V.heap.size) (below_undrew hX) rfl; obtain ⟨⟨a1, b1, l1⟩, ⟨a2, b2, l2⟩, ⟨a3, b3, l3⟩⟩ := T; have k4 : W.heap.size < X.heap.size + 1 := (by omega); have k5 : W.heap.size < X.heap.size + 1 + 1 := (by omega); have e0 : (V.heap.size = X.heap.size) = False := eq_false (by omega); have e1 : (V.heap.size + 1 = X.heap.size) = False := eq_false (by omega); have e2 : (V.heap.size + 1 + 1 = X.heap.size) = False := eq_false (by omega))
           | (have T := tw2 (n := V.heap.size) (below_undrew hX) rfl; obtain ⟨⟨a1, b1, l1⟩, ⟨a2, b2, l2⟩⟩ := T; have k4 : W.heap.size < X.heap.size + 1 := (by omega); have k5 : W.heap.size < X.heap.size + 1 + 1 := (by omega); have e0 : (V.heap.size = X.heap.size) = False := eq_false (by omega); have e1 : (V.heap.size + 1 = X.heap.size) = False := eq_false (by omega))
           | (have T := tw1 (n := V.heap.size) (below_undrew hX) rfl; obtain ⟨a1, b1, l1⟩ := T; have k4 : W.heap.size < X.heap.size + 1 := (by omega); have k5 : W.heap.size < X.heap.size + 1 + 1 := (by omega); have e0 : (V.heap.size = X.heap.size) = False := eq_false (by omega)))))
    all_goals
      go_wp2_with fail
      go_meet
      refine ⟨⟨_, rfl, by first | (simp; done) | (simp; omega), by go_simp⟩, ⟨_, rfl, by first | (simp; done) | (simp; omega), by go_simp⟩, rfl, ?_⟩
      (repeat (first | with_reducible exact hV2 | with_reducible refine Below.drew ?_ | ((with_reducible refine Below.alloc ?_ ?_ _); (rotate_left; first | omega | (simp; done) | (simp; omega))) | ((with_reducible refine Below.setCell ?_ ?_ _); (rotate_left; first | omega | (simp only; omega) | (simp; omega)))))
  case rest =>
    obtain ⟨hx, hy, rfl, hB⟩ := hcut
    have cur := cur.step hB
    clear AA f0 f1 f2 f3 f4 hB
    obtain ⟨p1, rfl, hp1, cp1⟩ := hx
    obtain ⟨q1, rfl, hq1, cq1⟩ := hy
    have P1 := Lib.hid (And.intro hp1 (And.intro cp1 (And.intro hq1 cq1)))
    clear hp1 cp1 hq1 cq1
    refine ‹∀ (a : Act) (w : World), Code.wp Try.prog (Code.seq (Code.region 3 _ _) _) _ a w → _› _ _ ?_
    exact vw_t3 w W wc a cap b p1 q1 HE BW cur P1 _ _ _ _ _ _ _ _ _ _ _ _ _ _ _ _ _ _ _ _ _ _ _ _ _ _ _ _ _ _ _ _ _ _ _ _ _ _ _ _ _ _ _ _ _ _ _ _ _ _ _ _ _ _ _ _ _ _ _ _ _ _
end Go.Proofs.Ytidheicmaodfgaa
