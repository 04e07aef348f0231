/-
  What a form finds in bytes: an entry.
-/
import Derived.Test.YtiednacpmlilbaaDoorWr2
import Derived.Defers
import Derived.Recover
import Derived.Laws.Pointers
namespace Go.Proofs.YtiednacpmlilbaaDoor
open Go.RowKit
set_option linter.unusedSimpArgs false
set_option linter.unusedVariables false

set_option maxRecDepth 100000 in
set_option maxHeartbeats 8000000 in
theorem catch_Entry (W : World) (X A E : Nat) (cx : Array Value) (u v : Int) (a : Nat) (hx : Blk W X cx 25) (ha : Blk W A #[.int .i64 u] 3) (he : Blk W E #[.int .i64 v] 27) (hn : cx.size = 5) (hd : X ≠ A ∧ X ≠ E ∧ A ≠ E) :
    CallsD Tryd.prog 79 #[.pointer (some ⟨X, 0, none⟩), .pointer (some ⟨A, 0, none⟩), .pointer (some ⟨E, 0, none⟩)] (.panicking [{ v := refV a, recovered := false }]) W fun e u' w' =>
      e = .returned (.tuple #[]) ∧ u' = .panicking [{ v := refV a, recovered := true }] ∧ Blk w' X #[.int .i64 0, .int .i8 0, .int .i64 0, .int .u8 0, .slice none 0 0] 25 ∧ Blk w' A #[.int .i64 (a : Nat)] 3 ∧ Blk w' E #[.int .i64 50] 27 ∧ Fr [X, A, E] W w' := by
  unfold refV
  refine callsD_of_wpS Tryd.func79 rfl fun c₀ cs hu => ?_
  simp only [Tryd.ntmps79, List.size_toArray, List.length_cons, List.length_nil, Nat.reduceAdd, Nat.reduceSub, Array.replicate_succ, Array.replicate_zero, List.push_toArray, List.append_toArray, List.nil_append, List.cons_append]
  apply wpS_seq
  apply wpS_region
  obtain ⟨r8, h8⟩ : ∃ r : List Nat, r = [] := ⟨_, rfl⟩
  obtain ⟨r7, h7⟩ : ∃ r : List Nat, r = 7 :: r8 := ⟨_, rfl⟩
  obtain ⟨r6, h6⟩ : ∃ r : List Nat, r = 6 :: r7 := ⟨_, rfl⟩
  obtain ⟨r5, h5⟩ : ∃ r : List Nat, r = 5 :: r6 := ⟨_, rfl⟩
  obtain ⟨r4, h4⟩ : ∃ r : List Nat, r = 4 :: r5 := ⟨_, rfl⟩
  obtain ⟨r3, h3⟩ : ∃ r : List Nat, r = 3 :: r4 := ⟨_, rfl⟩
  obtain ⟨r2, h2⟩ : ∃ r : List Nat, r = 2 :: r3 := ⟨_, rfl⟩
  obtain ⟨r1, h1⟩ : ∃ r : List Nat, r = 1 :: r2 := ⟨_, rfl⟩
  show wpOpsS _ _ _ (0 :: [1, 2, 3, 4, 5, 6, 7]) _ _ _
  rw [show ([1, 2, 3, 4, 5, 6, 7] : List Nat) = r1 by rw [h1, h2, h3, h4, h5, h6, h7, h8]]
  refine opsS_rec (.iface 144 (.agg #[.int .i64 (a : Nat)])) (by (simp only [List.getElem?_toArray, List.getElem?_cons_succ, List.getElem?_cons_zero]); rfl) (by rfl) (by go_simp) (recD hu) ?_
  simp only [Act.put, List.setIfInBounds_toArray, List.set_cons_zero, List.set_cons_succ]
  rw [h1]
  refine opsS_step (.tuple #[.agg #[.int .i64 (a : Nat)], .bool true]) (by (simp only [List.getElem?_toArray, List.getElem?_cons_succ, List.getElem?_cons_zero]); rfl) (by rfl) (by go_simp; (try simp only [ta_yes, ta_no, Result.andThen_ok]); first | done | with_reducible rfl) ?_
  simp only [Act.put, List.setIfInBounds_toArray, List.set_cons_zero, List.set_cons_succ]
  rw [h2]
  refine opsS_step (.tuple #[.agg #[.int .i64 (a : Nat)], .bool true]) (by (simp only [List.getElem?_toArray, List.getElem?_cons_succ, List.getElem?_cons_zero]); rfl) (by rfl) (by go_simp; (try simp only [ta_yes, ta_no, Result.andThen_ok]); first | done | with_reducible rfl) ?_
  simp only [Act.put, List.setIfInBounds_toArray, List.set_cons_zero, List.set_cons_succ]
  rw [h3]
  refine opsS_step (.agg #[.int .i64 (a : Nat)]) (by (simp only [List.getElem?_toArray, List.getElem?_cons_succ, List.getElem?_cons_zero]); rfl) (by rfl) (by go_simp; (try simp only [ta_yes, ta_no, Result.andThen_ok]); first | done | with_reducible rfl) ?_
  simp only [Act.put, List.setIfInBounds_toArray, List.set_cons_zero, List.set_cons_succ]
  rw [h4]
  refine opsS_step (.bool true) (by (simp only [List.getElem?_toArray, List.getElem?_cons_succ, List.getElem?_cons_zero]); rfl) (by rfl) (by go_simp; (try simp only [ta_yes, ta_no, Result.andThen_ok]); first | done | with_reducible rfl) ?_
  simp only [Act.put, List.setIfInBounds_toArray, List.set_cons_zero, List.set_cons_succ]
  obtain ⟨N, hN⟩ : ∃ N, N = W.heap.size := ⟨_, rfl⟩
  obtain ⟨W1, hW1⟩ : ∃ X, X = W.alloc (.cells #[.int .i64 0] 144) := ⟨_, rfl⟩
  obtain ⟨W2, hW2⟩ : ∃ X, X = W1.setCell ⟨N, 0, none⟩ (.int .i64 (a : Nat)) := ⟨_, rfl⟩
  have hb1 : Blk W1 N #[.int .i64 0] 144 := by rw [hW1, hN]; exact blk_new _ _ _
  have z0 : W1.cell? ⟨N, 0, none⟩ = some (.int .i64 0) := cell_at hb1 0
  have z1 : W1.frozen? ⟨N, 0, none⟩ = false := free_at hb1 0
  rw [h5]
  refine opsS_step (w' := W1) (.pointer (some ⟨N, 0, none⟩)) (by (simp only [List.getElem?_toArray, List.getElem?_cons_succ, List.getElem?_cons_zero]); rfl) (by rfl) (by rw [hW1, hN]; go_simp; first | done | with_reducible rfl) ?_
  simp only [Act.put, List.setIfInBounds_toArray, List.set_cons_zero, List.set_cons_succ]
  rw [h6]
  refine opsS_skip (w' := W2) (by (simp only [List.getElem?_toArray, List.getElem?_cons_succ, List.getElem?_cons_zero]); rfl) (by rfl) (by rw [hW2]; clear hW2; go_simp; first | done | with_reducible rfl) ?_
  simp only [Act.put, List.setIfInBounds_toArray, List.set_cons_zero, List.set_cons_succ]
  rw [h7]
  refine opsS_step (w' := W2) (.bool true) (by (simp only [List.getElem?_toArray, List.getElem?_cons_succ, List.getElem?_cons_zero]); rfl) (by rfl) (by clear hW2; go_simp; first | done | with_reducible rfl) ?_
  simp only [Act.put, List.setIfInBounds_toArray, List.set_cons_zero, List.set_cons_succ]
  rw [h8]
  clear h1 h2 h3 h4 h5 h6 h7 h8
  simp only [wpOpsS, Exit.thenS]
  refine wpS_of_wp ?_
  have hb2 : Blk W2 N #[.int .i64 (a : Nat)] 144 := by rw [hW2]; exact hb1.set 0 _
  have hf : Fr [N] W1 W2 := by rw [hW2]; exact (Fr.refl _ _).setCell _ (.inl (by simp)) _
  have hB1 : Below W.heap.size W W1 := by rw [hW1]; exact alloc_b _ _
  have hB2 : Below W.heap.size W W2 := hB1.trans (hf.below hB1.size (by simp; omega))
  obtain ⟨W3, hW3⟩ : ∃ X, X = W2.alloc (.cells #[.int .i64 0, .int .i8 0, .int .i64 0, .int .u8 0, .slice none 0 0] 25) := ⟨_, rfl⟩
  have hB3 : Below W.heap.size W W3 := hB2.trans (by rw [hW3]; exact (alloc_b W2 _).mono hB2.size)
  obtain ⟨M, hM⟩ : ∃ M, M = W2.heap.size := ⟨_, rfl⟩
  have hb3 : Blk W3 M #[.int .i64 0, .int .i8 0, .int .i64 0, .int .u8 0, .slice none 0 0] 25 := by rw [hW3, hM]; exact blk_new _ _ _
  have hn3 : Blk W3 N #[.int .i64 (a : Nat)] 144 := hb2.step (by rw [hW3]; exact alloc_b W2 _)
  have HX := Lib.hid (hx.step hB3)
  have HA := Lib.hid (ha.step hB3)
  have HE := Lib.hid (he.step hB3)
  have HM := Lib.hid hb3
  have HNN := Lib.hid hn3
  have HB := Lib.hid hB3
  have HD := Lib.hid hd
  have HCN := Lib.hid hn
  have HLT := Lib.hid (show X < W.heap.size ∧ A < W.heap.size ∧ E < W.heap.size ∧ W.heap.size ≤ M ∧ W.heap.size ≤ N ∧ M ≠ N from ⟨hx.lt, ha.lt, he.lt, by rw [hM]; exact hB2.size, by omega, ne_ty hb3 hn3 (by decide)⟩)
  clear z0 z1 hb1 hb2 hf hB1 hB2 hB3 hb3 hn3 hW2 hW1 hN hx ha he hd hn
  go_upto_region 3 with fail
  rw [← hM, ← hW3]
  clear hM hW3
  obtain ⟨c0, c1, c2, c3, c4, hcx⟩ := len5 (show cx.toList.length = 5 by simpa using HCN.out)
  obtain rfl : cx = #[c0, c1, c2, c3, c4] := by apply Array.ext'; rw [hcx]
  clear hcx
  have hdw := drew_b W3
  obtain ⟨WD, hWD⟩ : ∃ X, X = W3.drew := ⟨_, rfl⟩
  rw [← hWD] at hdw
  replace HX := Lib.hid (HX.out.step hdw)
  replace HA := Lib.hid (HA.out.step hdw)
  replace HE := Lib.hid (HE.out.step hdw)
  replace HM := Lib.hid (HM.out.step hdw)
  replace HNN := Lib.hid (HNN.out.step hdw)
  replace HB := Lib.hid (HB.out.trans (hdw.mono HB.out.size))
  refine wp_region_held_drew (S := fun X => X.cell? ⟨M, 0, none⟩ = some (.int .i64 0) ∧ X.cell? ⟨M, 1, none⟩ = some (.int .i8 0) ∧ X.cell? ⟨M, 2, none⟩ = some (.int .i64 0) ∧ X.cell? ⟨M, 3, none⟩ = some (.int .u8 0) ∧ X.cell? ⟨M, 4, none⟩ = some (.slice none 0 0) ∧ X.cell? ⟨N, 0, none⟩ = some (.int .i64 (a : Nat))) (by kernel_rfl) (by rw [← hWD]; exact ⟨cell_at HM.out 0, cell_at HM.out 1, cell_at HM.out 2, cell_at HM.out 3, cell_at HM.out 4, cell_at HNN.out 0⟩) (fun hHeld => ?_)
  rw [← hWD] at hHeld ⊢
  clear hdw hWD
  ((refine wpAnyH_take (i := 0) (v := ?_) (by (simp only [List.getElem?_toArray, List.getElem?_cons_succ, List.getElem?_cons_zero]); rfl) (by kernel_rfl) (by kernel_rfl) (by kernel_rfl) (by exact fun _ _ _ h => h) (Or.inl ⟨by rfl, ?_⟩) (by assumption) ?_); rotate_left; focus (intro wS hSw; (try dsimp only at hSw); go_simp; first | done | with_reducible rfl); try simp only [Act.put, List.setIfInBounds_toArray, List.set_cons_zero, List.set_cons_succ])
  ((refine wpAnyH_take (i := 1) (v := ?_) (by (simp only [List.getElem?_toArray, List.getElem?_cons_succ, List.getElem?_cons_zero]); rfl) (by kernel_rfl) (by kernel_rfl) (by kernel_rfl) (by exact fun _ _ _ h => h) (Or.inl ⟨by rfl, ?_⟩) (by assumption) ?_); rotate_left; focus (intro wS hSw; (try dsimp only at hSw); go_simp; first | done | with_reducible rfl); try simp only [Act.put, List.setIfInBounds_toArray, List.set_cons_zero, List.set_cons_succ])
  ((refine wpAnyH_take (i := 2) (v := ?_) (by (simp only [List.getElem?_toArray, List.getElem?_cons_succ, List.getElem?_cons_zero]); rfl) (by kernel_rfl) (by kernel_rfl) (by kernel_rfl) (by exact fun _ _ _ h => h) (Or.inl ⟨by rfl, ?_⟩) (by assumption) ?_); rotate_left; focus (intro wS hSw; (try dsimp only at hSw); go_simp; first | done | with_reducible rfl); try simp only [Act.put, List.setIfInBounds_toArray, List.set_cons_zero, List.set_cons_succ])
  have x0 : WD.cell? ⟨X, 0, none⟩ = some c0 := cell_at HX.out 0
  have x1 : WD.cell? ⟨X, 1, none⟩ = some c1 := cell_at HX.out 1
  have x2 : WD.cell? ⟨X, 2, none⟩ = some c2 := cell_at HX.out 2
  have x3 : WD.cell? ⟨X, 3, none⟩ = some c3 := cell_at HX.out 3
  have x4 : WD.cell? ⟨X, 4, none⟩ = some c4 := cell_at HX.out 4
  have xf : ∀ j, WD.frozen? ⟨X, j, none⟩ = false := fun j => free_at HX.out j
  have xl : X < WD.heap.size := HX.out.lt
  refine wpAnyH_ready (rs := [3]) (by kernel_rfl) (by simp) ?_
  refine AllReadyH.cons (by (simp only [List.getElem?_toArray, List.getElem?_cons_succ, List.getElem?_cons_zero]); rfl) (fun K hK => ?_) AllReadyH.nil
  obtain ⟨W4, hW4⟩ : ∃ Y, Y = ((((WD.setCell ⟨X, 0, none⟩ (.int .i64 0)).setCell ⟨X, 1, none⟩ (.int .i8 0)).setCell ⟨X, 2, none⟩ (.int .i64 0)).setCell ⟨X, 3, none⟩ (.int .u8 0)).setCell ⟨X, 4, none⟩ (.slice none 0 0) := ⟨_, rfl⟩
  have hx4 : Blk W4 X #[.int .i64 0, .int .i8 0, .int .i64 0, .int .u8 0, .slice none 0 0] 25 := by rw [hW4]; exact (((((HX.out.set 0 _).set 1 _).set 2 _).set 3 _).set 4 _)
  have hf4 : Fr [X] WD W4 := by rw [hW4]; exact ((((((Fr.refl _ _).setCell _ (.inl (by simp)) _).setCell _ (.inl (by simp)) _).setCell _ (.inl (by simp)) _).setCell _ (.inl (by simp)) _).setCell _ (.inl (by simp)) _)
  have HLL := HLT.out
  have HDD := HD.out
  have hm4 : Blk W4 M #[.int .i64 0, .int .i8 0, .int .i64 0, .int .u8 0, .slice none 0 0] 25 := (hf4.block M HM.out.lt (by simp; omega)).trans HM.out
  have hn4 : Blk W4 N #[.int .i64 (a : Nat)] 144 := (hf4.block N HNN.out.lt (by simp; omega)).trans HNN.out
  have ha4 : Blk W4 A #[.int .i64 u] 3 := (hf4.block A HA.out.lt (by simp; omega)).trans HA.out
  have he4 : Blk W4 E #[.int .i64 v] 27 := (hf4.block E HE.out.lt (by simp; omega)).trans HE.out
  have HM4 := Lib.hid hm4
  have HN4 := Lib.hid hn4
  have HX4 := Lib.hid hx4
  have HF4 := Lib.hid hf4
  have HA4 := Lib.hid ha4
  have HE4 := Lib.hid he4
  have HW4 := Lib.hid hW4
  clear hx4 hf4 hm4 hn4 ha4 he4 HLL HDD hW4
  go_simp
  rw [← HW4.out]
  refine hK.out _ _ ⟨cell_at HM4.out 0, cell_at HM4.out 1, cell_at HM4.out 2, cell_at HM4.out 3, cell_at HM4.out 4, cell_at HN4.out 0⟩ (fun hHeld => ?_)
  clear hK K
  try simp only [Act.put, List.setIfInBounds_toArray, List.set_cons_zero, List.set_cons_succ]
  clear HW4 xf xl x0 x1 x2 x3 x4
  have y0 : W4.cell? ⟨A, 0, none⟩ = some (.int .i64 u) := cell_at HA4.out 0
  have y1 : W4.frozen? ⟨A, 0, none⟩ = false := free_at HA4.out 0
  refine wpAnyH_ready (rs := [4]) (by kernel_rfl) (by simp) ?_
  refine AllReadyH.cons (by (simp only [List.getElem?_toArray, List.getElem?_cons_succ, List.getElem?_cons_zero]); rfl) (fun K hK => ?_) AllReadyH.nil
  obtain ⟨W5, hW5⟩ : ∃ Y, Y = W4.setCell ⟨A, 0, none⟩ (.int .i64 (a : Nat)) := ⟨_, rfl⟩
  have hf5 : Fr [A] W4 W5 := by rw [hW5]; exact (Fr.refl _ _).setCell _ (.inl (by simp)) _
  have HLL := HLT.out
  have HDD := HD.out
  have HM5 := Lib.hid (Blk.trans3 HM4.out (hf5.block M HM4.out.lt (by simp; omega)))
  have HN5 := Lib.hid (Blk.trans3 HN4.out (hf5.block N HN4.out.lt (by simp; omega)))
  have HX5 := Lib.hid (Blk.trans3 HX4.out (hf5.block X HX4.out.lt (by simp; omega)))
  have HE5 := Lib.hid (Blk.trans3 HE4.out (hf5.block E HE4.out.lt (by simp; omega)))
  have HA5 := Lib.hid (show Blk W5 A #[.int .i64 (a : Nat)] 3 by rw [hW5]; exact HA4.out.set 0 _)
  have HF5 := Lib.hid hf5
  have HW5 := Lib.hid hW5
  clear HLL HDD hf5 hW5
  go_simp
  rw [← HW5.out]
  refine hK.out _ _ ⟨cell_at HM5.out 0, cell_at HM5.out 1, cell_at HM5.out 2, cell_at HM5.out 3, cell_at HM5.out 4, cell_at HN5.out 0⟩ (fun hHeld => ?_)
  clear hK K
  try simp only [Act.put, List.setIfInBounds_toArray, List.set_cons_zero, List.set_cons_succ]
  clear y0 y1 HW5
  have y0 : W5.cell? ⟨E, 0, none⟩ = some (.int .i64 v) := cell_at HE5.out 0
  have y1 : W5.frozen? ⟨E, 0, none⟩ = false := free_at HE5.out 0
  refine wpAnyH_ready (rs := [5]) (by kernel_rfl) (by simp) ?_
  refine AllReadyH.cons (by (simp only [List.getElem?_toArray, List.getElem?_cons_succ, List.getElem?_cons_zero]); rfl) (fun K hK => ?_) AllReadyH.nil
  obtain ⟨W6, hW6⟩ : ∃ Y, Y = W5.setCell ⟨E, 0, none⟩ (.int .i64 50) := ⟨_, rfl⟩
  have hf6 : Fr [E] W5 W6 := by rw [hW6]; exact (Fr.refl _ _).setCell _ (.inl (by simp)) _
  have HLL := HLT.out
  have HDD := HD.out
  have HM6 := Lib.hid (Blk.trans3 HM5.out (hf6.block M HM5.out.lt (by simp; omega)))
  have HN6 := Lib.hid (Blk.trans3 HN5.out (hf6.block N HN5.out.lt (by simp; omega)))
  have HX6 := Lib.hid (Blk.trans3 HX5.out (hf6.block X HX5.out.lt (by simp; omega)))
  have HA6 := Lib.hid (Blk.trans3 HA5.out (hf6.block A HA5.out.lt (by simp; omega)))
  have HE6 := Lib.hid (show Blk W6 E #[.int .i64 50] 27 by rw [hW6]; exact HE5.out.set 0 _)
  have HF6 := Lib.hid hf6
  have HW6 := Lib.hid hW6
  clear HLL HDD hf6 hW6
  go_simp
  rw [← HW6.out]
  refine hK.out _ _ ⟨cell_at HM6.out 0, cell_at HM6.out 1, cell_at HM6.out 2, cell_at HM6.out 3, cell_at HM6.out 4, cell_at HN6.out 0⟩ (fun hHeld => ?_)
  clear hK K
  try simp only [Act.put, List.setIfInBounds_toArray, List.set_cons_zero, List.set_cons_succ]
  clear y0 y1 HW6
  refine wpAnyH_done (by kernel_rfl) ?_ _
  try simp only [Act.put, List.setIfInBounds_toArray, List.set_cons_zero, List.set_cons_succ]
  try go_wp2_with fail
  have hFR : Fr [X, A, E] W W6 := ⟨HF6.out.os.trans (HF5.out.os.trans (HF4.out.os.trans HB.out.os)), HF6.out.tape.trans (HF5.out.tape.trans (HF4.out.tape.trans HB.out.tape)), HF6.out.output.trans (HF5.out.output.trans (HF4.out.output.trans HB.out.output)), Nat.le_trans HB.out.size (Nat.le_trans HF4.out.size (Nat.le_trans HF5.out.size HF6.out.size)), fun q hq hm => by
    simp only [List.mem_cons, List.not_mem_nil, or_false, not_or] at hm
    have h1 := HB.out.size
    have h2 := HF4.out.size
    have h3 := HF5.out.size
    rw [HF6.out.block q (by omega) (by simpa using hm.2.2), HF5.out.block q (by omega) (by simpa using hm.2.1), HF4.out.block q (by omega) (by simpa using hm.1), HB.out.block q hq]⟩
  refine ⟨rfl, _, rfl, _, results_none rfl _ _ _, rfl, rfl, HX6.out, HA6.out, HE6.out, hFR⟩
set_option maxRecDepth 100000 in
set_option maxHeartbeats 8000000 in
theorem idle_Entry (W : World) (X A E : Nat) :
    CallsD Tryd.prog 79 #[.pointer (some ⟨X, 0, none⟩), .pointer (some ⟨A, 0, none⟩), .pointer (some ⟨E, 0, none⟩)] .returning W fun e u' w' => e = .returned (.tuple #[]) ∧ u' = .returning ∧ Below W.heap.size W w' := by
  refine callsD_of_wpS Tryd.func79 rfl fun c₀ cs hu => ?_
  simp only [Tryd.ntmps79, List.size_toArray, List.length_cons, List.length_nil, Nat.reduceAdd, Nat.reduceSub, Array.replicate_succ, Array.replicate_zero, List.push_toArray, List.append_toArray, List.nil_append, List.cons_append]
  apply wpS_seq
  apply wpS_region
  obtain ⟨r8, h8⟩ : ∃ r : List Nat, r = [] := ⟨_, rfl⟩
  obtain ⟨r7, h7⟩ : ∃ r : List Nat, r = 7 :: r8 := ⟨_, rfl⟩
  obtain ⟨r6, h6⟩ : ∃ r : List Nat, r = 6 :: r7 := ⟨_, rfl⟩
  obtain ⟨r5, h5⟩ : ∃ r : List Nat, r = 5 :: r6 := ⟨_, rfl⟩
  obtain ⟨r4, h4⟩ : ∃ r : List Nat, r = 4 :: r5 := ⟨_, rfl⟩
  obtain ⟨r3, h3⟩ : ∃ r : List Nat, r = 3 :: r4 := ⟨_, rfl⟩
  obtain ⟨r2, h2⟩ : ∃ r : List Nat, r = 2 :: r3 := ⟨_, rfl⟩
  obtain ⟨r1, h1⟩ : ∃ r : List Nat, r = 1 :: r2 := ⟨_, rfl⟩
  show wpOpsS _ _ _ (0 :: [1, 2, 3, 4, 5, 6, 7]) _ _ _
  rw [show ([1, 2, 3, 4, 5, 6, 7] : List Nat) = r1 by rw [h1, h2, h3, h4, h5, h6, h7, h8]]
  refine opsS_rec0 (by (simp only [List.getElem?_toArray, List.getElem?_cons_succ, List.getElem?_cons_zero]); rfl) (by rfl) (by go_simp) (rec0 hu) ?_
  simp only [Act.put, List.setIfInBounds_toArray, List.set_cons_zero, List.set_cons_succ]
  rw [h1]
  refine opsS_step (.tuple #[.agg #[.int .i64 0], .bool false]) (by (simp only [List.getElem?_toArray, List.getElem?_cons_succ, List.getElem?_cons_zero]); rfl) (by rfl) (by go_simp; (try simp only [ta_yes, ta_no, Result.andThen_ok]); first | done | with_reducible rfl) ?_
  simp only [Act.put, List.setIfInBounds_toArray, List.set_cons_zero, List.set_cons_succ]
  rw [h2]
  refine opsS_step (.tuple #[.agg #[.int .i64 0], .bool false]) (by (simp only [List.getElem?_toArray, List.getElem?_cons_succ, List.getElem?_cons_zero]); rfl) (by rfl) (by go_simp; (try simp only [ta_yes, ta_no, Result.andThen_ok]); first | done | with_reducible rfl) ?_
  simp only [Act.put, List.setIfInBounds_toArray, List.set_cons_zero, List.set_cons_succ]
  rw [h3]
  refine opsS_step (.agg #[.int .i64 0]) (by (simp only [List.getElem?_toArray, List.getElem?_cons_succ, List.getElem?_cons_zero]); rfl) (by rfl) (by go_simp; (try simp only [ta_yes, ta_no, Result.andThen_ok]); first | done | with_reducible rfl) ?_
  simp only [Act.put, List.setIfInBounds_toArray, List.set_cons_zero, List.set_cons_succ]
  rw [h4]
  refine opsS_step (.bool false) (by (simp only [List.getElem?_toArray, List.getElem?_cons_succ, List.getElem?_cons_zero]); rfl) (by rfl) (by go_simp; (try simp only [ta_yes, ta_no, Result.andThen_ok]); first | done | with_reducible rfl) ?_
  simp only [Act.put, List.setIfInBounds_toArray, List.set_cons_zero, List.set_cons_succ]
  obtain ⟨N, hN⟩ : ∃ N, N = W.heap.size := ⟨_, rfl⟩
  obtain ⟨W1, hW1⟩ : ∃ X, X = W.alloc (.cells #[.int .i64 0] 144) := ⟨_, rfl⟩
  obtain ⟨W2, hW2⟩ : ∃ X, X = W1.setCell ⟨N, 0, none⟩ (.int .i64 0) := ⟨_, rfl⟩
  have hb1 : Blk W1 N #[.int .i64 0] 144 := by rw [hW1, hN]; exact blk_new _ _ _
  have z0 : W1.cell? ⟨N, 0, none⟩ = some (.int .i64 0) := cell_at hb1 0
  have z1 : W1.frozen? ⟨N, 0, none⟩ = false := free_at hb1 0
  rw [h5]
  refine opsS_step (w' := W1) (.pointer (some ⟨N, 0, none⟩)) (by (simp only [List.getElem?_toArray, List.getElem?_cons_succ, List.getElem?_cons_zero]); rfl) (by rfl) (by rw [hW1, hN]; go_simp; first | done | with_reducible rfl) ?_
  simp only [Act.put, List.setIfInBounds_toArray, List.set_cons_zero, List.set_cons_succ]
  rw [h6]
  refine opsS_skip (w' := W2) (by (simp only [List.getElem?_toArray, List.getElem?_cons_succ, List.getElem?_cons_zero]); rfl) (by rfl) (by rw [hW2]; clear hW2; go_simp; first | done | with_reducible rfl) ?_
  simp only [Act.put, List.setIfInBounds_toArray, List.set_cons_zero, List.set_cons_succ]
  rw [h7]
  refine opsS_step (w' := W2) (.bool false) (by (simp only [List.getElem?_toArray, List.getElem?_cons_succ, List.getElem?_cons_zero]); rfl) (by rfl) (by clear hW2; go_simp; first | done | with_reducible rfl) ?_
  simp only [Act.put, List.setIfInBounds_toArray, List.set_cons_zero, List.set_cons_succ]
  rw [h8]
  clear h1 h2 h3 h4 h5 h6 h7 h8
  simp only [wpOpsS, Exit.thenS]
  refine wpS_of_wp ?_
  have hb2 : Blk W2 N #[.int .i64 0] 144 := by rw [hW2]; exact hb1.set 0 _
  have hf : Fr [N] W1 W2 := by rw [hW2]; exact (Fr.refl _ _).setCell _ (.inl (by simp)) _
  have hB1 : Below W.heap.size W W1 := by rw [hW1]; exact alloc_b _ _
  have hB2 : Below W.heap.size W W2 := hB1.trans (hf.below hB1.size (by simp; omega))
  have HB := Lib.hid hB2
  clear z0 z1 hb1 hb2 hf hB1 hB2 hW2 hW1 hN
  try go_wp2_with fail
  refine ⟨rfl, c₀.mode, by cases c₀; rfl, _, results_none rfl _ _ _, rfl, hu, HB.out⟩
set_option maxRecDepth 100000 in
set_option maxHeartbeats 8000000 in
theorem read_Entry {α : Type} (W : World) (lo : Nat) (hlo : lo ≤ W.heap.size) (v : Value) (bs : List Nat) (K : FuncId) (R : Except Nat (Nat × α)) (KP : World → Nat → Nat → α → Prop) (hK : EntK K) (hv : BL lo W v bs) (hlen : bs.length ≤ 1048576)
    (hcall : ∀ (W2 : World) (X y : Nat), Below W.heap.size W W2 → X ≠ y → W.heap.size ≤ X → Blk W2 X #[.int .i64 0, .int .i8 0, .int .i64 0, .int .u8 0, .slice none 0 0] 25 → (eyeS y lo bs).In W2 0 → Calls Tryd.prog K #[(eyeS y lo bs).hv, .pointer (some ⟨X, 0, none⟩)] W2 (EndS (eyeS y lo bs) (cellN 25 X 0 5) W2 R fun x W' => (eyeS y lo bs).In W' x.1 ∧ KP W' X y x.2))
    (hKP : ∀ W1 W2 X y x, W.heap.size ≤ W1.heap.size → FrA (eyeS y lo bs) (fun _ _ _ => False) W1 W2 → KP W1 X y x → KP W2 X y x)
    (hone : ∀ W' X y x cs, KP W' X y x → Blk W' X cs 25 → ∀ (i : Nat) u, i < 5 → cs[i]? = some u → u.oneCell' = true) :
    Calls Tryd.prog 40 #[v, .func (.func K) #[] #[]] W fun e W' => FB lo W W' ∧ match R with
      | .error a => e = .returned (.tuple #[.agg #[.int .i64 0, .int .i8 0, .int .i64 0, .int .u8 0, .slice none 0 0], .int .i64 (a : Nat), .int .i64 50])
      | .ok (s, x) => (s < bs.length → e = .returned (.tuple #[.agg #[.int .i64 0, .int .i8 0, .int .i64 0, .int .u8 0, .slice none 0 0], .int .i64 (s : Nat), .int .i64 50])) ∧ (¬ s < bs.length → ∃ X y cs, e = .returned (.tuple #[.agg cs, .int .i64 0, .int .i64 0]) ∧ KP W' X y x ∧ Blk W' X cs 25 ∧ cs.size = 5 ∧ W.heap.size ≤ X ∧ X ≠ y) := by
  have hv0 := hv
  obtain ⟨a, b, o, c, rfl, hby, hbl⟩ := hv
  obtain ⟨ln, hln⟩ : ∃ ln, ln = bs.length := ⟨_, rfl⟩
  obtain ⟨X, hX⟩ : ∃ X, X = W.heap.size := ⟨_, rfl⟩
  obtain ⟨A, hA⟩ : ∃ A, A = X + 1 := ⟨_, rfl⟩
  obtain ⟨E, hE⟩ : ∃ E, E = A + 1 := ⟨_, rfl⟩
  obtain ⟨y, hy⟩ : ∃ y, y = E + 1 := ⟨_, rfl⟩
  obtain ⟨W1, hW1⟩ : ∃ Y, Y = W.alloc (.cells #[.int .i64 0, .int .i8 0, .int .i64 0, .int .u8 0, .slice none 0 0] 25) := ⟨_, rfl⟩
  obtain ⟨W2, hW2⟩ : ∃ Y, Y = W1.alloc (.cells #[.int .i64 0] 3) := ⟨_, rfl⟩
  obtain ⟨W3, hW3⟩ : ∃ Y, Y = W2.alloc (.cells #[.int .i64 0] 27) := ⟨_, rfl⟩
  obtain ⟨W4, hW4⟩ : ∃ Y, Y = W3.alloc (.cells #[.slice a ln c, .int .i64 0] 148) := ⟨_, rfl⟩
  have b1 : Below W.heap.size W W1 := by rw [hW1]; exact alloc_b _ _
  have b2 : Below W1.heap.size W1 W2 := by rw [hW2]; exact alloc_b _ _
  have b3 : Below W2.heap.size W2 W3 := by rw [hW3]; exact alloc_b _ _
  have b4 : Below W3.heap.size W3 W4 := by rw [hW4]; exact alloc_b _ _
  have s1 : W1.heap.size = A := by rw [hW1, hA, hX]; simp
  have s2 : W2.heap.size = E := by rw [hW2, hE, ← s1]; simp
  have s3 : W3.heap.size = y := by rw [hW3, hy, ← s2]; simp
  have B4 : Below W.heap.size W W4 := b1.trans ((b2.mono b1.size).trans ((b3.mono (Nat.le_trans b1.size b2.size)).trans (b4.mono (Nat.le_trans b1.size (Nat.le_trans b2.size b3.size)))))
  have kx1 : Blk W1 X #[.int .i64 0, .int .i8 0, .int .i64 0, .int .u8 0, .slice none 0 0] 25 := by rw [hW1, hX]; exact blk_new _ _ _
  have ka2 : Blk W2 A #[.int .i64 0] 3 := by rw [hW2, ← s1]; exact blk_new _ _ _
  have ke3 : Blk W3 E #[.int .i64 0] 27 := by rw [hW3, ← s2]; exact blk_new _ _ _
  have ky4 : Blk W4 y #[.slice a ln c, .int .i64 ((0 : Nat) : Int)] 148 := by rw [hW4, ← s3]; exact blk_new _ _ _
  have kx4 := ((kx1.step b2).step b3).step b4
  have ka4 := (ka2.step b3).step b4
  have ke4 := ke3.step b4
  have hI : (eyeS y lo bs).In W4 0 := ⟨_, ky4, BL.fr (W := W) ⟨a, b, o, c, by rw [hln], hby, hbl⟩ (fun q hq => B4.block q (by omega)) B4.size, Nat.zero_le _, by omega, hlen⟩
  have hc := hcall W4 X y B4 (by omega) (by omega) kx4 hI
  unfold HS.hv fv at hc
  have HC := Lib.hid (show Calls Tryd.prog K #[.agg #[.func (.func 80) #[.pointer (some ⟨y, 0, none⟩)] #[], .func (.func 81) #[.pointer (some ⟨y, 0, none⟩)] #[], .func (.func 82) #[.pointer (some ⟨y, 0, none⟩)] #[], .func (.func 83) #[.pointer (some ⟨y, 0, none⟩)] #[], .func (.func 84) #[.pointer (some ⟨y, 0, none⟩)] #[], .func (.func 85) #[.pointer (some ⟨y, 0, none⟩)] #[]], .pointer (some ⟨X, 0, none⟩)] W4 (EndS (eyeS y lo bs) (cellN 25 X 0 5) W4 R fun x W' => (eyeS y lo bs).In W' x.1 ∧ KP W' X y x.2) from hc)
  have hk2 := hK
  unfold EntK at hk2
  have HKP := Lib.hid hKP
  have HONE := Lib.hid hone
  have HKX := Lib.hid kx4
  have HKA := Lib.hid ka4
  have HKE := Lib.hid ke4
  have HB4 := Lib.hid B4
  have HS := Lib.hid (And.intro s1 (And.intro s2 s3))
  have HXX := Lib.hid (And.intro hX (And.intro hA (And.intro hE hy)))
  have HLN := Lib.hid hln
  have hmf : ∀ (fn : Fn) (first cap : Array Value) (w : World), (Instr.makeFunc fn first cap).run Tryd.prog w = .ok (.func fn first cap) w := fun _ _ _ _ => rfl
  have t0 : ((1048576 : Int) < (ln : Int)) = False := eq_false (by omega)
  have t1 : (1048576 < ln) = False := eq_false (by omega)
  rw [← hln]
  have HDD := Lib.hid (show X ≠ A ∧ X ≠ E ∧ A ≠ E by omega)
  have HYY := Lib.hid (show X ≠ y ∧ A ≠ y ∧ E ≠ y by omega)
  have HLO := Lib.hid hlo
  clear hcall hKP hone hlo hbl b1 b2 b3 b4 s1 s2 s3 B4 kx1 ka2 ke3 ky4 kx4 ka4 ke4 hI hc hv0 hby hA hE hy hlen hln hX
  rcases hR : R with ae | ⟨s, x⟩
  · have HC1 := Lib.hid (endS_err HC.out hR)
    clear hR HC
    go_enter_defers Tryd.func40, Tryd.ntmps40
    go_upto_region 1 with fail
    rw [← HXX.out.1, ← hW1, ← HXX.out.2.1, ← HXX.out.2.2.1, ← hW2, ← hW3]
    clear hW1 hW2 hW3
    go_upto_region 5 with fail
    rw [HS.out.2.2, ← hW4]
    clear hW4
    go_wp2_with (refine Calls.mono HC1.out ?_; rintro e W5 ⟨hF, rfl⟩)
    have hx5 : ∃ cx, Blk W5 X cx 25 ∧ cx.size = 5 := by
      obtain ⟨c1, h1, h2, _⟩ := hF.blk X _ _ HKX.out (⟨HYY.out.1, by have := HXX.out.1; have := HLO.out; show lo ≤ X; omega⟩ : X ≠ y ∧ lo ≤ X)
      exact ⟨c1, h1, h2⟩
    obtain ⟨cx, hx5, hcn⟩ := hx5
    have ha5 := blk_keep HKA.out (⟨HYY.out.2.1, by have := HXX.out.1; have := HXX.out.2.1; have := HLO.out; omega⟩ : (eyeS y lo bs).Pr A 3) hF (fun j h => HDD.out.1 h.2.1.symm)
    have he5 := blk_keep HKE.out (⟨HYY.out.2.2, by have := HXX.out.1; have := HXX.out.2.1; have := HXX.out.2.2.1; have := HLO.out; omega⟩ : (eyeS y lo bs).Pr E 27) hF (fun j h => HDD.out.2.1 h.2.1.symm)
    have hb5 : FB lo W W5 := FB.of hF HB4.out HLO.out (by have := HXX.out.1; omega) (by have := HXX.out.1; have := HXX.out.2.1; have := HXX.out.2.2.1; have := HXX.out.2.2.2; omega)
    refine leaves_cons (f := 79) (args := #[.pointer (some ⟨X, 0, none⟩), .pointer (some ⟨A, 0, none⟩), .pointer (some ⟨E, 0, none⟩)]) (by simp) (by simp [go_sem]) ?_
    refine (catch_Entry W5 X A E cx 0 0 ae hx5 ha5 he5 hcn HDD.out).mono ?_
    rintro e u' W9 ⟨rfl, rfl, hx9, ha9, he9, hf9⟩
    have HB9 := Lib.hid (FB.thenB hb5 (hf9.below (Nat.le_trans HB4.out.size hF.size) (by have := HXX.out.1; have := HXX.out.2.1; have := HXX.out.2.2.1; simp; omega)) HLO.out)
    have z0 : W9.cell? ⟨X, 0, none⟩ = some (.int .i64 0) := cell_at hx9 0
    have z1 : W9.cell? ⟨X, 1, none⟩ = some (.int .i8 0) := cell_at hx9 1
    have z2 : W9.cell? ⟨X, 2, none⟩ = some (.int .i64 0) := cell_at hx9 2
    have z3 : W9.cell? ⟨X, 3, none⟩ = some (.int .u8 0) := cell_at hx9 3
    have z4 : W9.cell? ⟨X, 4, none⟩ = some (.slice none 0 0) := cell_at hx9 4
    have za : W9.cell? ⟨A, 0, none⟩ = some (.int .i64 (ae : Nat)) := cell_at ha9 0
    have ze : W9.cell? ⟨E, 0, none⟩ = some (.int .i64 50) := cell_at he9 0
    clear hx9 ha9 he9 hf9 hb5
    exact ⟨.tuple #[.agg #[.int .i64 0, .int .i8 0, .int .i64 0, .int .u8 0, .slice none 0 0], .int .i64 (ae : Nat), .int .i64 50], by simp [results, Tryd.results40, go_sem, z0, z1, z2, z3, z4, za, ze], HB9.out, rfl⟩
  · have HC1 := Lib.hid (endS_ok HC.out hR)
    clear hR HC
    show Calls Tryd.prog _ _ W fun e W' => FB lo W W' ∧ (s < ln → e = .returned (.tuple #[.agg #[.int .i64 0, .int .i8 0, .int .i64 0, .int .u8 0, .slice none 0 0], .int .i64 (s : Nat), .int .i64 50])) ∧ (¬ s < ln → ∃ X y cs, e = .returned (.tuple #[.agg cs, .int .i64 0, .int .i64 0]) ∧ KP W' X y x ∧ Blk W' X cs 25 ∧ cs.size = 5 ∧ W.heap.size ≤ X ∧ X ≠ y)
    by_cases hsl : s < ln
    · skip
      have b0 : ((s : Int) < (ln : Int)) = True := eq_true (by omega)
      have b1 : (s < ln) = True := eq_true hsl
      go_enter_defers Tryd.func40, Tryd.ntmps40
      go_upto_region 1 with fail
      rw [← HXX.out.1, ← hW1, ← HXX.out.2.1, ← HXX.out.2.2.1, ← hW2, ← hW3]
      clear hW1 hW2 hW3
      go_upto_region 5 with fail
      rw [HS.out.2.2, ← hW4]
      clear hW4
      go_wp2_with (refine Calls.mono HC1.out ?_; rintro e W5 ⟨hF, rfl, ⟨v5, hy5, -, -, -⟩, -⟩; have q1 : W5.cell? ⟨y, 1, none⟩ = some (.int .i64 (s : Nat)) := cell_at hy5 1)
      clear hy5 q1
      have hx5 : ∃ cx, Blk W5 X cx 25 ∧ cx.size = 5 := by
        obtain ⟨c1, h1, h2, _⟩ := hF.blk X _ _ HKX.out (⟨HYY.out.1, by have := HXX.out.1; have := HLO.out; show lo ≤ X; omega⟩ : X ≠ y ∧ lo ≤ X)
        exact ⟨c1, h1, h2⟩
      obtain ⟨cx, hx5, hcn⟩ := hx5
      have ha5 := blk_keep HKA.out (⟨HYY.out.2.1, by have := HXX.out.1; have := HXX.out.2.1; have := HLO.out; omega⟩ : (eyeS y lo bs).Pr A 3) hF (fun j h => HDD.out.1 h.2.1.symm)
      have he5 := blk_keep HKE.out (⟨HYY.out.2.2, by have := HXX.out.1; have := HXX.out.2.1; have := HXX.out.2.2.1; have := HLO.out; omega⟩ : (eyeS y lo bs).Pr E 27) hF (fun j h => HDD.out.2.1 h.2.1.symm)
      have hb5 : FB lo W W5 := FB.of hF HB4.out HLO.out (by have := HXX.out.1; omega) (by have := HXX.out.1; have := HXX.out.2.1; have := HXX.out.2.2.1; have := HXX.out.2.2.2; omega)
      refine leaves_cons (f := 79) (args := #[.pointer (some ⟨X, 0, none⟩), .pointer (some ⟨A, 0, none⟩), .pointer (some ⟨E, 0, none⟩)]) (by simp) (by simp [go_sem]) ?_
      refine (catch_Entry W5 X A E cx 0 0 s hx5 ha5 he5 hcn HDD.out).mono ?_
      rintro e u' W9 ⟨rfl, rfl, hx9, ha9, he9, hf9⟩
      have HB9 := Lib.hid (FB.thenB hb5 (hf9.below (Nat.le_trans HB4.out.size hF.size) (by have := HXX.out.1; have := HXX.out.2.1; have := HXX.out.2.2.1; simp; omega)) HLO.out)
      have z0 : W9.cell? ⟨X, 0, none⟩ = some (.int .i64 0) := cell_at hx9 0
      have z1 : W9.cell? ⟨X, 1, none⟩ = some (.int .i8 0) := cell_at hx9 1
      have z2 : W9.cell? ⟨X, 2, none⟩ = some (.int .i64 0) := cell_at hx9 2
      have z3 : W9.cell? ⟨X, 3, none⟩ = some (.int .u8 0) := cell_at hx9 3
      have z4 : W9.cell? ⟨X, 4, none⟩ = some (.slice none 0 0) := cell_at hx9 4
      have za : W9.cell? ⟨A, 0, none⟩ = some (.int .i64 (s : Nat)) := cell_at ha9 0
      have ze : W9.cell? ⟨E, 0, none⟩ = some (.int .i64 50) := cell_at he9 0
      clear hx9 ha9 he9 hf9 hb5
      exact ⟨.tuple #[.agg #[.int .i64 0, .int .i8 0, .int .i64 0, .int .u8 0, .slice none 0 0], .int .i64 (s : Nat), .int .i64 50], by simp [results, Tryd.results40, go_sem, z0, z1, z2, z3, z4, za, ze], HB9.out, fun _ => rfl, fun h => absurd hsl h⟩
    · skip
      have b0 : ((s : Int) < (ln : Int)) = False := eq_false (by omega)
      have b1 : (s < ln) = False := eq_false hsl
      go_enter_defers Tryd.func40, Tryd.ntmps40
      go_upto_region 1 with fail
      rw [← HXX.out.1, ← hW1, ← HXX.out.2.1, ← HXX.out.2.2.1, ← hW2, ← hW3]
      clear hW1 hW2 hW3
      go_upto_region 5 with fail
      rw [HS.out.2.2, ← hW4]
      clear hW4
      go_wp2_with (refine Calls.mono HC1.out ?_; rintro e W5 ⟨hF, rfl, ⟨v5, hy5, -, -, -⟩, hkp⟩; have q1 : W5.cell? ⟨y, 1, none⟩ = some (.int .i64 (s : Nat)) := cell_at hy5 1; obtain ⟨cx, hx5, hcn, -⟩ := hF.blk X _ _ HKX.out (show X ≠ y ∧ lo ≤ X from ⟨HYY.out.1, by have := HXX.out.1; have := HLO.out; omega⟩); have hcn : cx.size = 5 := hcn; obtain ⟨c0, c1, c2, c3, c4, hcx⟩ := len5 (show cx.toList.length = 5 by simpa using hcn); obtain rfl : cx = #[c0, c1, c2, c3, c4] := (by apply Array.ext'; rw [hcx]); clear hcx hcn; have ha5 := blk_keep HKA.out (show A ≠ y ∧ lo ≤ A from ⟨HYY.out.2.1, by have := HLO.out; have := HXX.out.1; have := HXX.out.2.1; omega⟩) hF (fun j h => HDD.out.1 h.2.1.symm); have he5 := blk_keep HKE.out (show E ≠ y ∧ lo ≤ E from ⟨HYY.out.2.2, by have := HLO.out; have := HXX.out.1; have := HXX.out.2.1; have := HXX.out.2.2.1; omega⟩) hF (fun j h => HDD.out.2.1 h.2.1.symm); have x0 : W5.cell? ⟨X, 0, none⟩ = some c0 := cell_at hx5 0; have x1 : W5.cell? ⟨X, 1, none⟩ = some c1 := cell_at hx5 1; have x2 : W5.cell? ⟨X, 2, none⟩ = some c2 := cell_at hx5 2; have x3 : W5.cell? ⟨X, 3, none⟩ = some c3 := cell_at hx5 3; have x4 : W5.cell? ⟨X, 4, none⟩ = some c4 := cell_at hx5 4; have st0 : ∀ p m w, (store p c0 m).run Tryd.prog w = stored Tryd.prog w p c0 m := (fun p m w => run_store Tryd.prog w p c0 m (HONE.out W5 X y x _ hkp hx5 0 c0 (by decide) rfl)); have st1 : ∀ p m w, (store p c1 m).run Tryd.prog w = stored Tryd.prog w p c1 m := (fun p m w => run_store Tryd.prog w p c1 m (HONE.out W5 X y x _ hkp hx5 1 c1 (by decide) rfl)); have st2 : ∀ p m w, (store p c2 m).run Tryd.prog w = stored Tryd.prog w p c2 m := (fun p m w => run_store Tryd.prog w p c2 m (HONE.out W5 X y x _ hkp hx5 2 c2 (by decide) rfl)); have st3 : ∀ p m w, (store p c3 m).run Tryd.prog w = stored Tryd.prog w p c3 m := (fun p m w => run_store Tryd.prog w p c3 m (HONE.out W5 X y x _ hkp hx5 3 c3 (by decide) rfl)); have st4 : ∀ p m w, (store p c4 m).run Tryd.prog w = stored Tryd.prog w p c4 m := (fun p m w => run_store Tryd.prog w p c4 m (HONE.out W5 X y x _ hkp hx5 4 c4 (by decide) rfl)); have xf : ∀ j, W5.frozen? ⟨X, j, none⟩ = false := (fun j => free_at hx5 j); have xl : X < W5.heap.size := hx5.lt; have al : A < W5.heap.size := ha5.lt; have el : E < W5.heap.size := he5.lt; have af : W5.frozen? ⟨A, 0, none⟩ = false := free_at ha5 0; have ef : W5.frozen? ⟨E, 0, none⟩ = false := free_at he5 0; have a0 : W5.cell? ⟨A, 0, none⟩ = some (.int .i64 0) := cell_at ha5 0; have e0 : W5.cell? ⟨E, 0, none⟩ = some (.int .i64 0) := cell_at he5 0; have HF := Lib.hid hF; have HKP5 := Lib.hid hkp; have HX5 := Lib.hid hx5; have HA5 := Lib.hid ha5; have HE5 := Lib.hid he5; have nxa : X ≠ A := HDD.out.1; have nxe : X ≠ E := HDD.out.2.1; have nae : A ≠ E := HDD.out.2.2; clear hF hkp hx5 ha5 he5 hy5)
      obtain ⟨W6, hW6⟩ : ∃ Y, Y = ((((((W5.setCell ⟨X, 0, none⟩ c0).setCell ⟨X, 1, none⟩ c1).setCell ⟨X, 2, none⟩ c2).setCell ⟨X, 3, none⟩ c3).setCell ⟨X, 4, none⟩ c4).setCell ⟨A, 0, none⟩ (.int .i64 0)).setCell ⟨E, 0, none⟩ (.int .i64 0) := ⟨_, rfl⟩
      have hq : EqW W5 W6 := by rw [hW6]; exact ((((((((EqW.refl W5).set x0).set x1).set x2).set x3).set x4).set a0).set e0)
      rw [← hW6]
      have hx6 : Blk W6 X #[c0, c1, c2, c3, c4] 25 := (hq.heap X).trans HX5.out
      have ha6 : Blk W6 A #[.int .i64 0] 3 := (hq.heap A).trans HA5.out
      have he6 : Blk W6 E #[.int .i64 0] 27 := (hq.heap E).trans HE5.out
      have hs6 : W.heap.size ≤ W6.heap.size := Nat.le_trans HB4.out.size (Nat.le_trans HF.out.size (Nat.le_of_eq hq.size.symm))
      have hb6 : FB lo W W6 := (FB.of HF.out HB4.out HLO.out (by have := HXX.out.1; omega) (by have := HXX.out.1; have := HXX.out.2.1; have := HXX.out.2.2.1; have := HXX.out.2.2.2; omega)).thenB ⟨hq.os, hq.tape, hq.output, Nat.le_of_eq hq.size.symm, fun q _ => hq.heap q⟩ HLO.out
      have hk6 := HKP.out W5 W6 X y x (Nat.le_trans HB4.out.size HF.out.size) hq.frA HKP5.out
      have HR6 := Lib.hid (And.intro hx6 (And.intro ha6 (And.intro he6 (And.intro hb6 (And.intro hk6 hs6)))))
      clear hq hx6 ha6 he6 hb6 hk6 hs6 hW6 x0 st0 x1 st1 x2 st2 x3 st3 x4 st4 xf xl al el af ef a0 e0 q1 nxa nxe nae
      refine leaves_cons (f := 79) (args := #[.pointer (some ⟨X, 0, none⟩), .pointer (some ⟨A, 0, none⟩), .pointer (some ⟨E, 0, none⟩)]) (by simp) (by simp [go_sem]) ?_
      refine (idle_Entry W6 X A E).mono ?_
      rintro e u' W9 ⟨rfl, rfl, hB9⟩
      obtain ⟨hx6, ha6, he6, hb6, hk6, hs6⟩ := HR6.out
      have z0 : W9.cell? ⟨X, 0, none⟩ = some c0 := cell_at (hx6.step hB9) 0
      have z1 : W9.cell? ⟨X, 1, none⟩ = some c1 := cell_at (hx6.step hB9) 1
      have z2 : W9.cell? ⟨X, 2, none⟩ = some c2 := cell_at (hx6.step hB9) 2
      have z3 : W9.cell? ⟨X, 3, none⟩ = some c3 := cell_at (hx6.step hB9) 3
      have z4 : W9.cell? ⟨X, 4, none⟩ = some c4 := cell_at (hx6.step hB9) 4
      have za : W9.cell? ⟨A, 0, none⟩ = some (.int .i64 0) := cell_at (ha6.step hB9) 0
      have ze : W9.cell? ⟨E, 0, none⟩ = some (.int .i64 0) := cell_at (he6.step hB9) 0
      have hk9 := HKP.out W6 W9 X y x hs6 (below_frA hB9 (show lo ≤ _ from Nat.le_trans HLO.out hs6) (fun _ _ _ => False)) hk6
      have HEND := Lib.hid (And.intro (hb6.thenB (hB9.mono hs6) HLO.out) (And.intro hk9 (hx6.step hB9)))
      clear hx6 ha6 he6 hb6 hk6 hs6 hB9 hk9
      exact ⟨.tuple #[.agg #[c0, c1, c2, c3, c4], .int .i64 0, .int .i64 0], by simp [results, Tryd.results40, go_sem, z0, z1, z2, z3, z4, za, ze], HEND.out.1, fun h => absurd h hsl, fun _ => ⟨X, y, _, rfl, HEND.out.2.1, HEND.out.2.2, rfl, by have := HXX.out.1; omega, HYY.out.1⟩⟩
end Go.Proofs.YtiednacpmlilbaaDoor
