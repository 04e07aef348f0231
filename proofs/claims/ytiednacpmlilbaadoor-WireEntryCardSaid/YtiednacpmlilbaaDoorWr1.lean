/-
  What a form finds in bytes: an answer.
-/
import Derived.Test.YtiednacpmlilbaaDoorWe5
import Derived.Defers
import Derived.Recover
import Derived.Laws.Pointers
namespace Go.Proofs.YtiednacpmlilbaaDoor
open Go.RowKit
set_option linter.unusedSimpArgs false
set_option linter.unusedVariables false

theorem Blk.trans3 {W W' : World} {q : Nat} {cs : Array Value} {ty : TypeId} (h : Blk W q cs ty) (k : W'.heap[q]? = W.heap[q]?) : Blk W' q cs ty := k.trans h
theorem ta_yes (a : Nat) (W : World) : (Instr.typeAssert (.iface 144 (.agg #[.int .i64 (a : Nat)])) 20 144 true).run Tryd.prog W = .ok (.tuple #[.agg #[.int .i64 (a : Nat)], .bool true]) W := by kernel_rfl
theorem ta_no (W : World) : (Instr.typeAssert .nilIface 20 144 true).run Tryd.prog W = .ok (.tuple #[.agg #[.int .i64 0], .bool false]) W := by kernel_rfl
theorem recD {c : Frame} {cs : List Frame} {v : Value} (hu : c.mode = .panicking [{ v := v, recovered := false }]) : recoverD (c :: cs) = some (v, { c with mode := .panicking [{ v := v, recovered := true }] } :: cs) := by
  simp [recoverD, hu]
theorem rec0 {c : Frame} {cs : List Frame} (hu : c.mode = .returning) : recoverD (c :: cs) = none := by
  simp [recoverD, hu]
theorem opsS_step {P : Program} {ops : Array Oper} {Q : Exit → Act → List Frame → World → Prop} {i : Nat} {rest : List Nat} {o : Oper} {a : Act} {cs : List Frame} {w w' : World} (v : Value) (ho : ops[i]? = some o) (hw : Region.wanted o (yielded ops a.tmps) = true)
    (hr : (execOp a.eval o).run P w = .ok (.value v) w') (h : wpOpsS P ops Q rest (a.put o.dst v) cs w') : wpOpsS P ops Q (i :: rest) a cs w := by
  unfold wpOpsS
  simp only [ho, hw, if_true, hr, Oper.upon]
  exact h
theorem opsS_skip {P : Program} {ops : Array Oper} {Q : Exit → Act → List Frame → World → Prop} {i : Nat} {rest : List Nat} {o : Oper} {a : Act} {cs : List Frame} {w w' : World} (ho : ops[i]? = some o) (hw : Region.wanted o (yielded ops a.tmps) = true)
    (hr : (execOp a.eval o).run P w = .ok .skip w') (h : wpOpsS P ops Q rest (a.put o.dst undef) cs w') : wpOpsS P ops Q (i :: rest) a cs w := by
  unfold wpOpsS
  simp only [ho, hw, if_true, hr, Oper.upon]
  exact h
theorem opsS_rec {P : Program} {ops : Array Oper} {Q : Exit → Act → List Frame → World → Prop} {i : Nat} {rest : List Nat} {o : Oper} {a : Act} {cs cs' : List Frame} {w : World} (v : Value) (ho : ops[i]? = some o) (hw : Region.wanted o (yielded ops a.tmps) = true)
    (hr : (execOp a.eval o).run P w = .ok .recover w) (hc : recoverD cs = some (v, cs')) (h : wpOpsS P ops Q rest (a.put o.dst v) cs' w) : wpOpsS P ops Q (i :: rest) a cs w := by
  unfold wpOpsS
  simp only [ho, hw, if_true, hr, hc]
  exact h
theorem opsS_rec0 {P : Program} {ops : Array Oper} {Q : Exit → Act → List Frame → World → Prop} {i : Nat} {rest : List Nat} {o : Oper} {a : Act} {cs : List Frame} {w : World} (ho : ops[i]? = some o) (hw : Region.wanted o (yielded ops a.tmps) = true)
    (hr : (execOp a.eval o).run P w = .ok .recover w) (hc : recoverD cs = none) (h : wpOpsS P ops Q rest (a.put o.dst .nilIface) cs w) : wpOpsS P ops Q (i :: rest) a cs w := by
  unfold wpOpsS
  simp only [ho, hw, if_true, hr, hc]
  exact h
set_option maxRecDepth 100000 in
set_option maxHeartbeats 8000000 in
theorem catch_Answer (W : World) (X A E : Nat) (cx : Array Value) (u v : Int) (a : Nat) (hx : Blk W X cx 48) (ha : Blk W A #[.int .i64 u] 3) (he : Blk W E #[.int .i64 v] 27) (hn : cx.size = 5) (hd : X ≠ A ∧ X ≠ E ∧ A ≠ E) :
    CallsD Tryd.prog 99 #[.pointer (some ⟨X, 0, none⟩), .pointer (some ⟨A, 0, none⟩), .pointer (some ⟨E, 0, none⟩)] (.panicking [{ v := refV a, recovered := false }]) W fun e u' w' =>
      e = .returned (.tuple #[]) ∧ u' = .panicking [{ v := refV a, recovered := true }] ∧ Blk w' X #[.int .i64 0, .int .i64 0, .int .i64 0, .int .i64 0, .int .i64 0] 48 ∧ Blk w' A #[.int .i64 (a : Nat)] 3 ∧ Blk w' E #[.int .i64 50] 27 ∧ Fr [X, A, E] W w' := by
  unfold refV
  refine callsD_of_wpS Tryd.func99 rfl fun c₀ cs hu => ?_
  simp only [Tryd.ntmps99, List.size_toArray, List.length_cons, List.length_nil, Nat.reduceAdd, Nat.reduceSub, Array.replicate_succ, Array.replicate_zero, List.push_toArray, List.append_toArray, List.nil_append, List.cons_append]
  apply wpS_seq
  apply wpS_region
  obtain ⟨r8, h8⟩ : ∃ r : List Nat, r = [] := ⟨_, rfl⟩
  obtain ⟨r7, h7⟩ : ∃ r : List Nat, r = 7 :: r8 := ⟨_, rfl⟩
  obtain ⟨r6, h6⟩ : ∃ r : List Nat, r = 6 :: r7 := ⟨_, rfl⟩
  obtain ⟨r5, h5⟩ : ∃ r : List Nat, r = 5 :: r6 := ⟨_, rfl⟩
  obtain ⟨r4, h4⟩ : ∃ r : List Nat, r = 4 :: r5 := ⟨_, rfl⟩
  obtain ⟨r3, h3⟩ : ∃ r : List Nat, r = 3 :: r4 := ⟨_, rfl⟩
  obtain ⟨r2, h2⟩ : ∃ r : List Nat, r = 2 :: r3 := ⟨_, rfl⟩
  obtain ⟨r1, h1⟩ : ∃ r : List Nat, r = 1 :: r2 := ⟨_, rfl⟩
  show wpOpsS _ _ _ (0 :: [1, 2, 3, 4, 5, 6, 7]) _ _ _
  rw [show ([1, 2, 3, 4, 5, 6, 7] : List Nat) = r1 by rw [h1, h2, h3, h4, h5, h6, h7, h8]]
  refine opsS_rec (.iface 144 (.agg #[.int .i64 (a : Nat)])) (by (simp only [List.getElem?_toArray, List.getElem?_cons_succ, List.getElem?_cons_zero]); rfl) (by rfl) (by go_simp) (recD hu) ?_
  simp only [Act.put, List.setIfInBounds_toArray, List.set_cons_zero, List.set_cons_succ]
  rw [h1]
  refine opsS_step (.tuple #[.agg #[.int .i64 (a : Nat)], .bool true]) (by (simp only [List.getElem?_toArray, List.getElem?_cons_succ, List.getElem?_cons_zero]); rfl) (by rfl) (by go_simp; (try simp only [ta_yes, ta_no, Result.andThen_ok]); first | done | with_reducible rfl) ?_
  simp only [Act.put, List.setIfInBounds_toArray, List.set_cons_zero, List.set_cons_succ]
  rw [h2]
  refine opsS_step (.tuple #[.agg #[.int .i64 (a : Nat)], .bool true]) (by (simp only [List.getElem?_toArray, List.getElem?_cons_succ, List.getElem?_cons_zero]); rfl) (by rfl) (by go_simp; (try simp only [ta_yes, ta_no, Result.andThen_ok]); first | done | with_reducible rfl) ?_
  simp only [Act.put, List.setIfInBounds_toArray, List.set_cons_zero, List.set_cons_succ]
  rw [h3]
  refine opsS_step (.agg #[.int .i64 (a : Nat)]) (by (simp only [List.getElem?_toArray, List.getElem?_cons_succ, List.getElem?_cons_zero]); rfl) (by rfl) (by go_simp; (try simp only [ta_yes, ta_no, Result.andThen_ok]); first | done | with_reducible rfl) ?_
  simp only [Act.put, List.setIfInBounds_toArray, List.set_cons_zero, List.set_cons_succ]
  rw [h4]
  refine opsS_step (.bool true) (by (simp only [List.getElem?_toArray, List.getElem?_cons_succ, List.getElem?_cons_zero]); rfl) (by rfl) (by go_simp; (try simp only [ta_yes, ta_no, Result.andThen_ok]); first | done | with_reducible rfl) ?_
  simp only [Act.put, List.setIfInBounds_toArray, List.set_cons_zero, List.set_cons_succ]
  obtain ⟨N, hN⟩ : ∃ N, N = W.heap.size := ⟨_, rfl⟩
  obtain ⟨W1, hW1⟩ : ∃ X, X = W.alloc (.cells #[.int .i64 0] 144) := ⟨_, rfl⟩
  obtain ⟨W2, hW2⟩ : ∃ X, X = W1.setCell ⟨N, 0, none⟩ (.int .i64 (a : Nat)) := ⟨_, rfl⟩
  have hb1 : Blk W1 N #[.int .i64 0] 144 := by rw [hW1, hN]; exact blk_new _ _ _
  have z0 : W1.cell? ⟨N, 0, none⟩ = some (.int .i64 0) := cell_at hb1 0
  have z1 : W1.frozen? ⟨N, 0, none⟩ = false := free_at hb1 0
  rw [h5]
  refine opsS_step (w' := W1) (.pointer (some ⟨N, 0, none⟩)) (by (simp only [List.getElem?_toArray, List.getElem?_cons_succ, List.getElem?_cons_zero]); rfl) (by rfl) (by rw [hW1, hN]; go_simp; first | done | with_reducible rfl) ?_
  simp only [Act.put, List.setIfInBounds_toArray, List.set_cons_zero, List.set_cons_succ]
  rw [h6]
  refine opsS_skip (w' := W2) (by (simp only [List.getElem?_toArray, List.getElem?_cons_succ, List.getElem?_cons_zero]); rfl) (by rfl) (by rw [hW2]; clear hW2; go_simp; first | done | with_reducible rfl) ?_
  simp only [Act.put, List.setIfInBounds_toArray, List.set_cons_zero, List.set_cons_succ]
  rw [h7]
  refine opsS_step (w' := W2) (.bool true) (by (simp only [List.getElem?_toArray, List.getElem?_cons_succ, List.getElem?_cons_zero]); rfl) (by rfl) (by clear hW2; go_simp; first | done | with_reducible rfl) ?_
  simp only [Act.put, List.setIfInBounds_toArray, List.set_cons_zero, List.set_cons_succ]
  rw [h8]
  clear h1 h2 h3 h4 h5 h6 h7 h8
  simp only [wpOpsS, Exit.thenS]
  refine wpS_of_wp ?_
  have hb2 : Blk W2 N #[.int .i64 (a : Nat)] 144 := by rw [hW2]; exact hb1.set 0 _
  have hf : Fr [N] W1 W2 := by rw [hW2]; exact (Fr.refl _ _).setCell _ (.inl (by simp)) _
  have hB1 : Below W.heap.size W W1 := by rw [hW1]; exact alloc_b _ _
  have hB2 : Below W.heap.size W W2 := hB1.trans (hf.below hB1.size (by simp; omega))
  obtain ⟨W3, hW3⟩ : ∃ X, X = W2.alloc (.cells #[.int .i64 0, .int .i64 0, .int .i64 0, .int .i64 0, .int .i64 0] 48) := ⟨_, rfl⟩
  have hB3 : Below W.heap.size W W3 := hB2.trans (by rw [hW3]; exact (alloc_b W2 _).mono hB2.size)
  obtain ⟨M, hM⟩ : ∃ M, M = W2.heap.size := ⟨_, rfl⟩
  have hb3 : Blk W3 M #[.int .i64 0, .int .i64 0, .int .i64 0, .int .i64 0, .int .i64 0] 48 := by rw [hW3, hM]; exact blk_new _ _ _
  have hn3 : Blk W3 N #[.int .i64 (a : Nat)] 144 := hb2.step (by rw [hW3]; exact alloc_b W2 _)
  have HX := Lib.hid (hx.step hB3)
  have HA := Lib.hid (ha.step hB3)
  have HE := Lib.hid (he.step hB3)
  have HM := Lib.hid hb3
  have HNN := Lib.hid hn3
  have HB := Lib.hid hB3
  have HD := Lib.hid hd
  have HCN := Lib.hid hn
  have HLT := Lib.hid (show X < W.heap.size ∧ A < W.heap.size ∧ E < W.heap.size ∧ W.heap.size ≤ M ∧ W.heap.size ≤ N ∧ M ≠ N from ⟨hx.lt, ha.lt, he.lt, by rw [hM]; exact hB2.size, by omega, ne_ty hb3 hn3 (by decide)⟩)
  clear z0 z1 hb1 hb2 hf hB1 hB2 hB3 hb3 hn3 hW2 hW1 hN hx ha he hd hn
  go_upto_region 3 with fail
  rw [← hM, ← hW3]
  clear hM hW3
  obtain ⟨c0, c1, c2, c3, c4, hcx⟩ := len5 (show cx.toList.length = 5 by simpa using HCN.out)
  obtain rfl : cx = #[c0, c1, c2, c3, c4] := by apply Array.ext'; rw [hcx]
  clear hcx
  have hdw := drew_b W3
  obtain ⟨WD, hWD⟩ : ∃ X, X = W3.drew := ⟨_, rfl⟩
  rw [← hWD] at hdw
  replace HX := Lib.hid (HX.out.step hdw)
  replace HA := Lib.hid (HA.out.step hdw)
  replace HE := Lib.hid (HE.out.step hdw)
  replace HM := Lib.hid (HM.out.step hdw)
  replace HNN := Lib.hid (HNN.out.step hdw)
  replace HB := Lib.hid (HB.out.trans (hdw.mono HB.out.size))
  refine wp_region_held_drew (S := fun X => X.cell? ⟨M, 0, none⟩ = some (.int .i64 0) ∧ X.cell? ⟨M, 1, none⟩ = some (.int .i64 0) ∧ X.cell? ⟨M, 2, none⟩ = some (.int .i64 0) ∧ X.cell? ⟨M, 3, none⟩ = some (.int .i64 0) ∧ X.cell? ⟨M, 4, none⟩ = some (.int .i64 0) ∧ X.cell? ⟨N, 0, none⟩ = some (.int .i64 (a : Nat))) (by kernel_rfl) (by rw [← hWD]; exact ⟨cell_at HM.out 0, cell_at HM.out 1, cell_at HM.out 2, cell_at HM.out 3, cell_at HM.out 4, cell_at HNN.out 0⟩) (fun hHeld => ?_)
  rw [← hWD] at hHeld ⊢
  clear hdw hWD
  ((refine wpAnyH_take (i := 0) (v := ?_) (by (simp only [List.getElem?_toArray, List.getElem?_cons_succ, List.getElem?_cons_zero]); rfl) (by kernel_rfl) (by kernel_rfl) (by kernel_rfl) (by exact fun _ _ _ h => h) (Or.inl ⟨by rfl, ?_⟩) (by assumption) ?_); rotate_left; focus (intro wS hSw; (try dsimp only at hSw); go_simp; first | done | with_reducible rfl); try simp only [Act.put, List.setIfInBounds_toArray, List.set_cons_zero, List.set_cons_succ])
  ((refine wpAnyH_take (i := 1) (v := ?_) (by (simp only [List.getElem?_toArray, List.getElem?_cons_succ, List.getElem?_cons_zero]); rfl) (by kernel_rfl) (by kernel_rfl) (by kernel_rfl) (by exact fun _ _ _ h => h) (Or.inl ⟨by rfl, ?_⟩) (by assumption) ?_); rotate_left; focus (intro wS hSw; (try dsimp only at hSw); go_simp; first | done | with_reducible rfl); try simp only [Act.put, List.setIfInBounds_toArray, List.set_cons_zero, List.set_cons_succ])
  ((refine wpAnyH_take (i := 2) (v := ?_) (by (simp only [List.getElem?_toArray, List.getElem?_cons_succ, List.getElem?_cons_zero]); rfl) (by kernel_rfl) (by kernel_rfl) (by kernel_rfl) (by exact fun _ _ _ h => h) (Or.inl ⟨by rfl, ?_⟩) (by assumption) ?_); rotate_left; focus (intro wS hSw; (try dsimp only at hSw); go_simp; first | done | with_reducible rfl); try simp only [Act.put, List.setIfInBounds_toArray, List.set_cons_zero, List.set_cons_succ])
  have x0 : WD.cell? ⟨X, 0, none⟩ = some c0 := cell_at HX.out 0
  have x1 : WD.cell? ⟨X, 1, none⟩ = some c1 := cell_at HX.out 1
  have x2 : WD.cell? ⟨X, 2, none⟩ = some c2 := cell_at HX.out 2
  have x3 : WD.cell? ⟨X, 3, none⟩ = some c3 := cell_at HX.out 3
  have x4 : WD.cell? ⟨X, 4, none⟩ = some c4 := cell_at HX.out 4
  have xf : ∀ j, WD.frozen? ⟨X, j, none⟩ = false := fun j => free_at HX.out j
  have xl : X < WD.heap.size := HX.out.lt
  refine wpAnyH_ready (rs := [3]) (by kernel_rfl) (by simp) ?_
  refine AllReadyH.cons (by (simp only [List.getElem?_toArray, List.getElem?_cons_succ, List.getElem?_cons_zero]); rfl) (fun K hK => ?_) AllReadyH.nil
  obtain ⟨W4, hW4⟩ : ∃ Y, Y = ((((WD.setCell ⟨X, 0, none⟩ (.int .i64 0)).setCell ⟨X, 1, none⟩ (.int .i64 0)).setCell ⟨X, 2, none⟩ (.int .i64 0)).setCell ⟨X, 3, none⟩ (.int .i64 0)).setCell ⟨X, 4, none⟩ (.int .i64 0) := ⟨_, rfl⟩
  have hx4 : Blk W4 X #[.int .i64 0, .int .i64 0, .int .i64 0, .int .i64 0, .int .i64 0] 48 := by rw [hW4]; exact (((((HX.out.set 0 _).set 1 _).set 2 _).set 3 _).set 4 _)
  have hf4 : Fr [X] WD W4 := by rw [hW4]; exact ((((((Fr.refl _ _).setCell _ (.inl (by simp)) _).setCell _ (.inl (by simp)) _).setCell _ (.inl (by simp)) _).setCell _ (.inl (by simp)) _).setCell _ (.inl (by simp)) _)
  have HLL := HLT.out
  have HDD := HD.out
  have hm4 : Blk W4 M #[.int .i64 0, .int .i64 0, .int .i64 0, .int .i64 0, .int .i64 0] 48 := (hf4.block M HM.out.lt (by simp; omega)).trans HM.out
  have hn4 : Blk W4 N #[.int .i64 (a : Nat)] 144 := (hf4.block N HNN.out.lt (by simp; omega)).trans HNN.out
  have ha4 : Blk W4 A #[.int .i64 u] 3 := (hf4.block A HA.out.lt (by simp; omega)).trans HA.out
  have he4 : Blk W4 E #[.int .i64 v] 27 := (hf4.block E HE.out.lt (by simp; omega)).trans HE.out
  have HM4 := Lib.hid hm4
  have HN4 := Lib.hid hn4
  have HX4 := Lib.hid hx4
  have HF4 := Lib.hid hf4
  have HA4 := Lib.hid ha4
  have HE4 := Lib.hid he4
  have HW4 := Lib.hid hW4
  clear hx4 hf4 hm4 hn4 ha4 he4 HLL HDD hW4
  go_simp
  rw [← HW4.out]
  refine hK.out _ _ ⟨cell_at HM4.out 0, cell_at HM4.out 1, cell_at HM4.out 2, cell_at HM4.out 3, cell_at HM4.out 4, cell_at HN4.out 0⟩ (fun hHeld => ?_)
  clear hK K
  try simp only [Act.put, List.setIfInBounds_toArray, List.set_cons_zero, List.set_cons_succ]
  clear HW4 xf xl x0 x1 x2 x3 x4
  have y0 : W4.cell? ⟨A, 0, none⟩ = some (.int .i64 u) := cell_at HA4.out 0
  have y1 : W4.frozen? ⟨A, 0, none⟩ = false := free_at HA4.out 0
  refine wpAnyH_ready (rs := [4]) (by kernel_rfl) (by simp) ?_
  refine AllReadyH.cons (by (simp only [List.getElem?_toArray, List.getElem?_cons_succ, List.getElem?_cons_zero]); rfl) (fun K hK => ?_) AllReadyH.nil
  obtain ⟨W5, hW5⟩ : ∃ Y, Y = W4.setCell ⟨A, 0, none⟩ (.int .i64 (a : Nat)) := ⟨_, rfl⟩
  have hf5 : Fr [A] W4 W5 := by rw [hW5]; exact (Fr.refl _ _).setCell _ (.inl (by simp)) _
  have HLL := HLT.out
  have HDD := HD.out
  have HM5 := Lib.hid (Blk.trans3 HM4.out (hf5.block M HM4.out.lt (by simp; omega)))
  have HN5 := Lib.hid (Blk.trans3 HN4.out (hf5.block N HN4.out.lt (by simp; omega)))
  have HX5 := Lib.hid (Blk.trans3 HX4.out (hf5.block X HX4.out.lt (by simp; omega)))
  have HE5 := Lib.hid (Blk.trans3 HE4.out (hf5.block E HE4.out.lt (by simp; omega)))
  have HA5 := Lib.hid (show Blk W5 A #[.int .i64 (a : Nat)] 3 by rw [hW5]; exact HA4.out.set 0 _)
  have HF5 := Lib.hid hf5
  have HW5 := Lib.hid hW5
  clear HLL HDD hf5 hW5
  go_simp
  rw [← HW5.out]
  refine hK.out _ _ ⟨cell_at HM5.out 0, cell_at HM5.out 1, cell_at HM5.out 2, cell_at HM5.out 3, cell_at HM5.out 4, cell_at HN5.out 0⟩ (fun hHeld => ?_)
  clear hK K
  try simp only [Act.put, List.setIfInBounds_toArray, List.set_cons_zero, List.set_cons_succ]
  clear y0 y1 HW5
  have y0 : W5.cell? ⟨E, 0, none⟩ = some (.int .i64 v) := cell_at HE5.out 0
  have y1 : W5.frozen? ⟨E, 0, none⟩ = false := free_at HE5.out 0
  refine wpAnyH_ready (rs := [5]) (by kernel_rfl) (by simp) ?_
  refine AllReadyH.cons (by (simp only [List.getElem?_toArray, List.getElem?_cons_succ, List.getElem?_cons_zero]); rfl) (fun K hK => ?_) AllReadyH.nil
  obtain ⟨W6, hW6⟩ : ∃ Y, Y = W5.setCell ⟨E, 0, none⟩ (.int .i64 50) := ⟨_, rfl⟩
  have hf6 : Fr [E] W5 W6 := by rw [hW6]; exact (Fr.refl _ _).setCell _ (.inl (by simp)) _
  have HLL := HLT.out
  have HDD := HD.out
  have HM6 := Lib.hid (Blk.trans3 HM5.out (hf6.block M HM5.out.lt (by simp; omega)))
  have HN6 := Lib.hid (Blk.trans3 HN5.out (hf6.block N HN5.out.lt (by simp; omega)))
  have HX6 := Lib.hid (Blk.trans3 HX5.out (hf6.block X HX5.out.lt (by simp; omega)))
  have HA6 := Lib.hid (Blk.trans3 HA5.out (hf6.block A HA5.out.lt (by simp; omega)))
  have HE6 := Lib.hid (show Blk W6 E #[.int .i64 50] 27 by rw [hW6]; exact HE5.out.set 0 _)
  have HF6 := Lib.hid hf6
  have HW6 := Lib.hid hW6
  clear HLL HDD hf6 hW6
  go_simp
  rw [← HW6.out]
  refine hK.out _ _ ⟨cell_at HM6.out 0, cell_at HM6.out 1, cell_at HM6.out 2, cell_at HM6.out 3, cell_at HM6.out 4, cell_at HN6.out 0⟩ (fun hHeld => ?_)
  clear hK K
  try simp only [Act.put, List.setIfInBounds_toArray, List.set_cons_zero, List.set_cons_succ]
  clear y0 y1 HW6
  refine wpAnyH_done (by kernel_rfl) ?_ _
  try simp only [Act.put, List.setIfInBounds_toArray, List.set_cons_zero, List.set_cons_succ]
  try go_wp2_with fail
  have hFR : Fr [X, A, E] W W6 := ⟨HF6.out.os.trans (HF5.out.os.trans (HF4.out.os.trans HB.out.os)), HF6.out.tape.trans (HF5.out.tape.trans (HF4.out.tape.trans HB.out.tape)), HF6.out.output.trans (HF5.out.output.trans (HF4.out.output.trans HB.out.output)), Nat.le_trans HB.out.size (Nat.le_trans HF4.out.size (Nat.le_trans HF5.out.size HF6.out.size)), fun q hq hm => by
    simp only [List.mem_cons, List.not_mem_nil, or_false, not_or] at hm
    have h1 := HB.out.size
    have h2 := HF4.out.size
    have h3 := HF5.out.size
    rw [HF6.out.block q (by omega) (by simpa using hm.2.2), HF5.out.block q (by omega) (by simpa using hm.2.1), HF4.out.block q (by omega) (by simpa using hm.1), HB.out.block q hq]⟩
  refine ⟨rfl, _, rfl, _, results_none rfl _ _ _, rfl, rfl, HX6.out, HA6.out, HE6.out, hFR⟩
set_option maxRecDepth 100000 in
set_option maxHeartbeats 8000000 in
theorem idle_Answer (W : World) (X A E : Nat) :
    CallsD Tryd.prog 99 #[.pointer (some ⟨X, 0, none⟩), .pointer (some ⟨A, 0, none⟩), .pointer (some ⟨E, 0, none⟩)] .returning W fun e u' w' => e = .returned (.tuple #[]) ∧ u' = .returning ∧ Below W.heap.size W w' := by
  refine callsD_of_wpS Tryd.func99 rfl fun c₀ cs hu => ?_
  simp only [Tryd.ntmps99, List.size_toArray, List.length_cons, List.length_nil, Nat.reduceAdd, Nat.reduceSub, Array.replicate_succ, Array.replicate_zero, List.push_toArray, List.append_toArray, List.nil_append, List.cons_append]
  apply wpS_seq
  apply wpS_region
  obtain ⟨r8, h8⟩ : ∃ r : List Nat, r = [] := ⟨_, rfl⟩
  obtain ⟨r7, h7⟩ : ∃ r : List Nat, r = 7 :: r8 := ⟨_, rfl⟩
  obtain ⟨r6, h6⟩ : ∃ r : List Nat, r = 6 :: r7 := ⟨_, rfl⟩
  obtain ⟨r5, h5⟩ : ∃ r : List Nat, r = 5 :: r6 := ⟨_, rfl⟩
  obtain ⟨r4, h4⟩ : ∃ r : List Nat, r = 4 :: r5 := ⟨_, rfl⟩
  obtain ⟨r3, h3⟩ : ∃ r : List Nat, r = 3 :: r4 := ⟨_, rfl⟩
  obtain ⟨r2, h2⟩ : ∃ r : List Nat, r = 2 :: r3 := ⟨_, rfl⟩
  obtain ⟨r1, h1⟩ : ∃ r : List Nat, r = 1 :: r2 := ⟨_, rfl⟩
  show wpOpsS _ _ _ (0 :: [1, 2, 3, 4, 5, 6, 7]) _ _ _
  rw [show ([1, 2, 3, 4, 5, 6, 7] : List Nat) = r1 by rw [h1, h2, h3, h4, h5, h6, h7, h8]]
  refine opsS_rec0 (by (simp only [List.getElem?_toArray, List.getElem?_cons_succ, List.getElem?_cons_zero]); rfl) (by rfl) (by go_simp) (rec0 hu) ?_
  simp only [Act.put, List.setIfInBounds_toArray, List.set_cons_zero, List.set_cons_succ]
  rw [h1]
  refine opsS_step (.tuple #[.agg #[.int .i64 0], .bool false]) (by (simp only [List.getElem?_toArray, List.getElem?_cons_succ, List.getElem?_cons_zero]); rfl) (by rfl) (by go_simp; (try simp only [ta_yes, ta_no, Result.andThen_ok]); first | done | with_reducible rfl) ?_
  simp only [Act.put, List.setIfInBounds_toArray, List.set_cons_zero, List.set_cons_succ]
  rw [h2]
  refine opsS_step (.tuple #[.agg #[.int .i64 0], .bool false]) (by (simp only [List.getElem?_toArray, List.getElem?_cons_succ, List.getElem?_cons_zero]); rfl) (by rfl) (by go_simp; (try simp only [ta_yes, ta_no, Result.andThen_ok]); first | done | with_reducible rfl) ?_
  simp only [Act.put, List.setIfInBounds_toArray, List.set_cons_zero, List.set_cons_succ]
  rw [h3]
  refine opsS_step (.agg #[.int .i64 0]) (by (simp only [List.getElem?_toArray, List.getElem?_cons_succ, List.getElem?_cons_zero]); rfl) (by rfl) (by go_simp; (try simp only [ta_yes, ta_no, Result.andThen_ok]); first | done | with_reducible rfl) ?_
  simp only [Act.put, List.setIfInBounds_toArray, List.set_cons_zero, List.set_cons_succ]
  rw [h4]
  refine opsS_step (.bool false) (by (simp only [List.getElem?_toArray, List.getElem?_cons_succ, List.getElem?_cons_zero]); rfl) (by rfl) (by go_simp; (try simp only [ta_yes, ta_no, Result.andThen_ok]); first | done | with_reducible rfl) ?_
  simp only [Act.put, List.setIfInBounds_toArray, List.set_cons_zero, List.set_cons_succ]
  obtain ⟨N, hN⟩ : ∃ N, N = W.heap.size := ⟨_, rfl⟩
  obtain ⟨W1, hW1⟩ : ∃ X, X = W.alloc (.cells #[.int .i64 0] 144) := ⟨_, rfl⟩
  obtain ⟨W2, hW2⟩ : ∃ X, X = W1.setCell ⟨N, 0, none⟩ (.int .i64 0) := ⟨_, rfl⟩
  have hb1 : Blk W1 N #[.int .i64 0] 144 := by rw [hW1, hN]; exact blk_new _ _ _
  have z0 : W1.cell? ⟨N, 0, none⟩ = some (.int .i64 0) := cell_at hb1 0
  have z1 : W1.frozen? ⟨N, 0, none⟩ = false := free_at hb1 0
  rw [h5]
  refine opsS_step (w' := W1) (.pointer (some ⟨N, 0, none⟩)) (by (simp only [List.getElem?_toArray, List.getElem?_cons_succ, List.getElem?_cons_zero]); rfl) (by rfl) (by rw [hW1, hN]; go_simp; first | done | with_reducible rfl) ?_
  simp only [Act.put, List.setIfInBounds_toArray, List.set_cons_zero, List.set_cons_succ]
  rw [h6]
  refine opsS_skip (w' := W2) (by (simp only [List.getElem?_toArray, List.getElem?_cons_succ, List.getElem?_cons_zero]); rfl) (by rfl) (by rw [hW2]; clear hW2; go_simp; first | done | with_reducible rfl) ?_
  simp only [Act.put, List.setIfInBounds_toArray, List.set_cons_zero, List.set_cons_succ]
  rw [h7]
  refine opsS_step (w' := W2) (.bool false) (by (simp only [List.getElem?_toArray, List.getElem?_cons_succ, List.getElem?_cons_zero]); rfl) (by rfl) (by clear hW2; go_simp; first | done | with_reducible rfl) ?_
  simp only [Act.put, List.setIfInBounds_toArray, List.set_cons_zero, List.set_cons_succ]
  rw [h8]
  clear h1 h2 h3 h4 h5 h6 h7 h8
  simp only [wpOpsS, Exit.thenS]
  refine wpS_of_wp ?_
  have hb2 : Blk W2 N #[.int .i64 0] 144 := by rw [hW2]; exact hb1.set 0 _
  have hf : Fr [N] W1 W2 := by rw [hW2]; exact (Fr.refl _ _).setCell _ (.inl (by simp)) _
  have hB1 : Below W.heap.size W W1 := by rw [hW1]; exact alloc_b _ _
  have hB2 : Below W.heap.size W W2 := hB1.trans (hf.below hB1.size (by simp; omega))
  have HB := Lib.hid hB2
  clear z0 z1 hb1 hb2 hf hB1 hB2 hW2 hW1 hN
  try go_wp2_with fail
  refine ⟨rfl, c₀.mode, by cases c₀; rfl, _, results_none rfl _ _ _, rfl, hu, HB.out⟩
end Go.Proofs.YtiednacpmlilbaaDoor
