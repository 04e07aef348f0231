/-
  The law FifoSame, walked.
-/
import Derived.Test.YtninhjeiialbjaaFfc
import Derived.Test.YtninhjeiialbjaaDt
namespace Go.Proofs.Ytninhjeiialbjaa
open Go.RowKit
set_option linter.unusedSimpArgs false
set_option linter.unusedVariables false

theorem eqB_refl (X : Nat → Nat) (n : Nat) : eqB X X n = true := (eqB_iff X X n).2 fun _ _ => rfl
theorem sameP_refl (p : PkE) : sameP p p = true := by unfold sameP markB; simp [eqB_refl]

set_option maxRecDepth 100000 in
set_option maxHeartbeats 20000000 in
theorem fifoSame_any (p q : PkE) (w : World) (hp : ByIn w p.a p.n p.ca p.b p.o p.X) (hq : ByIn w q.a q.n q.ca q.b q.o q.X) :
    Calls Try.prog 9 #[.agg #[.int .i64 p.num, .int .i64 p.t, .int .i64 p.c, .slice p.a p.n p.ca], .agg #[.int .i64 q.num, .int .i64 q.t, .int .i64 q.c, .slice q.a q.n q.ca]] w fun e w' => e = .returned (.bool true) ∧ Below w.heap.size w w' := by
  obtain ⟨m, hm⟩ : ∃ m, m = sameP p q := ⟨_, rfl⟩
  have S1 : Hid (∀ W, Below w.heap.size w W → Calls Try.prog 45 #[.agg #[.int .i64 p.num, .int .i64 p.t, .int .i64 p.c, .slice p.a p.n p.ca], .agg #[.int .i64 q.num, .int .i64 q.t, .int .i64 q.c, .slice q.a q.n q.ca]] W fun e w' => e = .returned (.bool m) ∧ Below W.heap.size W w') := Lib.hid (fun W h => by rw [hm]; exact fsame_any p q W (hp.below h) (hq.below h))
  have S2 : Hid (∀ W, Below w.heap.size w W → Calls Try.prog 46 #[.agg #[.int .i64 p.num, .int .i64 p.t, .int .i64 p.c, .slice p.a p.n p.ca], .agg #[.int .i64 q.num, .int .i64 q.t, .int .i64 q.c, .slice q.a q.n q.ca]] W fun e w' => e = .returned (.bool m) ∧ Below W.heap.size W w') := Lib.hid (fun W h => by rw [hm]; exact rsame_any p q W (hp.below h) (hq.below h))
  have S3 : Hid (∀ W, Below w.heap.size w W → Calls Try.prog 45 #[.agg #[.int .i64 p.num, .int .i64 p.t, .int .i64 p.c, .slice p.a p.n p.ca], .agg #[.int .i64 p.num, .int .i64 p.t, .int .i64 p.c, .slice p.a p.n p.ca]] W fun e w' => e = .returned (.bool true) ∧ Below W.heap.size W w') := Lib.hid (fun W h => by rw [← sameP_refl p]; exact fsame_any p p W (hp.below h) (hp.below h))
  have me : ∀ W, (binOp .eql 4 (.bool m) (.bool m)).run Try.prog W = .ok (.bool true) W := fun W => by cases m <;> rfl
  clear hm
  obtain ⟨num, t, c, a, n, ca, b, o, X⟩ := p
  obtain ⟨num', t', c', a', n', ca', b', o', X'⟩ := q
  simp only at *
  obtain ⟨N, hN⟩ : ∃ N, N = w.heap.size := ⟨_, rfl⟩
  obtain ⟨W1, hW1⟩ : ∃ W1, W1 = (w.alloc (.cells #[.int .i64 num, .int .i64 t, .int .i64 c, .slice a n ca] 57)).alloc (.cells #[.int .i64 num', .int .i64 t', .int .i64 c', .slice a' n' ca'] 57) := ⟨_, rfl⟩
  have hB1 : Below w.heap.size w W1 := by rw [hW1]; exact ((Below.refl _ _).alloc (Nat.le_refl _) _).alloc (by simp) _
  have hH := tw2 (X := W1) (n := N) (by rw [hW1]; exact Below.refl _ _) hN.symm
  have HQ := Lib.hid (show F2 w N (N + 1) _ _ W1 from ⟨hH.1, hH.2, hB1⟩)
  clear hB1 hH hp hq
  go_enter Try.func9, Try.ntmps9
  go_wp2_with fail
  rw [← hN, ← hW1]
  clear hN hW1
  go_at_call 43
  refine Calls.mono (npop_any _) ?_
  rintro e W2 ⟨rfl, hB2⟩
  have HQA := Lib.hid (HQ.out.step hB2)
  clear hB2
  go_wp2_with fail
  obtain ⟨W3, hW3⟩ : ∃ W3, W3 = W2.alloc (.cells #[.int .i64 0, .int .i64 0, .int .i64 0, .slice none 0 0] 57) := ⟨_, rfl⟩
  have HQB : Hid (F2 w N (N + 1) _ _ W3) := Lib.hid (by rw [hW3]; exact HQA.out.step ((Below.refl _ _).alloc (Nat.le_refl _) _))
  rw [← hW3]
  clear hW3
  go_at_call 44
  refine Calls.mono (nhead_any _) ?_
  rintro e W4 ⟨rfl, hB4⟩
  have HQC := Lib.hid (HQB.out.step hB4)
  clear hB4
  obtain ⟨W5, hW5⟩ : ∃ W5, W5 = W4.alloc (.cells #[.int .i64 0, .int .i64 0, .int .i64 0, .slice none 0 0] 57) := ⟨_, rfl⟩
  have HQ0 : Hid (F2 w N (N + 1) _ _ W5.drew) := Lib.hid ((show F2 w N (N + 1) _ _ W5 from by rw [hW5]; exact HQC.out.step ((Below.refl _ _).alloc (Nat.le_refl _) _)).step ((Below.refl _ _).drew : Below W5.heap.size W5 W5.drew))
  go_upto_region 4 with fail
  rw [← hW5]
  clear hW5 HQ HQA HQB HQC
  refine wp_region_held_drew (S := fun X => X.cell? ⟨N, 0, none⟩ = some (.int .i64 num) ∧ X.cell? ⟨N, 1, none⟩ = some (.int .i64 t) ∧ X.cell? ⟨N, 2, none⟩ = some (.int .i64 c) ∧ X.cell? ⟨N, 3, none⟩ = some (.slice a n ca) ∧ X.cell? ⟨N + 1, 0, none⟩ = some (.int .i64 num') ∧ X.cell? ⟨N + 1, 1, none⟩ = some (.int .i64 t') ∧ X.cell? ⟨N + 1, 2, none⟩ = some (.int .i64 c') ∧ X.cell? ⟨N + 1, 3, none⟩ = some (.slice a' n' ca')) (by kernel_rfl) ⟨HQ0.out.1.1 0, HQ0.out.1.1 1, HQ0.out.1.1 2, HQ0.out.1.1 3, HQ0.out.2.1.1 0, HQ0.out.2.1.1 1, HQ0.out.2.1.1 2, HQ0.out.2.1.1 3⟩ (fun hHeld => ?_)
  ((refine wpAnyH_take (i := 0) (v := ?_) (by (simp only [List.getElem?_toArray, List.getElem?_cons_succ, List.getElem?_cons_zero]); rfl) (by kernel_rfl) (by kernel_rfl) (by kernel_rfl) (by exact fun _ _ _ h => h) (Or.inl ⟨by rfl, ?_⟩) (by assumption) ?_); rotate_left; focus (intro wS hSw; (try dsimp only at hSw); go_simp; first | done | with_reducible rfl); try simp only [Act.put, List.setIfInBounds_toArray, List.set_cons_zero, List.set_cons_succ])
  ((refine wpAnyH_take (i := 1) (v := ?_) (by (simp only [List.getElem?_toArray, List.getElem?_cons_succ, List.getElem?_cons_zero]); rfl) (by kernel_rfl) (by kernel_rfl) (by kernel_rfl) (by exact fun _ _ _ h => h) (Or.inl ⟨by rfl, ?_⟩) (by assumption) ?_); rotate_left; focus (intro wS hSw; (try dsimp only at hSw); go_simp; first | done | with_reducible rfl); try simp only [Act.put, List.setIfInBounds_toArray, List.set_cons_zero, List.set_cons_succ])
  ((refine wpAnyH_take (i := 3) (v := ?_) (by (simp only [List.getElem?_toArray, List.getElem?_cons_succ, List.getElem?_cons_zero]); rfl) (by kernel_rfl) (by kernel_rfl) (by kernel_rfl) (by exact fun _ _ _ h => h) (Or.inl ⟨by rfl, ?_⟩) (by assumption) ?_); rotate_left; focus (intro wS hSw; (try dsimp only at hSw); go_simp; first | done | with_reducible rfl); try simp only [Act.put, List.setIfInBounds_toArray, List.set_cons_zero, List.set_cons_succ])
  ((refine wpAnyH_take (i := 4) (v := ?_) (by (simp only [List.getElem?_toArray, List.getElem?_cons_succ, List.getElem?_cons_zero]); rfl) (by kernel_rfl) (by kernel_rfl) (by kernel_rfl) (by exact fun _ _ _ h => h) (Or.inl ⟨by rfl, ?_⟩) (by assumption) ?_); rotate_left; focus (intro wS hSw; (try dsimp only at hSw); go_simp; first | done | with_reducible rfl); try simp only [Act.put, List.setIfInBounds_toArray, List.set_cons_zero, List.set_cons_succ])
  ((refine wpAnyH_ready (rs := [2]) (by kernel_rfl) (by simp) ?_); (refine AllReadyH.cons (by (simp only [List.getElem?_toArray, List.getElem?_cons_succ, List.getElem?_cons_zero]); rfl) (fun K hK => ?_) AllReadyH.nil); go_simp; refine Calls.mono (S1.out _ HQ0.out.2.2) ?_)
  rintro e X1 ⟨rfl, hX1⟩
  have HQ1 := Lib.hid (HQ0.out.step hX1)
  clear hX1
  (go_wp2_with fail; (refine hK.out _ _ ⟨HQ1.out.1.1 0, HQ1.out.1.1 1, HQ1.out.1.1 2, HQ1.out.1.1 3, HQ1.out.2.1.1 0, HQ1.out.2.1.1 1, HQ1.out.2.1.1 2, HQ1.out.2.1.1 3⟩ (fun hHeld => ?_)); clear hK K; try simp only [Act.put, List.setIfInBounds_toArray, List.set_cons_zero, List.set_cons_succ])
  ((refine wpAnyH_ready (rs := [5]) (by kernel_rfl) (by simp) ?_); (refine AllReadyH.cons (by (simp only [List.getElem?_toArray, List.getElem?_cons_succ, List.getElem?_cons_zero]); rfl) (fun K hK => ?_) AllReadyH.nil); go_simp; refine Calls.mono (S2.out _ HQ1.out.2.2) ?_)
  rintro e X2 ⟨rfl, hX2⟩
  have HQ2 := Lib.hid (HQ1.out.step hX2)
  clear hX2
  (go_wp2_with fail; (refine hK.out _ _ ⟨HQ2.out.1.1 0, HQ2.out.1.1 1, HQ2.out.1.1 2, HQ2.out.1.1 3, HQ2.out.2.1.1 0, HQ2.out.2.1.1 1, HQ2.out.2.1.1 2, HQ2.out.2.1.1 3⟩ (fun hHeld => ?_)); clear hK K; try simp only [Act.put, List.setIfInBounds_toArray, List.set_cons_zero, List.set_cons_succ])
  ((refine wpAnyH_take (i := 6) (v := ?_) (by (simp only [List.getElem?_toArray, List.getElem?_cons_succ, List.getElem?_cons_zero]); rfl) (by kernel_rfl) (by kernel_rfl) (by kernel_rfl) (by exact fun _ _ _ h => h) (Or.inl ⟨by rfl, ?_⟩) (by assumption) ?_); rotate_left; focus (intro wS hSw; (try dsimp only at hSw); go_simp; first | done | with_reducible rfl); try simp only [Act.put, List.setIfInBounds_toArray, List.set_cons_zero, List.set_cons_succ])
  ((refine wpAnyH_take (i := 7) (v := ?_) (by (simp only [List.getElem?_toArray, List.getElem?_cons_succ, List.getElem?_cons_zero]); rfl) (by kernel_rfl) (by kernel_rfl) (by kernel_rfl) (by exact fun _ _ _ h => h) (Or.inl ⟨by rfl, ?_⟩) (by assumption) ?_); rotate_left; focus (intro wS hSw; (try dsimp only at hSw); go_simp; first | done | with_reducible rfl); try simp only [Act.put, List.setIfInBounds_toArray, List.set_cons_zero, List.set_cons_succ])
  ((refine wpAnyH_take (i := 8) (v := ?_) (by (simp only [List.getElem?_toArray, List.getElem?_cons_succ, List.getElem?_cons_zero]); rfl) (by kernel_rfl) (by kernel_rfl) (by kernel_rfl) (by exact fun _ _ _ h => h) (Or.inl ⟨by (go_simp; try rfl), ?_⟩) (by assumption) ?_); rotate_left; focus (intro wS hSw; (try dsimp only at hSw); go_simp; first | done | with_reducible rfl); try simp only [Act.put, List.setIfInBounds_toArray, List.set_cons_zero, List.set_cons_succ])
  ((refine wpAnyH_take (i := 9) (v := ?_) (by (simp only [List.getElem?_toArray, List.getElem?_cons_succ, List.getElem?_cons_zero]); rfl) (by kernel_rfl) (by kernel_rfl) (by kernel_rfl) (by exact fun _ _ _ h => h) (Or.inl ⟨by (go_simp; try rfl), ?_⟩) (by assumption) ?_); rotate_left; focus (intro wS hSw; (try dsimp only at hSw); go_simp; first | done | with_reducible rfl); try simp only [Act.put, List.setIfInBounds_toArray, List.set_cons_zero, List.set_cons_succ])
  ((refine wpAnyH_ready (rs := [10]) (by kernel_rfl) (by simp) ?_); (refine AllReadyH.cons (by (simp only [List.getElem?_toArray, List.getElem?_cons_succ, List.getElem?_cons_zero]); rfl) (fun K hK => ?_) AllReadyH.nil); go_simp; refine Calls.mono (S3.out _ HQ2.out.2.2) ?_)
  rintro e X3 ⟨rfl, hX3⟩
  have HQ3 := Lib.hid (HQ2.out.step hX3)
  clear hX3
  (go_wp2_with fail; (refine hK.out _ _ ⟨HQ3.out.1.1 0, HQ3.out.1.1 1, HQ3.out.1.1 2, HQ3.out.1.1 3, HQ3.out.2.1.1 0, HQ3.out.2.1.1 1, HQ3.out.2.1.1 2, HQ3.out.2.1.1 3⟩ (fun hHeld => ?_)); clear hK K; try simp only [Act.put, List.setIfInBounds_toArray, List.set_cons_zero, List.set_cons_succ])
  ((refine wpAnyH_take (i := 11) (v := ?_) (by (simp only [List.getElem?_toArray, List.getElem?_cons_succ, List.getElem?_cons_zero]); rfl) (by kernel_rfl) (by kernel_rfl) (by kernel_rfl) (by exact fun _ _ _ h => h) (Or.inl ⟨by rfl, ?_⟩) (by assumption) ?_); rotate_left; focus (intro wS hSw; (try dsimp only at hSw); go_simp; first | done | with_reducible rfl); try simp only [Act.put, List.setIfInBounds_toArray, List.set_cons_zero, List.set_cons_succ])
  ((refine wpAnyH_take (i := 12) (v := ?_) (by (simp only [List.getElem?_toArray, List.getElem?_cons_succ, List.getElem?_cons_zero]); rfl) (by kernel_rfl) (by kernel_rfl) (by kernel_rfl) (by exact fun _ _ _ h => h) (Or.inl ⟨by rfl, ?_⟩) (by assumption) ?_); rotate_left; focus (intro wS hSw; (try dsimp only at hSw); go_simp; first | done | with_reducible rfl); try simp only [Act.put, List.setIfInBounds_toArray, List.set_cons_zero, List.set_cons_succ])
  ((refine wpAnyH_take (i := 13) (v := ?_) (by (simp only [List.getElem?_toArray, List.getElem?_cons_succ, List.getElem?_cons_zero]); rfl) (by kernel_rfl) (by kernel_rfl) (by kernel_rfl) (by exact fun _ _ _ h => h) (Or.inl ⟨by (go_simp; try rfl), ?_⟩) (by assumption) ?_); rotate_left; focus (intro wS hSw; (try dsimp only at hSw); go_simp; first | done | with_reducible rfl); try simp only [Act.put, List.setIfInBounds_toArray, List.set_cons_zero, List.set_cons_succ])
  ((refine wpAnyH_take (i := 14) (v := ?_) (by (simp only [List.getElem?_toArray, List.getElem?_cons_succ, List.getElem?_cons_zero]); rfl) (by kernel_rfl) (by kernel_rfl) (by kernel_rfl) (by exact fun _ _ _ h => h) (Or.inl ⟨by (go_simp; try rfl), ?_⟩) (by assumption) ?_); rotate_left; focus (intro wS hSw; (try dsimp only at hSw); go_simp; first | done | with_reducible rfl); try simp only [Act.put, List.setIfInBounds_toArray, List.set_cons_zero, List.set_cons_succ])
  ((refine wpAnyH_ready (rs := [15]) (by kernel_rfl) (by simp) ?_); (refine AllReadyH.cons (by (simp only [List.getElem?_toArray, List.getElem?_cons_succ, List.getElem?_cons_zero]); rfl) (fun K hK => ?_) AllReadyH.nil); go_simp; refine Calls.mono (npush_any _ _ num t c a n ca rfl) ?_)
  rintro e X4 ⟨rfl, hX4⟩
  have HQ4 := Lib.hid (HQ3.out.step hX4)
  clear hX4
  (go_wp2_with fail; (refine hK.out _ _ ⟨HQ4.out.1.1 0, HQ4.out.1.1 1, HQ4.out.1.1 2, HQ4.out.1.1 3, HQ4.out.2.1.1 0, HQ4.out.2.1.1 1, HQ4.out.2.1.1 2, HQ4.out.2.1.1 3⟩ (fun hHeld => ?_)); clear hK K; try simp only [Act.put, List.setIfInBounds_toArray, List.set_cons_zero, List.set_cons_succ])
  ((refine wpAnyH_take (i := 16) (v := ?_) (by (simp only [List.getElem?_toArray, List.getElem?_cons_succ, List.getElem?_cons_zero]); rfl) (by kernel_rfl) (by kernel_rfl) (by kernel_rfl) (by exact fun _ _ _ h => h) (Or.inl ⟨by (go_simp; try rfl), ?_⟩) (by assumption) ?_); rotate_left; focus (intro wS hSw; (try dsimp only at hSw); go_simp; first | done | with_reducible rfl); try simp only [Act.put, List.setIfInBounds_toArray, List.set_cons_zero, List.set_cons_succ])
  ((refine wpAnyH_take (i := 17) (v := ?_) (by (simp only [List.getElem?_toArray, List.getElem?_cons_succ, List.getElem?_cons_zero]); rfl) (by kernel_rfl) (by kernel_rfl) (by kernel_rfl) (by exact fun _ _ _ h => h) (Or.inl ⟨by rfl, ?_⟩) (by assumption) ?_); rotate_left; focus (intro wS hSw; (try dsimp only at hSw); go_simp; first | done | with_reducible rfl); try simp only [Act.put, List.setIfInBounds_toArray, List.set_cons_zero, List.set_cons_succ])
  ((refine wpAnyH_take (i := 18) (v := ?_) (by (simp only [List.getElem?_toArray, List.getElem?_cons_succ, List.getElem?_cons_zero]); rfl) (by kernel_rfl) (by kernel_rfl) (by kernel_rfl) (by exact fun _ _ _ h => h) (Or.inl ⟨by rfl, ?_⟩) (by assumption) ?_); rotate_left; focus (intro wS hSw; (try dsimp only at hSw); go_simp; first | done | with_reducible rfl); try simp only [Act.put, List.setIfInBounds_toArray, List.set_cons_zero, List.set_cons_succ])
  ((refine wpAnyH_take (i := 19) (v := ?_) (by (simp only [List.getElem?_toArray, List.getElem?_cons_succ, List.getElem?_cons_zero]); rfl) (by kernel_rfl) (by kernel_rfl) (by kernel_rfl) (by exact fun _ _ _ h => h) (Or.inl ⟨by (go_simp; try rfl), ?_⟩) (by assumption) ?_); rotate_left; focus (intro wS hSw; (try dsimp only at hSw); go_simp; first | done | with_reducible rfl); try simp only [Act.put, List.setIfInBounds_toArray, List.set_cons_zero, List.set_cons_succ])
  ((refine wpAnyH_take (i := 20) (v := ?_) (by (simp only [List.getElem?_toArray, List.getElem?_cons_succ, List.getElem?_cons_zero]); rfl) (by kernel_rfl) (by kernel_rfl) (by kernel_rfl) (by exact fun _ _ _ h => h) (Or.inl ⟨by (go_simp; try rfl), ?_⟩) (by assumption) ?_); rotate_left; focus (intro wS hSw; (try dsimp only at hSw); go_simp; first | done | with_reducible rfl); try simp only [Act.put, List.setIfInBounds_toArray, List.set_cons_zero, List.set_cons_succ])
  ((refine wpAnyH_take (i := 21) (v := ?_) (by (simp only [List.getElem?_toArray, List.getElem?_cons_succ, List.getElem?_cons_zero]); rfl) (by kernel_rfl) (by kernel_rfl) (by kernel_rfl) (by exact fun _ _ _ h => h) (Or.inl ⟨by rfl, ?_⟩) (by assumption) ?_); rotate_left; focus (intro wS hSw; (try dsimp only at hSw); go_simp; first | done | with_reducible rfl); try simp only [Act.put, List.setIfInBounds_toArray, List.set_cons_zero, List.set_cons_succ])
  ((refine wpAnyH_take (i := 22) (v := ?_) (by (simp only [List.getElem?_toArray, List.getElem?_cons_succ, List.getElem?_cons_zero]); rfl) (by kernel_rfl) (by kernel_rfl) (by kernel_rfl) (by exact fun _ _ _ h => h) (Or.inl ⟨by rfl, ?_⟩) (by assumption) ?_); rotate_left; focus (intro wS hSw; (try dsimp only at hSw); go_simp; first | done | with_reducible rfl); try simp only [Act.put, List.setIfInBounds_toArray, List.set_cons_zero, List.set_cons_succ])
  ((refine wpAnyH_take (i := 23) (v := ?_) (by (simp only [List.getElem?_toArray, List.getElem?_cons_succ, List.getElem?_cons_zero]); rfl) (by kernel_rfl) (by kernel_rfl) (by kernel_rfl) (by exact fun _ _ _ h => h) (Or.inl ⟨by (go_simp; try rfl), ?_⟩) (by assumption) ?_); rotate_left; focus (intro wS hSw; (try dsimp only at hSw); go_simp; first | done | with_reducible rfl); try simp only [Act.put, List.setIfInBounds_toArray, List.set_cons_zero, List.set_cons_succ])
  ((refine wpAnyH_take (i := 24) (v := ?_) (by (simp only [List.getElem?_toArray, List.getElem?_cons_succ, List.getElem?_cons_zero]); rfl) (by kernel_rfl) (by kernel_rfl) (by kernel_rfl) (by exact fun _ _ _ h => h) (Or.inl ⟨by (go_simp; try rfl), ?_⟩) (by assumption) ?_); rotate_left; focus (intro wS hSw; (try dsimp only at hSw); go_simp; first | done | with_reducible rfl); try simp only [Act.put, List.setIfInBounds_toArray, List.set_cons_zero, List.set_cons_succ])
  ((refine wpAnyH_take (i := 25) (v := ?_) (by (simp only [List.getElem?_toArray, List.getElem?_cons_succ, List.getElem?_cons_zero]); rfl) (by kernel_rfl) (by kernel_rfl) (by kernel_rfl) (by exact fun _ _ _ h => h) (Or.inl ⟨by rfl, ?_⟩) (by assumption) ?_); rotate_left; focus (intro wS hSw; (try dsimp only at hSw); go_simp; first | done | with_reducible rfl); try simp only [Act.put, List.setIfInBounds_toArray, List.set_cons_zero, List.set_cons_succ])
  ((refine wpAnyH_take (i := 26) (v := ?_) (by (simp only [List.getElem?_toArray, List.getElem?_cons_succ, List.getElem?_cons_zero]); rfl) (by kernel_rfl) (by kernel_rfl) (by kernel_rfl) (by exact fun _ _ _ h => h) (Or.inl ⟨by rfl, ?_⟩) (by assumption) ?_); rotate_left; focus (intro wS hSw; (try dsimp only at hSw); go_simp; first | done | with_reducible rfl); try simp only [Act.put, List.setIfInBounds_toArray, List.set_cons_zero, List.set_cons_succ])
  ((refine wpAnyH_take (i := 27) (v := ?_) (by (simp only [List.getElem?_toArray, List.getElem?_cons_succ, List.getElem?_cons_zero]); rfl) (by kernel_rfl) (by kernel_rfl) (by kernel_rfl) (by exact fun _ _ _ h => h) (Or.inl ⟨by (go_simp; try rfl), ?_⟩) (by assumption) ?_); rotate_left; focus (intro wS hSw; (try dsimp only at hSw); go_simp; first | done | with_reducible rfl); try simp only [Act.put, List.setIfInBounds_toArray, List.set_cons_zero, List.set_cons_succ])
  ((refine wpAnyH_take (i := 29) (v := ?_) (by (simp only [List.getElem?_toArray, List.getElem?_cons_succ, List.getElem?_cons_zero]); rfl) (by kernel_rfl) (by kernel_rfl) (by kernel_rfl) (by exact fun _ _ _ h => h) (Or.inl ⟨by (go_simp; try rfl), ?_⟩) (by assumption) ?_); rotate_left; focus (intro wS hSw; (try dsimp only at hSw); go_simp; first | done | with_reducible rfl); try simp only [Act.put, List.setIfInBounds_toArray, List.set_cons_zero, List.set_cons_succ])
  ((refine wpAnyH_take (i := 32) (v := ?_) (by (simp only [List.getElem?_toArray, List.getElem?_cons_succ, List.getElem?_cons_zero]); rfl) (by kernel_rfl) (by kernel_rfl) (by kernel_rfl) (by exact fun _ _ _ h => h) (Or.inl ⟨by (go_simp; try rfl), ?_⟩) (by assumption) ?_); rotate_left; focus (intro wS hSw; (try dsimp only at hSw); go_simp; first | done | with_reducible rfl); try simp only [Act.put, List.setIfInBounds_toArray, List.set_cons_zero, List.set_cons_succ])
  ((refine wpAnyH_ready (rs := [28]) (by kernel_rfl) (by simp) ?_); (refine AllReadyH.cons (by (simp only [List.getElem?_toArray, List.getElem?_cons_succ, List.getElem?_cons_zero]); rfl) (fun K hK => ?_) AllReadyH.nil); go_simp; refine Calls.mono (nlen_any _) ?_)
  rintro e X ⟨rfl, rfl⟩
  (go_wp2_with fail; (refine hK.out _ _ ⟨HQ4.out.1.1 0, HQ4.out.1.1 1, HQ4.out.1.1 2, HQ4.out.1.1 3, HQ4.out.2.1.1 0, HQ4.out.2.1.1 1, HQ4.out.2.1.1 2, HQ4.out.2.1.1 3⟩ (fun hHeld => ?_)); clear hK K; try simp only [Act.put, List.setIfInBounds_toArray, List.set_cons_zero, List.set_cons_succ])
  ((refine wpAnyH_ready (rs := [30]) (by kernel_rfl) (by simp) ?_); (refine AllReadyH.cons (by (simp only [List.getElem?_toArray, List.getElem?_cons_succ, List.getElem?_cons_zero]); rfl) (fun K hK => ?_) AllReadyH.nil); go_simp; refine Calls.mono (nbytes_any _) ?_)
  rintro e X ⟨rfl, rfl⟩
  (go_wp2_with fail; (refine hK.out _ _ ⟨HQ4.out.1.1 0, HQ4.out.1.1 1, HQ4.out.1.1 2, HQ4.out.1.1 3, HQ4.out.2.1.1 0, HQ4.out.2.1.1 1, HQ4.out.2.1.1 2, HQ4.out.2.1.1 3⟩ (fun hHeld => ?_)); clear hK K; try simp only [Act.put, List.setIfInBounds_toArray, List.set_cons_zero, List.set_cons_succ])
  ((refine wpAnyH_take (i := 31) (v := ?_) (by (simp only [List.getElem?_toArray, List.getElem?_cons_succ, List.getElem?_cons_zero]); rfl) (by kernel_rfl) (by kernel_rfl) (by kernel_rfl) (by exact fun _ _ _ h => h) (Or.inl ⟨by (go_simp; try rfl), ?_⟩) (by assumption) ?_); rotate_left; focus (intro wS hSw; (try dsimp only at hSw); go_simp; first | done | with_reducible rfl); try simp only [Act.put, List.setIfInBounds_toArray, List.set_cons_zero, List.set_cons_succ])
  ((refine wpAnyH_ready (rs := [33]) (by kernel_rfl) (by simp) ?_); (refine AllReadyH.cons (by (simp only [List.getElem?_toArray, List.getElem?_cons_succ, List.getElem?_cons_zero]); rfl) (fun K hK => ?_) AllReadyH.nil); go_simp; refine Calls.mono (ndrops_any _) ?_)
  rintro e X ⟨rfl, rfl⟩
  (go_wp2_with fail; (refine hK.out _ _ ⟨HQ4.out.1.1 0, HQ4.out.1.1 1, HQ4.out.1.1 2, HQ4.out.1.1 3, HQ4.out.2.1.1 0, HQ4.out.2.1.1 1, HQ4.out.2.1.1 2, HQ4.out.2.1.1 3⟩ (fun hHeld => ?_)); clear hK K; try simp only [Act.put, List.setIfInBounds_toArray, List.set_cons_zero, List.set_cons_succ])
  ((refine wpAnyH_take (i := 34) (v := ?_) (by (simp only [List.getElem?_toArray, List.getElem?_cons_succ, List.getElem?_cons_zero]); rfl) (by kernel_rfl) (by kernel_rfl) (by kernel_rfl) (by exact fun _ _ _ h => h) (Or.inl ⟨by (go_simp; try rfl), ?_⟩) (by assumption) ?_); rotate_left; focus (intro wS hSw; (try dsimp only at hSw); go_simp; first | done | with_reducible rfl); try simp only [Act.put, List.setIfInBounds_toArray, List.set_cons_zero, List.set_cons_succ])
  ((refine wpAnyH_take (i := 35) (v := ?_) (by (simp only [List.getElem?_toArray, List.getElem?_cons_succ, List.getElem?_cons_zero]); rfl) (by kernel_rfl) (by kernel_rfl) (by kernel_rfl) (by exact fun _ _ _ h => h) (Or.inl ⟨by (go_simp; try rfl), ?_⟩) (by assumption) ?_); rotate_left; focus (intro wS hSw; (try dsimp only at hSw); go_simp; first | done | with_reducible rfl); try simp only [Act.put, List.setIfInBounds_toArray, List.set_cons_zero, List.set_cons_succ])
  ((refine wpAnyH_take (i := 36) (v := ?_) (by (simp only [List.getElem?_toArray, List.getElem?_cons_succ, List.getElem?_cons_zero]); rfl) (by kernel_rfl) (by kernel_rfl) (by kernel_rfl) (by exact fun _ _ _ h => h) (Or.inl ⟨by rfl, ?_⟩) (by assumption) ?_); rotate_left; focus (intro wS hSw; (try dsimp only at hSw); go_simp; first | done | with_reducible rfl); try simp only [Act.put, List.setIfInBounds_toArray, List.set_cons_zero, List.set_cons_succ])
  ((refine wpAnyH_take (i := 37) (v := ?_) (by (simp only [List.getElem?_toArray, List.getElem?_cons_succ, List.getElem?_cons_zero]); rfl) (by kernel_rfl) (by kernel_rfl) (by kernel_rfl) (by exact fun _ _ _ h => h) (Or.inl ⟨by rfl, ?_⟩) (by assumption) ?_); rotate_left; focus (intro wS hSw; (try dsimp only at hSw); go_simp; first | done | with_reducible rfl); try simp only [Act.put, List.setIfInBounds_toArray, List.set_cons_zero, List.set_cons_succ])
  ((refine wpAnyH_take (i := 38) (v := ?_) (by (simp only [List.getElem?_toArray, List.getElem?_cons_succ, List.getElem?_cons_zero]); rfl) (by kernel_rfl) (by kernel_rfl) (by kernel_rfl) (by exact fun _ _ _ h => h) (Or.inl ⟨by (go_simp; try rfl), ?_⟩) (by assumption) ?_); rotate_left; focus (intro wS hSw; (try dsimp only at hSw); go_simp; first | done | with_reducible rfl); try simp only [Act.put, List.setIfInBounds_toArray, List.set_cons_zero, List.set_cons_succ])
  ((refine wpAnyH_ready (rs := [39]) (by kernel_rfl) (by simp) ?_); (refine AllReadyH.cons (by (simp only [List.getElem?_toArray, List.getElem?_cons_succ, List.getElem?_cons_zero]); rfl) (fun K hK => ?_) AllReadyH.nil); go_simp; refine Calls.mono (told_none _) ?_)
  rintro e X5 ⟨rfl, hX5⟩
  have HQ5 := Lib.hid (HQ4.out.step hX5)
  clear hX5
  (go_wp2_with fail; (refine hK.out _ _ ⟨HQ5.out.1.1 0, HQ5.out.1.1 1, HQ5.out.1.1 2, HQ5.out.1.1 3, HQ5.out.2.1.1 0, HQ5.out.2.1.1 1, HQ5.out.2.1.1 2, HQ5.out.2.1.1 3⟩ (fun hHeld => ?_)); clear hK K; try simp only [Act.put, List.setIfInBounds_toArray, List.set_cons_zero, List.set_cons_succ])
  ((refine wpAnyH_take (i := 40) (v := ?_) (by (simp only [List.getElem?_toArray, List.getElem?_cons_succ, List.getElem?_cons_zero]); rfl) (by kernel_rfl) (by kernel_rfl) (by kernel_rfl) (by exact fun _ _ _ h => h) (Or.inl ⟨by rfl, ?_⟩) (by assumption) ?_); rotate_left; focus (intro wS hSw; (try dsimp only at hSw); go_simp; first | done | with_reducible rfl); try simp only [Act.put, List.setIfInBounds_toArray, List.set_cons_zero, List.set_cons_succ])
  ((refine wpAnyH_take (i := 41) (v := ?_) (by (simp only [List.getElem?_toArray, List.getElem?_cons_succ, List.getElem?_cons_zero]); rfl) (by kernel_rfl) (by kernel_rfl) (by kernel_rfl) (by exact fun _ _ _ h => h) (Or.inl ⟨by rfl, ?_⟩) (by assumption) ?_); rotate_left; focus (intro wS hSw; (try dsimp only at hSw); go_simp; first | done | with_reducible rfl); try simp only [Act.put, List.setIfInBounds_toArray, List.set_cons_zero, List.set_cons_succ])
  ((refine wpAnyH_ready (rs := [42]) (by kernel_rfl) (by simp) ?_); (refine AllReadyH.cons (by (simp only [List.getElem?_toArray, List.getElem?_cons_succ, List.getElem?_cons_zero]); rfl) (fun K hK => ?_) AllReadyH.nil); go_simp; refine Calls.mono (fwakes_any _) ?_)
  rintro e X6 ⟨rfl, hX6⟩
  have HQ6 := Lib.hid (HQ5.out.step hX6)
  clear hX6
  (go_wp2_with fail; (refine hK.out _ _ ⟨HQ6.out.1.1 0, HQ6.out.1.1 1, HQ6.out.1.1 2, HQ6.out.1.1 3, HQ6.out.2.1.1 0, HQ6.out.2.1.1 1, HQ6.out.2.1.1 2, HQ6.out.2.1.1 3⟩ (fun hHeld => ?_)); clear hK K; try simp only [Act.put, List.setIfInBounds_toArray, List.set_cons_zero, List.set_cons_succ])
  ((refine wpAnyH_take (i := 43) (v := ?_) (by (simp only [List.getElem?_toArray, List.getElem?_cons_succ, List.getElem?_cons_zero]); rfl) (by kernel_rfl) (by kernel_rfl) (by kernel_rfl) (by exact fun _ _ _ h => h) (Or.inl ⟨by rfl, ?_⟩) (by assumption) ?_); rotate_left; focus (intro wS hSw; (try dsimp only at hSw); go_simp; first | done | with_reducible rfl); try simp only [Act.put, List.setIfInBounds_toArray, List.set_cons_zero, List.set_cons_succ])
  ((refine wpAnyH_take (i := 44) (v := ?_) (by (simp only [List.getElem?_toArray, List.getElem?_cons_succ, List.getElem?_cons_zero]); rfl) (by kernel_rfl) (by kernel_rfl) (by kernel_rfl) (by exact fun _ _ _ h => h) (Or.inl ⟨by rfl, ?_⟩) (by assumption) ?_); rotate_left; focus (intro wS hSw; (try dsimp only at hSw); go_simp; first | done | with_reducible rfl); try simp only [Act.put, List.setIfInBounds_toArray, List.set_cons_zero, List.set_cons_succ])
  refine wpAnyH_done (by kernel_rfl) ?_ _
  go_wp2_with fail
  go_ret
  exact ⟨rfl, HQ6.out.2.2⟩
theorem pkt_inv {W : World} {x : Dt} (h : Fits Try.prog W 57 x) : ∃ (v0_0 : Int) (v0_1 : Int) (v0_2 : Int) (av0_3 : Option Addr) (nv0_3 : Nat) (cv0_3 : Nat) (xv0_3 : List Dt), x.cells = [.int .i64 v0_0, .int .i64 v0_1, .int .i64 v0_2, .slice av0_3 nv0_3 cv0_3] ∧ (-9223372036854775808 ≤ v0_0 ∧ v0_0 ≤ 9223372036854775807) ∧ (-9223372036854775808 ≤ v0_1 ∧ v0_1 ≤ 9223372036854775807) ∧ (-9223372036854775808 ≤ v0_2 ∧ v0_2 ≤ 9223372036854775807) ∧ (SliceFits Try.prog W 5 av0_3 nv0_3 cv0_3 xv0_3) := by
  obtain ⟨l0, rfl, hl0, hf0⟩ := h.agg_inv Try.underlying57
  obtain ⟨y0_0, e0_0, f0_0⟩ := hf0 0 _ rfl
  obtain ⟨y0_1, e0_1, f0_1⟩ := hf0 1 _ rfl
  obtain ⟨y0_2, e0_2, f0_2⟩ := hf0 2 _ rfl
  obtain ⟨y0_3, e0_3, f0_3⟩ := hf0 3 _ rfl
  obtain ⟨v0_0, rfl, gv0_0⟩ := f0_0.int_inv Try.underlying3
  obtain ⟨v0_1, rfl, gv0_1⟩ := f0_1.int_inv Try.underlying3
  obtain ⟨v0_2, rfl, gv0_2⟩ := f0_2.int_inv Try.underlying3
  obtain ⟨av0_3, nv0_3, cv0_3, xv0_3, rfl, gv0_3⟩ := f0_3.slice_inv Try.underlying55
  match l0, hl0 with
  | [z0_0, z0_1, z0_2, z0_3], _ =>
    obtain rfl : z0_0 = _ := by simpa using e0_0
    obtain rfl : z0_1 = _ := by simpa using e0_1
    obtain rfl : z0_2 = _ := by simpa using e0_2
    obtain rfl : z0_3 = _ := by simpa using e0_3
    exact ⟨v0_0, v0_1, v0_2, av0_3, nv0_3, cv0_3, xv0_3, rfl, gv0_0, gv0_1, gv0_2, gv0_3⟩


theorem fifoSame_walk (x y : Dt) (w : World) (hx : Fits Try.prog w 57 x) (hy : Fits Try.prog w 57 y) :
    Calls Try.prog 9 #[.agg x.cells.toArray, .agg y.cells.toArray] w fun e w' => e = .returned (.bool true) ∧ Below w.heap.size w w' := by
  obtain ⟨num, t, c, a, n, ca, _, e, _, _, _, f⟩ := pkt_inv hx
  obtain ⟨num', t', c', a', n', ca', _, e', _, _, _, f'⟩ := pkt_inv hy
  rw [e, e']
  obtain ⟨b, o, X, h⟩ := by_cells w f
  obtain ⟨b', o', X', h'⟩ := by_cells w f'
  exact fifoSame_any ⟨num, t, c, a, n, ca, b, o, X⟩ ⟨num', t', c', a', n', ca', b', o', X'⟩ w h h'
end Go.Proofs.Ytninhjeiialbjaa
