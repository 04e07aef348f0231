/-
  A step: Push on both sides.
-/
import Derived.Test.YtninhjeiialbjaaPle
namespace Go.Proofs.Ytninhjeiialbjaa
open Go.RowKit
set_option linter.unusedSimpArgs false
set_option linter.unusedVariables false

set_option maxRecDepth 100000 in
set_option maxHeartbeats 8000000 in
theorem step_push (D D2 : Nat) (k num t c : Int) (a : Option Addr) (ln ca : Nat) (er : Int) (w : World) (l l2 : List Nat) (hl : ∀ x ∈ l, x < w.heap.size) (hl2 : ∀ x ∈ l2, x < w.heap.size) (R1 : World → World → Prop) (R2 : World → World → World → Prop)
    (H1 : ∀ W, Below w.heap.size w W → Calls Try.prog 47 #[.pointer (some ⟨D, 0, none⟩), .agg #[.int .i64 num, .int .i64 t, .int .i64 c, .slice a ln ca]] W fun e W1 => e = .returned (.int .i64 er) ∧ R1 W W1 ∧ Fr l W W1)
    (H2 : ∀ W W1, Below w.heap.size w W → R1 W W1 → Calls Try.prog 73 #[.pointer (some ⟨D2, 0, none⟩), .agg #[.int .i64 num, .int .i64 t, .int .i64 c, .slice a ln ca]] W1 fun e W2 => e = .returned (.int .i64 er) ∧ R2 W W1 W2 ∧ Fr l2 W1 W2) :
    Calls Try.prog 37 #[.pointer (some ⟨D, 0, none⟩), .pointer (some ⟨D2, 0, none⟩), .agg #[.int .i64 0, .int .i64 k, .int .i64 num, .int .i64 t, .int .i64 c, .slice a ln ca]] w fun e w' => e = .returned (.bool true) ∧ ∃ W W1, Below w.heap.size w W ∧ R1 W W1 ∧ R2 W W1 w' := by
  obtain ⟨N, hN⟩ : ∃ N, N = w.heap.size := ⟨_, rfl⟩
  obtain ⟨W1, hW1⟩ : ∃ W1, W1 = w.alloc (.cells #[.int .i64 0, .int .i64 k, .int .i64 num, .int .i64 t, .int .i64 c, .slice a ln ca] 59) := ⟨_, rfl⟩
  have hB1 : Below w.heap.size w W1 := by rw [hW1]; exact (Below.refl _ _).alloc (Nat.le_refl _) _
  have hp : Blk W1 N #[.int .i64 0, .int .i64 k, .int .i64 num, .int .i64 t, .int .i64 c, .slice a ln ca] 59 := by rw [hW1, hN]; exact blk_new _ _ _
  have HP1 : Hid (Blk W1.drew N #[.int .i64 0, .int .i64 k, .int .i64 num, .int .i64 t, .int .i64 c, .slice a ln ca] 59) := Lib.hid hp
  have HB1 : Hid (Below w.heap.size w W1.drew) := Lib.hid hB1.drew
  have c0 : W1.cell? ⟨N, 0, none⟩ = some (.int .i64 0) := cell_at hp 0
  have hN1 := hp.lt
  have HL := Lib.hid hl
  have HL2 := Lib.hid hl2
  have HN := Lib.hid hN
  have H1 := Lib.hid H1
  have H2 := Lib.hid H2
  clear hB1 hp hl hl2
  go_enter Try.func37, Try.ntmps37
  go_upto_region 1 with fail
  rw [← hN, ← hW1]
  clear hN hW1
  go_upto_region 3 with fail
  refine wp_region_held_drew (S := fun X => X.cell? ⟨N, 2, none⟩ = some (.int .i64 num) ∧ X.cell? ⟨N, 3, none⟩ = some (.int .i64 t) ∧ X.cell? ⟨N, 4, none⟩ = some (.int .i64 c) ∧ X.cell? ⟨N, 5, none⟩ = some (.slice a ln ca) ∧ N < X.heap.size) (by kernel_rfl) ⟨cell_at HP1.out 2, cell_at HP1.out 3, cell_at HP1.out 4, cell_at HP1.out 5, HP1.out.lt⟩ (fun hHeld => ?_)
  clear c0 hN1
  ((refine wpAnyH_take (i := 0) (v := ?_) (by (simp only [List.getElem?_toArray, List.getElem?_cons_succ, List.getElem?_cons_zero]); rfl) (by kernel_rfl) (by kernel_rfl) (by kernel_rfl) (by exact fun _ _ _ h => h) (Or.inl ⟨by rfl, ?_⟩) (by assumption) ?_); rotate_left; focus (intro wS hSw; (try dsimp only at hSw); go_simp; first | done | with_reducible rfl); try simp only [Act.put, List.setIfInBounds_toArray, List.set_cons_zero, List.set_cons_succ])
  ((refine wpAnyH_take (i := 1) (v := ?_) (by (simp only [List.getElem?_toArray, List.getElem?_cons_succ, List.getElem?_cons_zero]); rfl) (by kernel_rfl) (by kernel_rfl) (by kernel_rfl) (by exact fun _ _ _ h => h) (Or.inl ⟨by rfl, ?_⟩) (by assumption) ?_); rotate_left; focus (intro wS hSw; (try dsimp only at hSw); go_simp; first | done | with_reducible rfl); try simp only [Act.put, List.setIfInBounds_toArray, List.set_cons_zero, List.set_cons_succ])
  ((refine wpAnyH_take (i := 2) (v := ?_) (by (simp only [List.getElem?_toArray, List.getElem?_cons_succ, List.getElem?_cons_zero]); rfl) (by kernel_rfl) (by kernel_rfl) (by kernel_rfl) (by exact fun _ _ _ h => h) (Or.inl ⟨by rfl, ?_⟩) (by assumption) ?_); rotate_left; focus (intro wS hSw; (try dsimp only at hSw); go_simp; first | done | with_reducible rfl); try simp only [Act.put, List.setIfInBounds_toArray, List.set_cons_zero, List.set_cons_succ])
  ((refine wpAnyH_take (i := 4) (v := ?_) (by (simp only [List.getElem?_toArray, List.getElem?_cons_succ, List.getElem?_cons_zero]); rfl) (by kernel_rfl) (by kernel_rfl) (by kernel_rfl) (by exact fun _ _ _ h => h) (Or.inl ⟨by rfl, ?_⟩) (by assumption) ?_); rotate_left; focus (intro wS hSw; (try dsimp only at hSw); go_simp; first | done | with_reducible rfl); try simp only [Act.put, List.setIfInBounds_toArray, List.set_cons_zero, List.set_cons_succ])
  ((refine wpAnyH_take (i := 5) (v := ?_) (by (simp only [List.getElem?_toArray, List.getElem?_cons_succ, List.getElem?_cons_zero]); rfl) (by kernel_rfl) (by kernel_rfl) (by kernel_rfl) (by exact fun _ _ _ h => h) (Or.inl ⟨by rfl, ?_⟩) (by assumption) ?_); rotate_left; focus (intro wS hSw; (try dsimp only at hSw); go_simp; first | done | with_reducible rfl); try simp only [Act.put, List.setIfInBounds_toArray, List.set_cons_zero, List.set_cons_succ])
  ((refine wpAnyH_take (i := 6) (v := ?_) (by (simp only [List.getElem?_toArray, List.getElem?_cons_succ, List.getElem?_cons_zero]); rfl) (by kernel_rfl) (by kernel_rfl) (by kernel_rfl) (by exact fun _ _ _ h => h) (Or.inl ⟨by rfl, ?_⟩) (by assumption) ?_); rotate_left; focus (intro wS hSw; (try dsimp only at hSw); go_simp; first | done | with_reducible rfl); try simp only [Act.put, List.setIfInBounds_toArray, List.set_cons_zero, List.set_cons_succ])
  ((refine wpAnyH_ready (rs := [3]) (by kernel_rfl) (by simp) ?_); (refine AllReadyH.cons (by (simp only [List.getElem?_toArray, List.getElem?_cons_succ, List.getElem?_cons_zero]); rfl) (fun K hK => ?_) AllReadyH.nil); go_simp; refine Calls.mono (H1.out _ HB1.out) ?_)
  rintro e W3 ⟨rfl, h3, hF3⟩
  have HP3 : Hid (Blk W3 N #[.int .i64 0, .int .i64 k, .int .i64 num, .int .i64 t, .int .i64 c, .slice a ln ca] 59) := Lib.hid ((hF3.block N HP1.out.lt (fun h => by have := HL.out N h; have := HN.out; omega)).trans HP1.out)
  have HR3 := Lib.hid h3
  clear h3 hF3
  go_wp2_with fail
  refine hK.out _ _ ⟨cell_at HP3.out 2, cell_at HP3.out 3, cell_at HP3.out 4, cell_at HP3.out 5, HP3.out.lt⟩ (fun hHeld => ?_)
  clear hK K
  try simp only [Act.put, List.setIfInBounds_toArray, List.set_cons_zero, List.set_cons_succ]
  ((refine wpAnyH_ready (rs := [7]) (by kernel_rfl) (by simp) ?_); (refine AllReadyH.cons (by (simp only [List.getElem?_toArray, List.getElem?_cons_succ, List.getElem?_cons_zero]); rfl) (fun K hK => ?_) AllReadyH.nil); go_simp; refine Calls.mono (H2.out _ _ HB1.out HR3.out) ?_)
  rintro e W4 ⟨rfl, h4, hF4⟩
  have HP4 : Hid (Blk W4 N #[.int .i64 0, .int .i64 k, .int .i64 num, .int .i64 t, .int .i64 c, .slice a ln ca] 59) := Lib.hid ((hF4.block N HP3.out.lt (fun h => by have := HL2.out N h; have := HN.out; omega)).trans HP3.out)
  have HR4 := Lib.hid h4
  clear h4 hF4
  go_wp2_with fail
  refine hK.out _ _ ⟨cell_at HP4.out 2, cell_at HP4.out 3, cell_at HP4.out 4, cell_at HP4.out 5, HP4.out.lt⟩ (fun hHeld => ?_)
  clear hK K
  try simp only [Act.put, List.setIfInBounds_toArray, List.set_cons_zero, List.set_cons_succ]
  ((refine wpAnyH_take (i := 8) (v := ?_) (by (simp only [List.getElem?_toArray, List.getElem?_cons_succ, List.getElem?_cons_zero]); rfl) (by kernel_rfl) (by kernel_rfl) (by kernel_rfl) (by exact fun _ _ _ h => h) (Or.inl ⟨by rfl, ?_⟩) (by assumption) ?_); rotate_left; focus (intro wS hSw; (try dsimp only at hSw); go_simp; first | done | with_reducible rfl); try simp only [Act.put, List.setIfInBounds_toArray, List.set_cons_zero, List.set_cons_succ])
  ((refine wpAnyH_take (i := 9) (v := ?_) (by (simp only [List.getElem?_toArray, List.getElem?_cons_succ, List.getElem?_cons_zero]); rfl) (by kernel_rfl) (by kernel_rfl) (by kernel_rfl) (by exact fun _ _ _ h => h) (Or.inl ⟨by rfl, ?_⟩) (by assumption) ?_); rotate_left; focus (intro wS hSw; (try dsimp only at hSw); go_simp; first | done | with_reducible rfl); try simp only [Act.put, List.setIfInBounds_toArray, List.set_cons_zero, List.set_cons_succ])
  refine wpAnyH_done (by kernel_rfl) ?_ _
  go_wp2_with fail
  go_ret
  exact ⟨rfl, _, _, HB1.out, HR3.out, HR4.out⟩
end Go.Proofs.Ytninhjeiialbjaa
