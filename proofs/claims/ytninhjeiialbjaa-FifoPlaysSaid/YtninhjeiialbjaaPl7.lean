/-
  The document's Pop.
-/
import Derived.Test.YtninhjeiialbjaaPl6
namespace Go.Proofs.Ytninhjeiialbjaa
open Go.RowKit
set_option linter.unusedSimpArgs false
set_option linter.unusedVariables false

theorem pL_cons (E : Nat → PkE) : ∀ n : Nat, pL E (n + 1) = (E 0).cells ++ pL (fun j => E (j + 1)) n
  | 0 => by simp [pL]
  | n + 1 => by rw [pL_succ, pL_cons E n, pL_succ, List.append_assoc]

theorem RQ.pop {W : World} {D : Nat} {room : Int} {n : Nat} {lost : Int} {ob : Option Nat} {g off cap : Nat} {E : Nat → PkE} (h : RQ W D room (n + 1) lost ob (.slice (some ⟨g, off, none⟩) (n + 1) cap) E) (off' : Nat) (ho : (cap = 1 ∧ off' = off) ∨ (cap ≠ 1 ∧ off' = off + 4)) :
    RQ (W.setCell ⟨D, 1, none⟩ (.slice (some ⟨g, off', none⟩) n (cap - 1))) D room n lost ob (.slice (some ⟨g, off', none⟩) n (cap - 1)) (fun j => E (j + 1)) := by
  refine ⟨h.own.set 1 _, ⟨pL_len _ _, ?_⟩, h.ne, fun j hj => (h.ld (j + 1) (by omega)).ne ⟨D, 1, none⟩ (fun hp => (h.d (j + 1) (by omega) hp).1) _, fun j hj => h.le (j + 1) (by omega), fun j hj => h.d (j + 1) (by omega)⟩
  rcases h.row.2 with ⟨h1, h2, h3⟩ | ⟨g', off1, cap', cur, h1, h2, h3, h4, h5, h6, h7⟩
  · omega
  · injection h1 with e1 e2 e3
    obtain rfl := e3
    have e4 := Option.some.inj e1
    injection e4 with e5 e6
    subst e5 e6
    refine .inr ⟨g, off', cap - 1, cur, rfl, h2, (heap_setCell_ne _ _ _ _ (fun e => h.ne (by rw [h2, e]))).trans h3, by omega, by omega, by omega, fun j hj => ?_⟩
    rcases ho with ⟨rfl, rfl⟩ | ⟨hc, rfl⟩
    · omega
    · have := h7 (4 + j) (by omega)
      rw [pL_cons, ← Nat.add_assoc] at this
      rw [this, List.getElem?_append_right (by simp [PkE.cells])]
      congr 1
      simp [PkE.cells]

set_option maxRecDepth 100000 in
set_option maxHeartbeats 4000000 in
theorem rpop_none (D : Nat) (room : Int) (lost : Int) (ob : Option Nat) (v : Value) (E : Nat → PkE) (w : World) (hq : RQ w D room 0 lost ob v E) :
    Calls Try.prog 74 #[.pointer (some ⟨D, 0, none⟩)] w fun e w' => e = .returned (.tuple #[.agg #[.int .i64 0, .int .i64 0, .int .i64 0, .slice none 0 0], .int .i64 4]) ∧ Below w.heap.size w w' := by
  obtain ⟨N, hN⟩ : ∃ N, N = w.heap.size := ⟨_, rfl⟩
  obtain ⟨W1, hW1⟩ : ∃ W1, W1 = w.alloc (.cells #[.int .i64 0, .int .i64 0, .int .i64 0, .slice none 0 0] 57) := ⟨_, rfl⟩
  have hB1 : Below N w W1 := by rw [hW1, hN]; exact (Below.refl _ _).alloc (Nat.le_refl _) _
  have hp : Blk W1 N #[.int .i64 0, .int .i64 0, .int .i64 0, .slice none 0 0] 57 := by rw [hW1, hN]; exact blk_new _ _ _
  have HQ1 := Lib.hid (hq.below (hN ▸ hB1))
  have HP1 := Lib.hid hp
  have HB1 := Lib.hid hB1
  have HN := Lib.hid hN
  clear hq hB1 hp
  go_enter Try.func74, Try.ntmps74
  go_upto_region 1 with fail
  rw [← hN, ← hW1]
  clear hN hW1
  go_wp2_with fail
  go_at_call 75
  refine (rhead_none D room lost ob v E _ HQ1.out).mono ?_
  rintro e W2 ⟨rfl, hB2⟩
  have hBx : Below W2.heap.size W2 (W2.alloc (.cells #[.int .i64 0, .int .i64 0, .int .i64 0, .slice none 0 0] 57)) := (Below.refl _ _).alloc (Nat.le_refl _) _
  obtain ⟨W3, hW3⟩ : ∃ W3, W3 = W2.alloc (.cells #[.int .i64 0, .int .i64 0, .int .i64 0, .slice none 0 0] 57) := ⟨_, rfl⟩
  rw [← hW3] at hBx
  have hp2 := HP1.out.step hB2
  have hp3 := hp2.step hBx
  have HP3 := Lib.hid hp3
  have HB3 := Lib.hid (HB1.out.trans ((hB2.trans (hBx.mono hB2.size)).mono (by have := HP1.out.lt; omega)))
  have y0 := free_at hp3 0
  have y1 := free_at hp3 1
  have y2 := free_at hp3 2
  have y3 := free_at hp3 3
  have d0 : W3.cell? ⟨N, 0, none⟩ = some (.int .i64 0) := cell_at hp3 0
  have d1 : W3.cell? ⟨N, 1, none⟩ = some (.int .i64 0) := cell_at hp3 1
  have d2 : W3.cell? ⟨N, 2, none⟩ = some (.int .i64 0) := cell_at hp3 2
  have d3 : W3.cell? ⟨N, 3, none⟩ = some (.slice none 0 0) := cell_at hp3 3
  have hl := hp3.lt
  clear hB2 hp2 hp3 hBx
  go_upto_region 2 with fail
  rw [← hW3]
  clear hW3
  go_wp2_with fail
  obtain ⟨WF, hWF⟩ : ∃ WF, WF = (((W3.setCell ⟨N, 0, none⟩ (.int .i64 0)).setCell ⟨N, 1, none⟩ (.int .i64 0)).setCell ⟨N, 2, none⟩ (.int .i64 0)).setCell ⟨N, 3, none⟩ (.slice none 0 0) := ⟨_, rfl⟩
  have k1 : Blk WF N #[.int .i64 0, .int .i64 0, .int .i64 0, .slice none 0 0] 57 := by rw [hWF]; exact (((HP3.out.set 0 (.int .i64 0)).set 1 (.int .i64 0)).set 2 (.int .i64 0)).set 3 (.slice none 0 0)
  have hBF : Below N w WF := by rw [hWF]; exact (((HB3.out.setCell (p := ⟨N, 0, none⟩) (Nat.le_refl _) _).setCell (p := ⟨N, 1, none⟩) (Nat.le_refl _) _).setCell (p := ⟨N, 2, none⟩) (Nat.le_refl _) _).setCell (p := ⟨N, 3, none⟩) (Nat.le_refl _) _
  rw [← hWF]
  have r0 : WF.cell? ⟨N, 0, none⟩ = some (.int .i64 0) := cell_at k1 0
  have r1 : WF.cell? ⟨N, 1, none⟩ = some (.int .i64 0) := cell_at k1 1
  have r2 : WF.cell? ⟨N, 2, none⟩ = some (.int .i64 0) := cell_at k1 2
  have r3 : WF.cell? ⟨N, 3, none⟩ = some (.slice none 0 0) := cell_at k1 3
  exact bodyPost_ret (v := .tuple #[.agg #[.int .i64 0, .int .i64 0, .int .i64 0, .slice none 0 0], .int .i64 4]) (by simp [results, Try.results74, go_sem, r0, r1, r2, r3]) rfl ⟨rfl, HN.out ▸ hBF⟩
end Go.Proofs.Ytninhjeiialbjaa
