/-
  The document's Head.
-/
import Derived.Test.YtninhjeiialbjaaPl5
namespace Go.Proofs.Ytninhjeiialbjaa
open Go.RowKit
set_option linter.unusedSimpArgs false
set_option linter.unusedVariables false

theorem RQ.cellE {W : World} {D : Nat} {room : Int} {n : Nat} {lost : Int} {ob : Option Nat} {v : Value} {E : Nat → PkE} (h : RQ W D room n lost ob v E) (hn : 0 < n) : ∃ g off cap, v = .slice (some ⟨g, off, none⟩) n cap ∧ ob = some g ∧ n ≤ cap ∧ cap ≤ maxLen ∧ g < W.heap.size ∧ ∀ k, k < n → ∀ i, i < 4 → W.cell? ⟨g, off + k * 4 + i, none⟩ = (E k).cells[i]? := by
  rcases h.row.2 with ⟨h1, h2, h3⟩ | ⟨g, off, cap, cur, h1, h2, h3, h4, h5, h6, h7⟩
  · omega
  · refine ⟨g, off, cap, h1, h2, h4, h5, h3.lt, fun k hk i hi => ?_⟩
    rw [cell_at h3, Nat.add_assoc, h7 _ (by omega), pL_at E n k i hk hi]

set_option maxRecDepth 100000 in
set_option maxHeartbeats 4000000 in
theorem rhead_none (D : Nat) (room : Int) (lost : Int) (ob : Option Nat) (v : Value) (E : Nat → PkE) (w : World) (hq : RQ w D room 0 lost ob v E) :
    Calls Try.prog 75 #[.pointer (some ⟨D, 0, none⟩)] w fun e w' => e = .returned (.tuple #[.agg #[.int .i64 0, .int .i64 0, .int .i64 0, .slice none 0 0], .bool false]) ∧ Below w.heap.size w w' := by
  obtain ⟨va, vc, rfl, hnc, hcm⟩ := hq.shape
  obtain ⟨N, hN⟩ : ∃ N, N = w.heap.size := ⟨_, rfl⟩
  obtain ⟨W1, hW1⟩ : ∃ W1, W1 = w.alloc (.cells #[.int .i64 0, .int .i64 0, .int .i64 0, .slice none 0 0] 57) := ⟨_, rfl⟩
  have hB1 : Below N w W1 := by rw [hW1, hN]; exact (Below.refl _ _).alloc (Nat.le_refl _) _
  have hp : Blk W1 N #[.int .i64 0, .int .i64 0, .int .i64 0, .slice none 0 0] 57 := by rw [hW1, hN]; exact blk_new _ _ _
  have HQ1 := Lib.hid (hq.below (hN ▸ hB1))
  have q1 : W1.cell? ⟨D, 1, none⟩ = some (.slice va 0 vc) := cell_at HQ1.out.own 1
  have hD : D < W1.heap.size := HQ1.out.own.lt
  have HP1 := Lib.hid hp
  have HB1 := Lib.hid hB1
  have HN := Lib.hid hN
  have y0 := free_at hp 0
  have y1 := free_at hp 1
  have y2 := free_at hp 2
  have y3 := free_at hp 3
  have d0 : W1.cell? ⟨N, 0, none⟩ = some (.int .i64 0) := cell_at hp 0
  have d1 : W1.cell? ⟨N, 1, none⟩ = some (.int .i64 0) := cell_at hp 1
  have d2 : W1.cell? ⟨N, 2, none⟩ = some (.int .i64 0) := cell_at hp 2
  have d3 : W1.cell? ⟨N, 3, none⟩ = some (.slice none 0 0) := cell_at hp 3
  have hl := hp.lt
  clear hq hB1 hp
  go_enter Try.func75, Try.ntmps75
  go_upto_region 1 with fail
  rw [← hN, ← hW1]
  clear hN hW1
  go_wp2_with fail
  obtain ⟨WF, hWF⟩ : ∃ WF, WF = (((W1.setCell ⟨N, 0, none⟩ (.int .i64 0)).setCell ⟨N, 1, none⟩ (.int .i64 0)).setCell ⟨N, 2, none⟩ (.int .i64 0)).setCell ⟨N, 3, none⟩ (.slice none 0 0) := ⟨_, rfl⟩
  have k1 : Blk WF N #[.int .i64 0, .int .i64 0, .int .i64 0, .slice none 0 0] 57 := by rw [hWF]; exact (((HP1.out.set 0 (.int .i64 0)).set 1 (.int .i64 0)).set 2 (.int .i64 0)).set 3 (.slice none 0 0)
  have hBF : Below N w WF := by rw [hWF]; exact (((HB1.out.setCell (p := ⟨N, 0, none⟩) (Nat.le_refl _) _).setCell (p := ⟨N, 1, none⟩) (Nat.le_refl _) _).setCell (p := ⟨N, 2, none⟩) (Nat.le_refl _) _).setCell (p := ⟨N, 3, none⟩) (Nat.le_refl _) _
  rw [← hWF]
  have r0 : WF.cell? ⟨N, 0, none⟩ = some (.int .i64 0) := cell_at k1 0
  have r1 : WF.cell? ⟨N, 1, none⟩ = some (.int .i64 0) := cell_at k1 1
  have r2 : WF.cell? ⟨N, 2, none⟩ = some (.int .i64 0) := cell_at k1 2
  have r3 : WF.cell? ⟨N, 3, none⟩ = some (.slice none 0 0) := cell_at k1 3
  exact bodyPost_ret (v := .tuple #[.agg #[.int .i64 0, .int .i64 0, .int .i64 0, .slice none 0 0], .bool false]) (by simp [results, Try.results75, go_sem, r0, r1, r2, r3]) rfl ⟨rfl, HN.out ▸ hBF⟩

set_option maxRecDepth 100000 in
set_option maxHeartbeats 8000000 in
theorem rhead_any (D : Nat) (room : Int) (n : Nat) (lost : Int) (ob : Option Nat) (v : Value) (E : Nat → PkE) (w : World) (hq : RQ w D room n lost ob v E) (hn : 0 < n) :
    Calls Try.prog 75 #[.pointer (some ⟨D, 0, none⟩)] w fun e w' => ∃ a' c' b', e = .returned (.tuple #[.agg #[.int .i64 (E 0).num, .int .i64 (E 0).t, .int .i64 (E 0).c, .slice a' (E 0).n c'], .bool true]) ∧ ByIn w' a' (E 0).n c' b' 0 (E 0).X ∧ (0 < (E 0).n → w.heap.size ≤ b') ∧ Below w.heap.size w w' := by
  obtain ⟨g, off, cap, rfl, hob, hnc, hcm, hgl, hcell⟩ := hq.cellE hn
  unfold maxLen at hcm
  obtain ⟨N, hN⟩ : ∃ N, N = w.heap.size := ⟨_, rfl⟩
  obtain ⟨W1, hW1⟩ : ∃ W1, W1 = w.alloc (.cells #[.int .i64 0, .int .i64 0, .int .i64 0, .slice none 0 0] 57) := ⟨_, rfl⟩
  have hB1 : Below N w W1 := by rw [hW1, hN]; exact (Below.refl _ _).alloc (Nat.le_refl _) _
  have hp : Blk W1 N #[.int .i64 0, .int .i64 0, .int .i64 0, .slice none 0 0] 57 := by rw [hW1, hN]; exact blk_new _ _ _
  have HQ1 := Lib.hid (hq.below (hN ▸ hB1))
  have q1 : W1.cell? ⟨D, 1, none⟩ = some (.slice (some ⟨g, off, none⟩) n cap) := cell_at HQ1.out.own 1
  have hD : D < W1.heap.size := HQ1.out.own.lt
  have HP1 := Lib.hid hp
  have HB1 := Lib.hid hB1
  have HN := Lib.hid hN
  have hle := hq.le 0 hn
  have HLE := Lib.hid hle
  have HL1 : Hid (ByIn W1 (E 0).a (E 0).n (E 0).ca (E 0).b (E 0).o (E 0).X) := Lib.hid (HQ1.out.ld 0 hn)
  have hc := hcell 0 hn
  have hcB := fun i => (HB1.out.cell (p := ⟨g, off + 0 * 4 + i, none⟩) (by simp only; omega))
  obtain ⟨x, hx⟩ : ∃ x, x = E 0 := ⟨_, rfl⟩
  rw [← hx] at hc HL1 HLE ⊢
  obtain ⟨xn, xt, xc, xa, xl, xca, xb, xo, xX⟩ := x
  have e0 : W1.cell? ⟨g, off, none⟩ = some (.int .i64 xn) := (hcB 0).trans (hc 0 (by omega))
  have e1 : W1.cell? ⟨g, off + 1, none⟩ = some (.int .i64 xt) := by have := (hcB 1).trans (hc 1 (by omega)); simpa [PkE.cells] using this
  have e2 : W1.cell? ⟨g, off + 2, none⟩ = some (.int .i64 xc) := by have := (hcB 2).trans (hc 2 (by omega)); simpa [PkE.cells] using this
  have e3 : W1.cell? ⟨g, off + 3, none⟩ = some (.slice xa xl xca) := by have := (hcB 3).trans (hc 3 (by omega)); simpa [PkE.cells] using this
  have d9 : ((n : Int) == 0) = false := by rw [beq_eq_false_iff_ne]; omega
  have i2 : (0 : Int) < (n : Int) := by omega
  simp only at HL1 HLE ⊢
  clear hq hB1 hp hc hcB hcell hx hle hob
  go_enter Try.func75, Try.ntmps75
  go_upto_region 1 with fail
  rw [← hN, ← hW1]
  clear hN hW1
  go_wp2_with fail
  go_at_call 105
  refine (rcopy_any xn xt xc xa xl xca xb xo xX _ HL1.out (by have := HLE.out; omega)).mono ?_
  rintro e W3 ⟨a', c', b', rfl, hby, hfr, hB3⟩
  have hp3 := HP1.out.step hB3
  have HP3 := Lib.hid hp3
  have HB3 := Lib.hid (HB1.out.trans (hB3.mono (by have := HP1.out.lt; omega)))
  have HBY := Lib.hid hby
  have HF : Hid (0 < xl → N < b') := Lib.hid (fun h => by have := hfr h; have := HP1.out.lt; omega)
  have y0 := free_at hp3 0
  have y1 := free_at hp3 1
  have y2 := free_at hp3 2
  have y3 := free_at hp3 3
  have d0 : W3.cell? ⟨N, 0, none⟩ = some (.int .i64 0) := cell_at hp3 0
  have d1 : W3.cell? ⟨N, 1, none⟩ = some (.int .i64 0) := cell_at hp3 1
  have d2 : W3.cell? ⟨N, 2, none⟩ = some (.int .i64 0) := cell_at hp3 2
  have d3 : W3.cell? ⟨N, 3, none⟩ = some (.slice none 0 0) := cell_at hp3 3
  have hl := hp3.lt
  clear hby hfr hB3 hp3 q1 e0 e1 e2 e3
  go_wp2_with fail
  obtain ⟨WF, hWF⟩ : ∃ WF, WF = (((W3.setCell ⟨N, 0, none⟩ (.int .i64 xn)).setCell ⟨N, 1, none⟩ (.int .i64 xt)).setCell ⟨N, 2, none⟩ (.int .i64 xc)).setCell ⟨N, 3, none⟩ (.slice a' xl c') := ⟨_, rfl⟩
  have k1 : Blk WF N #[.int .i64 xn, .int .i64 xt, .int .i64 xc, .slice a' xl c'] 57 := by rw [hWF]; exact (((HP3.out.set 0 (.int .i64 xn)).set 1 (.int .i64 xt)).set 2 (.int .i64 xc)).set 3 (.slice a' xl c')
  have hBF : Below N w WF := by rw [hWF]; exact (((HB3.out.setCell (p := ⟨N, 0, none⟩) (Nat.le_refl _) _).setCell (p := ⟨N, 1, none⟩) (Nat.le_refl _) _).setCell (p := ⟨N, 2, none⟩) (Nat.le_refl _) _).setCell (p := ⟨N, 3, none⟩) (Nat.le_refl _) _
  have hnb : 0 < xl → b' ≠ N := fun h => by have := HF.out h; omega
  have k2 : ByIn WF a' xl c' b' 0 xX := by rw [hWF]; exact (((HBY.out.ne ⟨N, 0, none⟩ hnb _).ne ⟨N, 1, none⟩ hnb _).ne ⟨N, 2, none⟩ hnb _).ne ⟨N, 3, none⟩ hnb _
  rw [← hWF]
  have r0 : WF.cell? ⟨N, 0, none⟩ = some (.int .i64 xn) := cell_at k1 0
  have r1 : WF.cell? ⟨N, 1, none⟩ = some (.int .i64 xt) := cell_at k1 1
  have r2 : WF.cell? ⟨N, 2, none⟩ = some (.int .i64 xc) := cell_at k1 2
  have r3 : WF.cell? ⟨N, 3, none⟩ = some (.slice a' xl c') := cell_at k1 3
  exact bodyPost_ret (v := .tuple #[.agg #[.int .i64 xn, .int .i64 xt, .int .i64 xc, .slice a' xl c'], .bool true]) (by simp [results, Try.results75, go_sem, r0, r1, r2, r3]) rfl ⟨a', c', b', rfl, k2, (fun h => by have := HF.out h; have := HN.out; omega), HN.out ▸ hBF⟩
end Go.Proofs.Ytninhjeiialbjaa
