/-
  Package fifo's Head.
-/
import Derived.Test.YtninhjeiialbjaaPl9
namespace Go.Proofs.Ytninhjeiialbjaa
open Go.RowKit
set_option linter.unusedSimpArgs false
set_option linter.unusedVariables false

/-- the first packet's cells -/
theorem QIn.first {W : World} {D R o room f n : Nat} {by_ dr : Int} {E : Nat → PkE} (h : QIn W D R o room f n by_ dr E) (hn : 0 < n) : R < W.heap.size ∧ ∀ i, i < 4 → W.cell? ⟨R, o + f * 4 + i, none⟩ = (E 0).cells[i]? := by
  obtain ⟨cur, h1, h2, h3⟩ := h.ring
  refine ⟨h1.lt, fun i hi => ?_⟩
  have := h3 0 hn i hi
  rw [Nat.add_zero, Nat.mod_eq_of_lt h.fl] at this
  rw [cell_at h1, this]

set_option maxRecDepth 100000 in
set_option maxHeartbeats 8000000 in
theorem fhead_any (D R o room f n : Nat) (by_ dr : Int) (E : Nat → PkE) (w : World) (hq : QIn w D R o room f n by_ dr E) (hn : 0 < n) :
    Calls Try.prog 44 #[.pointer (some ⟨D, 0, none⟩)] w fun e w' => ∃ a' c' b', e = .returned (.tuple #[.agg #[.int .i64 (E 0).num, .int .i64 (E 0).t, .int .i64 (E 0).c, .slice a' (E 0).n c'], .bool true]) ∧ ByIn w' a' (E 0).n c' b' 0 (E 0).X ∧ (0 < (E 0).n → w.heap.size ≤ b') ∧ Below w.heap.size w w' := by
  obtain ⟨N, hN⟩ : ∃ N, N = w.heap.size := ⟨_, rfl⟩
  obtain ⟨W1, hW1⟩ : ∃ W1, W1 = w.alloc (.cells #[.int .i64 0, .int .i64 0, .int .i64 0, .slice none 0 0] 57) := ⟨_, rfl⟩
  have hB1 : Below N w W1 := by rw [hW1, hN]; exact (Below.refl _ _).alloc (Nat.le_refl _) _
  have hp : Blk W1 N #[.int .i64 0, .int .i64 0, .int .i64 0, .slice none 0 0] 57 := by rw [hW1, hN]; exact blk_new _ _ _
  have HQ1 := Lib.hid (hq.below (hN ▸ hB1))
  have HP1 := Lib.hid hp
  have HB1 := Lib.hid hB1
  have HN := Lib.hid hN
  have HM := Lib.hid hn
  have HDR : Hid (D < w.heap.size ∧ R < w.heap.size) := Lib.hid ⟨hq.own.lt, (hq.first hn).1⟩
  have HLN := Lib.hid (fun W h => flen_any D R o room f n by_ dr E W h)
  have dn : ((n : Int) == 0) = false := by rw [beq_eq_false_iff_ne]; omega
  have hfr := hq.fl
  have hr64 := hq.r64
  have f1 : (0 : Int) ≤ (f : Int) := by omega
  have f2 : (f : Int) < (room : Int) := by omega
  obtain ⟨x, hx⟩ : ∃ x, x = E 0 := ⟨_, rfl⟩
  have HX := Lib.hid hx
  rw [← hx]
  obtain ⟨xn, xt, xc, xa, xl, xca, xb, xo, xX⟩ := x
  simp only
  clear hq hB1 hp hx hn
  go_enter Try.func44, Try.ntmps44
  go_upto_region 1 with fail
  rw [← hN, ← hW1]
  clear hN hW1
  go_wp2_with fail
  go_at_call 38
  refine (HLN.out _ HQ1.out).mono ?_
  rintro e WL ⟨rfl, rfl⟩
  have hrl := HQ1.out.first HM.out
  have hS : W1.drew.cell? ⟨D, 0, none⟩ = some (.slice (some ⟨R, o, none⟩) room room) ∧ W1.drew.cell? ⟨D, 1, none⟩ = some (.int .i64 (f : Nat)) ∧ W1.drew.cell? ⟨R, o + f * 4, none⟩ = some (.int .i64 xn) ∧ W1.drew.cell? ⟨R, o + f * 4 + 1, none⟩ = some (.int .i64 xt) ∧ W1.drew.cell? ⟨R, o + f * 4 + 2, none⟩ = some (.int .i64 xc) ∧ W1.drew.cell? ⟨R, o + f * 4 + 3, none⟩ = some (.slice xa xl xca) ∧ D < W1.drew.heap.size ∧ R < W1.drew.heap.size := by
    have hc := hrl.2
    rw [← HX.out] at hc
    exact ⟨cell_at HQ1.out.own 0, cell_at HQ1.out.own 1, hc 0 (by omega), hc 1 (by omega), hc 2 (by omega), hc 3 (by omega), HQ1.out.own.lt, hrl.1⟩
  have HL1 : Hid (ByIn W1.drew xa xl xca xb xo xX ∧ xl ≤ 1492) := Lib.hid (by
    have h1 := HQ1.out.ld 0 HM.out
    rw [← HX.out] at h1
    exact ⟨h1.by_.below ((Below.refl _ _).drew : Below W1.heap.size W1 W1.drew), h1.le⟩)
  have HL5 : Hid (xl ≤ 5000) := Lib.hid (by have := HL1.out.2; omega)
  have HB1d : Hid (Below N w W1.drew) := Lib.hid HB1.out.drew
  have HP1d : Hid (Blk W1.drew N #[.int .i64 0, .int .i64 0, .int .i64 0, .slice none 0 0] 57) := Lib.hid HP1.out
  have hnD : N ≠ D ∧ N ≠ R := by
    have h1 := HN.out
    exact ⟨fun e => by have := HDR.out.1; omega, fun e => by have := HDR.out.2; omega⟩
  have HND := Lib.hid hnD
  have HS := Lib.hid hS
  clear hrl hnD
  go_upto_region 3 with fail
  refine wp_region_held_drew (S := fun X => X.cell? ⟨D, 0, none⟩ = some (.slice (some ⟨R, o, none⟩) room room) ∧ X.cell? ⟨D, 1, none⟩ = some (.int .i64 (f : Nat)) ∧ X.cell? ⟨R, o + f * 4, none⟩ = some (.int .i64 xn) ∧ X.cell? ⟨R, o + f * 4 + 1, none⟩ = some (.int .i64 xt) ∧ X.cell? ⟨R, o + f * 4 + 2, none⟩ = some (.int .i64 xc) ∧ X.cell? ⟨R, o + f * 4 + 3, none⟩ = some (.slice xa xl xca) ∧ D < X.heap.size ∧ R < X.heap.size) (by kernel_rfl) HS.out (fun hHeld => ?_)
  clear hS
  ((refine wpAnyH_take (i := 0) (v := ?_) (by (simp only [List.getElem?_toArray, List.getElem?_cons_succ, List.getElem?_cons_zero]); rfl) (by kernel_rfl) (by kernel_rfl) (by kernel_rfl) (by exact fun _ _ _ h => h) (Or.inl ⟨by rfl, ?_⟩) (by assumption) ?_); rotate_left; focus (intro wS hSw; (try dsimp only at hSw); go_simp; first | done | with_reducible rfl); try simp only [Act.put, List.setIfInBounds_toArray, List.set_cons_zero, List.set_cons_succ])
  ((refine wpAnyH_take (i := 1) (v := ?_) (by (simp only [List.getElem?_toArray, List.getElem?_cons_succ, List.getElem?_cons_zero]); rfl) (by kernel_rfl) (by kernel_rfl) (by kernel_rfl) (by exact fun _ _ _ h => h) (Or.inl ⟨by rfl, ?_⟩) (by assumption) ?_); rotate_left; focus (intro wS hSw; (try dsimp only at hSw); go_simp; first | done | with_reducible rfl); try simp only [Act.put, List.setIfInBounds_toArray, List.set_cons_zero, List.set_cons_succ])
  ((refine wpAnyH_take (i := 2) (v := ?_) (by (simp only [List.getElem?_toArray, List.getElem?_cons_succ, List.getElem?_cons_zero]); rfl) (by kernel_rfl) (by kernel_rfl) (by kernel_rfl) (by exact fun _ _ _ h => h) (Or.inl ⟨by rfl, ?_⟩) (by assumption) ?_); rotate_left; focus (intro wS hSw; (try dsimp only at hSw); go_simp; first | done | with_reducible rfl); try simp only [Act.put, List.setIfInBounds_toArray, List.set_cons_zero, List.set_cons_succ])
  ((refine wpAnyH_take (i := 3) (v := ?_) (by (simp only [List.getElem?_toArray, List.getElem?_cons_succ, List.getElem?_cons_zero]); rfl) (by kernel_rfl) (by kernel_rfl) (by kernel_rfl) (by exact fun _ _ _ h => h) (Or.inl ⟨by rfl, ?_⟩) (by assumption) ?_); rotate_left; focus (intro wS hSw; (try dsimp only at hSw); go_simp; first | done | with_reducible rfl); try simp only [Act.put, List.setIfInBounds_toArray, List.set_cons_zero, List.set_cons_succ])
  ((refine wpAnyH_take (i := 4) (v := ?_) (by (simp only [List.getElem?_toArray, List.getElem?_cons_succ, List.getElem?_cons_zero]); rfl) (by kernel_rfl) (by kernel_rfl) (by kernel_rfl) (by exact fun _ _ _ h => h) (Or.inl ⟨by rfl, ?_⟩) (by assumption) ?_); rotate_left; focus (intro wS hSw; (try dsimp only at hSw); go_simp; first | done | with_reducible rfl); try simp only [Act.put, List.setIfInBounds_toArray, List.set_cons_zero, List.set_cons_succ])
  ((refine wpAnyH_take (i := 5) (v := ?_) (by (simp only [List.getElem?_toArray, List.getElem?_cons_succ, List.getElem?_cons_zero]); rfl) (by kernel_rfl) (by kernel_rfl) (by kernel_rfl) (by exact fun _ _ _ h => h) (Or.inl ⟨by rfl, ?_⟩) (by assumption) ?_); rotate_left; focus (intro wS hSw; (try dsimp only at hSw); go_simp; first | done | with_reducible rfl); try simp only [Act.put, List.setIfInBounds_toArray, List.set_cons_zero, List.set_cons_succ])
  ((refine wpAnyH_take (i := 6) (v := ?_) (by (simp only [List.getElem?_toArray, List.getElem?_cons_succ, List.getElem?_cons_zero]); rfl) (by kernel_rfl) (by kernel_rfl) (by kernel_rfl) (by exact fun _ _ _ h => h) (Or.inl ⟨by rfl, ?_⟩) (by assumption) ?_); rotate_left; focus (intro wS hSw; (try dsimp only at hSw); go_simp; first | done | with_reducible rfl); try simp only [Act.put, List.setIfInBounds_toArray, List.set_cons_zero, List.set_cons_succ])
  ((refine wpAnyH_take (i := 7) (v := ?_) (by (simp only [List.getElem?_toArray, List.getElem?_cons_succ, List.getElem?_cons_zero]); rfl) (by kernel_rfl) (by kernel_rfl) (by kernel_rfl) (by exact fun _ _ _ h => h) (Or.inl ⟨by rfl, ?_⟩) (by assumption) ?_); rotate_left; focus (intro wS hSw; (try dsimp only at hSw); go_simp; first | done | with_reducible rfl); try simp only [Act.put, List.setIfInBounds_toArray, List.set_cons_zero, List.set_cons_succ])
  ((refine wpAnyH_take (i := 8) (v := ?_) (by (simp only [List.getElem?_toArray, List.getElem?_cons_succ, List.getElem?_cons_zero]); rfl) (by kernel_rfl) (by kernel_rfl) (by kernel_rfl) (by exact fun _ _ _ h => h) (Or.inl ⟨by rfl, ?_⟩) (by assumption) ?_); rotate_left; focus (intro wS hSw; (try dsimp only at hSw); go_simp; first | done | with_reducible rfl); try simp only [Act.put, List.setIfInBounds_toArray, List.set_cons_zero, List.set_cons_succ])
  ((refine wpAnyH_take (i := 9) (v := ?_) (by (simp only [List.getElem?_toArray, List.getElem?_cons_succ, List.getElem?_cons_zero]); rfl) (by kernel_rfl) (by kernel_rfl) (by kernel_rfl) (by exact fun _ _ _ h => h) (Or.inl ⟨by rfl, ?_⟩) (by assumption) ?_); rotate_left; focus (intro wS hSw; (try dsimp only at hSw); go_simp; first | done | with_reducible rfl); try simp only [Act.put, List.setIfInBounds_toArray, List.set_cons_zero, List.set_cons_succ])
  ((refine wpAnyH_take (i := 10) (v := ?_) (by (simp only [List.getElem?_toArray, List.getElem?_cons_succ, List.getElem?_cons_zero]); rfl) (by kernel_rfl) (by kernel_rfl) (by kernel_rfl) (by exact fun _ _ _ h => h) (Or.inl ⟨by rfl, ?_⟩) (by assumption) ?_); rotate_left; focus (intro wS hSw; (try dsimp only at hSw); go_simp; first | done | with_reducible rfl); try simp only [Act.put, List.setIfInBounds_toArray, List.set_cons_zero, List.set_cons_succ])
  ((refine wpAnyH_take (i := 11) (v := ?_) (by (simp only [List.getElem?_toArray, List.getElem?_cons_succ, List.getElem?_cons_zero]); rfl) (by kernel_rfl) (by kernel_rfl) (by kernel_rfl) (by exact fun _ _ _ h => h) (Or.inl ⟨by rfl, ?_⟩) (by assumption) ?_); rotate_left; focus (intro wS hSw; (try dsimp only at hSw); go_simp; first | done | with_reducible rfl); try simp only [Act.put, List.setIfInBounds_toArray, List.set_cons_zero, List.set_cons_succ])
  ((refine wpAnyH_ready (rs := [12]) (by kernel_rfl) (by simp) ?_); (refine AllReadyH.cons (by (simp only [List.getElem?_toArray, List.getElem?_cons_succ, List.getElem?_cons_zero]); rfl) (fun K hK => ?_) AllReadyH.nil); go_simp; refine Calls.mono (ftwin_any xn xt xc xa xl xca xb xo xX _ HL1.out.1 HL5.out) ?_)
  rintro e W3 ⟨a', c', b', rfl, hby, hfr, hB3⟩
  have hp3 := HP1d.out.step hB3
  have HP3 := Lib.hid hp3
  have hS3 : W3.cell? ⟨D, 0, none⟩ = some (.slice (some ⟨R, o, none⟩) room room) ∧ W3.cell? ⟨D, 1, none⟩ = some (.int .i64 (f : Nat)) ∧ W3.cell? ⟨R, o + f * 4, none⟩ = some (.int .i64 xn) ∧ W3.cell? ⟨R, o + f * 4 + 1, none⟩ = some (.int .i64 xt) ∧ W3.cell? ⟨R, o + f * 4 + 2, none⟩ = some (.int .i64 xc) ∧ W3.cell? ⟨R, o + f * 4 + 3, none⟩ = some (.slice xa xl xca) ∧ D < W3.heap.size ∧ R < W3.heap.size := by
    obtain ⟨h0, h1, h2, h3, h4, h5, h6, h7⟩ := HS.out
    have q := fun i => hB3.cell (p := ⟨D, i, none⟩) h6
    have q' := fun i => hB3.cell (p := ⟨R, i, none⟩) h7
    have := hB3.size
    exact ⟨(q _).trans h0, (q _).trans h1, (q' _).trans h2, (q' _).trans h3, (q' _).trans h4, (q' _).trans h5, by omega, by omega⟩
  have HS3 := Lib.hid hS3
  have HB3 := Lib.hid (HB1d.out.trans (hB3.mono (by have := HP1d.out.lt; omega)))
  have HBY := Lib.hid hby
  have HF : Hid (0 < xl → N < b') := Lib.hid (fun h => by have := hfr h; have := HP1d.out.lt; omega)
  have y0 := free_at hp3 0
  have y1 := free_at hp3 1
  have y2 := free_at hp3 2
  have y3 := free_at hp3 3
  have d0 : W3.cell? ⟨N, 0, none⟩ = some (.int .i64 0) := cell_at hp3 0
  have d1 : W3.cell? ⟨N, 1, none⟩ = some (.int .i64 0) := cell_at hp3 1
  have d2 : W3.cell? ⟨N, 2, none⟩ = some (.int .i64 0) := cell_at hp3 2
  have d3 : W3.cell? ⟨N, 3, none⟩ = some (.slice none 0 0) := cell_at hp3 3
  have hl := hp3.lt
  clear hby hfr hB3 hp3 hS3
  go_wp2_with fail
  refine hK.out _ _ HS3.out (fun hHeld => ?_)
  clear hK K
  try simp only [Act.put, List.setIfInBounds_toArray, List.set_cons_zero, List.set_cons_succ]
  refine wpAnyH_ready (rs := [13]) (by kernel_rfl) (by simp) ?_
  refine AllReadyH.cons (by (simp only [List.getElem?_toArray, List.getElem?_cons_succ, List.getElem?_cons_zero]); rfl) (fun K hK => ?_) AllReadyH.nil
  go_simp
  obtain ⟨WF, hWF⟩ : ∃ WF, WF = (((W3.setCell ⟨N, 0, none⟩ (.int .i64 xn)).setCell ⟨N, 1, none⟩ (.int .i64 xt)).setCell ⟨N, 2, none⟩ (.int .i64 xc)).setCell ⟨N, 3, none⟩ (.slice a' xl c') := ⟨_, rfl⟩
  have k1 : Blk WF N #[.int .i64 xn, .int .i64 xt, .int .i64 xc, .slice a' xl c'] 57 := by rw [hWF]; exact (((HP3.out.set 0 (.int .i64 xn)).set 1 (.int .i64 xt)).set 2 (.int .i64 xc)).set 3 (.slice a' xl c')
  have hBF : Below N w WF := by rw [hWF]; exact (((HB3.out.setCell (p := ⟨N, 0, none⟩) (Nat.le_refl _) _).setCell (p := ⟨N, 1, none⟩) (Nat.le_refl _) _).setCell (p := ⟨N, 2, none⟩) (Nat.le_refl _) _).setCell (p := ⟨N, 3, none⟩) (Nat.le_refl _) _
  have hnb : 0 < xl → b' ≠ N := fun h => by have := HF.out h; omega
  have k2 : ByIn WF a' xl c' b' 0 xX := by rw [hWF]; exact (((HBY.out.ne ⟨N, 0, none⟩ hnb _).ne ⟨N, 1, none⟩ hnb _).ne ⟨N, 2, none⟩ hnb _).ne ⟨N, 3, none⟩ hnb _
  have hne : ∀ k, k ≠ N → WF.heap[k]? = W3.heap[k]? := fun k hk => by rw [hWF]; exact (heap_setCell_ne _ ⟨N, 3, none⟩ _ k hk).trans ((heap_setCell_ne _ ⟨N, 2, none⟩ _ k hk).trans ((heap_setCell_ne _ ⟨N, 1, none⟩ _ k hk).trans (heap_setCell_ne _ ⟨N, 0, none⟩ _ k hk)))
  have hsz : WF.heap.size = W3.heap.size := by rw [hWF]; simp
  rw [← hWF]
  clear hWF y0 y1 y2 y3 d0 d1 d2 d3 hl
  have hSF : WF.cell? ⟨D, 0, none⟩ = some (.slice (some ⟨R, o, none⟩) room room) ∧ WF.cell? ⟨D, 1, none⟩ = some (.int .i64 (f : Nat)) ∧ WF.cell? ⟨R, o + f * 4, none⟩ = some (.int .i64 xn) ∧ WF.cell? ⟨R, o + f * 4 + 1, none⟩ = some (.int .i64 xt) ∧ WF.cell? ⟨R, o + f * 4 + 2, none⟩ = some (.int .i64 xc) ∧ WF.cell? ⟨R, o + f * 4 + 3, none⟩ = some (.slice xa xl xca) ∧ D < WF.heap.size ∧ R < WF.heap.size := by
    obtain ⟨h0, h1, h2, h3, h4, h5, h6, h7⟩ := HS3.out
    have q := fun i => cell_congr (hne D HND.out.1.symm) i
    have q' := fun i => cell_congr (hne R HND.out.2.symm) i
    exact ⟨(q _).trans h0, (q _).trans h1, (q' _).trans h2, (q' _).trans h3, (q' _).trans h4, (q' _).trans h5, by omega, by omega⟩
  have K1 := Lib.hid k1
  have K2 := Lib.hid k2
  have KB := Lib.hid hBF
  have KS := Lib.hid hSF
  clear k1 k2 hBF hSF hne hnb hsz
  refine hK.out _ _ KS.out (fun hHeld => ?_)
  clear hK K
  try simp only [Act.put, List.setIfInBounds_toArray, List.set_cons_zero, List.set_cons_succ]
  ((refine wpAnyH_take (i := 14) (v := ?_) (by (simp only [List.getElem?_toArray, List.getElem?_cons_succ, List.getElem?_cons_zero]); rfl) (by kernel_rfl) (by kernel_rfl) (by kernel_rfl) (by exact fun _ _ _ h => h) (Or.inl ⟨by rfl, ?_⟩) (by assumption) ?_); rotate_left; focus (intro wS hSw; (try dsimp only at hSw); go_simp; first | done | with_reducible rfl); try simp only [Act.put, List.setIfInBounds_toArray, List.set_cons_zero, List.set_cons_succ])
  refine wpAnyH_done (by kernel_rfl) ?_ _
  go_wp2_with fail
  have r0 : WF.cell? ⟨N, 0, none⟩ = some (.int .i64 xn) := cell_at K1.out 0
  have r1 : WF.cell? ⟨N, 1, none⟩ = some (.int .i64 xt) := cell_at K1.out 1
  have r2 : WF.cell? ⟨N, 2, none⟩ = some (.int .i64 xc) := cell_at K1.out 2
  have r3 : WF.cell? ⟨N, 3, none⟩ = some (.slice a' xl c') := cell_at K1.out 3
  exact bodyPost_ret (v := .tuple #[.agg #[.int .i64 xn, .int .i64 xt, .int .i64 xc, .slice a' xl c'], .bool true]) (by simp [results, Try.results44, go_sem, r0, r1, r2, r3]) rfl ⟨a', c', b', rfl, K2.out, (fun h => by have := HF.out h; have := HN.out; omega), HN.out ▸ KB.out⟩
end Go.Proofs.Ytninhjeiialbjaa
