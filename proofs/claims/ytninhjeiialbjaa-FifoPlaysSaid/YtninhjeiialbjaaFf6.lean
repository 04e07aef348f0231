/-
  Package fifo: Pop.
-/
import Derived.Test.YtninhjeiialbjaaFf5
namespace Go.Proofs.Ytninhjeiialbjaa
open Go.RowKit
set_option linter.unusedSimpArgs false
set_option linter.unusedVariables false

set_option maxRecDepth 100000 in
set_option maxHeartbeats 8000000 in
theorem ring_pop (D R o room f n : Nat) (by_ dr : Int) (E : Nat → PkE) (w : World) (hq : QIn w D R o room f n by_ dr E) (hn : 0 < n) :
    Calls Try.prog 77 #[.pointer (some ⟨D, 0, none⟩)] w fun e w' => e = .returned (.agg #[.int .i64 (E 0).num, .int .i64 (E 0).t, .int .i64 (E 0).c, .slice (E 0).a (E 0).n (E 0).ca]) ∧ QIn w' D R o room ((f + 1) % room) (n - 1) by_ dr (fun j => E (j + 1)) ∧ Fr [D, R] w w' := by
  obtain ⟨N, hN⟩ : ∃ N, N = w.heap.size := ⟨_, rfl⟩
  obtain ⟨W1, hW1⟩ : ∃ W1, W1 = (w.alloc (.cells #[.int .i64 0, .int .i64 0, .int .i64 0, .slice none 0 0] 57)).alloc (.cells #[.int .i64 0, .int .i64 0, .int .i64 0, .slice none 0 0] 57) := ⟨_, rfl⟩
  have hB1 : Below w.heap.size w W1 := by rw [hW1]; exact ((Below.refl _ _).alloc (Nat.le_refl _) _).alloc (by simp) _
  have hp0 : Blk W1 N #[.int .i64 0, .int .i64 0, .int .i64 0, .slice none 0 0] 57 := by rw [hW1, hN]; exact (blk_new _ _ _).alloc _
  have hp1 : Blk W1 (N + 1) #[.int .i64 0, .int .i64 0, .int .i64 0, .slice none 0 0] 57 := by
    have h1 := blk_new (w.alloc (.cells #[.int .i64 0, .int .i64 0, .int .i64 0, .slice none 0 0] 57)) #[.int .i64 0, .int .i64 0, .int .i64 0, .slice none 0 0] 57
    rw [World.size_alloc, ← hN, ← hW1] at h1
    exact h1
  have hD : D < N := by rw [hN]; exact hq.own.lt
  have hq1 := hq.below hB1
  have hnl := hq.nl
  have hf := hq.fl
  have hr0 := hq.r1
  have hr64 := hq.r64
  have hne := hq.ne
  obtain ⟨cur, hr, hcs, hce⟩ := hq1.ring
  have hR : R < N := by rw [hN]; obtain ⟨_, h1, _⟩ := hq.ring; exact h1.lt
  have hc0 := hce 0 hn
  rw [Nat.add_zero, Nat.mod_eq_of_lt hf] at hc0
  obtain ⟨p, hp⟩ : ∃ p, p = E 0 := ⟨_, rfl⟩
  rw [← hp] at hc0
  have q0 : W1.cell? ⟨R, o + f * 4, none⟩ = some (.int .i64 p.num) := (cell_at hr _).trans (hc0 0 (by omega))
  have q1 : W1.cell? ⟨R, o + f * 4 + 1, none⟩ = some (.int .i64 p.t) := (cell_at hr _).trans (hc0 1 (by omega))
  have q2 : W1.cell? ⟨R, o + f * 4 + 2, none⟩ = some (.int .i64 p.c) := (cell_at hr _).trans (hc0 2 (by omega))
  have q3 : W1.cell? ⟨R, o + f * 4 + 3, none⟩ = some (.slice p.a p.n p.ca) := (cell_at hr _).trans (hc0 3 (by omega))
  have c0 : W1.cell? ⟨D, 0, none⟩ = some (.slice (some ⟨R, o, none⟩) room room) := cell_at hq1.own 0
  have c1 : W1.cell? ⟨D, 1, none⟩ = some (.int .i64 (f : Nat)) := cell_at hq1.own 1
  have hD1 : D < W1.heap.size := hq1.own.lt
  have hR1 : R < W1.heap.size := hr.lt
  have HLD := Lib.hid hq.ld
  have HN := Lib.hid hN
  have HP0 := Lib.hid hp0
  have HP1 := Lib.hid hp1
  have HQ1 := Lib.hid hq1
  have HB1 := Lib.hid hB1
  have HP := Lib.hid hp
  rw [← hp]
  clear hq hq1 hr hce hc0 hB1 hp0 hp1 hp hcs
  go_enter Try.func77, Try.ntmps77
  go_upto_region 2 with fail
  rw [← hN, ← hW1]
  clear hN hW1
  have HS : Hid (∀ X, Below W1.heap.size W1 X → (X.cell? ⟨R, o + f * 4, none⟩ = some (.int .i64 p.num) ∧ X.cell? ⟨R, o + f * 4 + 1, none⟩ = some (.int .i64 p.t) ∧ X.cell? ⟨R, o + f * 4 + 2, none⟩ = some (.int .i64 p.c) ∧ X.cell? ⟨R, o + f * 4 + 3, none⟩ = some (.slice p.a p.n p.ca) ∧ X.cell? ⟨D, 0, none⟩ = some (.slice (some ⟨R, o, none⟩) room room) ∧ X.cell? ⟨D, 1, none⟩ = some (.int .i64 (f : Nat)) ∧ R < X.heap.size ∧ D < X.heap.size)) := Lib.hid (fun X hB => ⟨(hB.cell (p := ⟨R, _, none⟩) hR1).trans q0, (hB.cell (p := ⟨R, _, none⟩) hR1).trans q1, (hB.cell (p := ⟨R, _, none⟩) hR1).trans q2, (hB.cell (p := ⟨R, _, none⟩) hR1).trans q3, (hB.cell (p := ⟨D, _, none⟩) hD1).trans c0, (hB.cell (p := ⟨D, _, none⟩) hD1).trans c1, by have := hB.size; omega, by have := hB.size; omega⟩)
  refine wp_region_held_drew (S := fun X => X.cell? ⟨R, o + f * 4, none⟩ = some (.int .i64 p.num) ∧ X.cell? ⟨R, o + f * 4 + 1, none⟩ = some (.int .i64 p.t) ∧ X.cell? ⟨R, o + f * 4 + 2, none⟩ = some (.int .i64 p.c) ∧ X.cell? ⟨R, o + f * 4 + 3, none⟩ = some (.slice p.a p.n p.ca) ∧ X.cell? ⟨D, 0, none⟩ = some (.slice (some ⟨R, o, none⟩) room room) ∧ X.cell? ⟨D, 1, none⟩ = some (.int .i64 (f : Nat)) ∧ R < X.heap.size ∧ D < X.heap.size) (by kernel_rfl) (HS.out _ ((Below.refl _ _).drew)) (fun hHeld => ?_)
  ((refine wpAnyH_take (i := 0) (v := ?_) (by (simp only [List.getElem?_toArray, List.getElem?_cons_succ, List.getElem?_cons_zero]); rfl) (by kernel_rfl) (by kernel_rfl) (by kernel_rfl) (by exact fun _ _ _ h => h) (Or.inl ⟨by rfl, ?_⟩) (by assumption) ?_); rotate_left; focus (intro wS hSw; (try dsimp only at hSw); go_simp; first | done | with_reducible rfl); try simp only [Act.put, List.setIfInBounds_toArray, List.set_cons_zero, List.set_cons_succ])
  ((refine wpAnyH_take (i := 1) (v := ?_) (by (simp only [List.getElem?_toArray, List.getElem?_cons_succ, List.getElem?_cons_zero]); rfl) (by kernel_rfl) (by kernel_rfl) (by kernel_rfl) (by exact fun _ _ _ h => h) (Or.inl ⟨by rfl, ?_⟩) (by assumption) ?_); rotate_left; focus (intro wS hSw; (try dsimp only at hSw); go_simp; first | done | with_reducible rfl); try simp only [Act.put, List.setIfInBounds_toArray, List.set_cons_zero, List.set_cons_succ])
  ((refine wpAnyH_take (i := 2) (v := ?_) (by (simp only [List.getElem?_toArray, List.getElem?_cons_succ, List.getElem?_cons_zero]); rfl) (by kernel_rfl) (by kernel_rfl) (by kernel_rfl) (by exact fun _ _ _ h => h) (Or.inl ⟨by rfl, ?_⟩) (by assumption) ?_); rotate_left; focus (intro wS hSw; (try dsimp only at hSw); go_simp; first | done | with_reducible rfl); try simp only [Act.put, List.setIfInBounds_toArray, List.set_cons_zero, List.set_cons_succ])
  ((refine wpAnyH_take (i := 3) (v := ?_) (by (simp only [List.getElem?_toArray, List.getElem?_cons_succ, List.getElem?_cons_zero]); rfl) (by kernel_rfl) (by kernel_rfl) (by kernel_rfl) (by exact fun _ _ _ h => h) (Or.inl ⟨by rfl, ?_⟩) (by assumption) ?_); rotate_left; focus (intro wS hSw; (try dsimp only at hSw); go_simp; first | done | with_reducible rfl); try simp only [Act.put, List.setIfInBounds_toArray, List.set_cons_zero, List.set_cons_succ])
  ((refine wpAnyH_take (i := 4) (v := ?_) (by (simp only [List.getElem?_toArray, List.getElem?_cons_succ, List.getElem?_cons_zero]); rfl) (by kernel_rfl) (by kernel_rfl) (by kernel_rfl) (by exact fun _ _ _ h => h) (Or.inl ⟨by rfl, ?_⟩) (by assumption) ?_); rotate_left; focus (intro wS hSw; (try dsimp only at hSw); go_simp; first | done | with_reducible rfl); try simp only [Act.put, List.setIfInBounds_toArray, List.set_cons_zero, List.set_cons_succ])
  ((refine wpAnyH_take (i := 5) (v := ?_) (by (simp only [List.getElem?_toArray, List.getElem?_cons_succ, List.getElem?_cons_zero]); rfl) (by kernel_rfl) (by kernel_rfl) (by kernel_rfl) (by exact fun _ _ _ h => h) (Or.inl ⟨by rfl, ?_⟩) (by assumption) ?_); rotate_left; focus (intro wS hSw; (try dsimp only at hSw); go_simp; first | done | with_reducible rfl); try simp only [Act.put, List.setIfInBounds_toArray, List.set_cons_zero, List.set_cons_succ])
  ((refine wpAnyH_take (i := 6) (v := ?_) (by (simp only [List.getElem?_toArray, List.getElem?_cons_succ, List.getElem?_cons_zero]); rfl) (by kernel_rfl) (by kernel_rfl) (by kernel_rfl) (by exact fun _ _ _ h => h) (Or.inl ⟨by rfl, ?_⟩) (by assumption) ?_); rotate_left; focus (intro wS hSw; (try dsimp only at hSw); go_simp; first | done | with_reducible rfl); try simp only [Act.put, List.setIfInBounds_toArray, List.set_cons_zero, List.set_cons_succ])
  ((refine wpAnyH_take (i := 7) (v := ?_) (by (simp only [List.getElem?_toArray, List.getElem?_cons_succ, List.getElem?_cons_zero]); rfl) (by kernel_rfl) (by kernel_rfl) (by kernel_rfl) (by exact fun _ _ _ h => h) (Or.inl ⟨by rfl, ?_⟩) (by assumption) ?_); rotate_left; focus (intro wS hSw; (try dsimp only at hSw); go_simp; first | done | with_reducible rfl); try simp only [Act.put, List.setIfInBounds_toArray, List.set_cons_zero, List.set_cons_succ])
  ((refine wpAnyH_take (i := 8) (v := ?_) (by (simp only [List.getElem?_toArray, List.getElem?_cons_succ, List.getElem?_cons_zero]); rfl) (by kernel_rfl) (by kernel_rfl) (by kernel_rfl) (by exact fun _ _ _ h => h) (Or.inl ⟨by rfl, ?_⟩) (by assumption) ?_); rotate_left; focus (intro wS hSw; (try dsimp only at hSw); go_simp; first | done | with_reducible rfl); try simp only [Act.put, List.setIfInBounds_toArray, List.set_cons_zero, List.set_cons_succ])
  ((refine wpAnyH_take (i := 9) (v := ?_) (by (simp only [List.getElem?_toArray, List.getElem?_cons_succ, List.getElem?_cons_zero]); rfl) (by kernel_rfl) (by kernel_rfl) (by kernel_rfl) (by exact fun _ _ _ h => h) (Or.inl ⟨by rfl, ?_⟩) (by assumption) ?_); rotate_left; focus (intro wS hSw; (try dsimp only at hSw); go_simp; first | done | with_reducible rfl); try simp only [Act.put, List.setIfInBounds_toArray, List.set_cons_zero, List.set_cons_succ])
  refine wpAnyH_ready (rs := [10]) (by kernel_rfl) (by simp) ?_
  refine AllReadyH.cons (by (simp only [List.getElem?_toArray, List.getElem?_cons_succ, List.getElem?_cons_zero]); rfl) (fun K hK => ?_) AllReadyH.nil
  go_simp
  refine hK.out _ _ (HS.out _ (((Below.refl _ _).drew).alloc (by simp) _)) (fun hHeld => ?_)
  clear hK K
  try simp only [Act.put, List.setIfInBounds_toArray, List.set_cons_zero, List.set_cons_succ]
  refine wpAnyH_ready (rs := [11]) (by kernel_rfl) (by simp) ?_
  refine AllReadyH.cons (by (simp only [List.getElem?_toArray, List.getElem?_cons_succ, List.getElem?_cons_zero]); rfl) (fun K hK => ?_) AllReadyH.nil
  go_simp
  refine hK.out _ _ (HS.out _ (((Below.refl _ _).alloc (Nat.le_refl _) _).drew)) (fun hHeld => ?_)
  clear hK K
  try simp only [Act.put, List.setIfInBounds_toArray, List.set_cons_zero, List.set_cons_succ]
  refine wpAnyH_done (by kernel_rfl) ?_ _
  obtain ⟨M, hM⟩ : ∃ M, M = W1.heap.size := ⟨_, rfl⟩
  obtain ⟨W2, hW2⟩ : ∃ W2, W2 = (W1.alloc (.cells #[.int .i64 p.num, .int .i64 p.t, .int .i64 p.c, .slice p.a p.n p.ca] 57)).drew := ⟨_, rfl⟩
  have hB2 : Below W1.heap.size W1 W2 := by rw [hW2]; exact ((Below.refl _ _).alloc (Nat.le_refl _) _).drew
  have HQ2 := Lib.hid (HQ1.out.below hB2)
  have HP02 := Lib.hid (HP0.out.step hB2)
  have HP12 := Lib.hid (HP1.out.step hB2)
  have HPM : Hid (Blk W2 M #[.int .i64 p.num, .int .i64 p.t, .int .i64 p.c, .slice p.a p.n p.ca] 57) := Lib.hid (by rw [hW2, hM]; exact blk_new _ _ _)
  have HF2 : Hid (Fr [D, R] w W2) := Lib.hid ((Fr.of_below (HB1.out.trans (hB2.mono HB1.out.size))).mono (by simp))
  have hNM : N + 1 < M := by rw [hM]; exact HP1.out.lt
  rw [← hM, ← hW2]
  clear q0 q1 q2 q3 c0 c1 hD1 hR1 HS hB2 hM hW2 hHeld
  obtain ⟨cur, hr2, hcs, hce⟩ := HQ2.out.ring
  have HR2 := Lib.hid hr2
  have HCE := Lib.hid hce
  have hcell : ∀ i, i < 4 → ∃ v, cur[o + f * 4 + i]? = some v := fun i hi => ⟨_, Array.getElem?_eq_getElem (by omega)⟩
  obtain ⟨v0, e0⟩ := hcell 0 (by omega)
  obtain ⟨v1, e1⟩ := hcell 1 (by omega)
  obtain ⟨v2, e2⟩ := hcell 2 (by omega)
  obtain ⟨v3, e3⟩ := hcell 3 (by omega)
  have q0 : W2.cell? ⟨R, o + f * 4, none⟩ = some v0 := (cell_at hr2 _).trans e0
  have q1 : W2.cell? ⟨R, o + f * 4 + 1, none⟩ = some v1 := (cell_at hr2 _).trans e1
  have q2 : W2.cell? ⟨R, o + f * 4 + 2, none⟩ = some v2 := (cell_at hr2 _).trans e2
  have q3 : W2.cell? ⟨R, o + f * 4 + 3, none⟩ = some v3 := (cell_at hr2 _).trans e3
  have y0 := free_at hr2 (o + f * 4)
  have y1 := free_at hr2 (o + f * 4 + 1)
  have y2 := free_at hr2 (o + f * 4 + 2)
  have y3 := free_at hr2 (o + f * 4 + 3)
  have c0 : W2.cell? ⟨D, 0, none⟩ = some (.slice (some ⟨R, o, none⟩) room room) := cell_at HQ2.out.own 0
  have c1 : W2.cell? ⟨D, 1, none⟩ = some (.int .i64 (f : Nat)) := cell_at HQ2.out.own 1
  have n0 : W2.cell? ⟨N + 1, 0, none⟩ = some (.int .i64 0) := cell_at HP12.out 0
  have n1 : W2.cell? ⟨N + 1, 1, none⟩ = some (.int .i64 0) := cell_at HP12.out 1
  have n2 : W2.cell? ⟨N + 1, 2, none⟩ = some (.int .i64 0) := cell_at HP12.out 2
  have n3 : W2.cell? ⟨N + 1, 3, none⟩ = some (.slice none 0 0) := cell_at HP12.out 3
  have hD1 : D < W2.heap.size := HQ2.out.own.lt
  have hR1 : R < W2.heap.size := hr2.lt
  have hN1 : N + 1 < W2.heap.size := HP12.out.lt
  clear hr2 hce hcell e0 e1 e2 e3
  go_upto_region 3 with fail
  go_still_tail 10, (by kernel_rfl)
  change wpList _ _ _ _ _ W2.drew
  go_wp2_with fail
  obtain ⟨W3, hW3⟩ : ∃ W3, W3 = ((((W2.setCell ⟨R, o + f * 4, none⟩ (.int .i64 0)).setCell ⟨R, o + f * 4 + 1, none⟩ (.int .i64 0)).setCell ⟨R, o + f * 4 + 2, none⟩ (.int .i64 0)).setCell ⟨R, o + f * 4 + 3, none⟩ (.slice none 0 0)).drew := ⟨_, rfl⟩
  rw [← hW3]
  have hRD : R ≠ D := fun e => hne e.symm
  have ne4 : ∀ {B : Nat} {cs : Array Value} {t : TypeId}, B ≠ R → Blk W2 B cs t → Blk W3 B cs t := fun h1 h2 => by
    rw [hW3]
    exact (((h2.ne ⟨R, o + f * 4, none⟩ h1 _).ne ⟨R, o + f * 4 + 1, none⟩ h1 _).ne ⟨R, o + f * 4 + 2, none⟩ h1 _).ne ⟨R, o + f * 4 + 3, none⟩ h1 _
  have HO3 := Lib.hid (ne4 hne (show Blk W2 D _ _ from HQ2.out.own))
  have HP03 := Lib.hid (ne4 (by omega : N ≠ R) (show Blk W2 N _ _ from HP02.out))
  have HPM3 := Lib.hid (ne4 (by omega : M ≠ R) (show Blk W2 M _ _ from HPM.out))
  have HR3 : Hid (Blk W3 R (put4 cur (o + f * 4) (.int .i64 0) (.int .i64 0) (.int .i64 0) (.slice none 0 0)) 57) := Lib.hid (by
    rw [hW3]
    exact (((Blk.set (A := W2) HR2.out (o + f * 4) (.int .i64 0)).set (o + f * 4 + 1) (.int .i64 0)).set (o + f * 4 + 2) (.int .i64 0)).set (o + f * 4 + 3) (.slice none 0 0))
  have HF3 : Hid (Fr [D, R] w W3) := Lib.hid (by
    rw [hW3]
    exact ((((HF2.out.setCell ⟨R, o + f * 4, none⟩ (.inl (by simp)) _).setCell ⟨R, o + f * 4 + 1, none⟩ (.inl (by simp)) _).setCell ⟨R, o + f * 4 + 2, none⟩ (.inl (by simp)) _).setCell ⟨R, o + f * 4 + 3, none⟩ (.inl (by simp)) _).drew)
  clear q0 q1 q2 q3 y0 y1 y2 y3 c0 c1 n0 n1 n2 n3 hD1 hR1 hN1 ne4 hW3
  obtain ⟨k, hk⟩ : ∃ k, k = (f + 1) % room := ⟨_, rfl⟩
  have hmod : Int.tmod ((f : Int) + 1) (room : Int) = (k : Nat) := by
    have : ((f : Int) + 1) = ((f + 1 : Nat) : Int) := by omega
    rw [hk, this, ← Int.ofNat_tmod]
  have hkr : k < room := by rw [hk]; exact Nat.mod_lt _ (by omega)
  have HK := Lib.hid hk
  have hz : (room = 0) = False := eq_false (by omega)
  have hw : IntKind.i64.wrap ((f : Int) + 1) = (f : Int) + 1 := by rw [IntKind.wrap_i64]; omega
  have hw2 : IntKind.i64.wrap ((n : Int) - 1) = (n : Int) - 1 := by rw [IntKind.wrap_i64]; omega
  have hD3 : D < W3.heap.size := HO3.out.lt
  have hM3 : M < W3.heap.size := HPM3.out.lt
  have hN3 : N < W3.heap.size := HP03.out.lt
  have c0 : W3.cell? ⟨D, 0, none⟩ = some (.slice (some ⟨R, o, none⟩) room room) := cell_at HO3.out 0
  have c1 : W3.cell? ⟨D, 1, none⟩ = some (.int .i64 (f : Nat)) := cell_at HO3.out 1
  have c2 : W3.cell? ⟨D, 2, none⟩ = some (.int .i64 (n : Nat)) := cell_at HO3.out 2
  have z1 := free_at HO3.out 1
  have z2 := free_at HO3.out 2
  have m0 : W3.cell? ⟨M, 0, none⟩ = some (.int .i64 p.num) := cell_at HPM3.out 0
  have m1 : W3.cell? ⟨M, 1, none⟩ = some (.int .i64 p.t) := cell_at HPM3.out 1
  have m2 : W3.cell? ⟨M, 2, none⟩ = some (.int .i64 p.c) := cell_at HPM3.out 2
  have m3 : W3.cell? ⟨M, 3, none⟩ = some (.slice p.a p.n p.ca) := cell_at HPM3.out 3
  have b0 : W3.cell? ⟨N, 0, none⟩ = some (.int .i64 0) := cell_at HP03.out 0
  have b1 : W3.cell? ⟨N, 1, none⟩ = some (.int .i64 0) := cell_at HP03.out 1
  have b2 : W3.cell? ⟨N, 2, none⟩ = some (.int .i64 0) := cell_at HP03.out 2
  have b3 : W3.cell? ⟨N, 3, none⟩ = some (.slice none 0 0) := cell_at HP03.out 3
  have x0 := free_at HP03.out 0
  have x1 := free_at HP03.out 1
  have x2 := free_at HP03.out 2
  have x3 := free_at HP03.out 3
  have hDN : D ≠ N := by omega
  have hDM : D ≠ M := by omega
  have hNM2 : N ≠ M := by omega
  clear hk
  go_still_tail 14, (by kernel_rfl)
  change wpList _ _ _ _ _ W3.drew
  go_wp2_with fail
  obtain ⟨WS, hWS⟩ : ∃ WS, WS = ((((((W3.setCell ⟨D, 1, none⟩ (.int .i64 (k : Nat))).setCell ⟨D, 2, none⟩ (.int .i64 ((n : Int) - 1))).setCell ⟨N, 0, none⟩ (.int .i64 p.num)).setCell ⟨N, 1, none⟩ (.int .i64 p.t)).setCell ⟨N, 2, none⟩ (.int .i64 p.c)).setCell ⟨N, 3, none⟩ (.slice p.a p.n p.ca)) := ⟨_, rfl⟩
  have hRN : R ≠ N := by omega
  have s1 : Blk WS D #[.slice (some ⟨R, o, none⟩) room room, .int .i64 (k : Nat), .int .i64 ((n : Int) - 1), .int .i64 by_, .int .i64 dr] 114 := by rw [hWS]; exact ((((((HO3.out).set 1 (.int .i64 (k : Nat))).set 2 (.int .i64 ((n : Int) - 1))).ne ⟨N, 0, none⟩ hDN (.int .i64 p.num)).ne ⟨N, 1, none⟩ hDN (.int .i64 p.t)).ne ⟨N, 2, none⟩ hDN (.int .i64 p.c)).ne ⟨N, 3, none⟩ hDN (.slice p.a p.n p.ca)
  have s2 : Blk WS N #[.int .i64 p.num, .int .i64 p.t, .int .i64 p.c, .slice p.a p.n p.ca] 57 := by rw [hWS]; exact ((((((HP03.out).ne ⟨D, 1, none⟩ hDN.symm (.int .i64 (k : Nat))).ne ⟨D, 2, none⟩ hDN.symm (.int .i64 ((n : Int) - 1))).set 0 (.int .i64 p.num)).set 1 (.int .i64 p.t)).set 2 (.int .i64 p.c)).set 3 (.slice p.a p.n p.ca)
  have s3 : Blk WS R (put4 cur (o + f * 4) (.int .i64 0) (.int .i64 0) (.int .i64 0) (.slice none 0 0)) 57 := by rw [hWS]; exact ((((((HR3.out).ne ⟨D, 1, none⟩ hRD (.int .i64 (k : Nat))).ne ⟨D, 2, none⟩ hRD (.int .i64 ((n : Int) - 1))).ne ⟨N, 0, none⟩ hRN (.int .i64 p.num)).ne ⟨N, 1, none⟩ hRN (.int .i64 p.t)).ne ⟨N, 2, none⟩ hRN (.int .i64 p.c)).ne ⟨N, 3, none⟩ hRN (.slice p.a p.n p.ca)
  have s4 : Fr [D, R] w WS := by rw [hWS]; exact ((((((HF3.out).setCell ⟨D, 1, none⟩ (.inl (by simp)) (.int .i64 (k : Nat))).setCell ⟨D, 2, none⟩ (.inl (by simp)) (.int .i64 ((n : Int) - 1))).setCell ⟨N, 0, none⟩ (.inr (Nat.le_of_eq HN.out.symm)) (.int .i64 p.num)).setCell ⟨N, 1, none⟩ (.inr (Nat.le_of_eq HN.out.symm)) (.int .i64 p.t)).setCell ⟨N, 2, none⟩ (.inr (Nat.le_of_eq HN.out.symm)) (.int .i64 p.c)).setCell ⟨N, 3, none⟩ (.inr (Nat.le_of_eq HN.out.symm)) (.slice p.a p.n p.ca)
  rw [← hWS]
  clear hWS
  obtain ⟨WF, hWF⟩ : ∃ WF, WF = WS.drew := ⟨_, rfl⟩
  have k1 : Blk WF D #[.slice (some ⟨R, o, none⟩) room room, .int .i64 (k : Nat), .int .i64 ((n : Int) - 1), .int .i64 by_, .int .i64 dr] 114 := by rw [hWF]; exact s1
  have k2 : Blk WF N #[.int .i64 p.num, .int .i64 p.t, .int .i64 p.c, .slice p.a p.n p.ca] 57 := by rw [hWF]; exact s2
  have k3 : Blk WF R (put4 cur (o + f * 4) (.int .i64 0) (.int .i64 0) (.int .i64 0) (.slice none 0 0)) 57 := by rw [hWF]; exact s3
  have k4 : Fr [D, R] w WF := by rw [hWF]; exact s4.drew
  have hfin : QIn WF D R o room ((f + 1) % room) (n - 1) by_ dr (fun j => E (j + 1)) := by
    have hn1 : ((n - 1 : Nat) : Int) = (n : Int) - 1 := by omega
    refine ⟨by rw [hn1, ← HK.out]; exact k1, ⟨_, k3, by rw [put4_size, hcs], fun j hj i hi => ?_⟩, hne, hr0, hr64, Nat.mod_lt _ (by omega), by omega, fun j hj => (HLD.out (j + 1) (by omega)).fr k4⟩
    have hm := mod_ne (f := f) (n := j + 1) (j := 0) hf (by omega) (by omega)
    rw [Nat.add_zero, Nat.mod_eq_of_lt hf] at hm
    have e1 : ((f + 1) % room + j) % room = (f + (j + 1)) % room := by rw [Nat.mod_add_mod]; congr 1; omega
    rw [e1, put4_ne _ _ _ _ _ _ _ (by omega), HCE.out (j + 1) (by omega) i hi]
  rw [← hWF]
  have r0 : WF.cell? ⟨N, 0, none⟩ = some (.int .i64 p.num) := cell_at k2 0
  have r1 : WF.cell? ⟨N, 1, none⟩ = some (.int .i64 p.t) := cell_at k2 1
  have r2 : WF.cell? ⟨N, 2, none⟩ = some (.int .i64 p.c) := cell_at k2 2
  have r3 : WF.cell? ⟨N, 3, none⟩ = some (.slice p.a p.n p.ca) := cell_at k2 3
  exact bodyPost_ret (v := .agg #[.int .i64 p.num, .int .i64 p.t, .int .i64 p.c, .slice p.a p.n p.ca]) (by simp [results, Try.results77, go_sem, r0, r1, r2, r3]) rfl ⟨rfl, hfin, k4⟩
end Go.Proofs.Ytninhjeiialbjaa
