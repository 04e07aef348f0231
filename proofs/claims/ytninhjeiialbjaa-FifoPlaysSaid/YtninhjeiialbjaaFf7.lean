/-
  Package fifo: Pop, of a queue that holds some.
-/
import Derived.Test.YtninhjeiialbjaaFf6
namespace Go.Proofs.Ytninhjeiialbjaa
open Go.RowKit
set_option linter.unusedSimpArgs false
set_option linter.unusedVariables false

set_option maxRecDepth 100000 in
set_option maxHeartbeats 8000000 in
theorem fpop_any (D R o room f n : Nat) (by_ dr : Int) (E : Nat → PkE) (w : World) (hq : QIn w D R o room f n by_ dr E) (hn : 0 < n) (hby : 0 ≤ by_ ∧ by_ ≤ 1000000) :
    Calls Try.prog 43 #[.pointer (some ⟨D, 0, none⟩)] w fun e w' => ∃ a' c' b', e = .returned (.tuple #[.agg #[.int .i64 (E 0).num, .int .i64 (E 0).t, .int .i64 (E 0).c, .slice a' (E 0).n c'], .int .i64 0]) ∧ ByIn w' a' (E 0).n c' b' 0 (E 0).X ∧ (0 < (E 0).n → w.heap.size ≤ b') ∧ QIn w' D R o room ((f + 1) % room) (n - 1) (by_ - (8 + ((E 0).n : Int))) dr (fun j => E (j + 1)) ∧ Fr [D, R] w w' := by
  obtain ⟨N, hN⟩ : ∃ N, N = w.heap.size := ⟨_, rfl⟩
  obtain ⟨W1, hW1⟩ : ∃ W1, W1 = w.alloc (.cells #[.int .i64 0, .int .i64 0, .int .i64 0, .slice none 0 0] 57) := ⟨_, rfl⟩
  have hB1 : Below w.heap.size w W1 := by rw [hW1]; exact (Below.refl _ _).alloc (Nat.le_refl _) _
  have hp : Blk W1 N #[.int .i64 0, .int .i64 0, .int .i64 0, .slice none 0 0] 57 := by rw [hW1, hN]; exact blk_new _ _ _
  have hD : D < N := by rw [hN]; exact hq.own.lt
  have hR : R < N := by rw [hN]; obtain ⟨_, h1, _⟩ := hq.ring; exact h1.lt
  have hq1 := hq.below hB1
  have hld0 := (hq1.ld 0 hn)
  obtain ⟨p, hpE⟩ : ∃ p, p = E 0 := ⟨_, rfl⟩
  have hrp := ring_pop D R o room f n by_ dr E W1 hq1 hn
  rw [← hpE] at hld0 hrp ⊢
  have hp14 := hld0.le
  have hld := hld0.d
  have HLD := Lib.hid hld0
  have HLA := Lib.hid hq.ld
  have HRP := Lib.hid hrp
  have HB1 := Lib.hid hB1
  have HP1 := Lib.hid hp
  have HN := Lib.hid hN
  have hnil : ∀ W, (binOp .eql 60 (.pointer (some ⟨D, 0, none⟩)) (.pointer none)).run Try.prog W = .ok (.bool false) W := fun _ => rfl
  have hz : (n = 0) = False := eq_false (by omega)
  have c2 : W1.cell? ⟨D, 2, none⟩ = some (.int .i64 (n : Nat)) := cell_at hq1.own 2
  have hD1 : D < W1.heap.size := hq1.own.lt
  have dn : ((n : Int) == 0) = false := by simp; omega
  clear hq hq1 hB1 hp hpE hld0 hrp
  go_enter Try.func43, Try.ntmps43
  go_upto_region 3 with fail
  rw [← hN, ← hW1]
  clear hN hW1
  go_wp2_with fail
  go_at_call 77
  refine Calls.mono HRP.out ?_
  rintro e W2 ⟨rfl, hq2, hF2⟩
  have HN2 : Hid (Blk W2 N #[.int .i64 0, .int .i64 0, .int .i64 0, .slice none 0 0] 57) := Lib.hid ((hF2.block N HP1.out.lt (by simp; omega)).trans HP1.out)
  have HL2 := Lib.hid (HLD.out.fr hF2)
  have HQ2 := Lib.hid hq2
  have HF2 : Hid (Fr [D, R] w W2) := Lib.hid (((Fr.of_below HB1.out).mono (by simp)).trans hF2 (by simp))
  clear hq2 hF2 c2 hD1
  go_upto_region 6 with fail
  obtain ⟨M, hM⟩ : ∃ M, M = W2.heap.size := ⟨_, rfl⟩
  obtain ⟨W3, hW3⟩ : ∃ W3, W3 = W2.alloc (.cells #[.int .i64 p.num, .int .i64 p.t, .int .i64 p.c, .slice p.a p.n p.ca] 57) := ⟨_, rfl⟩
  have hB3 : Below W2.heap.size W2 W3.drew := by rw [hW3]; exact ((Below.refl _ _).alloc (Nat.le_refl _) _).drew
  have HP5 : Hid (Blk W3.drew M #[.int .i64 p.num, .int .i64 p.t, .int .i64 p.c, .slice p.a p.n p.ca] 57) := Lib.hid (by rw [hW3, hM]; exact blk_new _ _ _)
  have HN5 := Lib.hid (HN2.out.step hB3)
  have HQ5 := Lib.hid (HQ2.out.below hB3)
  have HL5 := Lib.hid (HL2.out.by_.below hB3)
  have HF5 : Hid (Fr [D, R] w W3.drew) := Lib.hid (HF2.out.trans (Fr.of_below hB3) (by simp))
  have hNM : N < M := by rw [hM]; exact HN2.out.lt
  rw [← hM, ← hW3]
  have hk3 : W3.cell? ⟨D, 3, none⟩ = some (.int .i64 by_) := cell_at HQ5.out.own 3
  have hD3 : D < W3.heap.size := HQ5.out.own.lt
  clear hM hW3 hB3
  have hnD : D ≠ M := by omega
  have hnN : N ≠ D := by omega
  have hDN : D ≠ N := by omega
  have hRN : R ≠ N := by omega
  have hw : IntKind.i64.wrap (by_ - (8 + (p.n : Int))) = by_ - (8 + (p.n : Int)) := by rw [IntKind.wrap_i64]; omega
  refine wp_region_held_drew (S := fun X => X.cell? ⟨M, 0, none⟩ = some (.int .i64 p.num) ∧ X.cell? ⟨M, 1, none⟩ = some (.int .i64 p.t) ∧ X.cell? ⟨M, 2, none⟩ = some (.int .i64 p.c) ∧ X.cell? ⟨M, 3, none⟩ = some (.slice p.a p.n p.ca) ∧ M < X.heap.size) (by kernel_rfl) ⟨cell_at HP5.out 0, cell_at HP5.out 1, cell_at HP5.out 2, cell_at HP5.out 3, HP5.out.lt⟩ (fun hHeld => ?_)
  ((refine wpAnyH_take (i := 0) (v := ?_) (by (simp only [List.getElem?_toArray, List.getElem?_cons_succ, List.getElem?_cons_zero]); rfl) (by kernel_rfl) (by kernel_rfl) (by kernel_rfl) (by exact fun _ _ _ h => h) (Or.inl ⟨by rfl, ?_⟩) (by assumption) ?_); rotate_left; focus (intro wS hSw; (try dsimp only at hSw); go_simp; first | done | with_reducible rfl); try simp only [Act.put, List.setIfInBounds_toArray, List.set_cons_zero, List.set_cons_succ])
  ((refine wpAnyH_take (i := 1) (v := ?_) (by (simp only [List.getElem?_toArray, List.getElem?_cons_succ, List.getElem?_cons_zero]); rfl) (by kernel_rfl) (by kernel_rfl) (by kernel_rfl) (by exact fun _ _ _ h => h) (Or.inl ⟨by rfl, ?_⟩) (by assumption) ?_); rotate_left; focus (intro wS hSw; (try dsimp only at hSw); go_simp; first | done | with_reducible rfl); try simp only [Act.put, List.setIfInBounds_toArray, List.set_cons_zero, List.set_cons_succ])
  ((refine wpAnyH_take (i := 2) (v := ?_) (by (simp only [List.getElem?_toArray, List.getElem?_cons_succ, List.getElem?_cons_zero]); rfl) (by kernel_rfl) (by kernel_rfl) (by kernel_rfl) (by exact fun _ _ _ h => h) (Or.inl ⟨by rfl, ?_⟩) (by assumption) ?_); rotate_left; focus (intro wS hSw; (try dsimp only at hSw); go_simp; first | done | with_reducible rfl); try simp only [Act.put, List.setIfInBounds_toArray, List.set_cons_zero, List.set_cons_succ])
  ((refine wpAnyH_take (i := 4) (v := ?_) (by (simp only [List.getElem?_toArray, List.getElem?_cons_succ, List.getElem?_cons_zero]); rfl) (by kernel_rfl) (by kernel_rfl) (by kernel_rfl) (by exact fun _ _ _ h => h) (Or.inl ⟨by rfl, ?_⟩) (by assumption) ?_); rotate_left; focus (intro wS hSw; (try dsimp only at hSw); go_simp; first | done | with_reducible rfl); try simp only [Act.put, List.setIfInBounds_toArray, List.set_cons_zero, List.set_cons_succ])
  refine wpAnyH_ready (rs := [3, 5]) (by kernel_rfl) (by simp) ?_
  refine AllReadyH.cons (by (simp only [List.getElem?_toArray, List.getElem?_cons_succ, List.getElem?_cons_zero]); rfl) (fun K hK => ?_) (AllReadyH.cons (by (simp only [List.getElem?_toArray, List.getElem?_cons_succ, List.getElem?_cons_zero]); rfl) (fun K hK => ?_) AllReadyH.nil)
  · go_simp
    refine hK.out _ _ ⟨cell_at HP5.out 0, cell_at HP5.out 1, cell_at HP5.out 2, cell_at HP5.out 3, HP5.out.lt⟩ (fun hHeld => ?_)
    clear hK K
    try simp only [Act.put, List.setIfInBounds_toArray, List.set_cons_zero, List.set_cons_succ]
    ((refine wpAnyH_ready (rs := [5]) (by kernel_rfl) (by simp) ?_); (refine AllReadyH.cons (by (simp only [List.getElem?_toArray, List.getElem?_cons_succ, List.getElem?_cons_zero]); rfl) (fun K hK => ?_) AllReadyH.nil); go_simp; refine Calls.mono (fsize_any _ _ _ _ _ _ _ (by omega)) ?_)
    rintro e W6 ⟨rfl, hB6⟩
    have HP6 := Lib.hid (HP5.out.step hB6)
    have HQ6 := Lib.hid (HQ5.out.below hB6)
    have HN6 := Lib.hid (HN5.out.step hB6)
    have HL6 := Lib.hid (HL5.out.below hB6)
    have HF6 : Hid (Fr [D, R] w W6) := Lib.hid (HF5.out.trans (Fr.of_below hB6) (by simp))
    have k6 : W6.cell? ⟨D, 3, none⟩ = some (.int .i64 by_) := cell_at HQ6.out.own 3
    have z6 := free_at HQ6.out.own 3
    have hD6 : D < W6.heap.size := HQ6.out.own.lt
    clear hB6
    go_wp2_with fail
    refine hK.out _ _ ⟨cell_at HP6.out 0, cell_at HP6.out 1, cell_at HP6.out 2, cell_at HP6.out 3, HP6.out.lt⟩ (fun hHeld => ?_)
    clear hK K
    try simp only [Act.put, List.setIfInBounds_toArray, List.set_cons_zero, List.set_cons_succ]
    ((refine wpAnyH_take (i := 6) (v := ?_) (by (simp only [List.getElem?_toArray, List.getElem?_cons_succ, List.getElem?_cons_zero]); rfl) (by kernel_rfl) (by kernel_rfl) (by kernel_rfl) (by exact fun _ _ _ h => h) (Or.inl ⟨by rfl, ?_⟩) (by assumption) ?_); rotate_left; focus (intro wS hSw; (try dsimp only at hSw); go_simp; first | done | with_reducible rfl); try simp only [Act.put, List.setIfInBounds_toArray, List.set_cons_zero, List.set_cons_succ])
    ((refine wpAnyH_take (i := 7) (v := ?_) (by (simp only [List.getElem?_toArray, List.getElem?_cons_succ, List.getElem?_cons_zero]); rfl) (by kernel_rfl) (by kernel_rfl) (by kernel_rfl) (by exact fun _ _ _ h => h) (Or.inl ⟨by rfl, ?_⟩) (by assumption) ?_); rotate_left; focus (intro wS hSw; (try dsimp only at hSw); go_simp; first | done | with_reducible rfl); try simp only [Act.put, List.setIfInBounds_toArray, List.set_cons_zero, List.set_cons_succ])
    ((refine wpAnyH_take (i := 8) (v := ?_) (by (simp only [List.getElem?_toArray, List.getElem?_cons_succ, List.getElem?_cons_zero]); rfl) (by kernel_rfl) (by kernel_rfl) (by kernel_rfl) (by exact fun _ _ _ h => h) (Or.inl ⟨by rfl, ?_⟩) (by assumption) ?_); rotate_left; focus (intro wS hSw; (try dsimp only at hSw); go_simp; first | done | with_reducible rfl); try simp only [Act.put, List.setIfInBounds_toArray, List.set_cons_zero, List.set_cons_succ])
    refine wpAnyH_ready (rs := [9]) (by kernel_rfl) (by simp) ?_
    refine AllReadyH.cons (by (simp only [List.getElem?_toArray, List.getElem?_cons_succ, List.getElem?_cons_zero]); rfl) (fun K hK => ?_) AllReadyH.nil
    go_simp
    have HP7 := Lib.hid (HP6.out.ne ⟨D, 3, none⟩ hnD.symm (.int .i64 (by_ - (8 + (p.n : Int)))))
    have HN7 := Lib.hid (HN6.out.ne ⟨D, 3, none⟩ hnN (.int .i64 (by_ - (8 + (p.n : Int)))))
    have HQ7 := Lib.hid (HQ6.out.bytes (by_ - (8 + (p.n : Int))))
    have HL7 := Lib.hid (HL6.out.ne ⟨D, 3, none⟩ hld (.int .i64 (by_ - (8 + (p.n : Int)))))
    have HF7 := Lib.hid (HF6.out.setCell ⟨D, 3, none⟩ (.inl (by simp)) (.int .i64 (by_ - (8 + (p.n : Int)))))
    refine hK.out _ _ ⟨cell_at HP7.out 0, cell_at HP7.out 1, cell_at HP7.out 2, cell_at HP7.out 3, HP7.out.lt⟩ (fun hHeld => ?_)
    clear hK K
    try simp only [Act.put, List.setIfInBounds_toArray, List.set_cons_zero, List.set_cons_succ]
    refine wpAnyH_done (by kernel_rfl) ?_ _
    obtain ⟨W7, hW7⟩ : ∃ W7, W7 = W6.setCell ⟨D, 3, none⟩ (.int .i64 (by_ - (8 + (p.n : Int)))) := ⟨_, rfl⟩
    rw [← hW7] at HP7 HN7 HQ7 HL7 HF7 ⊢
    clear hW7 k6 z6 hD6 hHeld
    have m0 : W7.cell? ⟨M, 0, none⟩ = some (.int .i64 p.num) := cell_at HP7.out 0
    have m1 : W7.cell? ⟨M, 1, none⟩ = some (.int .i64 p.t) := cell_at HP7.out 1
    have m2 : W7.cell? ⟨M, 2, none⟩ = some (.int .i64 p.c) := cell_at HP7.out 2
    have m3 : W7.cell? ⟨M, 3, none⟩ = some (.slice p.a p.n p.ca) := cell_at HP7.out 3
    have hM7 : M < W7.heap.size := HP7.out.lt
    go_wp2_with fail
    go_at_call 79
    refine (ftwin_any _ _ _ _ _ _ _ _ _ _ HL7.out (by omega)).mono ?_
    rintro e W8 ⟨a', c', b', rfl, hby8, hfr8, hB8⟩
    have hn8 := HN7.out.step hB8
    have n0 : W8.cell? ⟨N, 0, none⟩ = some (.int .i64 0) := cell_at hn8 0
    have n1 : W8.cell? ⟨N, 1, none⟩ = some (.int .i64 0) := cell_at hn8 1
    have n2 : W8.cell? ⟨N, 2, none⟩ = some (.int .i64 0) := cell_at hn8 2
    have n3 : W8.cell? ⟨N, 3, none⟩ = some (.slice none 0 0) := cell_at hn8 3
    have x0 := free_at hn8 0
    have x1 := free_at hn8 1
    have x2 := free_at hn8 2
    have x3 := free_at hn8 3
    have hN8 : N < W8.heap.size := hn8.lt
    have HN8 := Lib.hid hn8
    have HQ8 := Lib.hid (HQ7.out.below hB8)
    have HF8 : Hid (Fr [D, R] w W8) := Lib.hid (HF7.out.trans (Fr.of_below hB8) (by simp))
    have HL8 := Lib.hid hby8
    have HB8 : Hid (0 < p.n → N < b') := Lib.hid (fun h0 => by have := hfr8 h0; have := HN7.out.lt; omega)
    clear hby8 hfr8 hB8 hn8 m0 m1 m2 m3 hM7
    go_wp2_with fail
    obtain ⟨WF, hWF⟩ : ∃ WF, WF = ((((W8.setCell ⟨N, 0, none⟩ (.int .i64 p.num)).setCell ⟨N, 1, none⟩ (.int .i64 p.t)).setCell ⟨N, 2, none⟩ (.int .i64 p.c)).setCell ⟨N, 3, none⟩ (.slice a' p.n c')) := ⟨_, rfl⟩
    have k2 : Blk WF N #[.int .i64 p.num, .int .i64 p.t, .int .i64 p.c, .slice a' p.n c'] 57 := by rw [hWF]; exact ((((HN8.out).set 0 (.int .i64 p.num)).set 1 (.int .i64 p.t)).set 2 (.int .i64 p.c)).set 3 (.slice a' p.n c')
    have k4 : Fr [D, R] w WF := by rw [hWF]; exact ((((HF8.out).setCell ⟨N, 0, none⟩ (.inr (Nat.le_of_eq HN.out.symm)) (.int .i64 p.num)).setCell ⟨N, 1, none⟩ (.inr (Nat.le_of_eq HN.out.symm)) (.int .i64 p.t)).setCell ⟨N, 2, none⟩ (.inr (Nat.le_of_eq HN.out.symm)) (.int .i64 p.c)).setCell ⟨N, 3, none⟩ (.inr (Nat.le_of_eq HN.out.symm)) (.slice a' p.n c')
    have k5 : ByIn WF a' p.n c' b' 0 p.X := by rw [hWF]; exact ((((HL8.out).ne ⟨N, 0, none⟩ (fun h0 => Nat.ne_of_gt (HB8.out h0)) (.int .i64 p.num)).ne ⟨N, 1, none⟩ (fun h0 => Nat.ne_of_gt (HB8.out h0)) (.int .i64 p.t)).ne ⟨N, 2, none⟩ (fun h0 => Nat.ne_of_gt (HB8.out h0)) (.int .i64 p.c)).ne ⟨N, 3, none⟩ (fun h0 => Nat.ne_of_gt (HB8.out h0)) (.slice a' p.n c')
    obtain ⟨cur, h1, h2, h3⟩ := HQ8.out.ring
    have hfin : QIn WF D R o room ((f + 1) % room) (n - 1) (by_ - (8 + (p.n : Int))) dr (fun j => E (j + 1)) := ⟨by rw [hWF]; exact ((((HQ8.out.own).ne ⟨N, 0, none⟩ hDN (.int .i64 p.num)).ne ⟨N, 1, none⟩ hDN (.int .i64 p.t)).ne ⟨N, 2, none⟩ hDN (.int .i64 p.c)).ne ⟨N, 3, none⟩ hDN (.slice a' p.n c'), ⟨cur, by rw [hWF]; exact ((((h1).ne ⟨N, 0, none⟩ hRN (.int .i64 p.num)).ne ⟨N, 1, none⟩ hRN (.int .i64 p.t)).ne ⟨N, 2, none⟩ hRN (.int .i64 p.c)).ne ⟨N, 3, none⟩ hRN (.slice a' p.n c'), h2, h3⟩, HQ8.out.ne, HQ8.out.r1, HQ8.out.r64, HQ8.out.fl, HQ8.out.nl, fun j hj => (HLA.out (j + 1) (by omega)).fr k4⟩
    rw [← hWF]
    have r0 : WF.cell? ⟨N, 0, none⟩ = some (.int .i64 p.num) := cell_at k2 0
    have r1 : WF.cell? ⟨N, 1, none⟩ = some (.int .i64 p.t) := cell_at k2 1
    have r2 : WF.cell? ⟨N, 2, none⟩ = some (.int .i64 p.c) := cell_at k2 2
    have r3 : WF.cell? ⟨N, 3, none⟩ = some (.slice a' p.n c') := cell_at k2 3
    exact bodyPost_ret (v := .tuple #[.agg #[.int .i64 p.num, .int .i64 p.t, .int .i64 p.c, .slice a' p.n c'], .int .i64 0]) (by simp [results, Try.results43, go_sem, r0, r1, r2, r3]) rfl ⟨a', c', b', rfl, k5, (fun h0 => by have := HB8.out h0; have := HN.out; omega), hfin, k4⟩
  · go_simp
    refine Calls.mono (fsize_any _ _ _ _ _ _ _ (by omega)) ?_
    rintro e W6 ⟨rfl, hB6⟩
    have HP6 := Lib.hid (HP5.out.step hB6)
    have HQ6 := Lib.hid (HQ5.out.below hB6)
    have HN6 := Lib.hid (HN5.out.step hB6)
    have HL6 := Lib.hid (HL5.out.below hB6)
    have HF6 : Hid (Fr [D, R] w W6) := Lib.hid (HF5.out.trans (Fr.of_below hB6) (by simp))
    have k6 : W6.cell? ⟨D, 3, none⟩ = some (.int .i64 by_) := cell_at HQ6.out.own 3
    have z6 := free_at HQ6.out.own 3
    have hD6 : D < W6.heap.size := HQ6.out.own.lt
    clear hB6
    go_wp2_with fail
    refine hK.out _ _ ⟨cell_at HP6.out 0, cell_at HP6.out 1, cell_at HP6.out 2, cell_at HP6.out 3, HP6.out.lt⟩ (fun hHeld => ?_)
    clear hK K
    try simp only [Act.put, List.setIfInBounds_toArray, List.set_cons_zero, List.set_cons_succ]
    refine wpAnyH_ready (rs := [3]) (by kernel_rfl) (by simp) ?_
    refine AllReadyH.cons (by (simp only [List.getElem?_toArray, List.getElem?_cons_succ, List.getElem?_cons_zero]); rfl) (fun K hK => ?_) AllReadyH.nil
    go_simp
    refine hK.out _ _ ⟨cell_at HP6.out 0, cell_at HP6.out 1, cell_at HP6.out 2, cell_at HP6.out 3, HP6.out.lt⟩ (fun hHeld => ?_)
    clear hK K
    try simp only [Act.put, List.setIfInBounds_toArray, List.set_cons_zero, List.set_cons_succ]
    ((refine wpAnyH_take (i := 6) (v := ?_) (by (simp only [List.getElem?_toArray, List.getElem?_cons_succ, List.getElem?_cons_zero]); rfl) (by kernel_rfl) (by kernel_rfl) (by kernel_rfl) (by exact fun _ _ _ h => h) (Or.inl ⟨by rfl, ?_⟩) (by assumption) ?_); rotate_left; focus (intro wS hSw; (try dsimp only at hSw); go_simp; first | done | with_reducible rfl); try simp only [Act.put, List.setIfInBounds_toArray, List.set_cons_zero, List.set_cons_succ])
    ((refine wpAnyH_take (i := 7) (v := ?_) (by (simp only [List.getElem?_toArray, List.getElem?_cons_succ, List.getElem?_cons_zero]); rfl) (by kernel_rfl) (by kernel_rfl) (by kernel_rfl) (by exact fun _ _ _ h => h) (Or.inl ⟨by rfl, ?_⟩) (by assumption) ?_); rotate_left; focus (intro wS hSw; (try dsimp only at hSw); go_simp; first | done | with_reducible rfl); try simp only [Act.put, List.setIfInBounds_toArray, List.set_cons_zero, List.set_cons_succ])
    ((refine wpAnyH_take (i := 8) (v := ?_) (by (simp only [List.getElem?_toArray, List.getElem?_cons_succ, List.getElem?_cons_zero]); rfl) (by kernel_rfl) (by kernel_rfl) (by kernel_rfl) (by exact fun _ _ _ h => h) (Or.inl ⟨by rfl, ?_⟩) (by assumption) ?_); rotate_left; focus (intro wS hSw; (try dsimp only at hSw); go_simp; first | done | with_reducible rfl); try simp only [Act.put, List.setIfInBounds_toArray, List.set_cons_zero, List.set_cons_succ])
    refine wpAnyH_ready (rs := [9]) (by kernel_rfl) (by simp) ?_
    refine AllReadyH.cons (by (simp only [List.getElem?_toArray, List.getElem?_cons_succ, List.getElem?_cons_zero]); rfl) (fun K hK => ?_) AllReadyH.nil
    go_simp
    have HP7 := Lib.hid (HP6.out.ne ⟨D, 3, none⟩ hnD.symm (.int .i64 (by_ - (8 + (p.n : Int)))))
    have HN7 := Lib.hid (HN6.out.ne ⟨D, 3, none⟩ hnN (.int .i64 (by_ - (8 + (p.n : Int)))))
    have HQ7 := Lib.hid (HQ6.out.bytes (by_ - (8 + (p.n : Int))))
    have HL7 := Lib.hid (HL6.out.ne ⟨D, 3, none⟩ hld (.int .i64 (by_ - (8 + (p.n : Int)))))
    have HF7 := Lib.hid (HF6.out.setCell ⟨D, 3, none⟩ (.inl (by simp)) (.int .i64 (by_ - (8 + (p.n : Int)))))
    refine hK.out _ _ ⟨cell_at HP7.out 0, cell_at HP7.out 1, cell_at HP7.out 2, cell_at HP7.out 3, HP7.out.lt⟩ (fun hHeld => ?_)
    clear hK K
    try simp only [Act.put, List.setIfInBounds_toArray, List.set_cons_zero, List.set_cons_succ]
    refine wpAnyH_done (by kernel_rfl) ?_ _
    obtain ⟨W7, hW7⟩ : ∃ W7, W7 = W6.setCell ⟨D, 3, none⟩ (.int .i64 (by_ - (8 + (p.n : Int)))) := ⟨_, rfl⟩
    rw [← hW7] at HP7 HN7 HQ7 HL7 HF7 ⊢
    clear hW7 k6 z6 hD6 hHeld
    have m0 : W7.cell? ⟨M, 0, none⟩ = some (.int .i64 p.num) := cell_at HP7.out 0
    have m1 : W7.cell? ⟨M, 1, none⟩ = some (.int .i64 p.t) := cell_at HP7.out 1
    have m2 : W7.cell? ⟨M, 2, none⟩ = some (.int .i64 p.c) := cell_at HP7.out 2
    have m3 : W7.cell? ⟨M, 3, none⟩ = some (.slice p.a p.n p.ca) := cell_at HP7.out 3
    have hM7 : M < W7.heap.size := HP7.out.lt
    go_wp2_with fail
    go_at_call 79
    refine (ftwin_any _ _ _ _ _ _ _ _ _ _ HL7.out (by omega)).mono ?_
    rintro e W8 ⟨a', c', b', rfl, hby8, hfr8, hB8⟩
    have hn8 := HN7.out.step hB8
    have n0 : W8.cell? ⟨N, 0, none⟩ = some (.int .i64 0) := cell_at hn8 0
    have n1 : W8.cell? ⟨N, 1, none⟩ = some (.int .i64 0) := cell_at hn8 1
    have n2 : W8.cell? ⟨N, 2, none⟩ = some (.int .i64 0) := cell_at hn8 2
    have n3 : W8.cell? ⟨N, 3, none⟩ = some (.slice none 0 0) := cell_at hn8 3
    have x0 := free_at hn8 0
    have x1 := free_at hn8 1
    have x2 := free_at hn8 2
    have x3 := free_at hn8 3
    have hN8 : N < W8.heap.size := hn8.lt
    have HN8 := Lib.hid hn8
    have HQ8 := Lib.hid (HQ7.out.below hB8)
    have HF8 : Hid (Fr [D, R] w W8) := Lib.hid (HF7.out.trans (Fr.of_below hB8) (by simp))
    have HL8 := Lib.hid hby8
    have HB8 : Hid (0 < p.n → N < b') := Lib.hid (fun h0 => by have := hfr8 h0; have := HN7.out.lt; omega)
    clear hby8 hfr8 hB8 hn8 m0 m1 m2 m3 hM7
    go_wp2_with fail
    obtain ⟨WF, hWF⟩ : ∃ WF, WF = ((((W8.setCell ⟨N, 0, none⟩ (.int .i64 p.num)).setCell ⟨N, 1, none⟩ (.int .i64 p.t)).setCell ⟨N, 2, none⟩ (.int .i64 p.c)).setCell ⟨N, 3, none⟩ (.slice a' p.n c')) := ⟨_, rfl⟩
    have k2 : Blk WF N #[.int .i64 p.num, .int .i64 p.t, .int .i64 p.c, .slice a' p.n c'] 57 := by rw [hWF]; exact ((((HN8.out).set 0 (.int .i64 p.num)).set 1 (.int .i64 p.t)).set 2 (.int .i64 p.c)).set 3 (.slice a' p.n c')
    have k4 : Fr [D, R] w WF := by rw [hWF]; exact ((((HF8.out).setCell ⟨N, 0, none⟩ (.inr (Nat.le_of_eq HN.out.symm)) (.int .i64 p.num)).setCell ⟨N, 1, none⟩ (.inr (Nat.le_of_eq HN.out.symm)) (.int .i64 p.t)).setCell ⟨N, 2, none⟩ (.inr (Nat.le_of_eq HN.out.symm)) (.int .i64 p.c)).setCell ⟨N, 3, none⟩ (.inr (Nat.le_of_eq HN.out.symm)) (.slice a' p.n c')
    have k5 : ByIn WF a' p.n c' b' 0 p.X := by rw [hWF]; exact ((((HL8.out).ne ⟨N, 0, none⟩ (fun h0 => Nat.ne_of_gt (HB8.out h0)) (.int .i64 p.num)).ne ⟨N, 1, none⟩ (fun h0 => Nat.ne_of_gt (HB8.out h0)) (.int .i64 p.t)).ne ⟨N, 2, none⟩ (fun h0 => Nat.ne_of_gt (HB8.out h0)) (.int .i64 p.c)).ne ⟨N, 3, none⟩ (fun h0 => Nat.ne_of_gt (HB8.out h0)) (.slice a' p.n c')
    obtain ⟨cur, h1, h2, h3⟩ := HQ8.out.ring
    have hfin : QIn WF D R o room ((f + 1) % room) (n - 1) (by_ - (8 + (p.n : Int))) dr (fun j => E (j + 1)) := ⟨by rw [hWF]; exact ((((HQ8.out.own).ne ⟨N, 0, none⟩ hDN (.int .i64 p.num)).ne ⟨N, 1, none⟩ hDN (.int .i64 p.t)).ne ⟨N, 2, none⟩ hDN (.int .i64 p.c)).ne ⟨N, 3, none⟩ hDN (.slice a' p.n c'), ⟨cur, by rw [hWF]; exact ((((h1).ne ⟨N, 0, none⟩ hRN (.int .i64 p.num)).ne ⟨N, 1, none⟩ hRN (.int .i64 p.t)).ne ⟨N, 2, none⟩ hRN (.int .i64 p.c)).ne ⟨N, 3, none⟩ hRN (.slice a' p.n c'), h2, h3⟩, HQ8.out.ne, HQ8.out.r1, HQ8.out.r64, HQ8.out.fl, HQ8.out.nl, fun j hj => (HLA.out (j + 1) (by omega)).fr k4⟩
    rw [← hWF]
    have r0 : WF.cell? ⟨N, 0, none⟩ = some (.int .i64 p.num) := cell_at k2 0
    have r1 : WF.cell? ⟨N, 1, none⟩ = some (.int .i64 p.t) := cell_at k2 1
    have r2 : WF.cell? ⟨N, 2, none⟩ = some (.int .i64 p.c) := cell_at k2 2
    have r3 : WF.cell? ⟨N, 3, none⟩ = some (.slice a' p.n c') := cell_at k2 3
    exact bodyPost_ret (v := .tuple #[.agg #[.int .i64 p.num, .int .i64 p.t, .int .i64 p.c, .slice a' p.n c'], .int .i64 0]) (by simp [results, Try.results43, go_sem, r0, r1, r2, r3]) rfl ⟨a', c', b', rfl, k5, (fun h0 => by have := HB8.out h0; have := HN.out; omega), hfin, k4⟩
end Go.Proofs.Ytninhjeiialbjaa
