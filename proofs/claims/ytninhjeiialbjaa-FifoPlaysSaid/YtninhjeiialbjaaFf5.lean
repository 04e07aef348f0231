/-
  Package fifo: Push.
-/
import Derived.Deep.RegionHeld3
import Derived.OrdersHeld
import Derived.Test.YtninhjeiialbjaaFf4
namespace Go.Proofs.Ytninhjeiialbjaa
open Go.RowKit
set_option linter.unusedSimpArgs false
set_option linter.unusedVariables false

theorem QIn.below {W W' : World} {D R o room f n : Nat} {by_ dr : Int} {E : Nat → PkE} (h : QIn W D R o room f n by_ dr E) (hB : Below W.heap.size W W') : QIn W' D R o room f n by_ dr E := by
  obtain ⟨cur, h1, h2, h3⟩ := h.ring
  exact ⟨h.own.step hB, ⟨cur, h1.step hB, h2, h3⟩, h.ne, h.r1, h.r64, h.fl, h.nl, fun j hj => (h.ld j hj).fr ((Fr.of_below hB).mono (by simp))⟩

theorem QIn.bytes {W : World} {D R o room f n : Nat} {by_ dr : Int} {E : Nat → PkE} (h : QIn W D R o room f n by_ dr E) (v : Int) : QIn (W.setCell ⟨D, 3, none⟩ (.int .i64 v)) D R o room f n v dr E := by
  obtain ⟨cur, h1, h2, h3⟩ := h.ring
  exact ⟨h.own.set 3 (.int .i64 v), ⟨cur, h1.ne ⟨D, 3, none⟩ (fun e => h.ne e.symm) _, h2, h3⟩, h.ne, h.r1, h.r64, h.fl, h.nl, fun j hj => (h.ld j hj).fr ((Fr.refl [D, R] W).setCell ⟨D, 3, none⟩ (.inl (by simp)) _)⟩
theorem QIn.drops {W : World} {D R o room f n : Nat} {by_ dr : Int} {E : Nat → PkE} (h : QIn W D R o room f n by_ dr E) (v : Int) : QIn (W.setCell ⟨D, 4, none⟩ (.int .i64 v)) D R o room f n by_ v E := by
  obtain ⟨cur, h1, h2, h3⟩ := h.ring
  exact ⟨h.own.set 4 (.int .i64 v), ⟨cur, h1.ne ⟨D, 4, none⟩ (fun e => h.ne e.symm) _, h2, h3⟩, h.ne, h.r1, h.r64, h.fl, h.nl, fun j hj => (h.ld j hj).fr ((Fr.refl [D, R] W).setCell ⟨D, 4, none⟩ (.inl (by simp)) _)⟩

set_option maxRecDepth 100000 in
set_option maxHeartbeats 4000000 in
theorem fpush_long (D : Nat) (num t c : Int) (a : Option Addr) (ln ca : Nat) (w : World) (h : 1492 < ln) (h2 : ln ≤ 4611686018427387904) :
    Calls Try.prog 47 #[.pointer (some ⟨D, 0, none⟩), .agg #[.int .i64 num, .int .i64 t, .int .i64 c, .slice a ln ca]] w fun e w' => e = .returned (.int .i64 2) ∧ Below w.heap.size w w' := by
  have HB1 : Hid (Below w.heap.size w (w.alloc (.cells #[.int .i64 num, .int .i64 t, .int .i64 c, .slice a ln ca] 57))) := Lib.hid ((Below.refl _ _).alloc (Nat.le_refl _) _)
  have hnil : ∀ W, (binOp .eql 60 (.pointer (some ⟨D, 0, none⟩)) (.pointer none)).run Try.prog W = .ok (.bool false) W := fun _ => rfl
  have d1 : decide ((1500 : Int) < 8 + ln) = true := by simp; omega
  go_enter Try.func47, Try.ntmps47
  go_wp2_with fail
  go_at_call 78
  refine (fsize_any _ _ _ _ _ _ _ h2).mono ?_
  rintro e W2 ⟨rfl, hB2⟩
  have HB2 := Lib.hid (HB1.out.trans (hB2.mono HB1.out.size))
  clear hB2
  go_wp2_with fail
  go_ret
  exact ⟨rfl, HB2.out⟩

set_option maxRecDepth 100000 in
set_option maxHeartbeats 8000000 in
theorem fpush_any (D R o room f n : Nat) (by_ dr : Int) (E : Nat → PkE) (num t c : Int) (a : Option Addr) (ln ca : Nat) (w : World) (hq : QIn w D R o room f n by_ dr E) (hn : n < room) (b ob : Nat) (X : Nat → Nat) (hl : ByIn w a ln ca b ob X) (h14 : ln ≤ 1492) (hby : 0 ≤ by_ ∧ by_ ≤ 1000000) :
    Calls Try.prog 47 #[.pointer (some ⟨D, 0, none⟩), .agg #[.int .i64 num, .int .i64 t, .int .i64 c, .slice a ln ca]] w fun e w' => e = .returned (.int .i64 0) ∧ (∃ a' c' b', QIn w' D R o room f (n + 1) (by_ + (8 + (ln : Int))) dr (putE E n ⟨num, t, c, a', ln, c', b', 0, X⟩)) ∧ Fr [D, R] w w' := by
  obtain ⟨N, hN⟩ : ∃ N, N = w.heap.size := ⟨_, rfl⟩
  obtain ⟨W1, hW1⟩ : ∃ W1, W1 = w.alloc (.cells #[.int .i64 num, .int .i64 t, .int .i64 c, .slice a ln ca] 57) := ⟨_, rfl⟩
  have hB1 : Below w.heap.size w W1 := by rw [hW1]; exact (Below.refl _ _).alloc (Nat.le_refl _) _
  have hp : Blk W1 N #[.int .i64 num, .int .i64 t, .int .i64 c, .slice a ln ca] 57 := by rw [hW1, hN]; exact blk_new _ _ _
  have hD : D < N := by rw [hN]; exact hq.own.lt
  have hR : R < N := by rw [hN]; obtain ⟨_, h1, _⟩ := hq.ring; exact h1.lt
  have HB1 := Lib.hid hB1
  have HP1 := Lib.hid hp
  have HQ1 := Lib.hid (hq.below hB1)
  have HL1 := Lib.hid (hl.below hB1)
  have HN := Lib.hid hN
  have hnil : ∀ W, (binOp .eql 60 (.pointer (some ⟨D, 0, none⟩)) (.pointer none)).run Try.prog W = .ok (.bool false) W := fun _ => rfl
  have d1 : decide ((1500 : Int) < 8 + ln) = false := by simp; omega
  have p0 : W1.cell? ⟨N, 0, none⟩ = some (.int .i64 num) := cell_at hp 0
  have p1 : W1.cell? ⟨N, 1, none⟩ = some (.int .i64 t) := cell_at hp 1
  have p2 : W1.cell? ⟨N, 2, none⟩ = some (.int .i64 c) := cell_at hp 2
  have p3 : W1.cell? ⟨N, 3, none⟩ = some (.slice a ln ca) := cell_at hp 3
  have hN1 : N < W1.heap.size := hp.lt
  clear hq hl hB1 hp
  go_enter Try.func47, Try.ntmps47
  go_upto_region 3 with fail
  rw [← hN, ← hW1]
  clear hN hW1
  go_wp2_with fail
  go_at_call 78
  refine (fsize_any _ _ _ _ _ _ _ (by omega)).mono ?_
  rintro e W2 ⟨rfl, hB2⟩
  have HB2 := Lib.hid (HB1.out.trans (hB2.mono HB1.out.size))
  have HP2 := Lib.hid (HP1.out.step hB2)
  have HQ2 := Lib.hid (HQ1.out.below hB2)
  have HL2 := Lib.hid (HL1.out.below hB2)
  clear hB2 p0 p1 p2 p3 hN1
  go_upto_region 5 with fail
  have HB2d := Lib.hid (HB2.out.drew)
  have HP2d : Hid (Blk W2.drew N #[.int .i64 num, .int .i64 t, .int .i64 c, .slice a ln ca] 57) := Lib.hid HP2.out
  have HQ2d : Hid (QIn W2.drew D R o room f n by_ dr E) := Lib.hid (HQ2.out.below ((Below.refl _ _).drew : Below W2.heap.size W2 W2.drew))
  have HL2d : Hid (ByIn W2.drew a ln ca b ob X) := Lib.hid (HL2.out.below ((Below.refl _ _).drew : Below W2.heap.size W2 W2.drew))
  refine wp_region_held_drew (S := fun X => X.cell? ⟨N, 0, none⟩ = some (.int .i64 num) ∧ X.cell? ⟨N, 1, none⟩ = some (.int .i64 t) ∧ X.cell? ⟨N, 2, none⟩ = some (.int .i64 c) ∧ X.cell? ⟨N, 3, none⟩ = some (.slice a ln ca) ∧ N < X.heap.size) (by kernel_rfl) ⟨cell_at HP2d.out 0, cell_at HP2d.out 1, cell_at HP2d.out 2, cell_at HP2d.out 3, HP2d.out.lt⟩ (fun hHeld => ?_)
  ((refine wpAnyH_take (i := 0) (v := ?_) (by (simp only [List.getElem?_toArray, List.getElem?_cons_succ, List.getElem?_cons_zero]); rfl) (by kernel_rfl) (by kernel_rfl) (by kernel_rfl) (by exact fun _ _ _ h => h) (Or.inl ⟨by rfl, ?_⟩) (by assumption) ?_); rotate_left; focus (intro wS hSw; (try dsimp only at hSw); go_simp; first | done | with_reducible rfl); try simp only [Act.put, List.setIfInBounds_toArray, List.set_cons_zero, List.set_cons_succ])
  ((refine wpAnyH_take (i := 1) (v := ?_) (by (simp only [List.getElem?_toArray, List.getElem?_cons_succ, List.getElem?_cons_zero]); rfl) (by kernel_rfl) (by kernel_rfl) (by kernel_rfl) (by exact fun _ _ _ h => h) (Or.inl ⟨by rfl, ?_⟩) (by assumption) ?_); rotate_left; focus (intro wS hSw; (try dsimp only at hSw); go_simp; first | done | with_reducible rfl); try simp only [Act.put, List.setIfInBounds_toArray, List.set_cons_zero, List.set_cons_succ])
  ((refine wpAnyH_take (i := 2) (v := ?_) (by (simp only [List.getElem?_toArray, List.getElem?_cons_succ, List.getElem?_cons_zero]); rfl) (by kernel_rfl) (by kernel_rfl) (by kernel_rfl) (by exact fun _ _ _ h => h) (Or.inl ⟨by rfl, ?_⟩) (by assumption) ?_); rotate_left; focus (intro wS hSw; (try dsimp only at hSw); go_simp; first | done | with_reducible rfl); try simp only [Act.put, List.setIfInBounds_toArray, List.set_cons_zero, List.set_cons_succ])
  ((refine wpAnyH_take (i := 3) (v := ?_) (by (simp only [List.getElem?_toArray, List.getElem?_cons_succ, List.getElem?_cons_zero]); rfl) (by kernel_rfl) (by kernel_rfl) (by kernel_rfl) (by exact fun _ _ _ h => h) (Or.inl ⟨by rfl, ?_⟩) (by assumption) ?_); rotate_left; focus (intro wS hSw; (try dsimp only at hSw); go_simp; first | done | with_reducible rfl); try simp only [Act.put, List.setIfInBounds_toArray, List.set_cons_zero, List.set_cons_succ])
  ((refine wpAnyH_ready (rs := [4]) (by kernel_rfl) (by simp) ?_); (refine AllReadyH.cons (by (simp only [List.getElem?_toArray, List.getElem?_cons_succ, List.getElem?_cons_zero]); rfl) (fun K hK => ?_) AllReadyH.nil); go_simp; refine Calls.mono (ftwin_any num t c a ln ca b ob X _ HL2d.out (by omega)) ?_)
  rintro e W3 ⟨a', c', b', rfl, hby3, hfr3, hB3⟩
  have HB3 := Lib.hid (HB2d.out.trans (hB3.mono HB2d.out.size))
  have HP3 := Lib.hid (HP2d.out.step hB3)
  have HQ3 := Lib.hid (HQ2d.out.below hB3)
  have HL3 : Hid (LdIn W3 D R ⟨num, t, c, a', ln, c', b', 0, X⟩) := Lib.hid ⟨hby3, h14, fun h0 => (by have := hfr3 h0; have := HP2d.out.lt; show b' ≠ D; omega), fun h0 => (by have := hfr3 h0; have := HP2d.out.lt; show b' ≠ R; omega)⟩
  clear hby3 hfr3 hB3
  go_wp2_with fail
  refine hK.out _ _ ⟨cell_at HP3.out 0, cell_at HP3.out 1, cell_at HP3.out 2, cell_at HP3.out 3, HP3.out.lt⟩ (fun hHeld => ?_)
  clear hK K
  try simp only [Act.put, List.setIfInBounds_toArray, List.set_cons_zero, List.set_cons_succ]
  ((refine wpAnyH_ready (rs := [5]) (by kernel_rfl) (by simp) ?_); (refine AllReadyH.cons (by (simp only [List.getElem?_toArray, List.getElem?_cons_succ, List.getElem?_cons_zero]); rfl) (fun K hK => ?_) AllReadyH.nil); go_simp; refine Calls.mono (ring_push D R o room f n by_ dr E num t c a' ln c' _ HQ3.out hn b' 0 X HL3.out) ?_)
  rintro e W4 ⟨rfl, hq4, hF4⟩
  have HP4 : Hid (Blk W4 N #[.int .i64 num, .int .i64 t, .int .i64 c, .slice a ln ca] 57) := Lib.hid ((hF4.block N HP3.out.lt (by simp; omega)).trans HP3.out)
  have HQ4 := Lib.hid hq4
  have HF4 : Hid (Fr [D, R] w W4) := Lib.hid (((Fr.of_below HB3.out).mono (by simp)).trans hF4 (by simp))
  clear hq4 hF4
  go_wp2_with fail
  refine hK.out _ _ ⟨cell_at HP4.out 0, cell_at HP4.out 1, cell_at HP4.out 2, cell_at HP4.out 3, HP4.out.lt⟩ (fun hHeld => ?_)
  clear hK K
  try simp only [Act.put, List.setIfInBounds_toArray, List.set_cons_zero, List.set_cons_succ]
  ((refine wpAnyH_take (i := 6) (v := ?_) (by (simp only [List.getElem?_toArray, List.getElem?_cons_succ, List.getElem?_cons_zero]); rfl) (by kernel_rfl) (by kernel_rfl) (by kernel_rfl) (by exact fun _ _ _ h => h) (Or.inl ⟨by rfl, ?_⟩) (by assumption) ?_); rotate_left; focus (intro wS hSw; (try dsimp only at hSw); go_simp; first | done | with_reducible rfl); try simp only [Act.put, List.setIfInBounds_toArray, List.set_cons_zero, List.set_cons_succ])
  ((refine wpAnyH_take (i := 7) (v := ?_) (by (simp only [List.getElem?_toArray, List.getElem?_cons_succ, List.getElem?_cons_zero]); rfl) (by kernel_rfl) (by kernel_rfl) (by kernel_rfl) (by exact fun _ _ _ h => h) (Or.inl ⟨by rfl, ?_⟩) (by assumption) ?_); rotate_left; focus (intro wS hSw; (try dsimp only at hSw); go_simp; first | done | with_reducible rfl); try simp only [Act.put, List.setIfInBounds_toArray, List.set_cons_zero, List.set_cons_succ])
  refine wpAnyH_done (by kernel_rfl) ?_ _
  go_upto_region 8 with fail
  have HP5 : Hid (Blk W4.drew N #[.int .i64 num, .int .i64 t, .int .i64 c, .slice a ln ca] 57) := Lib.hid HP4.out
  have HQ5 : Hid (QIn W4.drew D R o room f (n + 1) by_ dr (putE E n ⟨num, t, c, a', ln, c', b', 0, X⟩)) := Lib.hid (HQ4.out.below ((Below.refl _ _).drew : Below W4.heap.size W4 W4.drew))
  have HF5 : Hid (Fr [D, R] w W4.drew) := Lib.hid HF4.out.drew
  have p0 : W4.cell? ⟨N, 0, none⟩ = some (.int .i64 num) := cell_at HP4.out 0
  have p1 : W4.cell? ⟨N, 1, none⟩ = some (.int .i64 t) := cell_at HP4.out 1
  have p2 : W4.cell? ⟨N, 2, none⟩ = some (.int .i64 c) := cell_at HP4.out 2
  have p3 : W4.cell? ⟨N, 3, none⟩ = some (.slice a ln ca) := cell_at HP4.out 3
  have pN : N < W4.heap.size := HP4.out.lt
  have k3 : W4.cell? ⟨D, 3, none⟩ = some (.int .i64 by_) := cell_at HQ4.out.own 3
  have z3 := free_at HQ4.out.own 3
  have hDW : D < W4.heap.size := HQ4.out.own.lt
  have hnD : D ≠ N := by omega
  have hw : IntKind.i64.wrap (by_ + (8 + (ln : Int))) = by_ + (8 + (ln : Int)) := by rw [IntKind.wrap_i64]; omega
  refine wp_region_held_drew (S := fun X => X.cell? ⟨N, 0, none⟩ = some (.int .i64 num) ∧ X.cell? ⟨N, 1, none⟩ = some (.int .i64 t) ∧ X.cell? ⟨N, 2, none⟩ = some (.int .i64 c) ∧ X.cell? ⟨N, 3, none⟩ = some (.slice a ln ca) ∧ N < X.heap.size) (by kernel_rfl) ⟨cell_at HP5.out 0, cell_at HP5.out 1, cell_at HP5.out 2, cell_at HP5.out 3, HP5.out.lt⟩ (fun hHeld => ?_)
  ((refine wpAnyH_take (i := 0) (v := ?_) (by (simp only [List.getElem?_toArray, List.getElem?_cons_succ, List.getElem?_cons_zero]); rfl) (by kernel_rfl) (by kernel_rfl) (by kernel_rfl) (by exact fun _ _ _ h => h) (Or.inl ⟨by rfl, ?_⟩) (by assumption) ?_); rotate_left; focus (intro wS hSw; (try dsimp only at hSw); go_simp; first | done | with_reducible rfl); try simp only [Act.put, List.setIfInBounds_toArray, List.set_cons_zero, List.set_cons_succ])
  ((refine wpAnyH_take (i := 1) (v := ?_) (by (simp only [List.getElem?_toArray, List.getElem?_cons_succ, List.getElem?_cons_zero]); rfl) (by kernel_rfl) (by kernel_rfl) (by kernel_rfl) (by exact fun _ _ _ h => h) (Or.inl ⟨by rfl, ?_⟩) (by assumption) ?_); rotate_left; focus (intro wS hSw; (try dsimp only at hSw); go_simp; first | done | with_reducible rfl); try simp only [Act.put, List.setIfInBounds_toArray, List.set_cons_zero, List.set_cons_succ])
  ((refine wpAnyH_take (i := 2) (v := ?_) (by (simp only [List.getElem?_toArray, List.getElem?_cons_succ, List.getElem?_cons_zero]); rfl) (by kernel_rfl) (by kernel_rfl) (by kernel_rfl) (by exact fun _ _ _ h => h) (Or.inl ⟨by rfl, ?_⟩) (by assumption) ?_); rotate_left; focus (intro wS hSw; (try dsimp only at hSw); go_simp; first | done | with_reducible rfl); try simp only [Act.put, List.setIfInBounds_toArray, List.set_cons_zero, List.set_cons_succ])
  ((refine wpAnyH_take (i := 4) (v := ?_) (by (simp only [List.getElem?_toArray, List.getElem?_cons_succ, List.getElem?_cons_zero]); rfl) (by kernel_rfl) (by kernel_rfl) (by kernel_rfl) (by exact fun _ _ _ h => h) (Or.inl ⟨by rfl, ?_⟩) (by assumption) ?_); rotate_left; focus (intro wS hSw; (try dsimp only at hSw); go_simp; first | done | with_reducible rfl); try simp only [Act.put, List.setIfInBounds_toArray, List.set_cons_zero, List.set_cons_succ])
  refine wpAnyH_ready (rs := [3, 5]) (by kernel_rfl) (by simp) ?_
  refine AllReadyH.cons (by (simp only [List.getElem?_toArray, List.getElem?_cons_succ, List.getElem?_cons_zero]); rfl) (fun K hK => ?_) (AllReadyH.cons (by (simp only [List.getElem?_toArray, List.getElem?_cons_succ, List.getElem?_cons_zero]); rfl) (fun K hK => ?_) AllReadyH.nil)
  · go_simp
    refine hK.out _ _ ⟨cell_at HP5.out 0, cell_at HP5.out 1, cell_at HP5.out 2, cell_at HP5.out 3, HP5.out.lt⟩ (fun hHeld => ?_)
    clear hK K
    try simp only [Act.put, List.setIfInBounds_toArray, List.set_cons_zero, List.set_cons_succ]
    ((refine wpAnyH_ready (rs := [5]) (by kernel_rfl) (by simp) ?_); (refine AllReadyH.cons (by (simp only [List.getElem?_toArray, List.getElem?_cons_succ, List.getElem?_cons_zero]); rfl) (fun K hK => ?_) AllReadyH.nil); go_simp; refine Calls.mono (fsize_any _ _ _ _ _ _ _ (by omega)) ?_)
    rintro e W6 ⟨rfl, hB6⟩
    have HP6 := Lib.hid (HP5.out.step hB6)
    have HQ6 := Lib.hid (HQ5.out.below hB6)
    have HF6 : Hid (Fr [D, R] w W6) := Lib.hid (HF5.out.trans (Fr.of_below hB6) (by simp))
    have k6 : W6.cell? ⟨D, 3, none⟩ = some (.int .i64 by_) := cell_at HQ6.out.own 3
    have z6 := free_at HQ6.out.own 3
    have hD6 : D < W6.heap.size := HQ6.out.own.lt
    clear hB6
    go_wp2_with fail
    refine hK.out _ _ ⟨cell_at HP6.out 0, cell_at HP6.out 1, cell_at HP6.out 2, cell_at HP6.out 3, HP6.out.lt⟩ (fun hHeld => ?_)
    clear hK K
    try simp only [Act.put, List.setIfInBounds_toArray, List.set_cons_zero, List.set_cons_succ]
    ((refine wpAnyH_take (i := 6) (v := ?_) (by (simp only [List.getElem?_toArray, List.getElem?_cons_succ, List.getElem?_cons_zero]); rfl) (by kernel_rfl) (by kernel_rfl) (by kernel_rfl) (by exact fun _ _ _ h => h) (Or.inl ⟨by rfl, ?_⟩) (by assumption) ?_); rotate_left; focus (intro wS hSw; (try dsimp only at hSw); go_simp; first | done | with_reducible rfl); try simp only [Act.put, List.setIfInBounds_toArray, List.set_cons_zero, List.set_cons_succ])
    ((refine wpAnyH_take (i := 7) (v := ?_) (by (simp only [List.getElem?_toArray, List.getElem?_cons_succ, List.getElem?_cons_zero]); rfl) (by kernel_rfl) (by kernel_rfl) (by kernel_rfl) (by exact fun _ _ _ h => h) (Or.inl ⟨by rfl, ?_⟩) (by assumption) ?_); rotate_left; focus (intro wS hSw; (try dsimp only at hSw); go_simp; first | done | with_reducible rfl); try simp only [Act.put, List.setIfInBounds_toArray, List.set_cons_zero, List.set_cons_succ])
    ((refine wpAnyH_take (i := 8) (v := ?_) (by (simp only [List.getElem?_toArray, List.getElem?_cons_succ, List.getElem?_cons_zero]); rfl) (by kernel_rfl) (by kernel_rfl) (by kernel_rfl) (by exact fun _ _ _ h => h) (Or.inl ⟨by rfl, ?_⟩) (by assumption) ?_); rotate_left; focus (intro wS hSw; (try dsimp only at hSw); go_simp; first | done | with_reducible rfl); try simp only [Act.put, List.setIfInBounds_toArray, List.set_cons_zero, List.set_cons_succ])
    refine wpAnyH_ready (rs := [9]) (by kernel_rfl) (by simp) ?_
    refine AllReadyH.cons (by (simp only [List.getElem?_toArray, List.getElem?_cons_succ, List.getElem?_cons_zero]); rfl) (fun K hK => ?_) AllReadyH.nil
    go_simp
    have HP7 := Lib.hid (HP6.out.ne ⟨D, 3, none⟩ hnD.symm (.int .i64 (by_ + (8 + (ln : Int)))))
    have HQ7 := Lib.hid (HQ6.out.bytes (by_ + (8 + (ln : Int))))
    have HF7 := Lib.hid (HF6.out.setCell ⟨D, 3, none⟩ (.inl (by simp)) (.int .i64 (by_ + (8 + (ln : Int)))))
    refine hK.out _ _ ⟨cell_at HP7.out 0, cell_at HP7.out 1, cell_at HP7.out 2, cell_at HP7.out 3, HP7.out.lt⟩ (fun hHeld => ?_)
    clear hK K
    try simp only [Act.put, List.setIfInBounds_toArray, List.set_cons_zero, List.set_cons_succ]
    refine wpAnyH_done (by kernel_rfl) ?_ _
    go_wp2_with fail
    go_ret
    exact ⟨rfl, ⟨a', c', b', HQ7.out⟩, HF7.out⟩
  · go_simp
    refine Calls.mono (fsize_any _ _ _ _ _ _ _ (by omega)) ?_
    rintro e W6 ⟨rfl, hB6⟩
    have HP6 := Lib.hid (HP5.out.step hB6)
    have HQ6 := Lib.hid (HQ5.out.below hB6)
    have HF6 : Hid (Fr [D, R] w W6) := Lib.hid (HF5.out.trans (Fr.of_below hB6) (by simp))
    have k6 : W6.cell? ⟨D, 3, none⟩ = some (.int .i64 by_) := cell_at HQ6.out.own 3
    have z6 := free_at HQ6.out.own 3
    have hD6 : D < W6.heap.size := HQ6.out.own.lt
    clear hB6
    go_wp2_with fail
    refine hK.out _ _ ⟨cell_at HP6.out 0, cell_at HP6.out 1, cell_at HP6.out 2, cell_at HP6.out 3, HP6.out.lt⟩ (fun hHeld => ?_)
    clear hK K
    try simp only [Act.put, List.setIfInBounds_toArray, List.set_cons_zero, List.set_cons_succ]
    refine wpAnyH_ready (rs := [3]) (by kernel_rfl) (by simp) ?_
    refine AllReadyH.cons (by (simp only [List.getElem?_toArray, List.getElem?_cons_succ, List.getElem?_cons_zero]); rfl) (fun K hK => ?_) AllReadyH.nil
    go_simp
    refine hK.out _ _ ⟨cell_at HP6.out 0, cell_at HP6.out 1, cell_at HP6.out 2, cell_at HP6.out 3, HP6.out.lt⟩ (fun hHeld => ?_)
    clear hK K
    try simp only [Act.put, List.setIfInBounds_toArray, List.set_cons_zero, List.set_cons_succ]
    ((refine wpAnyH_take (i := 6) (v := ?_) (by (simp only [List.getElem?_toArray, List.getElem?_cons_succ, List.getElem?_cons_zero]); rfl) (by kernel_rfl) (by kernel_rfl) (by kernel_rfl) (by exact fun _ _ _ h => h) (Or.inl ⟨by rfl, ?_⟩) (by assumption) ?_); rotate_left; focus (intro wS hSw; (try dsimp only at hSw); go_simp; first | done | with_reducible rfl); try simp only [Act.put, List.setIfInBounds_toArray, List.set_cons_zero, List.set_cons_succ])
    ((refine wpAnyH_take (i := 7) (v := ?_) (by (simp only [List.getElem?_toArray, List.getElem?_cons_succ, List.getElem?_cons_zero]); rfl) (by kernel_rfl) (by kernel_rfl) (by kernel_rfl) (by exact fun _ _ _ h => h) (Or.inl ⟨by rfl, ?_⟩) (by assumption) ?_); rotate_left; focus (intro wS hSw; (try dsimp only at hSw); go_simp; first | done | with_reducible rfl); try simp only [Act.put, List.setIfInBounds_toArray, List.set_cons_zero, List.set_cons_succ])
    ((refine wpAnyH_take (i := 8) (v := ?_) (by (simp only [List.getElem?_toArray, List.getElem?_cons_succ, List.getElem?_cons_zero]); rfl) (by kernel_rfl) (by kernel_rfl) (by kernel_rfl) (by exact fun _ _ _ h => h) (Or.inl ⟨by rfl, ?_⟩) (by assumption) ?_); rotate_left; focus (intro wS hSw; (try dsimp only at hSw); go_simp; first | done | with_reducible rfl); try simp only [Act.put, List.setIfInBounds_toArray, List.set_cons_zero, List.set_cons_succ])
    refine wpAnyH_ready (rs := [9]) (by kernel_rfl) (by simp) ?_
    refine AllReadyH.cons (by (simp only [List.getElem?_toArray, List.getElem?_cons_succ, List.getElem?_cons_zero]); rfl) (fun K hK => ?_) AllReadyH.nil
    go_simp
    have HP7 := Lib.hid (HP6.out.ne ⟨D, 3, none⟩ hnD.symm (.int .i64 (by_ + (8 + (ln : Int)))))
    have HQ7 := Lib.hid (HQ6.out.bytes (by_ + (8 + (ln : Int))))
    have HF7 := Lib.hid (HF6.out.setCell ⟨D, 3, none⟩ (.inl (by simp)) (.int .i64 (by_ + (8 + (ln : Int)))))
    refine hK.out _ _ ⟨cell_at HP7.out 0, cell_at HP7.out 1, cell_at HP7.out 2, cell_at HP7.out 3, HP7.out.lt⟩ (fun hHeld => ?_)
    clear hK K
    try simp only [Act.put, List.setIfInBounds_toArray, List.set_cons_zero, List.set_cons_succ]
    refine wpAnyH_done (by kernel_rfl) ?_ _
    go_wp2_with fail
    go_ret
    exact ⟨rfl, ⟨a', c', b', HQ7.out⟩, HF7.out⟩

set_option maxRecDepth 100000 in
set_option maxHeartbeats 8000000 in
theorem fpush_full (D R o room f n : Nat) (by_ dr : Int) (E : Nat → PkE) (num t c : Int) (a : Option Addr) (ln ca : Nat) (w : World) (hq : QIn w D R o room f n by_ dr E) (hn : n = room) (b ob : Nat) (X : Nat → Nat) (hl : ByIn w a ln ca b ob X) (h14 : ln ≤ 1492) (hdr : 0 ≤ dr ∧ dr ≤ 1000000) :
    Calls Try.prog 47 #[.pointer (some ⟨D, 0, none⟩), .agg #[.int .i64 num, .int .i64 t, .int .i64 c, .slice a ln ca]] w fun e w' => e = .returned (.int .i64 100) ∧ QIn w' D R o room f n by_ (dr + 1) E ∧ Fr [D, R] w w' := by
  obtain ⟨N, hN⟩ : ∃ N, N = w.heap.size := ⟨_, rfl⟩
  obtain ⟨W1, hW1⟩ : ∃ W1, W1 = w.alloc (.cells #[.int .i64 num, .int .i64 t, .int .i64 c, .slice a ln ca] 57) := ⟨_, rfl⟩
  have hB1 : Below w.heap.size w W1 := by rw [hW1]; exact (Below.refl _ _).alloc (Nat.le_refl _) _
  have hp : Blk W1 N #[.int .i64 num, .int .i64 t, .int .i64 c, .slice a ln ca] 57 := by rw [hW1, hN]; exact blk_new _ _ _
  have hD : D < N := by rw [hN]; exact hq.own.lt
  have hR : R < N := by rw [hN]; obtain ⟨_, h1, _⟩ := hq.ring; exact h1.lt
  have HB1 := Lib.hid hB1
  have HP1 := Lib.hid hp
  have HQ1 := Lib.hid (hq.below hB1)
  have HL1 := Lib.hid (hl.below hB1)
  have HN := Lib.hid hN
  have hnil : ∀ W, (binOp .eql 60 (.pointer (some ⟨D, 0, none⟩)) (.pointer none)).run Try.prog W = .ok (.bool false) W := fun _ => rfl
  have d1 : decide ((1500 : Int) < 8 + ln) = false := by simp; omega
  have p0 : W1.cell? ⟨N, 0, none⟩ = some (.int .i64 num) := cell_at hp 0
  have p1 : W1.cell? ⟨N, 1, none⟩ = some (.int .i64 t) := cell_at hp 1
  have p2 : W1.cell? ⟨N, 2, none⟩ = some (.int .i64 c) := cell_at hp 2
  have p3 : W1.cell? ⟨N, 3, none⟩ = some (.slice a ln ca) := cell_at hp 3
  have hN1 : N < W1.heap.size := hp.lt
  clear hq hl hB1 hp
  go_enter Try.func47, Try.ntmps47
  go_upto_region 3 with fail
  rw [← hN, ← hW1]
  clear hN hW1
  go_wp2_with fail
  go_at_call 78
  refine (fsize_any _ _ _ _ _ _ _ (by omega)).mono ?_
  rintro e W2 ⟨rfl, hB2⟩
  have HB2 := Lib.hid (HB1.out.trans (hB2.mono HB1.out.size))
  have HP2 := Lib.hid (HP1.out.step hB2)
  have HQ2 := Lib.hid (HQ1.out.below hB2)
  have HL2 := Lib.hid (HL1.out.below hB2)
  clear hB2 p0 p1 p2 p3 hN1
  go_upto_region 5 with fail
  have HB2d := Lib.hid (HB2.out.drew)
  have HP2d : Hid (Blk W2.drew N #[.int .i64 num, .int .i64 t, .int .i64 c, .slice a ln ca] 57) := Lib.hid HP2.out
  have HQ2d : Hid (QIn W2.drew D R o room f n by_ dr E) := Lib.hid (HQ2.out.below ((Below.refl _ _).drew : Below W2.heap.size W2 W2.drew))
  have HL2d : Hid (ByIn W2.drew a ln ca b ob X) := Lib.hid (HL2.out.below ((Below.refl _ _).drew : Below W2.heap.size W2 W2.drew))
  refine wp_region_held_drew (S := fun X => X.cell? ⟨N, 0, none⟩ = some (.int .i64 num) ∧ X.cell? ⟨N, 1, none⟩ = some (.int .i64 t) ∧ X.cell? ⟨N, 2, none⟩ = some (.int .i64 c) ∧ X.cell? ⟨N, 3, none⟩ = some (.slice a ln ca) ∧ N < X.heap.size) (by kernel_rfl) ⟨cell_at HP2d.out 0, cell_at HP2d.out 1, cell_at HP2d.out 2, cell_at HP2d.out 3, HP2d.out.lt⟩ (fun hHeld => ?_)
  ((refine wpAnyH_take (i := 0) (v := ?_) (by (simp only [List.getElem?_toArray, List.getElem?_cons_succ, List.getElem?_cons_zero]); rfl) (by kernel_rfl) (by kernel_rfl) (by kernel_rfl) (by exact fun _ _ _ h => h) (Or.inl ⟨by rfl, ?_⟩) (by assumption) ?_); rotate_left; focus (intro wS hSw; (try dsimp only at hSw); go_simp; first | done | with_reducible rfl); try simp only [Act.put, List.setIfInBounds_toArray, List.set_cons_zero, List.set_cons_succ])
  ((refine wpAnyH_take (i := 1) (v := ?_) (by (simp only [List.getElem?_toArray, List.getElem?_cons_succ, List.getElem?_cons_zero]); rfl) (by kernel_rfl) (by kernel_rfl) (by kernel_rfl) (by exact fun _ _ _ h => h) (Or.inl ⟨by rfl, ?_⟩) (by assumption) ?_); rotate_left; focus (intro wS hSw; (try dsimp only at hSw); go_simp; first | done | with_reducible rfl); try simp only [Act.put, List.setIfInBounds_toArray, List.set_cons_zero, List.set_cons_succ])
  ((refine wpAnyH_take (i := 2) (v := ?_) (by (simp only [List.getElem?_toArray, List.getElem?_cons_succ, List.getElem?_cons_zero]); rfl) (by kernel_rfl) (by kernel_rfl) (by kernel_rfl) (by exact fun _ _ _ h => h) (Or.inl ⟨by rfl, ?_⟩) (by assumption) ?_); rotate_left; focus (intro wS hSw; (try dsimp only at hSw); go_simp; first | done | with_reducible rfl); try simp only [Act.put, List.setIfInBounds_toArray, List.set_cons_zero, List.set_cons_succ])
  ((refine wpAnyH_take (i := 3) (v := ?_) (by (simp only [List.getElem?_toArray, List.getElem?_cons_succ, List.getElem?_cons_zero]); rfl) (by kernel_rfl) (by kernel_rfl) (by kernel_rfl) (by exact fun _ _ _ h => h) (Or.inl ⟨by rfl, ?_⟩) (by assumption) ?_); rotate_left; focus (intro wS hSw; (try dsimp only at hSw); go_simp; first | done | with_reducible rfl); try simp only [Act.put, List.setIfInBounds_toArray, List.set_cons_zero, List.set_cons_succ])
  ((refine wpAnyH_ready (rs := [4]) (by kernel_rfl) (by simp) ?_); (refine AllReadyH.cons (by (simp only [List.getElem?_toArray, List.getElem?_cons_succ, List.getElem?_cons_zero]); rfl) (fun K hK => ?_) AllReadyH.nil); go_simp; refine Calls.mono (ftwin_any num t c a ln ca b ob X _ HL2d.out (by omega)) ?_)
  rintro e W3 ⟨a', c', b', rfl, hby3, hfr3, hB3⟩
  have HB3 := Lib.hid (HB2d.out.trans (hB3.mono HB2d.out.size))
  have HP3 := Lib.hid (HP2d.out.step hB3)
  have HQ3 := Lib.hid (HQ2d.out.below hB3)
  clear hby3 hfr3 hB3
  go_wp2_with fail
  refine hK.out _ _ ⟨cell_at HP3.out 0, cell_at HP3.out 1, cell_at HP3.out 2, cell_at HP3.out 3, HP3.out.lt⟩ (fun hHeld => ?_)
  clear hK K
  try simp only [Act.put, List.setIfInBounds_toArray, List.set_cons_zero, List.set_cons_succ]
  ((refine wpAnyH_ready (rs := [5]) (by kernel_rfl) (by simp) ?_); (refine AllReadyH.cons (by (simp only [List.getElem?_toArray, List.getElem?_cons_succ, List.getElem?_cons_zero]); rfl) (fun K hK => ?_) AllReadyH.nil); go_simp; refine Calls.mono (ring_full D R o room f n by_ dr E num t c a' ln c' _ HQ3.out hn) ?_)
  rintro e W4 ⟨rfl, hB4⟩
  have HP4 := Lib.hid (HP3.out.step hB4)
  have HQ4 := Lib.hid (HQ3.out.below hB4)
  have HF4 : Hid (Fr [D, R] w W4) := Lib.hid (((Fr.of_below HB3.out).mono (by simp)).trans (Fr.of_below hB4) (by simp))
  clear hB4
  go_wp2_with fail
  refine hK.out _ _ ⟨cell_at HP4.out 0, cell_at HP4.out 1, cell_at HP4.out 2, cell_at HP4.out 3, HP4.out.lt⟩ (fun hHeld => ?_)
  clear hK K
  try simp only [Act.put, List.setIfInBounds_toArray, List.set_cons_zero, List.set_cons_succ]
  ((refine wpAnyH_take (i := 6) (v := ?_) (by (simp only [List.getElem?_toArray, List.getElem?_cons_succ, List.getElem?_cons_zero]); rfl) (by kernel_rfl) (by kernel_rfl) (by kernel_rfl) (by exact fun _ _ _ h => h) (Or.inl ⟨by rfl, ?_⟩) (by assumption) ?_); rotate_left; focus (intro wS hSw; (try dsimp only at hSw); go_simp; first | done | with_reducible rfl); try simp only [Act.put, List.setIfInBounds_toArray, List.set_cons_zero, List.set_cons_succ])
  ((refine wpAnyH_take (i := 7) (v := ?_) (by (simp only [List.getElem?_toArray, List.getElem?_cons_succ, List.getElem?_cons_zero]); rfl) (by kernel_rfl) (by kernel_rfl) (by kernel_rfl) (by exact fun _ _ _ h => h) (Or.inl ⟨by rfl, ?_⟩) (by assumption) ?_); rotate_left; focus (intro wS hSw; (try dsimp only at hSw); go_simp; first | done | with_reducible rfl); try simp only [Act.put, List.setIfInBounds_toArray, List.set_cons_zero, List.set_cons_succ])
  refine wpAnyH_done (by kernel_rfl) ?_ _
  have k4 : W4.cell? ⟨D, 4, none⟩ = some (.int .i64 dr) := cell_at HQ4.out.own 4
  have z4 := free_at HQ4.out.own 4
  have hD4 : D < W4.heap.size := HQ4.out.own.lt
  have HQ5 : Hid (QIn W4.drew D R o room f n by_ dr E) := Lib.hid (HQ4.out.below ((Below.refl _ _).drew : Below W4.heap.size W4 W4.drew))
  go_wp2_with fail
  go_ret
  exact ⟨rfl, by first | exact HQ4.out.drops _ | exact HQ5.out.drops _, by first | exact HF4.out.setCell ⟨D, 4, none⟩ (.inl (by simp)) _ | exact HF4.out.drew.setCell ⟨D, 4, none⟩ (.inl (by simp)) _⟩
end Go.Proofs.Ytninhjeiialbjaa
