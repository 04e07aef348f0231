/-
  Texts of this claim, put together: Ff5, Ff6, Ff7, Ff8, Ff9, Ffb, Rg, Ffc, Ffd, Pl1, Pl2, Pl3, HiB, Pl4, Pl5, Pl6, Pl7, Pl8, Pl9, Pla, Plb, Plc, Pld, Vu8, Vu9, Vu11.
-/
import Derived.Test.YtoodmocapagapaaSm1
import Derived.Deep.RegionHeld3
import Derived.OrdersHeld
import Derived.Lib.SlBytesConst
import Derived.Laws.StructEq
import Derived.Deep.RegionLaw
import Derived.RangeFuncNested
import Derived.RangeFuncBound
import Derived.RangeFuncCalls
import Derived.RangeFuncLeaves
import Derived.RangeFuncBox
import Derived.Shelf.Abstract
import Derived.OwnWalkIn
import Derived.TacticsInMore
import Derived.LoopNIn
import Derived.LoopIn
import Derived.Maps.AppendAt
import Derived.ArgAppend
import Derived.Deep.DeepFit
import Derived.Lib.AppendZeros
import Derived.OwnWalk
import Derived.BigQuiet
import Derived.BigRegion
import Derived.Deep.QuietTactic
import Derived.IntWalk
import Derived.Lib.Small
import Derived.RegionTactic
import Derived.Lib.Hide
import Derived.Deep.DeepCutAuto
import Derived.WalkMore
import Derived.WalkSpells
import Derived.Laws.OwnMore
namespace Go.Proofs.Ytoodmocapagapaa
open Go.RowKit
set_option linter.unusedSimpArgs false
set_option linter.unusedVariables false

theorem FqIn.below {W W' : World} {D R o room f n : Nat} {by_ dr : Int} {E : Nat → PkE} (h : FqIn W D R o room f n by_ dr E) (hB : Below W.heap.size W W') : FqIn W' D R o room f n by_ dr E := by
  obtain ⟨cur, h1, h2, h3⟩ := h.ring
  exact ⟨h.own.step hB, ⟨cur, h1.step hB, h2, h3⟩, h.ne, h.r1, h.r64, h.fl, h.nl, fun j hj => (h.ld j hj).fr ((Fr.of_below hB).mono (by simp))⟩

theorem FqIn.bytes {W : World} {D R o room f n : Nat} {by_ dr : Int} {E : Nat → PkE} (h : FqIn W D R o room f n by_ dr E) (v : Int) : FqIn (W.setCell ⟨D, 3, none⟩ (.int .i64 v)) D R o room f n v dr E := by
  obtain ⟨cur, h1, h2, h3⟩ := h.ring
  exact ⟨h.own.set 3 (.int .i64 v), ⟨cur, h1.ne ⟨D, 3, none⟩ (fun e => h.ne e.symm) _, h2, h3⟩, h.ne, h.r1, h.r64, h.fl, h.nl, fun j hj => (h.ld j hj).fr ((Fr.refl [D, R] W).setCell ⟨D, 3, none⟩ (.inl (by simp)) _)⟩
theorem FqIn.drops {W : World} {D R o room f n : Nat} {by_ dr : Int} {E : Nat → PkE} (h : FqIn W D R o room f n by_ dr E) (v : Int) : FqIn (W.setCell ⟨D, 4, none⟩ (.int .i64 v)) D R o room f n by_ v E := by
  obtain ⟨cur, h1, h2, h3⟩ := h.ring
  exact ⟨h.own.set 4 (.int .i64 v), ⟨cur, h1.ne ⟨D, 4, none⟩ (fun e => h.ne e.symm) _, h2, h3⟩, h.ne, h.r1, h.r64, h.fl, h.nl, fun j hj => (h.ld j hj).fr ((Fr.refl [D, R] W).setCell ⟨D, 4, none⟩ (.inl (by simp)) _)⟩

set_option maxRecDepth 100000 in
set_option maxHeartbeats 4000000 in
theorem fpush_long (D : Nat) (num t c : Int) (a : Option Addr) (ln ca : Nat) (w : World) (h : 1492 < ln) (h2 : ln ≤ 4611686018427387904) :
    Calls Try.prog 24 #[.pointer (some ⟨D, 0, none⟩), .agg #[.int .i64 num, .int .i64 t, .int .i64 c, .slice a ln ca]] w fun e w' => e = .returned (.int .i64 2) ∧ Below w.heap.size w w' := by
  have HB1 : Hid (Below w.heap.size w (w.alloc (.cells #[.int .i64 num, .int .i64 t, .int .i64 c, .slice a ln ca] 53))) := Lib.hid ((Below.refl _ _).alloc (Nat.le_refl _) _)
  have hnil : ∀ W, (binOp .eql 65 (.pointer (some ⟨D, 0, none⟩)) (.pointer none)).run Try.prog W = .ok (.bool false) W := fun _ => rfl
  have d1 : decide ((1500 : Int) < 8 + ln) = true := by simp; omega
  go_enter Try.func24, Try.ntmps24
  go_wp2_with fail
  go_at_call 42
  refine (fsize_any _ _ _ _ _ _ _ h2).mono ?_
  rintro e W2 ⟨rfl, hB2⟩
  have HB2 := Lib.hid (HB1.out.trans (hB2.mono HB1.out.size))
  clear hB2
  go_wp2_with fail
  go_ret
  exact ⟨rfl, HB2.out⟩

set_option maxRecDepth 100000 in
set_option maxHeartbeats 8000000 in
theorem fpush_any (D R o room f n : Nat) (by_ dr : Int) (E : Nat → PkE) (num t c : Int) (a : Option Addr) (ln ca : Nat) (w : World) (hq : FqIn w D R o room f n by_ dr E) (hn : n < room) (b ob : Nat) (X : Nat → Nat) (hl : ByIn w a ln ca b ob X) (h14 : ln ≤ 1492) (hby : 0 ≤ by_ ∧ by_ ≤ 1000000) :
    Calls Try.prog 24 #[.pointer (some ⟨D, 0, none⟩), .agg #[.int .i64 num, .int .i64 t, .int .i64 c, .slice a ln ca]] w fun e w' => e = .returned (.int .i64 0) ∧ (∃ a' c' b', FqIn w' D R o room f (n + 1) (by_ + (8 + (ln : Int))) dr (putE E n ⟨num, t, c, a', ln, c', b', 0, X⟩)) ∧ Fr [D, R] w w' := by
  obtain ⟨N, hN⟩ : ∃ N, N = w.heap.size := ⟨_, rfl⟩
  obtain ⟨W1, hW1⟩ : ∃ W1, W1 = w.alloc (.cells #[.int .i64 num, .int .i64 t, .int .i64 c, .slice a ln ca] 53) := ⟨_, rfl⟩
  have hB1 : Below w.heap.size w W1 := by rw [hW1]; exact (Below.refl _ _).alloc (Nat.le_refl _) _
  have hp : Blk W1 N #[.int .i64 num, .int .i64 t, .int .i64 c, .slice a ln ca] 53 := by rw [hW1, hN]; exact blk_new _ _ _
  have hD : D < N := by rw [hN]; exact hq.own.lt
  have hR : R < N := by rw [hN]; obtain ⟨_, h1, _⟩ := hq.ring; exact h1.lt
  have HB1 := Lib.hid hB1
  have HP1 := Lib.hid hp
  have HQ1 := Lib.hid (hq.below hB1)
  have HL1 := Lib.hid (hl.below hB1)
  have HN := Lib.hid hN
  have hnil : ∀ W, (binOp .eql 65 (.pointer (some ⟨D, 0, none⟩)) (.pointer none)).run Try.prog W = .ok (.bool false) W := fun _ => rfl
  have d1 : decide ((1500 : Int) < 8 + ln) = false := by simp; omega
  have p0 : W1.cell? ⟨N, 0, none⟩ = some (.int .i64 num) := cell_at hp 0
  have p1 : W1.cell? ⟨N, 1, none⟩ = some (.int .i64 t) := cell_at hp 1
  have p2 : W1.cell? ⟨N, 2, none⟩ = some (.int .i64 c) := cell_at hp 2
  have p3 : W1.cell? ⟨N, 3, none⟩ = some (.slice a ln ca) := cell_at hp 3
  have hN1 : N < W1.heap.size := hp.lt
  clear hq hl hB1 hp
  go_enter Try.func24, Try.ntmps24
  go_upto_region 3 with fail
  rw [← hN, ← hW1]
  clear hN hW1
  go_wp2_with fail
  go_at_call 42
  refine (fsize_any _ _ _ _ _ _ _ (by omega)).mono ?_
  rintro e W2 ⟨rfl, hB2⟩
  have HB2 := Lib.hid (HB1.out.trans (hB2.mono HB1.out.size))
  have HP2 := Lib.hid (HP1.out.step hB2)
  have HQ2 := Lib.hid (HQ1.out.below hB2)
  have HL2 := Lib.hid (HL1.out.below hB2)
  clear hB2 p0 p1 p2 p3 hN1
  go_upto_region 5 with fail
  have HB2d := Lib.hid (HB2.out.drew)
  have HP2d : Hid (Blk W2.drew N #[.int .i64 num, .int .i64 t, .int .i64 c, .slice a ln ca] 53) := Lib.hid HP2.out
  have HQ2d : Hid (FqIn W2.drew D R o room f n by_ dr E) := Lib.hid (HQ2.out.below ((Below.refl _ _).drew : Below W2.heap.size W2 W2.drew))
  have HL2d : Hid (ByIn W2.drew a ln ca b ob X) := Lib.hid (HL2.out.below ((Below.refl _ _).drew : Below W2.heap.size W2 W2.drew))
  refine wp_region_held_drew (S := fun X => X.cell? ⟨N, 0, none⟩ = some (.int .i64 num) ∧ X.cell? ⟨N, 1, none⟩ = some (.int .i64 t) ∧ X.cell? ⟨N, 2, none⟩ = some (.int .i64 c) ∧ X.cell? ⟨N, 3, none⟩ = some (.slice a ln ca) ∧ N < X.heap.size) (by kernel_rfl) ⟨cell_at HP2d.out 0, cell_at HP2d.out 1, cell_at HP2d.out 2, cell_at HP2d.out 3, HP2d.out.lt⟩ (fun hHeld => ?_)
  ((refine wpAnyH_take (i := 0) (v := ?_) (by (simp only [List.getElem?_toArray, List.getElem?_cons_succ, List.getElem?_cons_zero]); rfl) (by kernel_rfl) (by kernel_rfl) (by kernel_rfl) (by exact fun _ _ _ h => h) (Or.inl ⟨by rfl, ?_⟩) (by assumption) ?_); rotate_left; focus (intro wS hSw; (try dsimp only at hSw); go_simp; first | done | with_reducible rfl); try simp only [Act.put, List.setIfInBounds_toArray, List.set_cons_zero, List.set_cons_succ])
  ((refine wpAnyH_take (i := 1) (v := ?_) (by (simp only [List.getElem?_toArray, List.getElem?_cons_succ, List.getElem?_cons_zero]); rfl) (by kernel_rfl) (by kernel_rfl) (by kernel_rfl) (by exact fun _ _ _ h => h) (Or.inl ⟨by rfl, ?_⟩) (by assumption) ?_); rotate_left; focus (intro wS hSw; (try dsimp only at hSw); go_simp; first | done | with_reducible rfl); try simp only [Act.put, List.setIfInBounds_toArray, List.set_cons_zero, List.set_cons_succ])
  ((refine wpAnyH_take (i := 2) (v := ?_) (by (simp only [List.getElem?_toArray, List.getElem?_cons_succ, List.getElem?_cons_zero]); rfl) (by kernel_rfl) (by kernel_rfl) (by kernel_rfl) (by exact fun _ _ _ h => h) (Or.inl ⟨by rfl, ?_⟩) (by assumption) ?_); rotate_left; focus (intro wS hSw; (try dsimp only at hSw); go_simp; first | done | with_reducible rfl); try simp only [Act.put, List.setIfInBounds_toArray, List.set_cons_zero, List.set_cons_succ])
  ((refine wpAnyH_take (i := 3) (v := ?_) (by (simp only [List.getElem?_toArray, List.getElem?_cons_succ, List.getElem?_cons_zero]); rfl) (by kernel_rfl) (by kernel_rfl) (by kernel_rfl) (by exact fun _ _ _ h => h) (Or.inl ⟨by rfl, ?_⟩) (by assumption) ?_); rotate_left; focus (intro wS hSw; (try dsimp only at hSw); go_simp; first | done | with_reducible rfl); try simp only [Act.put, List.setIfInBounds_toArray, List.set_cons_zero, List.set_cons_succ])
  ((refine wpAnyH_ready (rs := [4]) (by kernel_rfl) (by simp) ?_); (refine AllReadyH.cons (by (simp only [List.getElem?_toArray, List.getElem?_cons_succ, List.getElem?_cons_zero]); rfl) (fun K hK => ?_) AllReadyH.nil); go_simp; refine Calls.mono (ftwin_any num t c a ln ca b ob X _ HL2d.out (by omega)) ?_)
  rintro e W3 ⟨a', c', b', rfl, hby3, hfr3, hB3⟩
  have HB3 := Lib.hid (HB2d.out.trans (hB3.mono HB2d.out.size))
  have HP3 := Lib.hid (HP2d.out.step hB3)
  have HQ3 := Lib.hid (HQ2d.out.below hB3)
  have HL3 : Hid (LdIn W3 D R ⟨num, t, c, a', ln, c', b', 0, X⟩) := Lib.hid ⟨hby3, h14, fun h0 => (by have := hfr3 h0; have := HP2d.out.lt; show b' ≠ D; omega), fun h0 => (by have := hfr3 h0; have := HP2d.out.lt; show b' ≠ R; omega)⟩
  clear hby3 hfr3 hB3
  go_wp2_with fail
  refine hK.out _ _ ⟨cell_at HP3.out 0, cell_at HP3.out 1, cell_at HP3.out 2, cell_at HP3.out 3, HP3.out.lt⟩ (fun hHeld => ?_)
  clear hK K
  try simp only [Act.put, List.setIfInBounds_toArray, List.set_cons_zero, List.set_cons_succ]
  ((refine wpAnyH_ready (rs := [5]) (by kernel_rfl) (by simp) ?_); (refine AllReadyH.cons (by (simp only [List.getElem?_toArray, List.getElem?_cons_succ, List.getElem?_cons_zero]); rfl) (fun K hK => ?_) AllReadyH.nil); go_simp; refine Calls.mono (ring_push D R o room f n by_ dr E num t c a' ln c' _ HQ3.out hn b' 0 X HL3.out) ?_)
  rintro e W4 ⟨rfl, hq4, hF4⟩
  have HP4 : Hid (Blk W4 N #[.int .i64 num, .int .i64 t, .int .i64 c, .slice a ln ca] 53) := Lib.hid ((hF4.block N HP3.out.lt (by simp; omega)).trans HP3.out)
  have HQ4 := Lib.hid hq4
  have HF4 : Hid (Fr [D, R] w W4) := Lib.hid (((Fr.of_below HB3.out).mono (by simp)).trans hF4 (by simp))
  clear hq4 hF4
  go_wp2_with fail
  refine hK.out _ _ ⟨cell_at HP4.out 0, cell_at HP4.out 1, cell_at HP4.out 2, cell_at HP4.out 3, HP4.out.lt⟩ (fun hHeld => ?_)
  clear hK K
  try simp only [Act.put, List.setIfInBounds_toArray, List.set_cons_zero, List.set_cons_succ]
  ((refine wpAnyH_take (i := 6) (v := ?_) (by (simp only [List.getElem?_toArray, List.getElem?_cons_succ, List.getElem?_cons_zero]); rfl) (by kernel_rfl) (by kernel_rfl) (by kernel_rfl) (by exact fun _ _ _ h => h) (Or.inl ⟨by rfl, ?_⟩) (by assumption) ?_); rotate_left; focus (intro wS hSw; (try dsimp only at hSw); go_simp; first | done | with_reducible rfl); try simp only [Act.put, List.setIfInBounds_toArray, List.set_cons_zero, List.set_cons_succ])
  ((refine wpAnyH_take (i := 7) (v := ?_) (by (simp only [List.getElem?_toArray, List.getElem?_cons_succ, List.getElem?_cons_zero]); rfl) (by kernel_rfl) (by kernel_rfl) (by kernel_rfl) (by exact fun _ _ _ h => h) (Or.inl ⟨by rfl, ?_⟩) (by assumption) ?_); rotate_left; focus (intro wS hSw; (try dsimp only at hSw); go_simp; first | done | with_reducible rfl); try simp only [Act.put, List.setIfInBounds_toArray, List.set_cons_zero, List.set_cons_succ])
  refine wpAnyH_done (by kernel_rfl) ?_ _
  go_upto_region 8 with fail
  have HP5 : Hid (Blk W4.drew N #[.int .i64 num, .int .i64 t, .int .i64 c, .slice a ln ca] 53) := Lib.hid HP4.out
  have HQ5 : Hid (FqIn W4.drew D R o room f (n + 1) by_ dr (putE E n ⟨num, t, c, a', ln, c', b', 0, X⟩)) := Lib.hid (HQ4.out.below ((Below.refl _ _).drew : Below W4.heap.size W4 W4.drew))
  have HF5 : Hid (Fr [D, R] w W4.drew) := Lib.hid HF4.out.drew
  have p0 : W4.cell? ⟨N, 0, none⟩ = some (.int .i64 num) := cell_at HP4.out 0
  have p1 : W4.cell? ⟨N, 1, none⟩ = some (.int .i64 t) := cell_at HP4.out 1
  have p2 : W4.cell? ⟨N, 2, none⟩ = some (.int .i64 c) := cell_at HP4.out 2
  have p3 : W4.cell? ⟨N, 3, none⟩ = some (.slice a ln ca) := cell_at HP4.out 3
  have pN : N < W4.heap.size := HP4.out.lt
  have k3 : W4.cell? ⟨D, 3, none⟩ = some (.int .i64 by_) := cell_at HQ4.out.own 3
  have z3 := free_at HQ4.out.own 3
  have hDW : D < W4.heap.size := HQ4.out.own.lt
  have hnD : D ≠ N := by omega
  have hw : IntKind.i64.wrap (by_ + (8 + (ln : Int))) = by_ + (8 + (ln : Int)) := by rw [IntKind.wrap_i64]; omega
  refine wp_region_held_drew (S := fun X => X.cell? ⟨N, 0, none⟩ = some (.int .i64 num) ∧ X.cell? ⟨N, 1, none⟩ = some (.int .i64 t) ∧ X.cell? ⟨N, 2, none⟩ = some (.int .i64 c) ∧ X.cell? ⟨N, 3, none⟩ = some (.slice a ln ca) ∧ N < X.heap.size) (by kernel_rfl) ⟨cell_at HP5.out 0, cell_at HP5.out 1, cell_at HP5.out 2, cell_at HP5.out 3, HP5.out.lt⟩ (fun hHeld => ?_)
  ((refine wpAnyH_take (i := 0) (v := ?_) (by (simp only [List.getElem?_toArray, List.getElem?_cons_succ, List.getElem?_cons_zero]); rfl) (by kernel_rfl) (by kernel_rfl) (by kernel_rfl) (by exact fun _ _ _ h => h) (Or.inl ⟨by rfl, ?_⟩) (by assumption) ?_); rotate_left; focus (intro wS hSw; (try dsimp only at hSw); go_simp; first | done | with_reducible rfl); try simp only [Act.put, List.setIfInBounds_toArray, List.set_cons_zero, List.set_cons_succ])
  ((refine wpAnyH_take (i := 1) (v := ?_) (by (simp only [List.getElem?_toArray, List.getElem?_cons_succ, List.getElem?_cons_zero]); rfl) (by kernel_rfl) (by kernel_rfl) (by kernel_rfl) (by exact fun _ _ _ h => h) (Or.inl ⟨by rfl, ?_⟩) (by assumption) ?_); rotate_left; focus (intro wS hSw; (try dsimp only at hSw); go_simp; first | done | with_reducible rfl); try simp only [Act.put, List.setIfInBounds_toArray, List.set_cons_zero, List.set_cons_succ])
  ((refine wpAnyH_take (i := 2) (v := ?_) (by (simp only [List.getElem?_toArray, List.getElem?_cons_succ, List.getElem?_cons_zero]); rfl) (by kernel_rfl) (by kernel_rfl) (by kernel_rfl) (by exact fun _ _ _ h => h) (Or.inl ⟨by rfl, ?_⟩) (by assumption) ?_); rotate_left; focus (intro wS hSw; (try dsimp only at hSw); go_simp; first | done | with_reducible rfl); try simp only [Act.put, List.setIfInBounds_toArray, List.set_cons_zero, List.set_cons_succ])
  ((refine wpAnyH_take (i := 4) (v := ?_) (by (simp only [List.getElem?_toArray, List.getElem?_cons_succ, List.getElem?_cons_zero]); rfl) (by kernel_rfl) (by kernel_rfl) (by kernel_rfl) (by exact fun _ _ _ h => h) (Or.inl ⟨by rfl, ?_⟩) (by assumption) ?_); rotate_left; focus (intro wS hSw; (try dsimp only at hSw); go_simp; first | done | with_reducible rfl); try simp only [Act.put, List.setIfInBounds_toArray, List.set_cons_zero, List.set_cons_succ])
  refine wpAnyH_ready (rs := [3, 5]) (by kernel_rfl) (by simp) ?_
  refine AllReadyH.cons (by (simp only [List.getElem?_toArray, List.getElem?_cons_succ, List.getElem?_cons_zero]); rfl) (fun K hK => ?_) (AllReadyH.cons (by (simp only [List.getElem?_toArray, List.getElem?_cons_succ, List.getElem?_cons_zero]); rfl) (fun K hK => ?_) AllReadyH.nil)
  · go_simp
    refine hK.out _ _ ⟨cell_at HP5.out 0, cell_at HP5.out 1, cell_at HP5.out 2, cell_at HP5.out 3, HP5.out.lt⟩ (fun hHeld => ?_)
    clear hK K
    try simp only [Act.put, List.setIfInBounds_toArray, List.set_cons_zero, List.set_cons_succ]
    ((refine wpAnyH_ready (rs := [5]) (by kernel_rfl) (by simp) ?_); (refine AllReadyH.cons (by (simp only [List.getElem?_toArray, List.getElem?_cons_succ, List.getElem?_cons_zero]); rfl) (fun K hK => ?_) AllReadyH.nil); go_simp; refine Calls.mono (fsize_any _ _ _ _ _ _ _ (by omega)) ?_)
    rintro e W6 ⟨rfl, hB6⟩
    have HP6 := Lib.hid (HP5.out.step hB6)
    have HQ6 := Lib.hid (HQ5.out.below hB6)
    have HF6 : Hid (Fr [D, R] w W6) := Lib.hid (HF5.out.trans (Fr.of_below hB6) (by simp))
    have k6 : W6.cell? ⟨D, 3, none⟩ = some (.int .i64 by_) := cell_at HQ6.out.own 3
    have z6 := free_at HQ6.out.own 3
    have hD6 : D < W6.heap.size := HQ6.out.own.lt
    clear hB6
    go_wp2_with fail
    refine hK.out _ _ ⟨cell_at HP6.out 0, cell_at HP6.out 1, cell_at HP6.out 2, cell_at HP6.out 3, HP6.out.lt⟩ (fun hHeld => ?_)
    clear hK K
    try simp only [Act.put, List.setIfInBounds_toArray, List.set_cons_zero, List.set_cons_succ]
    ((refine wpAnyH_take (i := 6) (v := ?_) (by (simp only [List.getElem?_toArray, List.getElem?_cons_succ, List.getElem?_cons_zero]); rfl) (by kernel_rfl) (by kernel_rfl) (by kernel_rfl) (by exact fun _ _ _ h => h) (Or.inl ⟨by rfl, ?_⟩) (by assumption) ?_); rotate_left; focus (intro wS hSw; (try dsimp only at hSw); go_simp; first | done | with_reducible rfl); try simp only [Act.put, List.setIfInBounds_toArray, List.set_cons_zero, List.set_cons_succ])
    ((refine wpAnyH_take (i := 7) (v := ?_) (by (simp only [List.getElem?_toArray, List.getElem?_cons_succ, List.getElem?_cons_zero]); rfl) (by kernel_rfl) (by kernel_rfl) (by kernel_rfl) (by exact fun _ _ _ h => h) (Or.inl ⟨by rfl, ?_⟩) (by assumption) ?_); rotate_left; focus (intro wS hSw; (try dsimp only at hSw); go_simp; first | done | with_reducible rfl); try simp only [Act.put, List.setIfInBounds_toArray, List.set_cons_zero, List.set_cons_succ])
    ((refine wpAnyH_take (i := 8) (v := ?_) (by (simp only [List.getElem?_toArray, List.getElem?_cons_succ, List.getElem?_cons_zero]); rfl) (by kernel_rfl) (by kernel_rfl) (by kernel_rfl) (by exact fun _ _ _ h => h) (Or.inl ⟨by rfl, ?_⟩) (by assumption) ?_); rotate_left; focus (intro wS hSw; (try dsimp only at hSw); go_simp; first | done | with_reducible rfl); try simp only [Act.put, List.setIfInBounds_toArray, List.set_cons_zero, List.set_cons_succ])
    refine wpAnyH_ready (rs := [9]) (by kernel_rfl) (by simp) ?_
    refine AllReadyH.cons (by (simp only [List.getElem?_toArray, List.getElem?_cons_succ, List.getElem?_cons_zero]); rfl) (fun K hK => ?_) AllReadyH.nil
    go_simp
    have HP7 := Lib.hid (HP6.out.ne ⟨D, 3, none⟩ hnD.symm (.int .i64 (by_ + (8 + (ln : Int)))))
    have HQ7 := Lib.hid (HQ6.out.bytes (by_ + (8 + (ln : Int))))
    have HF7 := Lib.hid (HF6.out.setCell ⟨D, 3, none⟩ (.inl (by simp)) (.int .i64 (by_ + (8 + (ln : Int)))))
    refine hK.out _ _ ⟨cell_at HP7.out 0, cell_at HP7.out 1, cell_at HP7.out 2, cell_at HP7.out 3, HP7.out.lt⟩ (fun hHeld => ?_)
    clear hK K
    try simp only [Act.put, List.setIfInBounds_toArray, List.set_cons_zero, List.set_cons_succ]
    refine wpAnyH_done (by kernel_rfl) ?_ _
    go_wp2_with fail
    go_ret
    exact ⟨rfl, ⟨a', c', b', HQ7.out⟩, HF7.out⟩
  · go_simp
    refine Calls.mono (fsize_any _ _ _ _ _ _ _ (by omega)) ?_
    rintro e W6 ⟨rfl, hB6⟩
    have HP6 := Lib.hid (HP5.out.step hB6)
    have HQ6 := Lib.hid (HQ5.out.below hB6)
    have HF6 : Hid (Fr [D, R] w W6) := Lib.hid (HF5.out.trans (Fr.of_below hB6) (by simp))
    have k6 : W6.cell? ⟨D, 3, none⟩ = some (.int .i64 by_) := cell_at HQ6.out.own 3
    have z6 := free_at HQ6.out.own 3
    have hD6 : D < W6.heap.size := HQ6.out.own.lt
    clear hB6
    go_wp2_with fail
    refine hK.out _ _ ⟨cell_at HP6.out 0, cell_at HP6.out 1, cell_at HP6.out 2, cell_at HP6.out 3, HP6.out.lt⟩ (fun hHeld => ?_)
    clear hK K
    try simp only [Act.put, List.setIfInBounds_toArray, List.set_cons_zero, List.set_cons_succ]
    refine wpAnyH_ready (rs := [3]) (by kernel_rfl) (by simp) ?_
    refine AllReadyH.cons (by (simp only [List.getElem?_toArray, List.getElem?_cons_succ, List.getElem?_cons_zero]); rfl) (fun K hK => ?_) AllReadyH.nil
    go_simp
    refine hK.out _ _ ⟨cell_at HP6.out 0, cell_at HP6.out 1, cell_at HP6.out 2, cell_at HP6.out 3, HP6.out.lt⟩ (fun hHeld => ?_)
    clear hK K
    try simp only [Act.put, List.setIfInBounds_toArray, List.set_cons_zero, List.set_cons_succ]
    ((refine wpAnyH_take (i := 6) (v := ?_) (by (simp only [List.getElem?_toArray, List.getElem?_cons_succ, List.getElem?_cons_zero]); rfl) (by kernel_rfl) (by kernel_rfl) (by kernel_rfl) (by exact fun _ _ _ h => h) (Or.inl ⟨by rfl, ?_⟩) (by assumption) ?_); rotate_left; focus (intro wS hSw; (try dsimp only at hSw); go_simp; first | done | with_reducible rfl); try simp only [Act.put, List.setIfInBounds_toArray, List.set_cons_zero, List.set_cons_succ])
    ((refine wpAnyH_take (i := 7) (v := ?_) (by (simp only [List.getElem?_toArray, List.getElem?_cons_succ, List.getElem?_cons_zero]); rfl) (by kernel_rfl) (by kernel_rfl) (by kernel_rfl) (by exact fun _ _ _ h => h) (Or.inl ⟨by rfl, ?_⟩) (by assumption) ?_); rotate_left; focus (intro wS hSw; (try dsimp only at hSw); go_simp; first | done | with_reducible rfl); try simp only [Act.put, List.setIfInBounds_toArray, List.set_cons_zero, List.set_cons_succ])
    ((refine wpAnyH_take (i := 8) (v := ?_) (by (simp only [List.getElem?_toArray, List.getElem?_cons_succ, List.getElem?_cons_zero]); rfl) (by kernel_rfl) (by kernel_rfl) (by kernel_rfl) (by exact fun _ _ _ h => h) (Or.inl ⟨by rfl, ?_⟩) (by assumption) ?_); rotate_left; focus (intro wS hSw; (try dsimp only at hSw); go_simp; first | done | with_reducible rfl); try simp only [Act.put, List.setIfInBounds_toArray, List.set_cons_zero, List.set_cons_succ])
    refine wpAnyH_ready (rs := [9]) (by kernel_rfl) (by simp) ?_
    refine AllReadyH.cons (by (simp only [List.getElem?_toArray, List.getElem?_cons_succ, List.getElem?_cons_zero]); rfl) (fun K hK => ?_) AllReadyH.nil
    go_simp
    have HP7 := Lib.hid (HP6.out.ne ⟨D, 3, none⟩ hnD.symm (.int .i64 (by_ + (8 + (ln : Int)))))
    have HQ7 := Lib.hid (HQ6.out.bytes (by_ + (8 + (ln : Int))))
    have HF7 := Lib.hid (HF6.out.setCell ⟨D, 3, none⟩ (.inl (by simp)) (.int .i64 (by_ + (8 + (ln : Int)))))
    refine hK.out _ _ ⟨cell_at HP7.out 0, cell_at HP7.out 1, cell_at HP7.out 2, cell_at HP7.out 3, HP7.out.lt⟩ (fun hHeld => ?_)
    clear hK K
    try simp only [Act.put, List.setIfInBounds_toArray, List.set_cons_zero, List.set_cons_succ]
    refine wpAnyH_done (by kernel_rfl) ?_ _
    go_wp2_with fail
    go_ret
    exact ⟨rfl, ⟨a', c', b', HQ7.out⟩, HF7.out⟩

set_option maxRecDepth 100000 in
set_option maxHeartbeats 8000000 in
theorem fpush_full (D R o room f n : Nat) (by_ dr : Int) (E : Nat → PkE) (num t c : Int) (a : Option Addr) (ln ca : Nat) (w : World) (hq : FqIn w D R o room f n by_ dr E) (hn : n = room) (b ob : Nat) (X : Nat → Nat) (hl : ByIn w a ln ca b ob X) (h14 : ln ≤ 1492) (hdr : 0 ≤ dr ∧ dr ≤ 1000000) :
    Calls Try.prog 24 #[.pointer (some ⟨D, 0, none⟩), .agg #[.int .i64 num, .int .i64 t, .int .i64 c, .slice a ln ca]] w fun e w' => e = .returned (.int .i64 100) ∧ FqIn w' D R o room f n by_ (dr + 1) E ∧ Fr [D, R] w w' := by
  obtain ⟨N, hN⟩ : ∃ N, N = w.heap.size := ⟨_, rfl⟩
  obtain ⟨W1, hW1⟩ : ∃ W1, W1 = w.alloc (.cells #[.int .i64 num, .int .i64 t, .int .i64 c, .slice a ln ca] 53) := ⟨_, rfl⟩
  have hB1 : Below w.heap.size w W1 := by rw [hW1]; exact (Below.refl _ _).alloc (Nat.le_refl _) _
  have hp : Blk W1 N #[.int .i64 num, .int .i64 t, .int .i64 c, .slice a ln ca] 53 := by rw [hW1, hN]; exact blk_new _ _ _
  have hD : D < N := by rw [hN]; exact hq.own.lt
  have hR : R < N := by rw [hN]; obtain ⟨_, h1, _⟩ := hq.ring; exact h1.lt
  have HB1 := Lib.hid hB1
  have HP1 := Lib.hid hp
  have HQ1 := Lib.hid (hq.below hB1)
  have HL1 := Lib.hid (hl.below hB1)
  have HN := Lib.hid hN
  have hnil : ∀ W, (binOp .eql 65 (.pointer (some ⟨D, 0, none⟩)) (.pointer none)).run Try.prog W = .ok (.bool false) W := fun _ => rfl
  have d1 : decide ((1500 : Int) < 8 + ln) = false := by simp; omega
  have p0 : W1.cell? ⟨N, 0, none⟩ = some (.int .i64 num) := cell_at hp 0
  have p1 : W1.cell? ⟨N, 1, none⟩ = some (.int .i64 t) := cell_at hp 1
  have p2 : W1.cell? ⟨N, 2, none⟩ = some (.int .i64 c) := cell_at hp 2
  have p3 : W1.cell? ⟨N, 3, none⟩ = some (.slice a ln ca) := cell_at hp 3
  have hN1 : N < W1.heap.size := hp.lt
  clear hq hl hB1 hp
  go_enter Try.func24, Try.ntmps24
  go_upto_region 3 with fail
  rw [← hN, ← hW1]
  clear hN hW1
  go_wp2_with fail
  go_at_call 42
  refine (fsize_any _ _ _ _ _ _ _ (by omega)).mono ?_
  rintro e W2 ⟨rfl, hB2⟩
  have HB2 := Lib.hid (HB1.out.trans (hB2.mono HB1.out.size))
  have HP2 := Lib.hid (HP1.out.step hB2)
  have HQ2 := Lib.hid (HQ1.out.below hB2)
  have HL2 := Lib.hid (HL1.out.below hB2)
  clear hB2 p0 p1 p2 p3 hN1
  go_upto_region 5 with fail
  have HB2d := Lib.hid (HB2.out.drew)
  have HP2d : Hid (Blk W2.drew N #[.int .i64 num, .int .i64 t, .int .i64 c, .slice a ln ca] 53) := Lib.hid HP2.out
  have HQ2d : Hid (FqIn W2.drew D R o room f n by_ dr E) := Lib.hid (HQ2.out.below ((Below.refl _ _).drew : Below W2.heap.size W2 W2.drew))
  have HL2d : Hid (ByIn W2.drew a ln ca b ob X) := Lib.hid (HL2.out.below ((Below.refl _ _).drew : Below W2.heap.size W2 W2.drew))
  refine wp_region_held_drew (S := fun X => X.cell? ⟨N, 0, none⟩ = some (.int .i64 num) ∧ X.cell? ⟨N, 1, none⟩ = some (.int .i64 t) ∧ X.cell? ⟨N, 2, none⟩ = some (.int .i64 c) ∧ X.cell? ⟨N, 3, none⟩ = some (.slice a ln ca) ∧ N < X.heap.size) (by kernel_rfl) ⟨cell_at HP2d.out 0, cell_at HP2d.out 1, cell_at HP2d.out 2, cell_at HP2d.out 3, HP2d.out.lt⟩ (fun hHeld => ?_)
  ((refine wpAnyH_take (i := 0) (v := ?_) (by (simp only [List.getElem?_toArray, List.getElem?_cons_succ, List.getElem?_cons_zero]); rfl) (by kernel_rfl) (by kernel_rfl) (by kernel_rfl) (by exact fun _ _ _ h => h) (Or.inl ⟨by rfl, ?_⟩) (by assumption) ?_); rotate_left; focus (intro wS hSw; (try dsimp only at hSw); go_simp; first | done | with_reducible rfl); try simp only [Act.put, List.setIfInBounds_toArray, List.set_cons_zero, List.set_cons_succ])
  ((refine wpAnyH_take (i := 1) (v := ?_) (by (simp only [List.getElem?_toArray, List.getElem?_cons_succ, List.getElem?_cons_zero]); rfl) (by kernel_rfl) (by kernel_rfl) (by kernel_rfl) (by exact fun _ _ _ h => h) (Or.inl ⟨by rfl, ?_⟩) (by assumption) ?_); rotate_left; focus (intro wS hSw; (try dsimp only at hSw); go_simp; first | done | with_reducible rfl); try simp only [Act.put, List.setIfInBounds_toArray, List.set_cons_zero, List.set_cons_succ])
  ((refine wpAnyH_take (i := 2) (v := ?_) (by (simp only [List.getElem?_toArray, List.getElem?_cons_succ, List.getElem?_cons_zero]); rfl) (by kernel_rfl) (by kernel_rfl) (by kernel_rfl) (by exact fun _ _ _ h => h) (Or.inl ⟨by rfl, ?_⟩) (by assumption) ?_); rotate_left; focus (intro wS hSw; (try dsimp only at hSw); go_simp; first | done | with_reducible rfl); try simp only [Act.put, List.setIfInBounds_toArray, List.set_cons_zero, List.set_cons_succ])
  ((refine wpAnyH_take (i := 3) (v := ?_) (by (simp only [List.getElem?_toArray, List.getElem?_cons_succ, List.getElem?_cons_zero]); rfl) (by kernel_rfl) (by kernel_rfl) (by kernel_rfl) (by exact fun _ _ _ h => h) (Or.inl ⟨by rfl, ?_⟩) (by assumption) ?_); rotate_left; focus (intro wS hSw; (try dsimp only at hSw); go_simp; first | done | with_reducible rfl); try simp only [Act.put, List.setIfInBounds_toArray, List.set_cons_zero, List.set_cons_succ])
  ((refine wpAnyH_ready (rs := [4]) (by kernel_rfl) (by simp) ?_); (refine AllReadyH.cons (by (simp only [List.getElem?_toArray, List.getElem?_cons_succ, List.getElem?_cons_zero]); rfl) (fun K hK => ?_) AllReadyH.nil); go_simp; refine Calls.mono (ftwin_any num t c a ln ca b ob X _ HL2d.out (by omega)) ?_)
  rintro e W3 ⟨a', c', b', rfl, hby3, hfr3, hB3⟩
  have HB3 := Lib.hid (HB2d.out.trans (hB3.mono HB2d.out.size))
  have HP3 := Lib.hid (HP2d.out.step hB3)
  have HQ3 := Lib.hid (HQ2d.out.below hB3)
  clear hby3 hfr3 hB3
  go_wp2_with fail
  refine hK.out _ _ ⟨cell_at HP3.out 0, cell_at HP3.out 1, cell_at HP3.out 2, cell_at HP3.out 3, HP3.out.lt⟩ (fun hHeld => ?_)
  clear hK K
  try simp only [Act.put, List.setIfInBounds_toArray, List.set_cons_zero, List.set_cons_succ]
  ((refine wpAnyH_ready (rs := [5]) (by kernel_rfl) (by simp) ?_); (refine AllReadyH.cons (by (simp only [List.getElem?_toArray, List.getElem?_cons_succ, List.getElem?_cons_zero]); rfl) (fun K hK => ?_) AllReadyH.nil); go_simp; refine Calls.mono (ring_full D R o room f n by_ dr E num t c a' ln c' _ HQ3.out hn) ?_)
  rintro e W4 ⟨rfl, hB4⟩
  have HP4 := Lib.hid (HP3.out.step hB4)
  have HQ4 := Lib.hid (HQ3.out.below hB4)
  have HF4 : Hid (Fr [D, R] w W4) := Lib.hid (((Fr.of_below HB3.out).mono (by simp)).trans (Fr.of_below hB4) (by simp))
  clear hB4
  go_wp2_with fail
  refine hK.out _ _ ⟨cell_at HP4.out 0, cell_at HP4.out 1, cell_at HP4.out 2, cell_at HP4.out 3, HP4.out.lt⟩ (fun hHeld => ?_)
  clear hK K
  try simp only [Act.put, List.setIfInBounds_toArray, List.set_cons_zero, List.set_cons_succ]
  ((refine wpAnyH_take (i := 6) (v := ?_) (by (simp only [List.getElem?_toArray, List.getElem?_cons_succ, List.getElem?_cons_zero]); rfl) (by kernel_rfl) (by kernel_rfl) (by kernel_rfl) (by exact fun _ _ _ h => h) (Or.inl ⟨by rfl, ?_⟩) (by assumption) ?_); rotate_left; focus (intro wS hSw; (try dsimp only at hSw); go_simp; first | done | with_reducible rfl); try simp only [Act.put, List.setIfInBounds_toArray, List.set_cons_zero, List.set_cons_succ])
  ((refine wpAnyH_take (i := 7) (v := ?_) (by (simp only [List.getElem?_toArray, List.getElem?_cons_succ, List.getElem?_cons_zero]); rfl) (by kernel_rfl) (by kernel_rfl) (by kernel_rfl) (by exact fun _ _ _ h => h) (Or.inl ⟨by rfl, ?_⟩) (by assumption) ?_); rotate_left; focus (intro wS hSw; (try dsimp only at hSw); go_simp; first | done | with_reducible rfl); try simp only [Act.put, List.setIfInBounds_toArray, List.set_cons_zero, List.set_cons_succ])
  refine wpAnyH_done (by kernel_rfl) ?_ _
  have k4 : W4.cell? ⟨D, 4, none⟩ = some (.int .i64 dr) := cell_at HQ4.out.own 4
  have z4 := free_at HQ4.out.own 4
  have hD4 : D < W4.heap.size := HQ4.out.own.lt
  have HQ5 : Hid (FqIn W4.drew D R o room f n by_ dr E) := Lib.hid (HQ4.out.below ((Below.refl _ _).drew : Below W4.heap.size W4 W4.drew))
  go_wp2_with fail
  go_ret
  exact ⟨rfl, by first | exact HQ4.out.drops _ | exact HQ5.out.drops _, by first | exact HF4.out.setCell ⟨D, 4, none⟩ (.inl (by simp)) _ | exact HF4.out.drew.setCell ⟨D, 4, none⟩ (.inl (by simp)) _⟩
end Go.Proofs.Ytoodmocapagapaa
namespace Go.Proofs.Ytoodmocapagapaa
open Go.RowKit
set_option linter.unusedSimpArgs false
set_option linter.unusedVariables false

set_option maxRecDepth 100000 in
set_option maxHeartbeats 8000000 in
theorem ring_pop (D R o room f n : Nat) (by_ dr : Int) (E : Nat → PkE) (w : World) (hq : FqIn w D R o room f n by_ dr E) (hn : 0 < n) :
    Calls Try.prog 72 #[.pointer (some ⟨D, 0, none⟩)] w fun e w' => e = .returned (.agg #[.int .i64 (E 0).num, .int .i64 (E 0).t, .int .i64 (E 0).c, .slice (E 0).a (E 0).n (E 0).ca]) ∧ FqIn w' D R o room ((f + 1) % room) (n - 1) by_ dr (fun j => E (j + 1)) ∧ Fr [D, R] w w' := by
  obtain ⟨N, hN⟩ : ∃ N, N = w.heap.size := ⟨_, rfl⟩
  obtain ⟨W1, hW1⟩ : ∃ W1, W1 = (w.alloc (.cells #[.int .i64 0, .int .i64 0, .int .i64 0, .slice none 0 0] 53)).alloc (.cells #[.int .i64 0, .int .i64 0, .int .i64 0, .slice none 0 0] 53) := ⟨_, rfl⟩
  have hB1 : Below w.heap.size w W1 := by rw [hW1]; exact ((Below.refl _ _).alloc (Nat.le_refl _) _).alloc (by simp) _
  have hp0 : Blk W1 N #[.int .i64 0, .int .i64 0, .int .i64 0, .slice none 0 0] 53 := by rw [hW1, hN]; exact (blk_new _ _ _).alloc _
  have hp1 : Blk W1 (N + 1) #[.int .i64 0, .int .i64 0, .int .i64 0, .slice none 0 0] 53 := by
    have h1 := blk_new (w.alloc (.cells #[.int .i64 0, .int .i64 0, .int .i64 0, .slice none 0 0] 53)) #[.int .i64 0, .int .i64 0, .int .i64 0, .slice none 0 0] 53
    rw [World.size_alloc, ← hN, ← hW1] at h1
    exact h1
  have hD : D < N := by rw [hN]; exact hq.own.lt
  have hq1 := hq.below hB1
  have hnl := hq.nl
  have hf := hq.fl
  have hr0 := hq.r1
  have hr64 := hq.r64
  have hne := hq.ne
  obtain ⟨cur, hr, hcs, hce⟩ := hq1.ring
  have hR : R < N := by rw [hN]; obtain ⟨_, h1, _⟩ := hq.ring; exact h1.lt
  have hc0 := hce 0 hn
  rw [Nat.add_zero, Nat.mod_eq_of_lt hf] at hc0
  obtain ⟨p, hp⟩ : ∃ p, p = E 0 := ⟨_, rfl⟩
  rw [← hp] at hc0
  have q0 : W1.cell? ⟨R, o + f * 4, none⟩ = some (.int .i64 p.num) := (cell_at hr _).trans (hc0 0 (by omega))
  have q1 : W1.cell? ⟨R, o + f * 4 + 1, none⟩ = some (.int .i64 p.t) := (cell_at hr _).trans (hc0 1 (by omega))
  have q2 : W1.cell? ⟨R, o + f * 4 + 2, none⟩ = some (.int .i64 p.c) := (cell_at hr _).trans (hc0 2 (by omega))
  have q3 : W1.cell? ⟨R, o + f * 4 + 3, none⟩ = some (.slice p.a p.n p.ca) := (cell_at hr _).trans (hc0 3 (by omega))
  have c0 : W1.cell? ⟨D, 0, none⟩ = some (.slice (some ⟨R, o, none⟩) room room) := cell_at hq1.own 0
  have c1 : W1.cell? ⟨D, 1, none⟩ = some (.int .i64 (f : Nat)) := cell_at hq1.own 1
  have hD1 : D < W1.heap.size := hq1.own.lt
  have hR1 : R < W1.heap.size := hr.lt
  have HLD := Lib.hid hq.ld
  have HN := Lib.hid hN
  have HP0 := Lib.hid hp0
  have HP1 := Lib.hid hp1
  have HQ1 := Lib.hid hq1
  have HB1 := Lib.hid hB1
  have HP := Lib.hid hp
  rw [← hp]
  clear hq hq1 hr hce hc0 hB1 hp0 hp1 hp hcs
  go_enter Try.func72, Try.ntmps72
  go_upto_region 2 with fail
  rw [← hN, ← hW1]
  clear hN hW1
  have HS : Hid (∀ X, Below W1.heap.size W1 X → (X.cell? ⟨R, o + f * 4, none⟩ = some (.int .i64 p.num) ∧ X.cell? ⟨R, o + f * 4 + 1, none⟩ = some (.int .i64 p.t) ∧ X.cell? ⟨R, o + f * 4 + 2, none⟩ = some (.int .i64 p.c) ∧ X.cell? ⟨R, o + f * 4 + 3, none⟩ = some (.slice p.a p.n p.ca) ∧ X.cell? ⟨D, 0, none⟩ = some (.slice (some ⟨R, o, none⟩) room room) ∧ X.cell? ⟨D, 1, none⟩ = some (.int .i64 (f : Nat)) ∧ R < X.heap.size ∧ D < X.heap.size)) := Lib.hid (fun X hB => ⟨(hB.cell (p := ⟨R, _, none⟩) hR1).trans q0, (hB.cell (p := ⟨R, _, none⟩) hR1).trans q1, (hB.cell (p := ⟨R, _, none⟩) hR1).trans q2, (hB.cell (p := ⟨R, _, none⟩) hR1).trans q3, (hB.cell (p := ⟨D, _, none⟩) hD1).trans c0, (hB.cell (p := ⟨D, _, none⟩) hD1).trans c1, by have := hB.size; omega, by have := hB.size; omega⟩)
  refine wp_region_held_drew (S := fun X => X.cell? ⟨R, o + f * 4, none⟩ = some (.int .i64 p.num) ∧ X.cell? ⟨R, o + f * 4 + 1, none⟩ = some (.int .i64 p.t) ∧ X.cell? ⟨R, o + f * 4 + 2, none⟩ = some (.int .i64 p.c) ∧ X.cell? ⟨R, o + f * 4 + 3, none⟩ = some (.slice p.a p.n p.ca) ∧ X.cell? ⟨D, 0, none⟩ = some (.slice (some ⟨R, o, none⟩) room room) ∧ X.cell? ⟨D, 1, none⟩ = some (.int .i64 (f : Nat)) ∧ R < X.heap.size ∧ D < X.heap.size) (by kernel_rfl) (HS.out _ ((Below.refl _ _).drew)) (fun hHeld => ?_)
  ((refine wpAnyH_take (i := 0) (v := ?_) (by (simp only [List.getElem?_toArray, List.getElem?_cons_succ, List.getElem?_cons_zero]); rfl) (by kernel_rfl) (by kernel_rfl) (by kernel_rfl) (by exact fun _ _ _ h => h) (Or.inl ⟨by rfl, ?_⟩) (by assumption) ?_); rotate_left; focus (intro wS hSw; (try dsimp only at hSw); go_simp; first | done | with_reducible rfl); try simp only [Act.put, List.setIfInBounds_toArray, List.set_cons_zero, List.set_cons_succ])
  ((refine wpAnyH_take (i := 1) (v := ?_) (by (simp only [List.getElem?_toArray, List.getElem?_cons_succ, List.getElem?_cons_zero]); rfl) (by kernel_rfl) (by kernel_rfl) (by kernel_rfl) (by exact fun _ _ _ h => h) (Or.inl ⟨by rfl, ?_⟩) (by assumption) ?_); rotate_left; focus (intro wS hSw; (try dsimp only at hSw); go_simp; first | done | with_reducible rfl); try simp only [Act.put, List.setIfInBounds_toArray, List.set_cons_zero, List.set_cons_succ])
  ((refine wpAnyH_take (i := 2) (v := ?_) (by (simp only [List.getElem?_toArray, List.getElem?_cons_succ, List.getElem?_cons_zero]); rfl) (by kernel_rfl) (by kernel_rfl) (by kernel_rfl) (by exact fun _ _ _ h => h) (Or.inl ⟨by rfl, ?_⟩) (by assumption) ?_); rotate_left; focus (intro wS hSw; (try dsimp only at hSw); go_simp; first | done | with_reducible rfl); try simp only [Act.put, List.setIfInBounds_toArray, List.set_cons_zero, List.set_cons_succ])
  ((refine wpAnyH_take (i := 3) (v := ?_) (by (simp only [List.getElem?_toArray, List.getElem?_cons_succ, List.getElem?_cons_zero]); rfl) (by kernel_rfl) (by kernel_rfl) (by kernel_rfl) (by exact fun _ _ _ h => h) (Or.inl ⟨by rfl, ?_⟩) (by assumption) ?_); rotate_left; focus (intro wS hSw; (try dsimp only at hSw); go_simp; first | done | with_reducible rfl); try simp only [Act.put, List.setIfInBounds_toArray, List.set_cons_zero, List.set_cons_succ])
  ((refine wpAnyH_take (i := 4) (v := ?_) (by (simp only [List.getElem?_toArray, List.getElem?_cons_succ, List.getElem?_cons_zero]); rfl) (by kernel_rfl) (by kernel_rfl) (by kernel_rfl) (by exact fun _ _ _ h => h) (Or.inl ⟨by rfl, ?_⟩) (by assumption) ?_); rotate_left; focus (intro wS hSw; (try dsimp only at hSw); go_simp; first | done | with_reducible rfl); try simp only [Act.put, List.setIfInBounds_toArray, List.set_cons_zero, List.set_cons_succ])
  ((refine wpAnyH_take (i := 5) (v := ?_) (by (simp only [List.getElem?_toArray, List.getElem?_cons_succ, List.getElem?_cons_zero]); rfl) (by kernel_rfl) (by kernel_rfl) (by kernel_rfl) (by exact fun _ _ _ h => h) (Or.inl ⟨by rfl, ?_⟩) (by assumption) ?_); rotate_left; focus (intro wS hSw; (try dsimp only at hSw); go_simp; first | done | with_reducible rfl); try simp only [Act.put, List.setIfInBounds_toArray, List.set_cons_zero, List.set_cons_succ])
  ((refine wpAnyH_take (i := 6) (v := ?_) (by (simp only [List.getElem?_toArray, List.getElem?_cons_succ, List.getElem?_cons_zero]); rfl) (by kernel_rfl) (by kernel_rfl) (by kernel_rfl) (by exact fun _ _ _ h => h) (Or.inl ⟨by rfl, ?_⟩) (by assumption) ?_); rotate_left; focus (intro wS hSw; (try dsimp only at hSw); go_simp; first | done | with_reducible rfl); try simp only [Act.put, List.setIfInBounds_toArray, List.set_cons_zero, List.set_cons_succ])
  ((refine wpAnyH_take (i := 7) (v := ?_) (by (simp only [List.getElem?_toArray, List.getElem?_cons_succ, List.getElem?_cons_zero]); rfl) (by kernel_rfl) (by kernel_rfl) (by kernel_rfl) (by exact fun _ _ _ h => h) (Or.inl ⟨by rfl, ?_⟩) (by assumption) ?_); rotate_left; focus (intro wS hSw; (try dsimp only at hSw); go_simp; first | done | with_reducible rfl); try simp only [Act.put, List.setIfInBounds_toArray, List.set_cons_zero, List.set_cons_succ])
  ((refine wpAnyH_take (i := 8) (v := ?_) (by (simp only [List.getElem?_toArray, List.getElem?_cons_succ, List.getElem?_cons_zero]); rfl) (by kernel_rfl) (by kernel_rfl) (by kernel_rfl) (by exact fun _ _ _ h => h) (Or.inl ⟨by rfl, ?_⟩) (by assumption) ?_); rotate_left; focus (intro wS hSw; (try dsimp only at hSw); go_simp; first | done | with_reducible rfl); try simp only [Act.put, List.setIfInBounds_toArray, List.set_cons_zero, List.set_cons_succ])
  ((refine wpAnyH_take (i := 9) (v := ?_) (by (simp only [List.getElem?_toArray, List.getElem?_cons_succ, List.getElem?_cons_zero]); rfl) (by kernel_rfl) (by kernel_rfl) (by kernel_rfl) (by exact fun _ _ _ h => h) (Or.inl ⟨by rfl, ?_⟩) (by assumption) ?_); rotate_left; focus (intro wS hSw; (try dsimp only at hSw); go_simp; first | done | with_reducible rfl); try simp only [Act.put, List.setIfInBounds_toArray, List.set_cons_zero, List.set_cons_succ])
  refine wpAnyH_ready (rs := [10]) (by kernel_rfl) (by simp) ?_
  refine AllReadyH.cons (by (simp only [List.getElem?_toArray, List.getElem?_cons_succ, List.getElem?_cons_zero]); rfl) (fun K hK => ?_) AllReadyH.nil
  go_simp
  refine hK.out _ _ (HS.out _ (((Below.refl _ _).drew).alloc (by simp) _)) (fun hHeld => ?_)
  clear hK K
  try simp only [Act.put, List.setIfInBounds_toArray, List.set_cons_zero, List.set_cons_succ]
  refine wpAnyH_ready (rs := [11]) (by kernel_rfl) (by simp) ?_
  refine AllReadyH.cons (by (simp only [List.getElem?_toArray, List.getElem?_cons_succ, List.getElem?_cons_zero]); rfl) (fun K hK => ?_) AllReadyH.nil
  go_simp
  refine hK.out _ _ (HS.out _ (((Below.refl _ _).alloc (Nat.le_refl _) _).drew)) (fun hHeld => ?_)
  clear hK K
  try simp only [Act.put, List.setIfInBounds_toArray, List.set_cons_zero, List.set_cons_succ]
  refine wpAnyH_done (by kernel_rfl) ?_ _
  obtain ⟨M, hM⟩ : ∃ M, M = W1.heap.size := ⟨_, rfl⟩
  obtain ⟨W2, hW2⟩ : ∃ W2, W2 = (W1.alloc (.cells #[.int .i64 p.num, .int .i64 p.t, .int .i64 p.c, .slice p.a p.n p.ca] 53)).drew := ⟨_, rfl⟩
  have hB2 : Below W1.heap.size W1 W2 := by rw [hW2]; exact ((Below.refl _ _).alloc (Nat.le_refl _) _).drew
  have HQ2 := Lib.hid (HQ1.out.below hB2)
  have HP02 := Lib.hid (HP0.out.step hB2)
  have HP12 := Lib.hid (HP1.out.step hB2)
  have HPM : Hid (Blk W2 M #[.int .i64 p.num, .int .i64 p.t, .int .i64 p.c, .slice p.a p.n p.ca] 53) := Lib.hid (by rw [hW2, hM]; exact blk_new _ _ _)
  have HF2 : Hid (Fr [D, R] w W2) := Lib.hid ((Fr.of_below (HB1.out.trans (hB2.mono HB1.out.size))).mono (by simp))
  have hNM : N + 1 < M := by rw [hM]; exact HP1.out.lt
  rw [← hM, ← hW2]
  clear q0 q1 q2 q3 c0 c1 hD1 hR1 HS hB2 hM hW2 hHeld
  obtain ⟨cur, hr2, hcs, hce⟩ := HQ2.out.ring
  have HR2 := Lib.hid hr2
  have HCE := Lib.hid hce
  have hcell : ∀ i, i < 4 → ∃ v, cur[o + f * 4 + i]? = some v := fun i hi => ⟨_, Array.getElem?_eq_getElem (by omega)⟩
  obtain ⟨v0, e0⟩ := hcell 0 (by omega)
  obtain ⟨v1, e1⟩ := hcell 1 (by omega)
  obtain ⟨v2, e2⟩ := hcell 2 (by omega)
  obtain ⟨v3, e3⟩ := hcell 3 (by omega)
  have q0 : W2.cell? ⟨R, o + f * 4, none⟩ = some v0 := (cell_at hr2 _).trans e0
  have q1 : W2.cell? ⟨R, o + f * 4 + 1, none⟩ = some v1 := (cell_at hr2 _).trans e1
  have q2 : W2.cell? ⟨R, o + f * 4 + 2, none⟩ = some v2 := (cell_at hr2 _).trans e2
  have q3 : W2.cell? ⟨R, o + f * 4 + 3, none⟩ = some v3 := (cell_at hr2 _).trans e3
  have y0 := free_at hr2 (o + f * 4)
  have y1 := free_at hr2 (o + f * 4 + 1)
  have y2 := free_at hr2 (o + f * 4 + 2)
  have y3 := free_at hr2 (o + f * 4 + 3)
  have c0 : W2.cell? ⟨D, 0, none⟩ = some (.slice (some ⟨R, o, none⟩) room room) := cell_at HQ2.out.own 0
  have c1 : W2.cell? ⟨D, 1, none⟩ = some (.int .i64 (f : Nat)) := cell_at HQ2.out.own 1
  have n0 : W2.cell? ⟨N + 1, 0, none⟩ = some (.int .i64 0) := cell_at HP12.out 0
  have n1 : W2.cell? ⟨N + 1, 1, none⟩ = some (.int .i64 0) := cell_at HP12.out 1
  have n2 : W2.cell? ⟨N + 1, 2, none⟩ = some (.int .i64 0) := cell_at HP12.out 2
  have n3 : W2.cell? ⟨N + 1, 3, none⟩ = some (.slice none 0 0) := cell_at HP12.out 3
  have hD1 : D < W2.heap.size := HQ2.out.own.lt
  have hR1 : R < W2.heap.size := hr2.lt
  have hN1 : N + 1 < W2.heap.size := HP12.out.lt
  clear hr2 hce hcell e0 e1 e2 e3
  go_upto_region 3 with fail
  go_still_tail 10, (by kernel_rfl)
  change wpList _ _ _ _ _ W2.drew
  go_wp2_with fail
  obtain ⟨W3, hW3⟩ : ∃ W3, W3 = ((((W2.setCell ⟨R, o + f * 4, none⟩ (.int .i64 0)).setCell ⟨R, o + f * 4 + 1, none⟩ (.int .i64 0)).setCell ⟨R, o + f * 4 + 2, none⟩ (.int .i64 0)).setCell ⟨R, o + f * 4 + 3, none⟩ (.slice none 0 0)).drew := ⟨_, rfl⟩
  rw [← hW3]
  have hRD : R ≠ D := fun e => hne e.symm
  have ne4 : ∀ {B : Nat} {cs : Array Value} {t : TypeId}, B ≠ R → Blk W2 B cs t → Blk W3 B cs t := fun h1 h2 => by
    rw [hW3]
    exact (((h2.ne ⟨R, o + f * 4, none⟩ h1 _).ne ⟨R, o + f * 4 + 1, none⟩ h1 _).ne ⟨R, o + f * 4 + 2, none⟩ h1 _).ne ⟨R, o + f * 4 + 3, none⟩ h1 _
  have HO3 := Lib.hid (ne4 hne (show Blk W2 D _ _ from HQ2.out.own))
  have HP03 := Lib.hid (ne4 (by omega : N ≠ R) (show Blk W2 N _ _ from HP02.out))
  have HPM3 := Lib.hid (ne4 (by omega : M ≠ R) (show Blk W2 M _ _ from HPM.out))
  have HR3 : Hid (Blk W3 R (put4 cur (o + f * 4) (.int .i64 0) (.int .i64 0) (.int .i64 0) (.slice none 0 0)) 53) := Lib.hid (by
    rw [hW3]
    exact (((Blk.set (A := W2) HR2.out (o + f * 4) (.int .i64 0)).set (o + f * 4 + 1) (.int .i64 0)).set (o + f * 4 + 2) (.int .i64 0)).set (o + f * 4 + 3) (.slice none 0 0))
  have HF3 : Hid (Fr [D, R] w W3) := Lib.hid (by
    rw [hW3]
    exact ((((HF2.out.setCell ⟨R, o + f * 4, none⟩ (.inl (by simp)) _).setCell ⟨R, o + f * 4 + 1, none⟩ (.inl (by simp)) _).setCell ⟨R, o + f * 4 + 2, none⟩ (.inl (by simp)) _).setCell ⟨R, o + f * 4 + 3, none⟩ (.inl (by simp)) _).drew)
  clear q0 q1 q2 q3 y0 y1 y2 y3 c0 c1 n0 n1 n2 n3 hD1 hR1 hN1 ne4 hW3
  obtain ⟨k, hk⟩ : ∃ k, k = (f + 1) % room := ⟨_, rfl⟩
  have hmod : Int.tmod ((f : Int) + 1) (room : Int) = (k : Nat) := by
    have : ((f : Int) + 1) = ((f + 1 : Nat) : Int) := by omega
    rw [hk, this, ← Int.ofNat_tmod]
  have hkr : k < room := by rw [hk]; exact Nat.mod_lt _ (by omega)
  have HK := Lib.hid hk
  have hz : (room = 0) = False := eq_false (by omega)
  have hw : IntKind.i64.wrap ((f : Int) + 1) = (f : Int) + 1 := by rw [IntKind.wrap_i64]; omega
  have hw2 : IntKind.i64.wrap ((n : Int) - 1) = (n : Int) - 1 := by rw [IntKind.wrap_i64]; omega
  have hD3 : D < W3.heap.size := HO3.out.lt
  have hM3 : M < W3.heap.size := HPM3.out.lt
  have hN3 : N < W3.heap.size := HP03.out.lt
  have c0 : W3.cell? ⟨D, 0, none⟩ = some (.slice (some ⟨R, o, none⟩) room room) := cell_at HO3.out 0
  have c1 : W3.cell? ⟨D, 1, none⟩ = some (.int .i64 (f : Nat)) := cell_at HO3.out 1
  have c2 : W3.cell? ⟨D, 2, none⟩ = some (.int .i64 (n : Nat)) := cell_at HO3.out 2
  have z1 := free_at HO3.out 1
  have z2 := free_at HO3.out 2
  have m0 : W3.cell? ⟨M, 0, none⟩ = some (.int .i64 p.num) := cell_at HPM3.out 0
  have m1 : W3.cell? ⟨M, 1, none⟩ = some (.int .i64 p.t) := cell_at HPM3.out 1
  have m2 : W3.cell? ⟨M, 2, none⟩ = some (.int .i64 p.c) := cell_at HPM3.out 2
  have m3 : W3.cell? ⟨M, 3, none⟩ = some (.slice p.a p.n p.ca) := cell_at HPM3.out 3
  have b0 : W3.cell? ⟨N, 0, none⟩ = some (.int .i64 0) := cell_at HP03.out 0
  have b1 : W3.cell? ⟨N, 1, none⟩ = some (.int .i64 0) := cell_at HP03.out 1
  have b2 : W3.cell? ⟨N, 2, none⟩ = some (.int .i64 0) := cell_at HP03.out 2
  have b3 : W3.cell? ⟨N, 3, none⟩ = some (.slice none 0 0) := cell_at HP03.out 3
  have x0 := free_at HP03.out 0
  have x1 := free_at HP03.out 1
  have x2 := free_at HP03.out 2
  have x3 := free_at HP03.out 3
  have hDN : D ≠ N := by omega
  have hDM : D ≠ M := by omega
  have hNM2 : N ≠ M := by omega
  clear hk
  go_still_tail 14, (by kernel_rfl)
  change wpList _ _ _ _ _ W3.drew
  go_wp2_with fail
  obtain ⟨WS, hWS⟩ : ∃ WS, WS = ((((((W3.setCell ⟨D, 1, none⟩ (.int .i64 (k : Nat))).setCell ⟨D, 2, none⟩ (.int .i64 ((n : Int) - 1))).setCell ⟨N, 0, none⟩ (.int .i64 p.num)).setCell ⟨N, 1, none⟩ (.int .i64 p.t)).setCell ⟨N, 2, none⟩ (.int .i64 p.c)).setCell ⟨N, 3, none⟩ (.slice p.a p.n p.ca)) := ⟨_, rfl⟩
  have hRN : R ≠ N := by omega
  have s1 : Blk WS D #[.slice (some ⟨R, o, none⟩) room room, .int .i64 (k : Nat), .int .i64 ((n : Int) - 1), .int .i64 by_, .int .i64 dr] 91 := by rw [hWS]; exact ((((((HO3.out).set 1 (.int .i64 (k : Nat))).set 2 (.int .i64 ((n : Int) - 1))).ne ⟨N, 0, none⟩ hDN (.int .i64 p.num)).ne ⟨N, 1, none⟩ hDN (.int .i64 p.t)).ne ⟨N, 2, none⟩ hDN (.int .i64 p.c)).ne ⟨N, 3, none⟩ hDN (.slice p.a p.n p.ca)
  have s2 : Blk WS N #[.int .i64 p.num, .int .i64 p.t, .int .i64 p.c, .slice p.a p.n p.ca] 53 := by rw [hWS]; exact ((((((HP03.out).ne ⟨D, 1, none⟩ hDN.symm (.int .i64 (k : Nat))).ne ⟨D, 2, none⟩ hDN.symm (.int .i64 ((n : Int) - 1))).set 0 (.int .i64 p.num)).set 1 (.int .i64 p.t)).set 2 (.int .i64 p.c)).set 3 (.slice p.a p.n p.ca)
  have s3 : Blk WS R (put4 cur (o + f * 4) (.int .i64 0) (.int .i64 0) (.int .i64 0) (.slice none 0 0)) 53 := by rw [hWS]; exact ((((((HR3.out).ne ⟨D, 1, none⟩ hRD (.int .i64 (k : Nat))).ne ⟨D, 2, none⟩ hRD (.int .i64 ((n : Int) - 1))).ne ⟨N, 0, none⟩ hRN (.int .i64 p.num)).ne ⟨N, 1, none⟩ hRN (.int .i64 p.t)).ne ⟨N, 2, none⟩ hRN (.int .i64 p.c)).ne ⟨N, 3, none⟩ hRN (.slice p.a p.n p.ca)
  have s4 : Fr [D, R] w WS := by rw [hWS]; exact ((((((HF3.out).setCell ⟨D, 1, none⟩ (.inl (by simp)) (.int .i64 (k : Nat))).setCell ⟨D, 2, none⟩ (.inl (by simp)) (.int .i64 ((n : Int) - 1))).setCell ⟨N, 0, none⟩ (.inr (Nat.le_of_eq HN.out.symm)) (.int .i64 p.num)).setCell ⟨N, 1, none⟩ (.inr (Nat.le_of_eq HN.out.symm)) (.int .i64 p.t)).setCell ⟨N, 2, none⟩ (.inr (Nat.le_of_eq HN.out.symm)) (.int .i64 p.c)).setCell ⟨N, 3, none⟩ (.inr (Nat.le_of_eq HN.out.symm)) (.slice p.a p.n p.ca)
  rw [← hWS]
  clear hWS
  obtain ⟨WF, hWF⟩ : ∃ WF, WF = WS.drew := ⟨_, rfl⟩
  have k1 : Blk WF D #[.slice (some ⟨R, o, none⟩) room room, .int .i64 (k : Nat), .int .i64 ((n : Int) - 1), .int .i64 by_, .int .i64 dr] 91 := by rw [hWF]; exact s1
  have k2 : Blk WF N #[.int .i64 p.num, .int .i64 p.t, .int .i64 p.c, .slice p.a p.n p.ca] 53 := by rw [hWF]; exact s2
  have k3 : Blk WF R (put4 cur (o + f * 4) (.int .i64 0) (.int .i64 0) (.int .i64 0) (.slice none 0 0)) 53 := by rw [hWF]; exact s3
  have k4 : Fr [D, R] w WF := by rw [hWF]; exact s4.drew
  have hfin : FqIn WF D R o room ((f + 1) % room) (n - 1) by_ dr (fun j => E (j + 1)) := by
    have hn1 : ((n - 1 : Nat) : Int) = (n : Int) - 1 := by omega
    refine ⟨by rw [hn1, ← HK.out]; exact k1, ⟨_, k3, by rw [put4_size, hcs], fun j hj i hi => ?_⟩, hne, hr0, hr64, Nat.mod_lt _ (by omega), by omega, fun j hj => (HLD.out (j + 1) (by omega)).fr k4⟩
    have hm := mod_ne (f := f) (n := j + 1) (j := 0) hf (by omega) (by omega)
    rw [Nat.add_zero, Nat.mod_eq_of_lt hf] at hm
    have e1 : ((f + 1) % room + j) % room = (f + (j + 1)) % room := by rw [Nat.mod_add_mod]; congr 1; omega
    rw [e1, put4_ne _ _ _ _ _ _ _ (by omega), HCE.out (j + 1) (by omega) i hi]
  rw [← hWF]
  have r0 : WF.cell? ⟨N, 0, none⟩ = some (.int .i64 p.num) := cell_at k2 0
  have r1 : WF.cell? ⟨N, 1, none⟩ = some (.int .i64 p.t) := cell_at k2 1
  have r2 : WF.cell? ⟨N, 2, none⟩ = some (.int .i64 p.c) := cell_at k2 2
  have r3 : WF.cell? ⟨N, 3, none⟩ = some (.slice p.a p.n p.ca) := cell_at k2 3
  exact bodyPost_ret (v := .agg #[.int .i64 p.num, .int .i64 p.t, .int .i64 p.c, .slice p.a p.n p.ca]) (by simp [results, Try.results72, go_sem, r0, r1, r2, r3]) rfl ⟨rfl, hfin, k4⟩
end Go.Proofs.Ytoodmocapagapaa
namespace Go.Proofs.Ytoodmocapagapaa
open Go.RowKit
set_option linter.unusedSimpArgs false
set_option linter.unusedVariables false

set_option maxRecDepth 100000 in
set_option maxHeartbeats 8000000 in
theorem fpop_any (D R o room f n : Nat) (by_ dr : Int) (E : Nat → PkE) (w : World) (hq : FqIn w D R o room f n by_ dr E) (hn : 0 < n) (hby : 0 ≤ by_ ∧ by_ ≤ 1000000) :
    Calls Try.prog 56 #[.pointer (some ⟨D, 0, none⟩)] w fun e w' => ∃ a' c' b', e = .returned (.tuple #[.agg #[.int .i64 (E 0).num, .int .i64 (E 0).t, .int .i64 (E 0).c, .slice a' (E 0).n c'], .int .i64 0]) ∧ ByIn w' a' (E 0).n c' b' 0 (E 0).X ∧ (0 < (E 0).n → w.heap.size ≤ b') ∧ FqIn w' D R o room ((f + 1) % room) (n - 1) (by_ - (8 + ((E 0).n : Int))) dr (fun j => E (j + 1)) ∧ Fr [D, R] w w' := by
  obtain ⟨N, hN⟩ : ∃ N, N = w.heap.size := ⟨_, rfl⟩
  obtain ⟨W1, hW1⟩ : ∃ W1, W1 = w.alloc (.cells #[.int .i64 0, .int .i64 0, .int .i64 0, .slice none 0 0] 53) := ⟨_, rfl⟩
  have hB1 : Below w.heap.size w W1 := by rw [hW1]; exact (Below.refl _ _).alloc (Nat.le_refl _) _
  have hp : Blk W1 N #[.int .i64 0, .int .i64 0, .int .i64 0, .slice none 0 0] 53 := by rw [hW1, hN]; exact blk_new _ _ _
  have hD : D < N := by rw [hN]; exact hq.own.lt
  have hR : R < N := by rw [hN]; obtain ⟨_, h1, _⟩ := hq.ring; exact h1.lt
  have hq1 := hq.below hB1
  have hld0 := (hq1.ld 0 hn)
  obtain ⟨p, hpE⟩ : ∃ p, p = E 0 := ⟨_, rfl⟩
  have hrp := ring_pop D R o room f n by_ dr E W1 hq1 hn
  rw [← hpE] at hld0 hrp ⊢
  have hp14 := hld0.le
  have hld := hld0.d
  have HLD := Lib.hid hld0
  have HLA := Lib.hid hq.ld
  have HRP := Lib.hid hrp
  have HB1 := Lib.hid hB1
  have HP1 := Lib.hid hp
  have HN := Lib.hid hN
  have hnil : ∀ W, (binOp .eql 65 (.pointer (some ⟨D, 0, none⟩)) (.pointer none)).run Try.prog W = .ok (.bool false) W := fun _ => rfl
  have hz : (n = 0) = False := eq_false (by omega)
  have c2 : W1.cell? ⟨D, 2, none⟩ = some (.int .i64 (n : Nat)) := cell_at hq1.own 2
  have hD1 : D < W1.heap.size := hq1.own.lt
  have dn : ((n : Int) == 0) = false := by simp; omega
  clear hq hq1 hB1 hp hpE hld0 hrp
  go_enter Try.func56, Try.ntmps56
  go_upto_region 3 with fail
  rw [← hN, ← hW1]
  clear hN hW1
  go_wp2_with fail
  go_at_call 72
  refine Calls.mono HRP.out ?_
  rintro e W2 ⟨rfl, hq2, hF2⟩
  have HN2 : Hid (Blk W2 N #[.int .i64 0, .int .i64 0, .int .i64 0, .slice none 0 0] 53) := Lib.hid ((hF2.block N HP1.out.lt (by simp; omega)).trans HP1.out)
  have HL2 := Lib.hid (HLD.out.fr hF2)
  have HQ2 := Lib.hid hq2
  have HF2 : Hid (Fr [D, R] w W2) := Lib.hid (((Fr.of_below HB1.out).mono (by simp)).trans hF2 (by simp))
  clear hq2 hF2 c2 hD1
  go_upto_region 6 with fail
  obtain ⟨M, hM⟩ : ∃ M, M = W2.heap.size := ⟨_, rfl⟩
  obtain ⟨W3, hW3⟩ : ∃ W3, W3 = W2.alloc (.cells #[.int .i64 p.num, .int .i64 p.t, .int .i64 p.c, .slice p.a p.n p.ca] 53) := ⟨_, rfl⟩
  have hB3 : Below W2.heap.size W2 W3.drew := by rw [hW3]; exact ((Below.refl _ _).alloc (Nat.le_refl _) _).drew
  have HP5 : Hid (Blk W3.drew M #[.int .i64 p.num, .int .i64 p.t, .int .i64 p.c, .slice p.a p.n p.ca] 53) := Lib.hid (by rw [hW3, hM]; exact blk_new _ _ _)
  have HN5 := Lib.hid (HN2.out.step hB3)
  have HQ5 := Lib.hid (HQ2.out.below hB3)
  have HL5 := Lib.hid (HL2.out.by_.below hB3)
  have HF5 : Hid (Fr [D, R] w W3.drew) := Lib.hid (HF2.out.trans (Fr.of_below hB3) (by simp))
  have hNM : N < M := by rw [hM]; exact HN2.out.lt
  rw [← hM, ← hW3]
  have hk3 : W3.cell? ⟨D, 3, none⟩ = some (.int .i64 by_) := cell_at HQ5.out.own 3
  have hD3 : D < W3.heap.size := HQ5.out.own.lt
  clear hM hW3 hB3
  have hnD : D ≠ M := by omega
  have hnN : N ≠ D := by omega
  have hDN : D ≠ N := by omega
  have hRN : R ≠ N := by omega
  have hw : IntKind.i64.wrap (by_ - (8 + (p.n : Int))) = by_ - (8 + (p.n : Int)) := by rw [IntKind.wrap_i64]; omega
  refine wp_region_held_drew (S := fun X => X.cell? ⟨M, 0, none⟩ = some (.int .i64 p.num) ∧ X.cell? ⟨M, 1, none⟩ = some (.int .i64 p.t) ∧ X.cell? ⟨M, 2, none⟩ = some (.int .i64 p.c) ∧ X.cell? ⟨M, 3, none⟩ = some (.slice p.a p.n p.ca) ∧ M < X.heap.size) (by kernel_rfl) ⟨cell_at HP5.out 0, cell_at HP5.out 1, cell_at HP5.out 2, cell_at HP5.out 3, HP5.out.lt⟩ (fun hHeld => ?_)
  ((refine wpAnyH_take (i := 0) (v := ?_) (by (simp only [List.getElem?_toArray, List.getElem?_cons_succ, List.getElem?_cons_zero]); rfl) (by kernel_rfl) (by kernel_rfl) (by kernel_rfl) (by exact fun _ _ _ h => h) (Or.inl ⟨by rfl, ?_⟩) (by assumption) ?_); rotate_left; focus (intro wS hSw; (try dsimp only at hSw); go_simp; first | done | with_reducible rfl); try simp only [Act.put, List.setIfInBounds_toArray, List.set_cons_zero, List.set_cons_succ])
  ((refine wpAnyH_take (i := 1) (v := ?_) (by (simp only [List.getElem?_toArray, List.getElem?_cons_succ, List.getElem?_cons_zero]); rfl) (by kernel_rfl) (by kernel_rfl) (by kernel_rfl) (by exact fun _ _ _ h => h) (Or.inl ⟨by rfl, ?_⟩) (by assumption) ?_); rotate_left; focus (intro wS hSw; (try dsimp only at hSw); go_simp; first | done | with_reducible rfl); try simp only [Act.put, List.setIfInBounds_toArray, List.set_cons_zero, List.set_cons_succ])
  ((refine wpAnyH_take (i := 2) (v := ?_) (by (simp only [List.getElem?_toArray, List.getElem?_cons_succ, List.getElem?_cons_zero]); rfl) (by kernel_rfl) (by kernel_rfl) (by kernel_rfl) (by exact fun _ _ _ h => h) (Or.inl ⟨by rfl, ?_⟩) (by assumption) ?_); rotate_left; focus (intro wS hSw; (try dsimp only at hSw); go_simp; first | done | with_reducible rfl); try simp only [Act.put, List.setIfInBounds_toArray, List.set_cons_zero, List.set_cons_succ])
  ((refine wpAnyH_take (i := 4) (v := ?_) (by (simp only [List.getElem?_toArray, List.getElem?_cons_succ, List.getElem?_cons_zero]); rfl) (by kernel_rfl) (by kernel_rfl) (by kernel_rfl) (by exact fun _ _ _ h => h) (Or.inl ⟨by rfl, ?_⟩) (by assumption) ?_); rotate_left; focus (intro wS hSw; (try dsimp only at hSw); go_simp; first | done | with_reducible rfl); try simp only [Act.put, List.setIfInBounds_toArray, List.set_cons_zero, List.set_cons_succ])
  refine wpAnyH_ready (rs := [3, 5]) (by kernel_rfl) (by simp) ?_
  refine AllReadyH.cons (by (simp only [List.getElem?_toArray, List.getElem?_cons_succ, List.getElem?_cons_zero]); rfl) (fun K hK => ?_) (AllReadyH.cons (by (simp only [List.getElem?_toArray, List.getElem?_cons_succ, List.getElem?_cons_zero]); rfl) (fun K hK => ?_) AllReadyH.nil)
  · go_simp
    refine hK.out _ _ ⟨cell_at HP5.out 0, cell_at HP5.out 1, cell_at HP5.out 2, cell_at HP5.out 3, HP5.out.lt⟩ (fun hHeld => ?_)
    clear hK K
    try simp only [Act.put, List.setIfInBounds_toArray, List.set_cons_zero, List.set_cons_succ]
    ((refine wpAnyH_ready (rs := [5]) (by kernel_rfl) (by simp) ?_); (refine AllReadyH.cons (by (simp only [List.getElem?_toArray, List.getElem?_cons_succ, List.getElem?_cons_zero]); rfl) (fun K hK => ?_) AllReadyH.nil); go_simp; refine Calls.mono (fsize_any _ _ _ _ _ _ _ (by omega)) ?_)
    rintro e W6 ⟨rfl, hB6⟩
    have HP6 := Lib.hid (HP5.out.step hB6)
    have HQ6 := Lib.hid (HQ5.out.below hB6)
    have HN6 := Lib.hid (HN5.out.step hB6)
    have HL6 := Lib.hid (HL5.out.below hB6)
    have HF6 : Hid (Fr [D, R] w W6) := Lib.hid (HF5.out.trans (Fr.of_below hB6) (by simp))
    have k6 : W6.cell? ⟨D, 3, none⟩ = some (.int .i64 by_) := cell_at HQ6.out.own 3
    have z6 := free_at HQ6.out.own 3
    have hD6 : D < W6.heap.size := HQ6.out.own.lt
    clear hB6
    go_wp2_with fail
    refine hK.out _ _ ⟨cell_at HP6.out 0, cell_at HP6.out 1, cell_at HP6.out 2, cell_at HP6.out 3, HP6.out.lt⟩ (fun hHeld => ?_)
    clear hK K
    try simp only [Act.put, List.setIfInBounds_toArray, List.set_cons_zero, List.set_cons_succ]
    ((refine wpAnyH_take (i := 6) (v := ?_) (by (simp only [List.getElem?_toArray, List.getElem?_cons_succ, List.getElem?_cons_zero]); rfl) (by kernel_rfl) (by kernel_rfl) (by kernel_rfl) (by exact fun _ _ _ h => h) (Or.inl ⟨by rfl, ?_⟩) (by assumption) ?_); rotate_left; focus (intro wS hSw; (try dsimp only at hSw); go_simp; first | done | with_reducible rfl); try simp only [Act.put, List.setIfInBounds_toArray, List.set_cons_zero, List.set_cons_succ])
    ((refine wpAnyH_take (i := 7) (v := ?_) (by (simp only [List.getElem?_toArray, List.getElem?_cons_succ, List.getElem?_cons_zero]); rfl) (by kernel_rfl) (by kernel_rfl) (by kernel_rfl) (by exact fun _ _ _ h => h) (Or.inl ⟨by rfl, ?_⟩) (by assumption) ?_); rotate_left; focus (intro wS hSw; (try dsimp only at hSw); go_simp; first | done | with_reducible rfl); try simp only [Act.put, List.setIfInBounds_toArray, List.set_cons_zero, List.set_cons_succ])
    ((refine wpAnyH_take (i := 8) (v := ?_) (by (simp only [List.getElem?_toArray, List.getElem?_cons_succ, List.getElem?_cons_zero]); rfl) (by kernel_rfl) (by kernel_rfl) (by kernel_rfl) (by exact fun _ _ _ h => h) (Or.inl ⟨by rfl, ?_⟩) (by assumption) ?_); rotate_left; focus (intro wS hSw; (try dsimp only at hSw); go_simp; first | done | with_reducible rfl); try simp only [Act.put, List.setIfInBounds_toArray, List.set_cons_zero, List.set_cons_succ])
    refine wpAnyH_ready (rs := [9]) (by kernel_rfl) (by simp) ?_
    refine AllReadyH.cons (by (simp only [List.getElem?_toArray, List.getElem?_cons_succ, List.getElem?_cons_zero]); rfl) (fun K hK => ?_) AllReadyH.nil
    go_simp
    have HP7 := Lib.hid (HP6.out.ne ⟨D, 3, none⟩ hnD.symm (.int .i64 (by_ - (8 + (p.n : Int)))))
    have HN7 := Lib.hid (HN6.out.ne ⟨D, 3, none⟩ hnN (.int .i64 (by_ - (8 + (p.n : Int)))))
    have HQ7 := Lib.hid (HQ6.out.bytes (by_ - (8 + (p.n : Int))))
    have HL7 := Lib.hid (HL6.out.ne ⟨D, 3, none⟩ hld (.int .i64 (by_ - (8 + (p.n : Int)))))
    have HF7 := Lib.hid (HF6.out.setCell ⟨D, 3, none⟩ (.inl (by simp)) (.int .i64 (by_ - (8 + (p.n : Int)))))
    refine hK.out _ _ ⟨cell_at HP7.out 0, cell_at HP7.out 1, cell_at HP7.out 2, cell_at HP7.out 3, HP7.out.lt⟩ (fun hHeld => ?_)
    clear hK K
    try simp only [Act.put, List.setIfInBounds_toArray, List.set_cons_zero, List.set_cons_succ]
    refine wpAnyH_done (by kernel_rfl) ?_ _
    obtain ⟨W7, hW7⟩ : ∃ W7, W7 = W6.setCell ⟨D, 3, none⟩ (.int .i64 (by_ - (8 + (p.n : Int)))) := ⟨_, rfl⟩
    rw [← hW7] at HP7 HN7 HQ7 HL7 HF7 ⊢
    clear hW7 k6 z6 hD6 hHeld
    have m0 : W7.cell? ⟨M, 0, none⟩ = some (.int .i64 p.num) := cell_at HP7.out 0
    have m1 : W7.cell? ⟨M, 1, none⟩ = some (.int .i64 p.t) := cell_at HP7.out 1
    have m2 : W7.cell? ⟨M, 2, none⟩ = some (.int .i64 p.c) := cell_at HP7.out 2
    have m3 : W7.cell? ⟨M, 3, none⟩ = some (.slice p.a p.n p.ca) := cell_at HP7.out 3
    have hM7 : M < W7.heap.size := HP7.out.lt
    go_wp2_with fail
    go_at_call 44
    refine (ftwin_any _ _ _ _ _ _ _ _ _ _ HL7.out (by omega)).mono ?_
    rintro e W8 ⟨a', c', b', rfl, hby8, hfr8, hB8⟩
    have hn8 := HN7.out.step hB8
    have n0 : W8.cell? ⟨N, 0, none⟩ = some (.int .i64 0) := cell_at hn8 0
    have n1 : W8.cell? ⟨N, 1, none⟩ = some (.int .i64 0) := cell_at hn8 1
    have n2 : W8.cell? ⟨N, 2, none⟩ = some (.int .i64 0) := cell_at hn8 2
    have n3 : W8.cell? ⟨N, 3, none⟩ = some (.slice none 0 0) := cell_at hn8 3
    have x0 := free_at hn8 0
    have x1 := free_at hn8 1
    have x2 := free_at hn8 2
    have x3 := free_at hn8 3
    have hN8 : N < W8.heap.size := hn8.lt
    have HN8 := Lib.hid hn8
    have HQ8 := Lib.hid (HQ7.out.below hB8)
    have HF8 : Hid (Fr [D, R] w W8) := Lib.hid (HF7.out.trans (Fr.of_below hB8) (by simp))
    have HL8 := Lib.hid hby8
    have HB8 : Hid (0 < p.n → N < b') := Lib.hid (fun h0 => by have := hfr8 h0; have := HN7.out.lt; omega)
    clear hby8 hfr8 hB8 hn8 m0 m1 m2 m3 hM7
    go_wp2_with fail
    obtain ⟨WF, hWF⟩ : ∃ WF, WF = ((((W8.setCell ⟨N, 0, none⟩ (.int .i64 p.num)).setCell ⟨N, 1, none⟩ (.int .i64 p.t)).setCell ⟨N, 2, none⟩ (.int .i64 p.c)).setCell ⟨N, 3, none⟩ (.slice a' p.n c')) := ⟨_, rfl⟩
    have k2 : Blk WF N #[.int .i64 p.num, .int .i64 p.t, .int .i64 p.c, .slice a' p.n c'] 53 := by rw [hWF]; exact ((((HN8.out).set 0 (.int .i64 p.num)).set 1 (.int .i64 p.t)).set 2 (.int .i64 p.c)).set 3 (.slice a' p.n c')
    have k4 : Fr [D, R] w WF := by rw [hWF]; exact ((((HF8.out).setCell ⟨N, 0, none⟩ (.inr (Nat.le_of_eq HN.out.symm)) (.int .i64 p.num)).setCell ⟨N, 1, none⟩ (.inr (Nat.le_of_eq HN.out.symm)) (.int .i64 p.t)).setCell ⟨N, 2, none⟩ (.inr (Nat.le_of_eq HN.out.symm)) (.int .i64 p.c)).setCell ⟨N, 3, none⟩ (.inr (Nat.le_of_eq HN.out.symm)) (.slice a' p.n c')
    have k5 : ByIn WF a' p.n c' b' 0 p.X := by rw [hWF]; exact ((((HL8.out).ne ⟨N, 0, none⟩ (fun h0 => Nat.ne_of_gt (HB8.out h0)) (.int .i64 p.num)).ne ⟨N, 1, none⟩ (fun h0 => Nat.ne_of_gt (HB8.out h0)) (.int .i64 p.t)).ne ⟨N, 2, none⟩ (fun h0 => Nat.ne_of_gt (HB8.out h0)) (.int .i64 p.c)).ne ⟨N, 3, none⟩ (fun h0 => Nat.ne_of_gt (HB8.out h0)) (.slice a' p.n c')
    obtain ⟨cur, h1, h2, h3⟩ := HQ8.out.ring
    have hfin : FqIn WF D R o room ((f + 1) % room) (n - 1) (by_ - (8 + (p.n : Int))) dr (fun j => E (j + 1)) := ⟨by rw [hWF]; exact ((((HQ8.out.own).ne ⟨N, 0, none⟩ hDN (.int .i64 p.num)).ne ⟨N, 1, none⟩ hDN (.int .i64 p.t)).ne ⟨N, 2, none⟩ hDN (.int .i64 p.c)).ne ⟨N, 3, none⟩ hDN (.slice a' p.n c'), ⟨cur, by rw [hWF]; exact ((((h1).ne ⟨N, 0, none⟩ hRN (.int .i64 p.num)).ne ⟨N, 1, none⟩ hRN (.int .i64 p.t)).ne ⟨N, 2, none⟩ hRN (.int .i64 p.c)).ne ⟨N, 3, none⟩ hRN (.slice a' p.n c'), h2, h3⟩, HQ8.out.ne, HQ8.out.r1, HQ8.out.r64, HQ8.out.fl, HQ8.out.nl, fun j hj => (HLA.out (j + 1) (by omega)).fr k4⟩
    rw [← hWF]
    have r0 : WF.cell? ⟨N, 0, none⟩ = some (.int .i64 p.num) := cell_at k2 0
    have r1 : WF.cell? ⟨N, 1, none⟩ = some (.int .i64 p.t) := cell_at k2 1
    have r2 : WF.cell? ⟨N, 2, none⟩ = some (.int .i64 p.c) := cell_at k2 2
    have r3 : WF.cell? ⟨N, 3, none⟩ = some (.slice a' p.n c') := cell_at k2 3
    exact bodyPost_ret (v := .tuple #[.agg #[.int .i64 p.num, .int .i64 p.t, .int .i64 p.c, .slice a' p.n c'], .int .i64 0]) (by simp [results, Try.results56, go_sem, r0, r1, r2, r3]) rfl ⟨a', c', b', rfl, k5, (fun h0 => by have := HB8.out h0; have := HN.out; omega), hfin, k4⟩
  · go_simp
    refine Calls.mono (fsize_any _ _ _ _ _ _ _ (by omega)) ?_
    rintro e W6 ⟨rfl, hB6⟩
    have HP6 := Lib.hid (HP5.out.step hB6)
    have HQ6 := Lib.hid (HQ5.out.below hB6)
    have HN6 := Lib.hid (HN5.out.step hB6)
    have HL6 := Lib.hid (HL5.out.below hB6)
    have HF6 : Hid (Fr [D, R] w W6) := Lib.hid (HF5.out.trans (Fr.of_below hB6) (by simp))
    have k6 : W6.cell? ⟨D, 3, none⟩ = some (.int .i64 by_) := cell_at HQ6.out.own 3
    have z6 := free_at HQ6.out.own 3
    have hD6 : D < W6.heap.size := HQ6.out.own.lt
    clear hB6
    go_wp2_with fail
    refine hK.out _ _ ⟨cell_at HP6.out 0, cell_at HP6.out 1, cell_at HP6.out 2, cell_at HP6.out 3, HP6.out.lt⟩ (fun hHeld => ?_)
    clear hK K
    try simp only [Act.put, List.setIfInBounds_toArray, List.set_cons_zero, List.set_cons_succ]
    refine wpAnyH_ready (rs := [3]) (by kernel_rfl) (by simp) ?_
    refine AllReadyH.cons (by (simp only [List.getElem?_toArray, List.getElem?_cons_succ, List.getElem?_cons_zero]); rfl) (fun K hK => ?_) AllReadyH.nil
    go_simp
    refine hK.out _ _ ⟨cell_at HP6.out 0, cell_at HP6.out 1, cell_at HP6.out 2, cell_at HP6.out 3, HP6.out.lt⟩ (fun hHeld => ?_)
    clear hK K
    try simp only [Act.put, List.setIfInBounds_toArray, List.set_cons_zero, List.set_cons_succ]
    ((refine wpAnyH_take (i := 6) (v := ?_) (by (simp only [List.getElem?_toArray, List.getElem?_cons_succ, List.getElem?_cons_zero]); rfl) (by kernel_rfl) (by kernel_rfl) (by kernel_rfl) (by exact fun _ _ _ h => h) (Or.inl ⟨by rfl, ?_⟩) (by assumption) ?_); rotate_left; focus (intro wS hSw; (try dsimp only at hSw); go_simp; first | done | with_reducible rfl); try simp only [Act.put, List.setIfInBounds_toArray, List.set_cons_zero, List.set_cons_succ])
    ((refine wpAnyH_take (i := 7) (v := ?_) (by (simp only [List.getElem?_toArray, List.getElem?_cons_succ, List.getElem?_cons_zero]); rfl) (by kernel_rfl) (by kernel_rfl) (by kernel_rfl) (by exact fun _ _ _ h => h) (Or.inl ⟨by rfl, ?_⟩) (by assumption) ?_); rotate_left; focus (intro wS hSw; (try dsimp only at hSw); go_simp; first | done | with_reducible rfl); try simp only [Act.put, List.setIfInBounds_toArray, List.set_cons_zero, List.set_cons_succ])
    ((refine wpAnyH_take (i := 8) (v := ?_) (by (simp only [List.getElem?_toArray, List.getElem?_cons_succ, List.getElem?_cons_zero]); rfl) (by kernel_rfl) (by kernel_rfl) (by kernel_rfl) (by exact fun _ _ _ h => h) (Or.inl ⟨by rfl, ?_⟩) (by assumption) ?_); rotate_left; focus (intro wS hSw; (try dsimp only at hSw); go_simp; first | done | with_reducible rfl); try simp only [Act.put, List.setIfInBounds_toArray, List.set_cons_zero, List.set_cons_succ])
    refine wpAnyH_ready (rs := [9]) (by kernel_rfl) (by simp) ?_
    refine AllReadyH.cons (by (simp only [List.getElem?_toArray, List.getElem?_cons_succ, List.getElem?_cons_zero]); rfl) (fun K hK => ?_) AllReadyH.nil
    go_simp
    have HP7 := Lib.hid (HP6.out.ne ⟨D, 3, none⟩ hnD.symm (.int .i64 (by_ - (8 + (p.n : Int)))))
    have HN7 := Lib.hid (HN6.out.ne ⟨D, 3, none⟩ hnN (.int .i64 (by_ - (8 + (p.n : Int)))))
    have HQ7 := Lib.hid (HQ6.out.bytes (by_ - (8 + (p.n : Int))))
    have HL7 := Lib.hid (HL6.out.ne ⟨D, 3, none⟩ hld (.int .i64 (by_ - (8 + (p.n : Int)))))
    have HF7 := Lib.hid (HF6.out.setCell ⟨D, 3, none⟩ (.inl (by simp)) (.int .i64 (by_ - (8 + (p.n : Int)))))
    refine hK.out _ _ ⟨cell_at HP7.out 0, cell_at HP7.out 1, cell_at HP7.out 2, cell_at HP7.out 3, HP7.out.lt⟩ (fun hHeld => ?_)
    clear hK K
    try simp only [Act.put, List.setIfInBounds_toArray, List.set_cons_zero, List.set_cons_succ]
    refine wpAnyH_done (by kernel_rfl) ?_ _
    obtain ⟨W7, hW7⟩ : ∃ W7, W7 = W6.setCell ⟨D, 3, none⟩ (.int .i64 (by_ - (8 + (p.n : Int)))) := ⟨_, rfl⟩
    rw [← hW7] at HP7 HN7 HQ7 HL7 HF7 ⊢
    clear hW7 k6 z6 hD6 hHeld
    have m0 : W7.cell? ⟨M, 0, none⟩ = some (.int .i64 p.num) := cell_at HP7.out 0
    have m1 : W7.cell? ⟨M, 1, none⟩ = some (.int .i64 p.t) := cell_at HP7.out 1
    have m2 : W7.cell? ⟨M, 2, none⟩ = some (.int .i64 p.c) := cell_at HP7.out 2
    have m3 : W7.cell? ⟨M, 3, none⟩ = some (.slice p.a p.n p.ca) := cell_at HP7.out 3
    have hM7 : M < W7.heap.size := HP7.out.lt
    go_wp2_with fail
    go_at_call 44
    refine (ftwin_any _ _ _ _ _ _ _ _ _ _ HL7.out (by omega)).mono ?_
    rintro e W8 ⟨a', c', b', rfl, hby8, hfr8, hB8⟩
    have hn8 := HN7.out.step hB8
    have n0 : W8.cell? ⟨N, 0, none⟩ = some (.int .i64 0) := cell_at hn8 0
    have n1 : W8.cell? ⟨N, 1, none⟩ = some (.int .i64 0) := cell_at hn8 1
    have n2 : W8.cell? ⟨N, 2, none⟩ = some (.int .i64 0) := cell_at hn8 2
    have n3 : W8.cell? ⟨N, 3, none⟩ = some (.slice none 0 0) := cell_at hn8 3
    have x0 := free_at hn8 0
    have x1 := free_at hn8 1
    have x2 := free_at hn8 2
    have x3 := free_at hn8 3
    have hN8 : N < W8.heap.size := hn8.lt
    have HN8 := Lib.hid hn8
    have HQ8 := Lib.hid (HQ7.out.below hB8)
    have HF8 : Hid (Fr [D, R] w W8) := Lib.hid (HF7.out.trans (Fr.of_below hB8) (by simp))
    have HL8 := Lib.hid hby8
    have HB8 : Hid (0 < p.n → N < b') := Lib.hid (fun h0 => by have := hfr8 h0; have := HN7.out.lt; omega)
    clear hby8 hfr8 hB8 hn8 m0 m1 m2 m3 hM7
    go_wp2_with fail
    obtain ⟨WF, hWF⟩ : ∃ WF, WF = ((((W8.setCell ⟨N, 0, none⟩ (.int .i64 p.num)).setCell ⟨N, 1, none⟩ (.int .i64 p.t)).setCell ⟨N, 2, none⟩ (.int .i64 p.c)).setCell ⟨N, 3, none⟩ (.slice a' p.n c')) := ⟨_, rfl⟩
    have k2 : Blk WF N #[.int .i64 p.num, .int .i64 p.t, .int .i64 p.c, .slice a' p.n c'] 53 := by rw [hWF]; exact ((((HN8.out).set 0 (.int .i64 p.num)).set 1 (.int .i64 p.t)).set 2 (.int .i64 p.c)).set 3 (.slice a' p.n c')
    have k4 : Fr [D, R] w WF := by rw [hWF]; exact ((((HF8.out).setCell ⟨N, 0, none⟩ (.inr (Nat.le_of_eq HN.out.symm)) (.int .i64 p.num)).setCell ⟨N, 1, none⟩ (.inr (Nat.le_of_eq HN.out.symm)) (.int .i64 p.t)).setCell ⟨N, 2, none⟩ (.inr (Nat.le_of_eq HN.out.symm)) (.int .i64 p.c)).setCell ⟨N, 3, none⟩ (.inr (Nat.le_of_eq HN.out.symm)) (.slice a' p.n c')
    have k5 : ByIn WF a' p.n c' b' 0 p.X := by rw [hWF]; exact ((((HL8.out).ne ⟨N, 0, none⟩ (fun h0 => Nat.ne_of_gt (HB8.out h0)) (.int .i64 p.num)).ne ⟨N, 1, none⟩ (fun h0 => Nat.ne_of_gt (HB8.out h0)) (.int .i64 p.t)).ne ⟨N, 2, none⟩ (fun h0 => Nat.ne_of_gt (HB8.out h0)) (.int .i64 p.c)).ne ⟨N, 3, none⟩ (fun h0 => Nat.ne_of_gt (HB8.out h0)) (.slice a' p.n c')
    obtain ⟨cur, h1, h2, h3⟩ := HQ8.out.ring
    have hfin : FqIn WF D R o room ((f + 1) % room) (n - 1) (by_ - (8 + (p.n : Int))) dr (fun j => E (j + 1)) := ⟨by rw [hWF]; exact ((((HQ8.out.own).ne ⟨N, 0, none⟩ hDN (.int .i64 p.num)).ne ⟨N, 1, none⟩ hDN (.int .i64 p.t)).ne ⟨N, 2, none⟩ hDN (.int .i64 p.c)).ne ⟨N, 3, none⟩ hDN (.slice a' p.n c'), ⟨cur, by rw [hWF]; exact ((((h1).ne ⟨N, 0, none⟩ hRN (.int .i64 p.num)).ne ⟨N, 1, none⟩ hRN (.int .i64 p.t)).ne ⟨N, 2, none⟩ hRN (.int .i64 p.c)).ne ⟨N, 3, none⟩ hRN (.slice a' p.n c'), h2, h3⟩, HQ8.out.ne, HQ8.out.r1, HQ8.out.r64, HQ8.out.fl, HQ8.out.nl, fun j hj => (HLA.out (j + 1) (by omega)).fr k4⟩
    rw [← hWF]
    have r0 : WF.cell? ⟨N, 0, none⟩ = some (.int .i64 p.num) := cell_at k2 0
    have r1 : WF.cell? ⟨N, 1, none⟩ = some (.int .i64 p.t) := cell_at k2 1
    have r2 : WF.cell? ⟨N, 2, none⟩ = some (.int .i64 p.c) := cell_at k2 2
    have r3 : WF.cell? ⟨N, 3, none⟩ = some (.slice a' p.n c') := cell_at k2 3
    exact bodyPost_ret (v := .tuple #[.agg #[.int .i64 p.num, .int .i64 p.t, .int .i64 p.c, .slice a' p.n c'], .int .i64 0]) (by simp [results, Try.results56, go_sem, r0, r1, r2, r3]) rfl ⟨a', c', b', rfl, k5, (fun h0 => by have := HB8.out h0; have := HN.out; omega), hfin, k4⟩
end Go.Proofs.Ytoodmocapagapaa
namespace Go.Proofs.Ytoodmocapagapaa
open Go.RowKit
set_option linter.unusedSimpArgs false
set_option linter.unusedVariables false

def nilP : PkE := ⟨0, 0, 0, none, 0, 0, 0, 0, fun _ => 0⟩
theorem by_nil (w : World) : ByIn w none 0 0 0 0 (fun _ => 0) := ⟨Nat.le_refl _, by unfold maxLen; omega, fun h => by omega, fun k hk => by omega, fun _ => by decide⟩

end Go.Proofs.Ytoodmocapagapaa
namespace Go.Proofs.Ytoodmocapagapaa
open Go.RowKit
set_option linter.unusedSimpArgs false
set_option linter.unusedVariables false

set_option maxRecDepth 100000 in
set_option maxHeartbeats 4000000 in
theorem npop_any (w : World) : Calls Try.prog 56 #[.pointer none] w fun e w' => e = .returned (.tuple #[.agg #[.int .i64 0, .int .i64 0, .int .i64 0, .slice none 0 0], .int .i64 1]) ∧ Below w.heap.size w w' := by
  have hp : ∀ W, (binOp .eql 65 (.pointer none) (.pointer none)).run Try.prog W = .ok (.bool true) W := fun _ => rfl
  go_enter Try.func56, Try.ntmps56
  go_wp2_with fail
  exact bodyPost_ret (v := .tuple #[.agg #[.int .i64 0, .int .i64 0, .int .i64 0, .slice none 0 0], .int .i64 1]) (by simp [results, Try.results56, go_sem]) rfl ⟨rfl, (Below.refl _ _).alloc (Nat.le_refl _) _⟩
set_option maxRecDepth 100000 in
set_option maxHeartbeats 4000000 in
theorem npush_any (v : Value) (w : World) (num t c : Int) (a : Option Addr) (ln ca : Nat) (hv : v = .agg #[.int .i64 num, .int .i64 t, .int .i64 c, .slice a ln ca]) : Calls Try.prog 24 #[.pointer none, v] w fun e w' => e = .returned (.int .i64 1) ∧ Below w.heap.size w w' := by
  subst hv
  have hp : ∀ W, (binOp .eql 65 (.pointer none) (.pointer none)).run Try.prog W = .ok (.bool true) W := fun _ => rfl
  go_enter Try.func24, Try.ntmps24
  go_wp2_with fail
  go_ret
  exact ⟨rfl, (Below.refl _ _).alloc (Nat.le_refl _) _⟩
set_option maxRecDepth 100000 in
set_option maxHeartbeats 4000000 in
theorem zpop_any (D R o room f : Nat) (by_ dr : Int) (E : Nat → PkE) (w : World) (hq : FqIn w D R o room f 0 by_ dr E) : Calls Try.prog 56 #[.pointer (some ⟨D, 0, none⟩)] w fun e w' => e = .returned (.tuple #[.agg #[.int .i64 0, .int .i64 0, .int .i64 0, .slice none 0 0], .int .i64 4]) ∧ Below w.heap.size w w' := by
  have hp : ∀ W, (binOp .eql 65 (.pointer (some ⟨D, 0, none⟩)) (.pointer none)).run Try.prog W = .ok (.bool false) W := fun _ => rfl
  have hD := hq.own.lt
  have c2 : w.cell? ⟨D, 2, none⟩ = some (.int .i64 0) := cell_at hq.own 2
  clear hq
  go_enter Try.func56, Try.ntmps56
  go_wp2_with fail
  exact bodyPost_ret (v := .tuple #[.agg #[.int .i64 0, .int .i64 0, .int .i64 0, .slice none 0 0], .int .i64 4]) (by simp [results, Try.results56, go_sem]) rfl ⟨rfl, (Below.refl _ _).alloc (Nat.le_refl _) _⟩
set_option maxRecDepth 100000 in
set_option maxHeartbeats 4000000 in
theorem nlen_any (w : World) : Calls Try.prog 31 #[.pointer none] w fun e w' => e = .returned (.int .i64 0) ∧ w = w' := by
  have hp : ∀ W, (binOp .eql 65 (.pointer none) (.pointer none)).run Try.prog W = .ok (.bool true) W := fun _ => rfl
  go_enter Try.func31, Try.ntmps31
  go_wp2_with fail
  go_ret
  exact ⟨rfl, rfl⟩
set_option maxRecDepth 100000 in
set_option maxHeartbeats 4000000 in
theorem nbytes_any (w : World) : Calls Try.prog 32 #[.pointer none] w fun e w' => e = .returned (.int .i64 0) ∧ w = w' := by
  have hp : ∀ W, (binOp .eql 65 (.pointer none) (.pointer none)).run Try.prog W = .ok (.bool true) W := fun _ => rfl
  go_enter Try.func32, Try.ntmps32
  go_wp2_with fail
  go_ret
  exact ⟨rfl, rfl⟩
set_option maxRecDepth 100000 in
set_option maxHeartbeats 4000000 in
theorem nhead_any (w : World) : Calls Try.prog 45 #[.pointer none] w fun e w' => e = .returned (.tuple #[.agg #[.int .i64 0, .int .i64 0, .int .i64 0, .slice none 0 0], .bool false]) ∧ Below w.heap.size w w' := by
  go_enter Try.func45, Try.ntmps45
  go_wp2_with (go_at_call 31; refine (nlen_any _).mono ?_; rintro e W ⟨rfl, rfl⟩)
  exact bodyPost_ret (v := .tuple #[.agg #[.int .i64 0, .int .i64 0, .int .i64 0, .slice none 0 0], .bool false]) (by simp [results, Try.results45, go_sem]) rfl ⟨rfl, (Below.refl _ _).alloc (Nat.le_refl _) _⟩
end Go.Proofs.Ytoodmocapagapaa
/-
  Two packets, the same or not: the program's Same and the document's.
-/
namespace Go.Proofs.Ytoodmocapagapaa
open Go.RowKit
set_option linter.unusedSimpArgs false
set_option linter.unusedVariables false

def markB (n t c n' t' c' : Int) : Bool := n == n' && (t == t' && c == c')
/-- are two packets the same? -/
def sameP (p q : PkE) : Bool := markB p.num p.t p.c q.num q.t q.c && (p.n == q.n && eqB p.X q.X p.n)

/-- two blocks of the call's own -/
def F2 (w : World) (n1 n2 : Nat) (c0 c1 : Array Value) (X : World) : Prop := Holds X n1 c0 ∧ Holds X n2 c1 ∧ Below w.heap.size w X
theorem F2.step {w A B : World} {n1 n2 : Nat} {c0 c1 : Array Value} (h : F2 w n1 n2 c0 c1 A) (hB : Below A.heap.size A B) : F2 w n1 n2 c0 c1 B := ⟨Holds.step h.1 hB, Holds.step h.2.1 hB, h.2.2.trans (hB.mono h.2.2.size)⟩

theorem bytesOf_eq (X Y : Nat → Nat) (hX : ∀ k, X k < 256) (hY : ∀ k, Y k < 256) (n m : Nat) : (bytesOf X n == bytesOf Y m) = (n == m && eqB X Y n) := by
  rw [Bool.eq_iff_iff]
  simp only [beq_iff_eq, Bool.and_eq_true, eqB_iff]
  constructor
  · intro h
    have hl : n = m := by have := congrArg List.length h; rwa [bytesOf_len, bytesOf_len] at this
    subst hl
    refine ⟨rfl, fun k hk => ?_⟩
    have h2 : (bytesOf X n)[k]? = (bytesOf Y n)[k]? := by rw [h]
    simp only [bytesOf, List.getElem?_map, List.getElem?_range hk, Option.map_some, Option.some.injEq] at h2
    have h3 := congrArg UInt8.toNat h2
    simp only [UInt8.toNat_ofNat'] at h3
    have := hX k
    have := hY k
    omega
  · rintro ⟨rfl, h⟩
    unfold bytesOf
    refine List.map_congr_left fun k hk => ?_
    rw [h k (List.mem_range.1 hk)]
theorem str_eql (w : World) (A B : List UInt8) : (binOp .eql 9 (.string ⟨A.toArray⟩) (.string ⟨B.toArray⟩)).run Try.prog w = .ok (.bool (A == B)) w := by
  have h : (binOp .eql 9 (.string ⟨A.toArray⟩) (.string ⟨B.toArray⟩)).run Try.prog w = .ok (.bool ((⟨A.toArray⟩ : ByteArray).toList == (⟨B.toArray⟩ : ByteArray).toList)) w := rfl
  rw [h, ByteArray.toList_eq, ByteArray.toList_eq]

end Go.Proofs.Ytoodmocapagapaa
namespace Go.Proofs.Ytoodmocapagapaa
open Go.RowKit
set_option linter.unusedSimpArgs false
set_option linter.unusedVariables false

/-- An iterator, called in any world behind W0: the elements come one by one, each as E says in the world in which it comes; a round may change what Kp lets it. -/
def SeqE {α : Type} (n : Nat) (P : Program) (g : Nat) (lb : Array Value) (encs : α → Array Value) (E : List α → α → World → Prop) (Kp : World → World → Prop) (S : List α → Prop) (N : Nat) (W0 : World) : Prop :=
  ∀ (l : Nat) (J Jx : List α → World → Prop) (W : World), Below W0.heap.size W0 W → (∀ s A B, J s A → Below A.heap.size A B → J s B) →
    (∀ pre x W1, J pre W1 → E pre x W1 → pre.length < N → YieldAt Fence.wide (n - 1) P l (encs x) W1 fun e W' =>
      (e = .returned (.bool true) ∧ J (pre ++ [x]) W' ∧ Kp W1 W') ∨ (e = .returned (.bool false) ∧ Jx (pre ++ [x]) W')) →
    J [] W →
    CallsIn Fence.wide n P g (#[.func (.yield l) #[] #[]] ++ lb) W fun e W' => (∃ v, e = .returned v) ∧ ((∃ xs, S xs ∧ J xs W') ∨ (∃ pre, Jx pre W'))

/-- Of the blocks below n only those of l may have turned. -/
structure FrB (n : Nat) (l : List Nat) (w w' : World) : Prop where
  os : w'.os = w.os
  tape : w'.tape = w.tape
  output : w'.output = w.output
  size : w.heap.size ≤ w'.heap.size
  block : ∀ k, k < n → k ∉ l → w'.heap[k]? = w.heap[k]?
theorem FrB.refl (n : Nat) (l : List Nat) (w : World) : FrB n l w w := ⟨rfl, rfl, rfl, Nat.le_refl _, fun _ _ _ => rfl⟩
theorem FrB.trans {n : Nat} {l : List Nat} {a b c : World} (h : FrB n l a b) (k : FrB n l b c) : FrB n l a c :=
  ⟨k.os.trans h.os, k.tape.trans h.tape, k.output.trans h.output, Nat.le_trans h.size k.size, fun i hi hn => (k.block i hi hn).trans (h.block i hi hn)⟩
theorem FrB.mono {n : Nat} {l l' : List Nat} {a b : World} (h : FrB n l a b) (hl : ∀ x ∈ l, x ∈ l') : FrB n l' a b := ⟨h.os, h.tape, h.output, h.size, fun i hi hn => h.block i hi fun hm => hn (hl i hm)⟩
theorem FrB.of_fr {n : Nat} {l : List Nat} {a b : World} (h : Fr l a b) (hn : n ≤ a.heap.size) : FrB n l a b := ⟨h.os, h.tape, h.output, h.size, fun i hi hm => h.block i (by omega) hm⟩
theorem FrB.of_below {n : Nat} {l : List Nat} {B : Nat} {a b : World} (h : Below B a b) (hn : n ≤ B) : FrB n l a b := ⟨h.os, h.tape, h.output, h.size, fun i hi _ => h.block i (by omega)⟩
theorem FrB.put (n : Nat) (W : World) (L : Nat) (o : Obj) : FrB n [L] W (W.putObj L o) := ⟨rfl, rfl, rfl, by simp, fun k _ hk => World.putObj_heap_other (by simpa using hk)⟩
theorem FrB.below {n : Nat} {l : List Nat} {B : Nat} {a b : World} (h : FrB n l a b) (hB : B ≤ n) (hl : ∀ x ∈ l, B ≤ x) : Below B a b := ⟨h.os, h.tape, h.output, h.size, fun k hk => h.block k (by omega) fun hm => by have := hl k hm; omega⟩

/-- how a round's body may be left -/
def roundE {α : Type} (n : Nat) (bl : List Nat) (I : List α → World → Prop) (Ix : Code → List α → World → Prop) (xs : List α) (W : World) : Exit → Act → World → Prop
  | .normal, _, W' => FrB n bl W W' ∧ I xs W'
  | .ret, _, W' => FrB n bl W W' ∧ Ix .ret xs W'
  | .exit id, _, W' => FrB n bl W W' ∧ Ix (.exit id) xs W'
  | .goto t, _, W' => FrB n bl W W' ∧ Ix (.goto t) xs W'
  | .panic _, _, _ => False
  | .outgrown, _, _ => False

theorem range_E {α : Type} {P : Program} {n : Nat} (h1 : 1 ≤ n) {g : Operand} {ps : Array Tmp} {assign body : Code} {Q : Exit → Act → World → Prop} {a : Act} {w : World} {gf : Nat} {lb : Array Value}
    (hg : a.eval g = .func (.func gf) #[] lb) (eg : ∀ args w, (callFunc gf args).run P w = .ok (.enter gf args) w)
    {encs : α → Array Value} {E : List α → α → World → Prop} {S : List α → Prop} {N : Nat} (bl : List Nat) (hseq : SeqE (n - 1) P gf lb encs E (FrB (w.heap.size + 2) ((w.heap.size + 1) :: bl)) S N w) (hps : ∀ x, (encs x).size = ps.size)
    (I : List α → World → Prop) (Ix : Code → List α → World → Prop)
    (hIb : ∀ s A B, I s A → Below A.heap.size A B → I s B)
    (hIp : ∀ s A o, I s A → w.heap.size + 1 < A.heap.size → I s (A.putObj (w.heap.size + 1) o))
    (hXp : ∀ c s A o, Ix c s A → w.heap.size + 1 < A.heap.size → Ix c s (A.putObj (w.heap.size + 1) o))
    (hb0 : w.heap.size ∉ bl) (hb1 : w.heap.size + 1 ∉ bl) (h0 : I [] w)
    (hround : ∀ pre x W, I pre W → E pre x W → pre.length < N → w.heap.size + 1 < W.heap.size →
      assign.wpIn (Fence.wide.inRound (w.heap.size + 1)) (n - 1 - 1) P (Exit.then (fun a₁ w₁ => Below W.heap.size W w₁ ∧ ∀ o, body.wpIn (Fence.wide.inRound (w.heap.size + 1)) (n - 1 - 1) P (roundE (w.heap.size + 2) bl I Ix (pre ++ [x]) (w₁.putObj (w.heap.size + 1) o)) a₁ (w₁.putObj (w.heap.size + 1) o)) (fun _ _ _ => False))
        { tmps := (ps.zip (encs x)).foldl (fun t (p, v) => t.setIfInBounds p v) a.tmps, defers := [] } W)
    (hdone : ∀ xs W, S xs → I xs W → W.heap[w.heap.size]? = some (.deferred (some [])) → Q .normal { a with defers := { target := .collected w.heap.size, args := #[] } :: a.defers } W)
    (hstop : ∀ c xs W, Ix c xs W → W.heap[w.heap.size]? = some (.deferred (some [])) → c.wpIn Fence.wide n P Q { a with defers := { target := .collected w.heap.size, args := #[] } :: a.defers } W) :
    (Code.rangeFunc g ps assign body).wpIn Fence.wide n P Q a w := by
  refine wpIn_rangeFunc fun fn hfn => ?_
  obtain ⟨L, hL⟩ : ∃ L, L = w.heap.size + 1 := ⟨_, rfl⟩
  rw [← hL] at hseq hIp hXp hb1 hround
  let rc : LoopState → Option Code → Obj := fun st pe => .loop { state := st, pending := pe, fn, tmps := a.tmps, params := ps, assign, body, defers := w.heap.size }
  obtain ⟨W1, hW1⟩ : ∃ W1, W1 = (w.alloc (.deferred (some []))).alloc (rc .ready none) := ⟨_, rfl⟩
  have hB1 : Below w.heap.size w W1 := by rw [hW1]; exact ((Below.refl _ _).alloc (Nat.le_refl _) _).alloc (by simp) _
  have hl1 : W1.heap[L]? = some (rc .ready none) := by
    have := World.alloc_heap_new (w.alloc (.deferred (some []))) (rc .ready none)
    rw [World.size_alloc, ← hL, ← hW1] at this
    exact this
  have hd1 : W1.heap[w.heap.size]? = some (.deferred (some [])) := by
    rw [hW1]
    exact (Below.heap_alloc _ _ _ (by simp)).trans (World.alloc_heap_new w _)
  refine ⟨L, [{ target := .collected w.heap.size, args := #[] }], W1, { target := .fn (.func gf) lb, args := #[.func (.yield L) #[] #[]] }, W1, gf, #[.func (.yield L) #[] #[]] ++ lb, W1, ?_, ?_, ?_, ?_, fun _ => h1, ?_⟩
  · rw [hW1, hL]
    exact run_enterLoop_outer _ _ _ _ _
  · simp only [resolve, hg]
    simp [go_sem]
  · intro f' _
    trivial
  · simp [invoke, go_sem, eg]
  refine (hseq L (fun s A => I s A ∧ A.heap[L]? = some (rc .ready none) ∧ A.heap[w.heap.size]? = some (.deferred (some [])))
    (fun s A => ∃ c, Ix c s A ∧ A.heap[L]? = some (rc .done (some c)) ∧ A.heap[w.heap.size]? = some (.deferred (some []))) W1 hB1 ?_ ?_ ⟨hIb _ _ _ h0 hB1, hl1, hd1⟩).mono ?_
  · rintro s A B ⟨q1, q2, q3⟩ hB
    exact ⟨hIb _ _ _ q1 hB, (hB.block L (Array.getElem?_eq_some_iff.1 q2).1).trans q2, (hB.block _ (Array.getElem?_eq_some_iff.1 q3).1).trans q3⟩
  · rintro pre x A ⟨q1, q2, q3⟩ hE hlen
    have hlt : L < A.heap.size := (Array.getElem?_eq_some_iff.1 q2).1
    refine ⟨fn, _, assign, body, run_yield q2 (hps x), roundIn_of_wpIn hfn (wpIn_mono (hround pre x A q1 hE hlen hlt) ?_)⟩
    rintro e1 a1 A1 hp
    cases e1 with
    | normal =>
      obtain ⟨hB, hbody⟩ := hp
      have hlt1 : L < A1.heap.size := Nat.lt_of_lt_of_le hlt hB.size
      have r1 : A1.heap[L]? = some (rc .ready none) := (hB.block L hlt).trans q2
      have r2 : A1.heap[w.heap.size]? = some (.deferred (some [])) := (hB.block _ (by omega)).trans q3
      refine ⟨A1.putObj L (rc .busy none), run_beginRound r1 rfl, wpIn_mono (hbody (rc .busy none)) ?_⟩
      have s1 : (A1.putObj L (rc .busy none)).heap[L]? = some (rc .busy none) := World.putObj_heap_same hlt1
      have s2 : (A1.putObj L (rc .busy none)).heap[w.heap.size]? = some (.deferred (some [])) := (World.putObj_heap_other (by omega)).trans r2
      have hfin : ∀ (j : Option Code) (A3 : World), FrB (w.heap.size + 2) bl (A1.putObj L (rc .busy none)) A3 → (Instr.endRound L j).run P A3 = .ok (.bool j.isNone) (A3.putObj L (rc (if j.isNone then .ready else .done) j)) ∧ L < A3.heap.size ∧
          (A3.putObj L (rc (if j.isNone then .ready else .done) j)).heap[L]? = some (rc (if j.isNone then .ready else .done) j) ∧ (A3.putObj L (rc (if j.isNone then .ready else .done) j)).heap[w.heap.size]? = some (.deferred (some [])) := fun j A3 hF => by
        have t1 : A3.heap[L]? = some (rc .busy none) := (hF.block L (by omega) hb1).trans s1
        have t0 : L < A3.heap.size := (Array.getElem?_eq_some_iff.1 t1).1
        exact ⟨run_endRound j t1, t0, World.putObj_heap_same t0, (World.putObj_heap_other (by omega)).trans ((hF.block _ (by omega) hb0).trans s2)⟩
      rintro e3 a3 A3 hp3
      cases e3 with
      | normal =>
        obtain ⟨hF, hi⟩ := hp3
        obtain ⟨f1, f0, f2, f3⟩ := hfin none A3 hF
        refine ⟨_, _, f1, .inl ⟨rfl, ⟨hIp _ _ _ hi f0, f2, f3⟩, ?_⟩⟩
        exact (((FrB.of_below hB (by omega)).trans ((FrB.put _ A1 L (rc .busy none)).mono (by simp))).trans (hF.mono (by simp +contextual))).trans ((FrB.put _ A3 L _).mono (by simp))
      | ret =>
        obtain ⟨hF, hi⟩ := hp3
        obtain ⟨f1, f0, f2, f3⟩ := hfin (some .ret) A3 hF
        exact ⟨_, _, f1, .inr ⟨rfl, .ret, hXp _ _ _ _ hi f0, f2, f3⟩⟩
      | exit id =>
        obtain ⟨hF, hi⟩ := hp3
        obtain ⟨f1, f0, f2, f3⟩ := hfin (some (.exit id)) A3 hF
        exact ⟨_, _, f1, .inr ⟨rfl, .exit id, hXp _ _ _ _ hi f0, f2, f3⟩⟩
      | goto t =>
        obtain ⟨hF, hi⟩ := hp3
        obtain ⟨f1, f0, f2, f3⟩ := hfin (some (.goto t)) A3 hF
        exact ⟨_, _, f1, .inr ⟨rfl, .goto t, hXp _ _ _ _ hi f0, f2, f3⟩⟩
      | panic ch => exact hp3.elim
      | outgrown => exact hp3.elim
    | ret => exact hp.elim
    | exit id => exact hp.elim
    | goto t => exact hp.elim
    | panic ch => exact hp.elim
    | outgrown => exact hp.elim
  · rintro e W2 ⟨⟨v, rfl⟩, (⟨xs, hS, hi, q2, q3⟩ | ⟨pre, c, hi, q2, q3⟩)⟩
    · have hlt : L < W2.heap.size := (Array.getElem?_eq_some_iff.1 q2).1
      exact ⟨none, _, run_endLoop q2 (by simp), hdone xs _ hS (hIp _ _ _ hi hlt) ((World.putObj_heap_other (by omega)).trans q3)⟩
    · have hlt : L < W2.heap.size := (Array.getElem?_eq_some_iff.1 q2).1
      exact ⟨some c, _, run_endLoop q2 (by simp), hstop c pre _ (hXp _ _ _ _ hi hlt) ((World.putObj_heap_other (by omega)).trans q3)⟩
end Go.Proofs.Ytoodmocapagapaa
namespace Go.Proofs.Ytoodmocapagapaa
open Go.RowKit Go.Shelf
set_option linter.unusedSimpArgs false
set_option linter.unusedVariables false

attribute [local go_sem] Oper.semAt_some

def encPk (x : PkE) : Array Value := #[.agg #[.int .i64 x.num, .int .i64 x.t, .int .i64 x.c, .slice x.a x.n x.ca]]

end Go.Proofs.Ytoodmocapagapaa
/-
  The law FifoSame, walked.
-/
namespace Go.Proofs.Ytoodmocapagapaa
open Go.RowKit
set_option linter.unusedSimpArgs false
set_option linter.unusedVariables false

theorem eqB_refl (X : Nat → Nat) (n : Nat) : eqB X X n = true := (eqB_iff X X n).2 fun _ _ => rfl
theorem sameP_refl (p : PkE) : sameP p p = true := by unfold sameP markB; simp [eqB_refl]

theorem pkt_inv {W : World} {x : Dt} (h : Fits Try.prog W 53 x) : ∃ (v0_0 : Int) (v0_1 : Int) (v0_2 : Int) (av0_3 : Option Addr) (nv0_3 : Nat) (cv0_3 : Nat) (xv0_3 : List Dt), x.cells = [.int .i64 v0_0, .int .i64 v0_1, .int .i64 v0_2, .slice av0_3 nv0_3 cv0_3] ∧ (-9223372036854775808 ≤ v0_0 ∧ v0_0 ≤ 9223372036854775807) ∧ (-9223372036854775808 ≤ v0_1 ∧ v0_1 ≤ 9223372036854775807) ∧ (-9223372036854775808 ≤ v0_2 ∧ v0_2 ≤ 9223372036854775807) ∧ (SliceFits Try.prog W 5 av0_3 nv0_3 cv0_3 xv0_3) := by
  obtain ⟨l0, rfl, hl0, hf0⟩ := h.agg_inv Try.underlying53
  obtain ⟨y0_0, e0_0, f0_0⟩ := hf0 0 _ rfl
  obtain ⟨y0_1, e0_1, f0_1⟩ := hf0 1 _ rfl
  obtain ⟨y0_2, e0_2, f0_2⟩ := hf0 2 _ rfl
  obtain ⟨y0_3, e0_3, f0_3⟩ := hf0 3 _ rfl
  obtain ⟨v0_0, rfl, gv0_0⟩ := f0_0.int_inv Try.underlying3
  obtain ⟨v0_1, rfl, gv0_1⟩ := f0_1.int_inv Try.underlying3
  obtain ⟨v0_2, rfl, gv0_2⟩ := f0_2.int_inv Try.underlying3
  obtain ⟨av0_3, nv0_3, cv0_3, xv0_3, rfl, gv0_3⟩ := f0_3.slice_inv Try.underlying42
  match l0, hl0 with
  | [z0_0, z0_1, z0_2, z0_3], _ =>
    obtain rfl : z0_0 = _ := by simpa using e0_0
    obtain rfl : z0_1 = _ := by simpa using e0_1
    obtain rfl : z0_2 = _ := by simpa using e0_2
    obtain rfl : z0_3 = _ := by simpa using e0_3
    exact ⟨v0_0, v0_1, v0_2, av0_3, nv0_3, cv0_3, xv0_3, rfl, gv0_0, gv0_1, gv0_2, gv0_3⟩


end Go.Proofs.Ytoodmocapagapaa
namespace Go.Proofs.Ytoodmocapagapaa
open Go.RowKit
set_option linter.unusedSimpArgs false
set_option linter.unusedVariables false

def putL : Array Value → Nat → List Value → Array Value
  | cur, _, [] => cur
  | cur, o, v :: r => putL (cur.setIfInBounds o v) (o + 1) r
theorem putL_size : ∀ (vs : List Value) (cur : Array Value) (o : Nat), (putL cur o vs).size = cur.size
  | [], _, _ => rfl
  | v :: r, cur, o => by rw [putL, putL_size r]; simp
theorem putL_out : ∀ (vs : List Value) (cur : Array Value) (o k : Nat), (k < o ∨ o + vs.length ≤ k) → (putL cur o vs)[k]? = cur[k]?
  | [], _, _, _, _ => rfl
  | v :: r, cur, o, k, h => by
    rw [putL, putL_out r _ _ _ (by simp only [List.length_cons] at h; omega), Array.getElem?_setIfInBounds_ne (by simp only [List.length_cons] at h; omega)]
theorem putL_in : ∀ (vs : List Value) (cur : Array Value) (o j : Nat), o + vs.length ≤ cur.size → j < vs.length → (putL cur o vs)[o + j]? = vs[j]?
  | [], _, _, _, _, h => by simp at h
  | v :: r, cur, o, 0, h, _ => by
    rw [putL, putL_out r _ _ _ (by omega)]
    simp only [List.length_cons] at h
    simp [Array.getElem?_setIfInBounds_self, show o < cur.size by omega]
  | v :: r, cur, o, j + 1, h, hj => by
    simp only [List.length_cons] at h hj
    have := putL_in r (cur.setIfInBounds o v) (o + 1) j (by simp; omega) (by omega)
    rw [putL, show o + (j + 1) = o + 1 + j by omega, this]
    simp
theorem blk_setCells : ∀ (vs : List Value) (W : World) (g o : Nat) (cur : Array Value) (t : TypeId), Blk W g cur t → Blk (W.setCells g o vs) g (putL cur o vs) t
  | [], _, _, _, _, _, h => h
  | v :: r, W, g, o, cur, t, h => blk_setCells r _ g (o + 1) _ t (h.set o v)
theorem grown_setCells : ∀ (vs : List Value) (W : World) (g o : Nat), W.grownBy (W.setCells g o vs) (some g)
  | [], W, g, o => ⟨rfl, rfl, rfl, Nat.le_refl _, fun _ _ _ => rfl⟩
  | v :: r, W, g, o => by
    have h := grown_setCells r (W.setCell ⟨g, o, none⟩ v) g (o + 1)
    have hz : W.heap.size ≤ ((W.setCell ⟨g, o, none⟩ v).setCells g (o + 1) r).heap.size := by have := h.size; simpa using this
    refine ⟨h.os, h.tape, h.output, hz, fun k hk hn => ?_⟩
    exact (h.block k (by simpa using hk) hn).trans (heap_setCell_ne W ⟨g, o, none⟩ v k (fun e => hn (by rw [e])))

/-- cells of a slice at an offset of a block of the call's own, with the room behind it -/
def RowO (W : World) (v : Value) (ob : Option Nat) (t : TypeId) (size n : Nat) (xs : List Value) : Prop :=
  xs.length = n * size ∧ ((v = .slice none 0 0 ∧ ob = none ∧ n = 0) ∨ ∃ g off cap cur, v = .slice (some ⟨g, off, none⟩) n cap ∧ ob = some g ∧ Blk W g cur t ∧ n ≤ cap ∧ cap ≤ maxLen ∧ off + cap * size ≤ cur.size ∧ ∀ j, j < n * size → cur[off + j]? = xs[j]?)
theorem RowO.nil (W : World) (t : TypeId) (size : Nat) : RowO W (.slice none 0 0) none t size 0 [] := ⟨by simp, .inl ⟨rfl, rfl, rfl⟩⟩
theorem RowO.congr {W W' : World} {v : Value} {ob : Option Nat} {t : TypeId} {size n : Nat} {xs : List Value} (h : RowO W v ob t size n xs) (hb : ∀ g, ob = some g → W'.heap[g]? = W.heap[g]?) : RowO W' v ob t size n xs := by
  obtain ⟨h0, h⟩ := h
  refine ⟨h0, ?_⟩
  rcases h with h | ⟨g, off, cap, cur, h1, h2, h3, h4⟩
  · exact .inl h
  · exact .inr ⟨g, off, cap, cur, h1, h2, (hb g h2).trans h3, h4⟩
theorem RowO.lt {W : World} {v : Value} {g : Nat} {t : TypeId} {size n : Nat} {xs : List Value} (h : RowO W v (some g) t size n xs) : g < W.heap.size := by
  rcases h.2 with ⟨_, h1, _⟩ | ⟨g', off, cap, cur, h1, h2, h3, h4⟩
  · cases h1
  · obtain rfl := Option.some.inj h2
    exact h3.lt
theorem RowO.ofRow {W : World} {v : Value} {ob : Option Nat} {t : TypeId} {size n : Nat} {xs : List Value} (h : Row W v ob t size n xs) : RowO W v ob t size n xs := by
  have hl := h.len
  rcases h.cases with ⟨rfl, rfl, rfl, rfl⟩ | ⟨g, cap, cur, rfl, rfl, h3, h4, h5, h6, rfl⟩
  · exact RowO.nil _ _ _
  · refine ⟨hl, .inr ⟨g, 0, cap, cur, rfl, rfl, h3, h4, h5, by omega, fun j hj => ?_⟩⟩
    rw [List.getElem?_take, if_pos hj, Array.getElem?_toList, Nat.zero_add]

theorem wpList_append_rowO {P : Program} {ops : Array Oper} {rest : List Oper} {o : Oper} {a : Act} {Q : Exit → Act → World → Prop} (w : World) (hgd : o.guard = none) (s x : Operand) (t : TypeId)
    (ho : o.op = .call { callee := .builtin .append, args := #[s, x], argTypes := #[t, t] })
    (e : TypeId) (i : TypeInfo) (z : Value) (size bytes : Nat) (ht : P.underlying t = some (.slice e)) (hi : P.info? e = some i) (hz : i.zero = some z)
    (hsize : i.size = size) (hby : i.bytes = bytes) (hzs : z.cells.size = size) (hsz : 0 < size)
    (v : Value) (ob : Option Nat) (n : Nat) (xs : List Value) (hs : a.eval s = v) (hrow : RowO w v ob e size n xs)
    (ad : Addr) (m c : Nat) (news : List Value) (hx : a.eval x = .slice (some ad) m c) (hm : 0 < m) (hl : news.length = m * size) (hnews : ∀ j u, news[j]? = some u → w.cell? (ad.add j) = some u) (h1 : ∀ u ∈ news, u.oneCell' = true)
    (h63 : n + m ≤ maxLen) (hbytes : (n + m) * bytes ≤ 140737488355328)
    (h : ∀ v' ob' w', RowO w' v' (some ob') e size (n + m) (xs ++ news) → w.grownBy w' ob → (ob = some ob' ∨ w.heap.size ≤ ob') → wpList P ops Q rest (a.put o.dst v') w') : wpList P ops Q (o :: rest) a w := by
  obtain ⟨hlen, hcase⟩ := hrow
  rcases hcase with ⟨rfl, rfl, rfl⟩ | ⟨g, off, cap, cur, rfl, rfl, h3, h4, h5, h6, h7⟩
  · obtain rfl : xs = [] := List.eq_nil_of_length_eq_zero (by simpa using hlen)
    exact wpList_append_row w hgd s x t ho e i z size bytes ht hi hz hsize hby hzs hsz _ none 0 [] hs (Row.nil _ _ _) ad m c news hx hm hl hnews h1 h63 hbytes (fun v' ob' w' hr hg ho => h v' ob' w' (RowO.ofRow hr) hg (by rcases ho with h | h; exact .inl h; exact .inr (by omega)))
  · have hfit : n + m ≤ cap → off + n * size + news.length ≤ cur.size := fun hr => by
      have : (n + m) * size ≤ cap * size := Nat.mul_le_mul_right _ hr
      rw [Nat.add_mul] at this
      omega
    refine wpList_append_arg w hgd s x t ho e i z size bytes ht hi hz hsize hby hzs hsz g off n cap xs hs hlen (fun j u hj => ?_) ad m c news hx hl hnews h1 (fun hr j hj => ?_) h63 hbytes (fun hr => ?_) (fun hr v' w' hown hgr => ?_)
    · have hj' : j < n * size := by have := (List.getElem?_eq_some_iff.1 hj).1; omega
      rw [cell_at h3, h7 j hj', hj]
    · have := hfit hr
      refine ⟨?_, free_at h3 _⟩
      rw [cell_at h3, Array.getElem?_eq_getElem (by omega)]
      rfl
    · have hf := hfit hr
      refine h _ g _ ⟨by rw [List.length_append, hlen, hl, Nat.add_mul], .inr ⟨g, off, cap, _, rfl, rfl, blk_setCells news w g (off + n * size) cur e h3, hr, h5, by rw [putL_size]; exact h6, fun j hj => ?_⟩⟩ (grown_setCells _ _ _ _) (.inl rfl)
      rw [List.getElem?_append]
      by_cases hjn : j < n * size
      · rw [if_pos (by omega), putL_out _ _ _ _ (.inl (by omega)), h7 j hjn]
      · rw [Nat.add_mul] at hj
        rw [if_neg (by omega), hlen, show off + j = off + n * size + (j - n * size) by omega, putL_in _ _ _ _ hf (by omega)]
    · obtain ⟨ol, hc⟩ := hown
      rcases hc with ⟨_, hz⟩ | ⟨g', cap', cur', rfl, k2, k3, k4, k5, k6, k7⟩
      · exact absurd hz (by omega)
      · exact h _ g' w' (RowO.ofRow (Row.mk k3 k4 k5 k6 k7)) ⟨hgr.os, hgr.tape, hgr.output, hgr.size, fun k hk _ => hgr.block k hk (by simp)⟩ (.inr k2)
end Go.Proofs.Ytoodmocapagapaa
namespace Go.Proofs.Ytoodmocapagapaa
open Go.RowKit
set_option linter.unusedSimpArgs false
set_option linter.unusedVariables false

theorem wpList_append_bytes {ops : Array Oper} {rest : List Oper} {o : Oper} {a : Act} {Q : Exit → Act → World → Prop} (w : World) (hgd : o.guard = none) (s x : Operand)
    (ho : o.op = .call { callee := .builtin .append, args := #[s, x], argTypes := #[42, 42] }) (hs : a.eval s = .slice none 0 0)
    (xa : Option Addr) (n c b og : Nat) (X : Nat → Nat) (hx : a.eval x = .slice xa n c) (h1 : ByIn w xa n c b og X) (hn : n ≤ 1000000)
    (h : ∀ a' c' b' W', ByIn W' a' n c' b' 0 X → (0 < n → w.heap.size ≤ b') → Below w.heap.size w W' → wpList Try.prog ops Q rest (a.put o.dst (.slice a' n c')) W') : wpList Try.prog ops Q (o :: rest) a w := by
  obtain ⟨i0, hi, hz0, hz1, hz2⟩ := info_parts infoU8'
  have hR0 : Row w (.slice none 0 0) none 5 1 0 (rowV X 0) := Row.nil _ _ _
  by_cases h0 : n = 0
  · subst h0
    refine wpList_append_row_zero _ hgd s x 42 ho 5 i0 1 Try.underlying42 hi _ none 0 _ hs hR0 xa c hx ?_
    exact h none 0 0 w ⟨Nat.le_refl _, by unfold maxLen; omega, fun h => by omega, fun k hk => by omega, h1.bd⟩ (fun h => by omega) (Below.refl _ _)
  · obtain ⟨e0, e1⟩ := h1.at_ (by omega)
    subst e0
    refine wpList_append_row _ hgd s x 42 ho 5 i0 _ 1 1 Try.underlying42 hi hz0 hz1 hz2 rfl (by decide) _ none 0 (rowV X 0) hs hR0 ⟨b, og, none⟩ n c (rowV X n) hx (by omega) (by rw [rowV_len, Nat.mul_one]) ?c1 (rowV_one X n) ?c3 ?c4 ?_
    case c1 =>
      intro j u hu
      have hj : j < n := by have := (List.getElem?_eq_some_iff.1 hu).1; rwa [rowV_len] at this
      rw [rowV_at X n j hj] at hu
      obtain rfl := Option.some.inj hu
      rw [addr_add]
      exact h1.cell j hj
    case c3 => unfold maxLen; omega
    case c4 => omega
    intro v' ob' W3 hrow3 hg3 hob3
    have hB3 : Below w.heap.size w W3 := (Below.refl _ _).grown hg3 (Nat.le_refl _) (fun g e => by cases e)
    have hrow4 : Row W3 v' (some ob') 5 1 n (rowV X n) := by
      first | exact hrow3 | (rw [Nat.zero_add] at hrow3; exact hrow3)
    obtain ⟨a', c', rfl, hby⟩ := row_by hrow4 h1.bd
    refine h a' c' _ W3 hby (fun _ => ?_) hB3
    rcases hob3 with h | h
    · cases h
    · rw [h]; exact Nat.le_refl _

end Go.Proofs.Ytoodmocapagapaa
namespace Go.Proofs.Ytoodmocapagapaa
open Go.RowKit
set_option linter.unusedSimpArgs false
set_option linter.unusedVariables false

theorem run_append_rowO {P : Program} (w : World) (t ty e : TypeId) (i : TypeInfo) (z : Value) (size bytes : Nat) (ht : P.underlying t = some (.slice e)) (hi : P.info? e = some i) (hz : i.zero = some z)
    (hsize : i.size = size) (hby : i.bytes = bytes) (hzs : z.cells.size = size) (hsz : 0 < size)
    (v : Value) (ob : Option Nat) (n : Nat) (xs : List Value) (hrow : RowO w v ob e size n xs)
    (ad : Addr) (m c : Nat) (news : List Value) (hm : 0 < m) (hl : news.length = m * size) (hnews : ∀ j u, news[j]? = some u → w.cell? (ad.add j) = some u) (h1 : ∀ u ∈ news, u.oneCell' = true)
    (h63 : n + m ≤ maxLen) (hbytes : (n + m) * bytes ≤ 140737488355328) :
    ∃ v' ob' w', (Builtin.append_ #[t, t] ty #[v, .slice (some ad) m c]).run P w = .ok v' w' ∧ RowO w' v' (some ob') e size (n + m) (xs ++ news) ∧ w.grownBy w' ob ∧ (ob = some ob' ∨ w.heap.size ≤ ob') := by
  obtain ⟨hlen, hcase⟩ := hrow
  rcases hcase with ⟨rfl, rfl, rfl⟩ | ⟨g, off, cap, cur, rfl, rfl, h3, h4, h5, h6, h7⟩
  · obtain rfl : xs = [] := List.eq_nil_of_length_eq_zero (by simpa using hlen)
    obtain ⟨v', ob', w', hr, h2, h3, h4⟩ := run_append_row (P := P) w t ty e i z size bytes ht hi hz hsize hby hzs hsz _ none 0 [] (Row.nil _ _ _) ad m c news hm hl hnews h1 h63 hbytes
    exact ⟨v', ob', w', hr, RowO.ofRow h2, h3, by rcases h4 with h | h; exact .inl h; exact .inr (by omega)⟩
  · by_cases hr : n + m ≤ cap
    · have hf : off + n * size + news.length ≤ cur.size := by
        have : (n + m) * size ≤ cap * size := Nat.mul_le_mul_right _ hr
        rw [Nat.add_mul] at this
        omega
      subst hsize
      refine ⟨_, g, _, run_append_room_cells (P := P) w t ty e i ht hi g off n cap ad m c news hl hnews h1 hr (fun j hj => ?_) (fun j hj => free_at h3 _), ⟨by rw [List.length_append, hlen, hl, Nat.add_mul], .inr ⟨g, off, cap, _, rfl, rfl, blk_setCells news w g (off + n * i.size) cur e h3, hr, h5, by rw [putL_size]; exact h6, fun j hj => ?_⟩⟩, grown_setCells _ _ _ _, .inl rfl⟩
      · rw [cell_at h3, Array.getElem?_eq_getElem (by omega)]
        rfl
      · rw [List.getElem?_append]
        by_cases hjn : j < n * i.size
        · rw [if_pos (by omega), putL_out _ _ _ _ (.inl (by omega)), h7 j hjn]
        · rw [Nat.add_mul] at hj
          rw [if_neg (by omega), hlen, show off + j = off + n * i.size + (j - n * i.size) by omega, putL_in _ _ _ _ hf (by omega)]
    · obtain ⟨v', w', hrun, ⟨ol, hc⟩, hgr⟩ := run_append_arg_grows (P := P) w t ty e i z size bytes ht hi hz hsize hby hzs hsz ⟨g, off, none⟩ n cap xs hlen (fun j u hj => by
        have hj' : j < n * size := by have := (List.getElem?_eq_some_iff.1 hj).1; omega
        rw [addr_add, cell_at h3, h7 j hj', hj]) ad m c news hl hnews (by omega) h63 hbytes
      rcases hc with ⟨_, hz⟩ | ⟨g', cap', cur', rfl, k2, k3, k4, k5, k6, k7⟩
      · exact absurd hz (by omega)
      · exact ⟨_, g', w', hrun, RowO.ofRow (Row.mk k3 k4 k5 k6 k7), ⟨hgr.os, hgr.tape, hgr.output, hgr.size, fun k hk _ => hgr.block k hk (by simp)⟩, .inr k2⟩

theorem op_append_rowO {P : Program} {o : Oper} {a : Act} {K : Act → World → Prop} {Q : Exit → Act → World → Prop} (w : World) (s x : Operand) (t : TypeId)
    (ho : o.op = .call { callee := .builtin .append, args := #[s, x], argTypes := #[t, t] })
    (e : TypeId) (i : TypeInfo) (z : Value) (size bytes : Nat) (ht : P.underlying t = some (.slice e)) (hi : P.info? e = some i) (hz : i.zero = some z)
    (hsize : i.size = size) (hby : i.bytes = bytes) (hzs : z.cells.size = size) (hsz : 0 < size)
    (v : Value) (ob : Option Nat) (n : Nat) (xs : List Value) (hs : a.eval s = v) (hrow : RowO w v ob e size n xs)
    (ad : Addr) (m c : Nat) (news : List Value) (hx : a.eval x = .slice (some ad) m c) (hm : 0 < m) (hl : news.length = m * size) (hnews : ∀ j u, news[j]? = some u → w.cell? (ad.add j) = some u) (h1 : ∀ u ∈ news, u.oneCell' = true)
    (h63 : n + m ≤ maxLen) (hbytes : (n + m) * bytes ≤ 140737488355328)
    (h : ∀ v' ob' w', RowO w' v' (some ob') e size (n + m) (xs ++ news) → w.grownBy w' ob → (ob = some ob' ∨ w.heap.size ≤ ob') → K (a.put o.dst v') w') : Oper.wp P o a w K Q := by
  obtain ⟨v', ob', w', hr, h2, h3, h4⟩ := run_append_rowO (P := P) w t o.type e i z size bytes ht hi hz hsize hby hzs hsz v ob n xs hrow ad m c news hm hl hnews h1 h63 hbytes
  unfold Oper.wp execOp
  simp only [ho, resolve, invoke, builtin, Sem.run_bind, Sem.run_pure, Result.andThen_ok, List.map_toArray, List.map_cons, List.map_nil, hs, hx, hr]
  exact h v' ob' w' h2 h3 h4

def pL (E : Nat → PkE) (n : Nat) : List Value := (List.range n).flatMap fun k => (E k).cells
theorem pL_succ (E : Nat → PkE) (n : Nat) : pL E (n + 1) = pL E n ++ (E n).cells := by simp [pL, List.range_succ, List.flatMap_append]
theorem pL_len (E : Nat → PkE) : ∀ n : Nat, (pL E n).length = n * 4
  | 0 => by simp [pL]
  | n + 1 => by rw [pL_succ, List.length_append, pL_len E n]; simp [PkE.cells]; omega
theorem pL_congr {E E' : Nat → PkE} : ∀ {n : Nat}, (∀ k, k < n → E k = E' k) → pL E n = pL E' n
  | 0, _ => rfl
  | n + 1, h => by rw [pL_succ, pL_succ, pL_congr (fun k hk => h k (by omega)), h n (by omega)]
theorem pL_at (E : Nat → PkE) : ∀ (n k j : Nat), k < n → j < 4 → (pL E n)[k * 4 + j]? = (E k).cells[j]?
  | 0, _, _, h, _ => by omega
  | n + 1, k, j, h, hj => by
    have hl := pL_len E n
    rw [pL_succ]
    by_cases hk : k < n
    · rw [List.getElem?_append_left (by omega)]
      exact pL_at E n k j hk hj
    · obtain rfl : k = n := by omega
      rw [List.getElem?_append_right (by omega), hl]
      congr 1
      omega

end Go.Proofs.Ytoodmocapagapaa
namespace Go.Proofs.Ytoodmocapagapaa
open Go.RowKit
set_option linter.unusedSimpArgs false
set_option linter.unusedVariables false

theorem stC_fr (b : Nat) : ∀ (l : List Value) (o : Nat) (w : World), Fr [b] w (w.setCells b o l)
  | [], _, w => Fr.refl _ _
  | v :: r, o, w => ((Fr.refl [b] w).setCell ⟨b, o, none⟩ (.inl (by simp)) v).trans (stC_fr b r (o + 1) _) (fun x hx => .inl hx)
theorem stC_pt {b : Nat} {t : TypeId} : ∀ (L : List Value) (o : Nat) {W : World} {cs : Array Value}, Blk W b cs t → o + L.length ≤ cs.size → ∃ cs', Blk (W.setCells b o L) b cs' t ∧ cs'.size = cs.size ∧ (∀ j, j < o → cs'[j]? = cs[j]?) ∧ (∀ i, i < L.length → cs'[o + i]? = L[i]?) ∧ ∀ j, o + L.length ≤ j → cs'[j]? = cs[j]?
  | [], o, W, cs, h, _ => ⟨cs, h, rfl, fun _ _ => rfl, fun i hi => absurd hi (Nat.not_lt_zero _), fun _ _ => rfl⟩
  | v :: r, o, W, cs, h, hl => by
    have hl' : o + (r.length + 1) ≤ cs.size := hl
    obtain ⟨cs', k1, k2, k3, k4, k5⟩ := stC_pt r (o + 1) (h.set o v) (by simp; omega)
    refine ⟨cs', k1, by simpa using k2, fun j hj => ?_, fun i hi => ?_, fun j hj => ?_⟩
    · rw [k3 j (by omega), Array.getElem?_setIfInBounds, if_neg (by omega)]
    · rcases Nat.eq_zero_or_pos i with rfl | hp
      · rw [Nat.add_zero, k3 o (by omega), Array.getElem?_setIfInBounds, if_pos rfl, if_pos (by omega)]
        rfl
      · obtain ⟨m, rfl⟩ : ∃ m, i = m + 1 := ⟨i - 1, by omega⟩
        have := k4 m (by simpa using hi)
        rw [show o + (m + 1) = o + 1 + m by omega, this]
        rfl
    · have hj' : o + (r.length + 1) ≤ j := hj
      rw [k5 j (by omega), Array.getElem?_setIfInBounds, if_neg (by omega)]
theorem stC_blk {W : World} {b : Nat} {cs : Array Value} {t : TypeId} (h : Blk W b cs t) (L : List Value) (hl : L.length = cs.size) : Blk (W.setCells b 0 L) b L.toArray t := by
  obtain ⟨cs', k1, k2, k3, k4, k5⟩ := stC_pt L 0 h (by omega)
  have : cs' = L.toArray := by
    apply Array.ext_getElem?
    intro i
    by_cases hi : i < L.length
    · have := k4 i hi
      rw [Nat.zero_add] at this
      rw [this]
      simp
    · rw [Array.getElem?_eq_none (by omega), Array.getElem?_eq_none (by simp; omega)]
  rw [this] at k1
  exact k1
theorem op_append_run {P : Program} {o : Oper} {a : Act} {K : Act → World → Prop} {Q : Exit → Act → World → Prop} {w w' : World} (s x : Operand) (t : TypeId)
    (ho : o.op = .call { callee := .builtin .append, args := #[s, x], argTypes := #[t, t] }) {v y v' : Value} (hs : a.eval s = v) (hx : a.eval x = y)
    (hr : (Builtin.append_ #[t, t] o.type #[v, y]).run P w = .ok v' w') (h : K (a.put o.dst v') w') : Oper.wp P o a w K Q := by
  unfold Oper.wp execOp
  simp only [ho, resolve, invoke, builtin, Sem.run_bind, Sem.run_pure, Result.andThen_ok, List.map_toArray, List.map_cons, List.map_nil, hs, hx, hr]
  exact h
theorem dN (w : World) (n : Nat) : Below w.heap.size w (w.drewN n) := ⟨rfl, rfl, rfl, Nat.le_refl _, fun _ _ => rfl⟩
theorem Blk.stepM {A B : World} {M n : Nat} {c : Array Value} {t : TypeId} (h : Blk A n c t) (hB : Below M A B) (hn : n < M) : Blk B n c t := (hB.block n hn).trans h
def EntK (k : FuncId) : Prop := ∀ (args : Array Value) (w : World), (callFunc k args).run Try.prog w = .ok (.enter k args) w
theorem row_ty {W : World} {v v' : Value} {g : Nat} {e e' : TypeId} {s s' n n' : Nat} {xs xs' : List Value} (h : Row W v (some g) e s n xs) (h' : Row W v' (some g) e' s' n' xs') : e = e' := by
  rcases h.cases with ⟨he, _⟩ | ⟨g1, cap, cur, he, _, h3, _⟩
  · cases he
  · obtain rfl := Option.some.inj he
    rcases h'.cases with ⟨he', _⟩ | ⟨g2, cap', cur', he', _, h3', _⟩
    · cases he'
    · obtain rfl := Option.some.inj he'
      have := h3.symm.trans h3'
      injection this with this
      injection this
theorem row_blk_ne {W : World} {v : Value} {g n0 : Nat} {e t : TypeId} {s n : Nat} {xs : List Value} {cs : Array Value} (h : Row W v (some g) e s n xs) (hb : Blk W n0 cs t) (ht : t ≠ e) : n0 ≠ g := by
  intro e1
  subst e1
  rcases h.cases with ⟨he, _⟩ | ⟨g1, cap, cur, he, _, h3, _⟩
  · cases he
  · obtain rfl := Option.some.inj he
    have hb' : W.heap[n0]? = some (.cells cs t (0, 0)) := hb
    have := h3.symm.trans hb'
    injection this with this
    injection this with a b
    exact ht b.symm
theorem row_keep {W W' : World} {v v' : Value} {ob o2 : Option Nat} {e e' : TypeId} {s s' n n' : Nat} {xs xs' : List Value} (h : Row W v ob e s n xs) (hr : Row W v' o2 e' s' n' xs') (hne : e ≠ e') (hblk : ∀ g, g < W.heap.size → (∀ g2, o2 = some g2 → g ≠ g2) → W'.heap[g]? = W.heap[g]?) : Row W' v ob e s n xs :=
  h.congr fun g eg => by
    subst eg
    refine hblk g h.lt fun g2 e2 e3 => ?_
    subst e2 e3
    exact hne (row_ty h hr)
theorem grown_blk {W W' : World} {o2 : Option Nat} (hG : W.grownBy W' o2) (g : Nat) (hg : g < W.heap.size) (hne : ∀ g2, o2 = some g2 → g ≠ g2) : W'.heap[g]? = W.heap[g]? := hG.block g hg (fun e => hne g e.symm rfl)
theorem take_set {α : Type} (l : List α) (n i : Nat) (a : α) : (l.set i a).take n = (l.take n).set i a := List.take_set
theorem row_setCell {W : World} {v : Value} {g n s : Nat} {e : TypeId} {xs : List Value} (h : Row W v (some g) e s n xs) (j : Nat) (u : Value) : Row (W.setCell ⟨g, j, none⟩ u) v (some g) e s n (xs.set j u) := by
  rcases h.cases with ⟨he, _⟩ | ⟨g1, cap, cur, he, rfl, h3, h4, h5, h6, h7⟩
  · cases he
  · obtain rfl := Option.some.inj he
    refine Row.mk (cur := cur.setIfInBounds j u) (Blk.set (show Blk W g cur e from h3) j u) h4 h5 (by simp [h6]) ?_
    rw [Array.toList_setIfInBounds, take_set, h7]
/-- a region none of whose operations panics, in a function that defers -/
def NoPan (Q : Exit → Act → World → Prop) (e : Exit) (a : Act) (w : World) : Prop :=
  match e with
  | .panic _ => False
  | e => Q e a w
theorem wp_np {P : Program} {c : Code} {Q : Exit → Act → World → Prop} {a : Act} {w : World} (h : c.wp P (NoPan Q) a w) : c.wp P Q a w :=
  Code.wp_mono (fun e a w h => by cases e <;> first | exact h | exact h.elim) h
theorem below_undrewM {B : Nat} {w X : World} (h : Below B w.drew X) : Below B w X := ⟨h.os, h.tape, h.output, h.size, h.block⟩
structure IntsIn (W : World) (a : Option Addr) (len cap : Nat) (b o : Nat) (T : Nat → Int) : Prop where
  le : len ≤ cap
  max : cap ≤ maxLen
  at_ : 0 < len → a = some ⟨b, o, none⟩ ∧ b < W.heap.size
  cell : ∀ k, k < len → W.cell? ⟨b, o + k, none⟩ = some (.int .i64 (T k))
  bd : ∀ k, k < len → -9223372036854775808 ≤ T k ∧ T k ≤ 9223372036854775807
theorem ints_cells (W : World) {a : Option Addr} {len cap : Nat} {xs : List Dt} (h : SliceFits Try.prog W 3 a len cap xs) : ∃ (b o : Nat) (T : Nat → Int), IntsIn W a len cap b o T := by
  have hc : Try.prog.cellsOf 3 = 1 := by kernel_rfl
  obtain ⟨b, o, h1, h2⟩ := h.spot (by rw [hc]; omega)
  have hex : ∀ k, ∃ q : Int, k < len → W.cell? ⟨b, o + k, none⟩ = some (.int .i64 q) ∧ -9223372036854775808 ≤ q ∧ q ≤ 9223372036854775807 := fun k => by
    by_cases hk : k < len
    · have hl := h.length
      have hx := List.getElem?_eq_getElem (l := xs) (i := k) (by omega)
      obtain ⟨n0, e0, g0⟩ := (h.each k _ hx).1.int_inv Try.underlying3
      have hcell := h2 k _ hx
      rw [e0, hc] at hcell
      exact ⟨n0, fun _ => ⟨by have := hcell 0 _ rfl; rwa [Nat.mul_one] at this, g0.1, g0.2⟩⟩
    · exact ⟨0, fun h => absurd h hk⟩
  have hg := fun k => Classical.choose_spec (hex k)
  exact ⟨b, o, fun k => Classical.choose (hex k), h.le, h.max, h1, fun k hk => (hg k hk).1, fun k hk => (hg k hk).2⟩
theorem IntsIn.below {W W' : World} {a : Option Addr} {len cap b o : Nat} {T : Nat → Int} (h : IntsIn W a len cap b o T) (hB : Below W.heap.size W W') : IntsIn W' a len cap b o T :=
  ⟨h.le, h.max, fun hk => ⟨(h.at_ hk).1, by have := (h.at_ hk).2; have := hB.size; omega⟩, fun k hk => (hB.cell (p := ⟨b, _, none⟩) (h.at_ (by omega)).2).trans (h.cell k hk), h.bd⟩
def inL (L : List Int) : List Value := L.map fun x => .int .i64 x
def gI (L : List Int) (k : Nat) : Int := (L[k]?).getD 0
def okI (L : List Int) : Prop := ∀ x ∈ L, -9223372036854775808 ≤ x ∧ x ≤ 9223372036854775807
theorem gI_lt {L : List Int} {k : Nat} (h : k < L.length) : L[k]? = some (gI L k) := by unfold gI; rw [List.getElem?_eq_getElem h]; rfl
theorem inL_len (L : List Int) : (inL L).length = L.length * 1 := by simp [inL]
theorem inL_append (a b : List Int) : inL (a ++ b) = inL a ++ inL b := by simp [inL]
theorem inL_at (L : List Int) (k : Nat) : (inL L)[k]? = (L[k]?).map fun x => .int .i64 x := by simp [inL]
theorem inL_ones (L : List Int) : ∀ u ∈ inL L, u.oneCell' = true := by
  intro u hu
  obtain ⟨x, _, rfl⟩ := List.mem_map.1 hu
  rfl
/-- the value v stands for the list L of ints -/
def InV (W : World) (v : Value) (L : List Int) : Prop := ∃ a b o cap, v = .slice a L.length cap ∧ IntsIn W a L.length cap b o (gI L)
theorem InV.below {W W' : World} {v : Value} {L : List Int} (h : InV W v L) (hB : Below W.heap.size W W') : InV W' v L := by
  obtain ⟨a, b, o, c, e, h⟩ := h
  exact ⟨a, b, o, c, e, h.below hB⟩
theorem InV.sh {W : World} {v : Value} {L : List Int} (h : InV W v L) : ∃ a n c, v = .slice a n c ∧ Hid (n = L.length) ∧ n ≤ c ∧ c ≤ 9223372036854775807 := by
  obtain ⟨a, b, o, c, rfl, h⟩ := h
  exact ⟨a, _, c, rfl, Lib.hid rfl, h.le, by have := h.max; unfold maxLen at this; exact this⟩
theorem InV.at {W : World} {a : Option Addr} {n c : Nat} {L : List Int} (h : InV W (.slice a n c) L) (k : Nat) (hk : k < n) : ∃ (g o : Nat) (x : Int), a = some ⟨g, o, none⟩ ∧ g < W.heap.size ∧ L[k]? = some x ∧ W.cell? ⟨g, o + k, none⟩ = some (.int .i64 x) ∧ -9223372036854775808 ≤ x ∧ x ≤ 9223372036854775807 := by
  obtain ⟨a', b, o, c', ee, h⟩ := h
  injection ee with e1 e2 e3
  subst e1 e2 e3
  have h1 := h.at_ (by omega)
  exact ⟨b, o, gI L k, h1.1, h1.2, gI_lt hk, h.cell k hk, h.bd k hk⟩
theorem InV.ok {W : World} {v : Value} {L : List Int} (h : InV W v L) : okI L := by
  obtain ⟨a, b, o, c, rfl, h⟩ := h
  intro x hx
  obtain ⟨k, hk, rfl⟩ := List.mem_iff_getElem.1 hx
  have := h.bd k hk
  unfold gI at this
  rw [List.getElem?_eq_getElem hk] at this
  exact this
theorem inv_cells (W : World) {a : Option Addr} {len cap : Nat} {xs : List Dt} (h : SliceFits Try.prog W 3 a len cap xs) : ∃ L : List Int, L.length = len ∧ InV W (.slice a len cap) L := by
  obtain ⟨b, o, T, h⟩ := ints_cells W h
  refine ⟨(List.range len).map T, by simp, a, b, o, cap, by simp, ?_⟩
  have e : ∀ k, k < len → gI ((List.range len).map T) k = T k := fun k hk => by simp [gI, hk]
  simp only [List.length_map, List.length_range]
  exact ⟨h.le, h.max, h.at_, fun k hk => by rw [e k hk]; exact h.cell k hk, fun k hk => by rw [e k hk]; exact h.bd k hk⟩
def InO (M : Nat) (W : World) (v : Value) (ob : Option Nat) (L : List Int) : Prop := Row W v ob 3 1 L.length (inL L) ∧ okI L ∧ ∀ g, ob = some g → M ≤ g
theorem ino_nil (W : World) (M : Nat) : InO M W (.slice none 0 0) none [] := ⟨Row.nil _ _ _, fun x h => absurd h (by simp), fun g e => by cases e⟩
theorem inv_row {W : World} {v : Value} {ob : Option Nat} {L : List Int} (h : Row W v ob 3 1 L.length (inL L)) (ho : okI L) : InV W v L := by
  rcases h.cases with ⟨rfl, rfl, hl, hx⟩ | ⟨g, cap, cur, rfl, rfl, h3, h4, h5, h6, h7⟩
  · have hn : L = [] := List.eq_nil_of_length_eq_zero hl
    subst hn
    exact ⟨none, 0, 0, 0, rfl, Nat.le_refl _, Nat.zero_le _, fun h => absurd h (by simp), fun k hk => absurd hk (by simp), fun k hk => absurd hk (by simp)⟩
  · refine ⟨some ⟨g, 0, none⟩, g, 0, cap, rfl, h4, h5, fun _ => ⟨rfl, (Array.getElem?_eq_some_iff.1 h3).1⟩, fun k hk => ?_, fun k hk => ho _ (List.mem_of_getElem? (gI_lt hk))⟩
    obtain ⟨g', e, a, _⟩ := h.cell k (by omega)
    obtain rfl := Option.some.inj e
    rw [Nat.zero_add, a, inL_at, gI_lt hk]
    rfl
theorem InO.v {W : World} {M : Nat} {v : Value} {ob : Option Nat} {L : List Int} (h : InO M W v ob L) : InV W v L := inv_row h.1 h.2.1
theorem InO.step {A B : World} {M : Nat} {v : Value} {ob : Option Nat} {L : List Int} (h : InO M A v ob L) (hB : Below A.heap.size A B) : InO M B v ob L := ⟨h.1.congr fun g e => hB.block g (by subst e; exact h.1.lt), h.2.1, h.2.2⟩
theorem InO.fr {A B : World} {M N : Nat} {v : Value} {ob : Option Nat} {L : List Int} (h : InO M A v ob L) (hf : Fr [N] A B) (hN : N < M) : InO M B v ob L := ⟨h.1.congr fun g e => hf.block g (by subst e; exact h.1.lt) (by have := h.2.2 g e; simp; omega), h.2.1, h.2.2⟩
theorem inZero : (Try.prog.info? 3).map (fun i => (i.zero, i.size, i.bytes)) = some (some (.int .i64 0), 1, 8) := by kernel_rfl
theorem in_app {W : World} {M : Nat} {ty : TypeId} {v v2 : Value} {ob : Option Nat} {L L2 : List Int} (h : InO M W v ob L) (h2 : InV W v2 L2) (hM : M ≤ W.heap.size) (hn : L.length + L2.length ≤ 100000) :
    ∃ v' ob' w', (Builtin.append_ #[76, 76] ty #[v, v2]).run Try.prog W = .ok v' w' ∧ InO M w' v' ob' (L ++ L2) ∧ Below M W w' := by
  have ho2 := h2.ok
  obtain ⟨r1, r4, r5⟩ := h
  obtain ⟨a2, b2, o2, c2, rfl, d1⟩ := h2
  obtain ⟨i0, hi, hz0, hz1, hz2⟩ := info_parts inZero
  rcases Nat.eq_zero_or_pos L2.length with h0 | h0
  · have hL2 : L2 = [] := List.eq_nil_of_length_eq_zero h0
    subst hL2
    rw [List.append_nil]
    exact ⟨v, ob, W, run_append_row_zero (P := Try.prog) (w := W) 76 ty 3 i0 1 Try.underlying76 hi v ob _ _ r1 a2 c2, ⟨r1, r4, r5⟩, Below.refl _ _⟩
  · obtain ⟨e0, e1⟩ := d1.at_ h0
    subst e0
    have hat : ∀ (j : Nat) (u : Value), (inL L2)[j]? = some u → W.cell? ⟨b2, o2 + j, none⟩ = some u := fun j u hu => by
      rw [inL_at] at hu
      obtain ⟨x, hx, rfl⟩ := Option.map_eq_some_iff.1 hu
      have hj := (List.getElem?_eq_some_iff.1 hx).1
      rw [gI_lt hj] at hx
      obtain rfl := Option.some.inj hx
      exact d1.cell j hj
    obtain ⟨v', ob', w', hrun, s1, s2, s3⟩ := run_append_row (P := Try.prog) W 76 ty 3 i0 _ 1 8 Try.underlying76 hi hz0 hz1 hz2 rfl (by decide) v ob L.length (inL L) r1 ⟨b2, o2, none⟩ L2.length c2 (inL L2) h0 (inL_len L2) (fun j u hu => by rw [addr_add]; exact hat j u hu) (inL_ones L2) (by unfold maxLen; omega) (by omega)
    refine ⟨v', some ob', w', hrun, ⟨by rw [List.length_append, inL_append]; exact s1, fun x hx => ?_, fun g e => ?_⟩, ?_⟩
    · rcases List.mem_append.1 hx with h | h
      · exact r4 x h
      · exact ho2 x h
    · obtain rfl := Option.some.inj e
      rcases s3 with h | h
      · exact r5 _ h
      · omega
    · exact (Below.refl M W).grown s2 hM r5
theorem inv_one {W : World} {b : Nat} {x : Int} (h : Blk W b #[.int .i64 x] 3) (ho : -9223372036854775808 ≤ x ∧ x ≤ 9223372036854775807) : InV W (.slice (some ⟨b, 0, none⟩) 1 1) [x] := by
  refine ⟨some ⟨b, 0, none⟩, b, 0, 1, rfl, Nat.le_refl _, by unfold maxLen; simp, fun _ => ⟨rfl, h.lt⟩, fun k hk => ?_, fun k hk => ?_⟩
  · obtain rfl : k = 0 := by simpa using hk
    exact cell_at h 0
  · obtain rfl : k = 0 := by simpa using hk
    exact ho
theorem InV.ints {W : World} {a : Option Addr} {n c : Nat} {L : List Int} (h : InV W (.slice a n c) L) : ∃ b o, IntsIn W a n c b o (gI L) := by
  obtain ⟨a', b, o, c', ee, h⟩ := h
  injection ee with e1 e2 e3
  subst e1 e2 e3
  exact ⟨b, o, h⟩
end Go.Proofs.Ytoodmocapagapaa
namespace Go.Proofs.Ytoodmocapagapaa
open Go.RowKit
set_option linter.unusedSimpArgs false
set_option linter.unusedVariables false

theorem infoPkt4 : (Try.prog.info? 53).map (fun i => (i.zero, i.size, i.bytes)) = some (some (.agg #[.int .i64 0, .int .i64 0, .int .i64 0, .slice none 0 0]), 4, 48) := by kernel_rfl

end Go.Proofs.Ytoodmocapagapaa
namespace Go.Proofs.Ytoodmocapagapaa
open Go.RowKit
set_option linter.unusedSimpArgs false
set_option linter.unusedVariables false

theorem RowO.shape {W : World} {v : Value} {ob : Option Nat} {t : TypeId} {size n : Nat} {xs : List Value} (h : RowO W v ob t size n xs) : ∃ a cap, v = .slice a n cap ∧ n ≤ cap ∧ cap ≤ maxLen := by
  rcases h.2 with ⟨h1, h2, h3⟩ | ⟨g, off, cap, cur, h1, h2, h3, h4, h5, h6⟩
  · exact ⟨none, 0, by rw [h1, h3], by omega, Nat.zero_le _⟩
  · exact ⟨_, _, h1, h4, h5⟩

end Go.Proofs.Ytoodmocapagapaa
namespace Go.Proofs.Ytoodmocapagapaa
open Go.RowKit
set_option linter.unusedSimpArgs false
set_option linter.unusedVariables false

end Go.Proofs.Ytoodmocapagapaa
namespace Go.Proofs.Ytoodmocapagapaa
open Go.RowKit
set_option linter.unusedSimpArgs false
set_option linter.unusedVariables false

theorem pL_cons (E : Nat → PkE) : ∀ n : Nat, pL E (n + 1) = (E 0).cells ++ pL (fun j => E (j + 1)) n
  | 0 => by simp [pL]
  | n + 1 => by rw [pL_succ, pL_cons E n, pL_succ, List.append_assoc]

end Go.Proofs.Ytoodmocapagapaa
namespace Go.Proofs.Ytoodmocapagapaa
open Go.RowKit
set_option linter.unusedSimpArgs false
set_option linter.unusedVariables false

end Go.Proofs.Ytoodmocapagapaa
namespace Go.Proofs.Ytoodmocapagapaa
open Go.RowKit
set_option linter.unusedSimpArgs false
set_option linter.unusedVariables false

def sumB (E : Nat → PkE) : Nat → Nat
  | 0 => 0
  | n + 1 => sumB E n + (8 + (E n).n)
theorem sumB_le (E : Nat → PkE) : ∀ n, (∀ j, j < n → (E j).n ≤ 1492) → sumB E n ≤ n * 1500
  | 0, _ => by simp [sumB]
  | n + 1, h => by
    have := sumB_le E n (fun j hj => h j (by omega))
    have := h n (by omega)
    unfold sumB
    omega
theorem sumB_congr {E E' : Nat → PkE} : ∀ {n : Nat}, (∀ k, k < n → (E k).n = (E' k).n) → sumB E n = sumB E' n
  | 0, _ => rfl
  | n + 1, h => by unfold sumB; rw [sumB_congr (fun k hk => h k (by omega)), h n (by omega)]
theorem sumB_cons (E : Nat → PkE) : ∀ n, sumB E (n + 1) = 8 + (E 0).n + sumB (fun j => E (j + 1)) n
  | 0 => by simp [sumB]
  | n + 1 => by
    have := sumB_cons E n
    unfold sumB
    rw [this]
    omega

end Go.Proofs.Ytoodmocapagapaa
namespace Go.Proofs.Ytoodmocapagapaa
open Go.RowKit
set_option linter.unusedSimpArgs false
set_option linter.unusedVariables false

/-- the first packet's cells -/
theorem FqIn.first {W : World} {D R o room f n : Nat} {by_ dr : Int} {E : Nat → PkE} (h : FqIn W D R o room f n by_ dr E) (hn : 0 < n) : R < W.heap.size ∧ ∀ i, i < 4 → W.cell? ⟨R, o + f * 4 + i, none⟩ = (E 0).cells[i]? := by
  obtain ⟨cur, h1, h2, h3⟩ := h.ring
  refine ⟨h1.lt, fun i hi => ?_⟩
  have := h3 0 hn i hi
  rw [Nat.add_zero, Nat.mod_eq_of_lt h.fl] at this
  rw [cell_at h1, this]

set_option maxRecDepth 100000 in
set_option maxHeartbeats 8000000 in
theorem fhead_any (D R o room f n : Nat) (by_ dr : Int) (E : Nat → PkE) (w : World) (hq : FqIn w D R o room f n by_ dr E) (hn : 0 < n) :
    Calls Try.prog 45 #[.pointer (some ⟨D, 0, none⟩)] w fun e w' => ∃ a' c' b', e = .returned (.tuple #[.agg #[.int .i64 (E 0).num, .int .i64 (E 0).t, .int .i64 (E 0).c, .slice a' (E 0).n c'], .bool true]) ∧ ByIn w' a' (E 0).n c' b' 0 (E 0).X ∧ (0 < (E 0).n → w.heap.size ≤ b') ∧ Below w.heap.size w w' := by
  obtain ⟨N, hN⟩ : ∃ N, N = w.heap.size := ⟨_, rfl⟩
  obtain ⟨W1, hW1⟩ : ∃ W1, W1 = w.alloc (.cells #[.int .i64 0, .int .i64 0, .int .i64 0, .slice none 0 0] 53) := ⟨_, rfl⟩
  have hB1 : Below N w W1 := by rw [hW1, hN]; exact (Below.refl _ _).alloc (Nat.le_refl _) _
  have hp : Blk W1 N #[.int .i64 0, .int .i64 0, .int .i64 0, .slice none 0 0] 53 := by rw [hW1, hN]; exact blk_new _ _ _
  have HQ1 := Lib.hid (hq.below (hN ▸ hB1))
  have HP1 := Lib.hid hp
  have HB1 := Lib.hid hB1
  have HN := Lib.hid hN
  have HM := Lib.hid hn
  have HDR : Hid (D < w.heap.size ∧ R < w.heap.size) := Lib.hid ⟨hq.own.lt, (hq.first hn).1⟩
  have HLN := Lib.hid (fun W h => flen_any D R o room f n by_ dr E W h)
  have dn : ((n : Int) == 0) = false := by rw [beq_eq_false_iff_ne]; omega
  have hfr := hq.fl
  have hr64 := hq.r64
  have f1 : (0 : Int) ≤ (f : Int) := by omega
  have f2 : (f : Int) < (room : Int) := by omega
  obtain ⟨x, hx⟩ : ∃ x, x = E 0 := ⟨_, rfl⟩
  have HX := Lib.hid hx
  rw [← hx]
  obtain ⟨xn, xt, xc, xa, xl, xca, xb, xo, xX⟩ := x
  simp only
  clear hq hB1 hp hx hn
  go_enter Try.func45, Try.ntmps45
  go_upto_region 1 with fail
  rw [← hN, ← hW1]
  clear hN hW1
  go_wp2_with fail
  go_at_call 31
  refine (HLN.out _ HQ1.out).mono ?_
  rintro e WL ⟨rfl, rfl⟩
  have hrl := HQ1.out.first HM.out
  have hS : W1.drew.cell? ⟨D, 0, none⟩ = some (.slice (some ⟨R, o, none⟩) room room) ∧ W1.drew.cell? ⟨D, 1, none⟩ = some (.int .i64 (f : Nat)) ∧ W1.drew.cell? ⟨R, o + f * 4, none⟩ = some (.int .i64 xn) ∧ W1.drew.cell? ⟨R, o + f * 4 + 1, none⟩ = some (.int .i64 xt) ∧ W1.drew.cell? ⟨R, o + f * 4 + 2, none⟩ = some (.int .i64 xc) ∧ W1.drew.cell? ⟨R, o + f * 4 + 3, none⟩ = some (.slice xa xl xca) ∧ D < W1.drew.heap.size ∧ R < W1.drew.heap.size := by
    have hc := hrl.2
    rw [← HX.out] at hc
    exact ⟨cell_at HQ1.out.own 0, cell_at HQ1.out.own 1, hc 0 (by omega), hc 1 (by omega), hc 2 (by omega), hc 3 (by omega), HQ1.out.own.lt, hrl.1⟩
  have HL1 : Hid (ByIn W1.drew xa xl xca xb xo xX ∧ xl ≤ 1492) := Lib.hid (by
    have h1 := HQ1.out.ld 0 HM.out
    rw [← HX.out] at h1
    exact ⟨h1.by_.below ((Below.refl _ _).drew : Below W1.heap.size W1 W1.drew), h1.le⟩)
  have HL5 : Hid (xl ≤ 5000) := Lib.hid (by have := HL1.out.2; omega)
  have HB1d : Hid (Below N w W1.drew) := Lib.hid HB1.out.drew
  have HP1d : Hid (Blk W1.drew N #[.int .i64 0, .int .i64 0, .int .i64 0, .slice none 0 0] 53) := Lib.hid HP1.out
  have hnD : N ≠ D ∧ N ≠ R := by
    have h1 := HN.out
    exact ⟨fun e => by have := HDR.out.1; omega, fun e => by have := HDR.out.2; omega⟩
  have HND := Lib.hid hnD
  have HS := Lib.hid hS
  clear hrl hnD
  go_upto_region 3 with fail
  refine wp_region_held_drew (S := fun X => X.cell? ⟨D, 0, none⟩ = some (.slice (some ⟨R, o, none⟩) room room) ∧ X.cell? ⟨D, 1, none⟩ = some (.int .i64 (f : Nat)) ∧ X.cell? ⟨R, o + f * 4, none⟩ = some (.int .i64 xn) ∧ X.cell? ⟨R, o + f * 4 + 1, none⟩ = some (.int .i64 xt) ∧ X.cell? ⟨R, o + f * 4 + 2, none⟩ = some (.int .i64 xc) ∧ X.cell? ⟨R, o + f * 4 + 3, none⟩ = some (.slice xa xl xca) ∧ D < X.heap.size ∧ R < X.heap.size) (by kernel_rfl) HS.out (fun hHeld => ?_)
  clear hS
  ((refine wpAnyH_take (i := 0) (v := ?_) (by (simp only [List.getElem?_toArray, List.getElem?_cons_succ, List.getElem?_cons_zero]); rfl) (by kernel_rfl) (by kernel_rfl) (by kernel_rfl) (by exact fun _ _ _ h => h) (Or.inl ⟨by rfl, ?_⟩) (by assumption) ?_); rotate_left; focus (intro wS hSw; (try dsimp only at hSw); go_simp; first | done | with_reducible rfl); try simp only [Act.put, List.setIfInBounds_toArray, List.set_cons_zero, List.set_cons_succ])
  ((refine wpAnyH_take (i := 1) (v := ?_) (by (simp only [List.getElem?_toArray, List.getElem?_cons_succ, List.getElem?_cons_zero]); rfl) (by kernel_rfl) (by kernel_rfl) (by kernel_rfl) (by exact fun _ _ _ h => h) (Or.inl ⟨by rfl, ?_⟩) (by assumption) ?_); rotate_left; focus (intro wS hSw; (try dsimp only at hSw); go_simp; first | done | with_reducible rfl); try simp only [Act.put, List.setIfInBounds_toArray, List.set_cons_zero, List.set_cons_succ])
  ((refine wpAnyH_take (i := 2) (v := ?_) (by (simp only [List.getElem?_toArray, List.getElem?_cons_succ, List.getElem?_cons_zero]); rfl) (by kernel_rfl) (by kernel_rfl) (by kernel_rfl) (by exact fun _ _ _ h => h) (Or.inl ⟨by rfl, ?_⟩) (by assumption) ?_); rotate_left; focus (intro wS hSw; (try dsimp only at hSw); go_simp; first | done | with_reducible rfl); try simp only [Act.put, List.setIfInBounds_toArray, List.set_cons_zero, List.set_cons_succ])
  ((refine wpAnyH_take (i := 3) (v := ?_) (by (simp only [List.getElem?_toArray, List.getElem?_cons_succ, List.getElem?_cons_zero]); rfl) (by kernel_rfl) (by kernel_rfl) (by kernel_rfl) (by exact fun _ _ _ h => h) (Or.inl ⟨by rfl, ?_⟩) (by assumption) ?_); rotate_left; focus (intro wS hSw; (try dsimp only at hSw); go_simp; first | done | with_reducible rfl); try simp only [Act.put, List.setIfInBounds_toArray, List.set_cons_zero, List.set_cons_succ])
  ((refine wpAnyH_take (i := 4) (v := ?_) (by (simp only [List.getElem?_toArray, List.getElem?_cons_succ, List.getElem?_cons_zero]); rfl) (by kernel_rfl) (by kernel_rfl) (by kernel_rfl) (by exact fun _ _ _ h => h) (Or.inl ⟨by rfl, ?_⟩) (by assumption) ?_); rotate_left; focus (intro wS hSw; (try dsimp only at hSw); go_simp; first | done | with_reducible rfl); try simp only [Act.put, List.setIfInBounds_toArray, List.set_cons_zero, List.set_cons_succ])
  ((refine wpAnyH_take (i := 5) (v := ?_) (by (simp only [List.getElem?_toArray, List.getElem?_cons_succ, List.getElem?_cons_zero]); rfl) (by kernel_rfl) (by kernel_rfl) (by kernel_rfl) (by exact fun _ _ _ h => h) (Or.inl ⟨by rfl, ?_⟩) (by assumption) ?_); rotate_left; focus (intro wS hSw; (try dsimp only at hSw); go_simp; first | done | with_reducible rfl); try simp only [Act.put, List.setIfInBounds_toArray, List.set_cons_zero, List.set_cons_succ])
  ((refine wpAnyH_take (i := 6) (v := ?_) (by (simp only [List.getElem?_toArray, List.getElem?_cons_succ, List.getElem?_cons_zero]); rfl) (by kernel_rfl) (by kernel_rfl) (by kernel_rfl) (by exact fun _ _ _ h => h) (Or.inl ⟨by rfl, ?_⟩) (by assumption) ?_); rotate_left; focus (intro wS hSw; (try dsimp only at hSw); go_simp; first | done | with_reducible rfl); try simp only [Act.put, List.setIfInBounds_toArray, List.set_cons_zero, List.set_cons_succ])
  ((refine wpAnyH_take (i := 7) (v := ?_) (by (simp only [List.getElem?_toArray, List.getElem?_cons_succ, List.getElem?_cons_zero]); rfl) (by kernel_rfl) (by kernel_rfl) (by kernel_rfl) (by exact fun _ _ _ h => h) (Or.inl ⟨by rfl, ?_⟩) (by assumption) ?_); rotate_left; focus (intro wS hSw; (try dsimp only at hSw); go_simp; first | done | with_reducible rfl); try simp only [Act.put, List.setIfInBounds_toArray, List.set_cons_zero, List.set_cons_succ])
  ((refine wpAnyH_take (i := 8) (v := ?_) (by (simp only [List.getElem?_toArray, List.getElem?_cons_succ, List.getElem?_cons_zero]); rfl) (by kernel_rfl) (by kernel_rfl) (by kernel_rfl) (by exact fun _ _ _ h => h) (Or.inl ⟨by rfl, ?_⟩) (by assumption) ?_); rotate_left; focus (intro wS hSw; (try dsimp only at hSw); go_simp; first | done | with_reducible rfl); try simp only [Act.put, List.setIfInBounds_toArray, List.set_cons_zero, List.set_cons_succ])
  ((refine wpAnyH_take (i := 9) (v := ?_) (by (simp only [List.getElem?_toArray, List.getElem?_cons_succ, List.getElem?_cons_zero]); rfl) (by kernel_rfl) (by kernel_rfl) (by kernel_rfl) (by exact fun _ _ _ h => h) (Or.inl ⟨by rfl, ?_⟩) (by assumption) ?_); rotate_left; focus (intro wS hSw; (try dsimp only at hSw); go_simp; first | done | with_reducible rfl); try simp only [Act.put, List.setIfInBounds_toArray, List.set_cons_zero, List.set_cons_succ])
  ((refine wpAnyH_take (i := 10) (v := ?_) (by (simp only [List.getElem?_toArray, List.getElem?_cons_succ, List.getElem?_cons_zero]); rfl) (by kernel_rfl) (by kernel_rfl) (by kernel_rfl) (by exact fun _ _ _ h => h) (Or.inl ⟨by rfl, ?_⟩) (by assumption) ?_); rotate_left; focus (intro wS hSw; (try dsimp only at hSw); go_simp; first | done | with_reducible rfl); try simp only [Act.put, List.setIfInBounds_toArray, List.set_cons_zero, List.set_cons_succ])
  ((refine wpAnyH_take (i := 11) (v := ?_) (by (simp only [List.getElem?_toArray, List.getElem?_cons_succ, List.getElem?_cons_zero]); rfl) (by kernel_rfl) (by kernel_rfl) (by kernel_rfl) (by exact fun _ _ _ h => h) (Or.inl ⟨by rfl, ?_⟩) (by assumption) ?_); rotate_left; focus (intro wS hSw; (try dsimp only at hSw); go_simp; first | done | with_reducible rfl); try simp only [Act.put, List.setIfInBounds_toArray, List.set_cons_zero, List.set_cons_succ])
  ((refine wpAnyH_ready (rs := [12]) (by kernel_rfl) (by simp) ?_); (refine AllReadyH.cons (by (simp only [List.getElem?_toArray, List.getElem?_cons_succ, List.getElem?_cons_zero]); rfl) (fun K hK => ?_) AllReadyH.nil); go_simp; refine Calls.mono (ftwin_any xn xt xc xa xl xca xb xo xX _ HL1.out.1 HL5.out) ?_)
  rintro e W3 ⟨a', c', b', rfl, hby, hfr, hB3⟩
  have hp3 := HP1d.out.step hB3
  have HP3 := Lib.hid hp3
  have hS3 : W3.cell? ⟨D, 0, none⟩ = some (.slice (some ⟨R, o, none⟩) room room) ∧ W3.cell? ⟨D, 1, none⟩ = some (.int .i64 (f : Nat)) ∧ W3.cell? ⟨R, o + f * 4, none⟩ = some (.int .i64 xn) ∧ W3.cell? ⟨R, o + f * 4 + 1, none⟩ = some (.int .i64 xt) ∧ W3.cell? ⟨R, o + f * 4 + 2, none⟩ = some (.int .i64 xc) ∧ W3.cell? ⟨R, o + f * 4 + 3, none⟩ = some (.slice xa xl xca) ∧ D < W3.heap.size ∧ R < W3.heap.size := by
    obtain ⟨h0, h1, h2, h3, h4, h5, h6, h7⟩ := HS.out
    have q := fun i => hB3.cell (p := ⟨D, i, none⟩) h6
    have q' := fun i => hB3.cell (p := ⟨R, i, none⟩) h7
    have := hB3.size
    exact ⟨(q _).trans h0, (q _).trans h1, (q' _).trans h2, (q' _).trans h3, (q' _).trans h4, (q' _).trans h5, by omega, by omega⟩
  have HS3 := Lib.hid hS3
  have HB3 := Lib.hid (HB1d.out.trans (hB3.mono (by have := HP1d.out.lt; omega)))
  have HBY := Lib.hid hby
  have HF : Hid (0 < xl → N < b') := Lib.hid (fun h => by have := hfr h; have := HP1d.out.lt; omega)
  have y0 := free_at hp3 0
  have y1 := free_at hp3 1
  have y2 := free_at hp3 2
  have y3 := free_at hp3 3
  have d0 : W3.cell? ⟨N, 0, none⟩ = some (.int .i64 0) := cell_at hp3 0
  have d1 : W3.cell? ⟨N, 1, none⟩ = some (.int .i64 0) := cell_at hp3 1
  have d2 : W3.cell? ⟨N, 2, none⟩ = some (.int .i64 0) := cell_at hp3 2
  have d3 : W3.cell? ⟨N, 3, none⟩ = some (.slice none 0 0) := cell_at hp3 3
  have hl := hp3.lt
  clear hby hfr hB3 hp3 hS3
  go_wp2_with fail
  refine hK.out _ _ HS3.out (fun hHeld => ?_)
  clear hK K
  try simp only [Act.put, List.setIfInBounds_toArray, List.set_cons_zero, List.set_cons_succ]
  refine wpAnyH_ready (rs := [13]) (by kernel_rfl) (by simp) ?_
  refine AllReadyH.cons (by (simp only [List.getElem?_toArray, List.getElem?_cons_succ, List.getElem?_cons_zero]); rfl) (fun K hK => ?_) AllReadyH.nil
  go_simp
  obtain ⟨WF, hWF⟩ : ∃ WF, WF = (((W3.setCell ⟨N, 0, none⟩ (.int .i64 xn)).setCell ⟨N, 1, none⟩ (.int .i64 xt)).setCell ⟨N, 2, none⟩ (.int .i64 xc)).setCell ⟨N, 3, none⟩ (.slice a' xl c') := ⟨_, rfl⟩
  have k1 : Blk WF N #[.int .i64 xn, .int .i64 xt, .int .i64 xc, .slice a' xl c'] 53 := by rw [hWF]; exact (((HP3.out.set 0 (.int .i64 xn)).set 1 (.int .i64 xt)).set 2 (.int .i64 xc)).set 3 (.slice a' xl c')
  have hBF : Below N w WF := by rw [hWF]; exact (((HB3.out.setCell (p := ⟨N, 0, none⟩) (Nat.le_refl _) _).setCell (p := ⟨N, 1, none⟩) (Nat.le_refl _) _).setCell (p := ⟨N, 2, none⟩) (Nat.le_refl _) _).setCell (p := ⟨N, 3, none⟩) (Nat.le_refl _) _
  have hnb : 0 < xl → b' ≠ N := fun h => by have := HF.out h; omega
  have k2 : ByIn WF a' xl c' b' 0 xX := by rw [hWF]; exact (((HBY.out.ne ⟨N, 0, none⟩ hnb _).ne ⟨N, 1, none⟩ hnb _).ne ⟨N, 2, none⟩ hnb _).ne ⟨N, 3, none⟩ hnb _
  have hne : ∀ k, k ≠ N → WF.heap[k]? = W3.heap[k]? := fun k hk => by rw [hWF]; exact (heap_setCell_ne _ ⟨N, 3, none⟩ _ k hk).trans ((heap_setCell_ne _ ⟨N, 2, none⟩ _ k hk).trans ((heap_setCell_ne _ ⟨N, 1, none⟩ _ k hk).trans (heap_setCell_ne _ ⟨N, 0, none⟩ _ k hk)))
  have hsz : WF.heap.size = W3.heap.size := by rw [hWF]; simp
  rw [← hWF]
  clear hWF y0 y1 y2 y3 d0 d1 d2 d3 hl
  have hSF : WF.cell? ⟨D, 0, none⟩ = some (.slice (some ⟨R, o, none⟩) room room) ∧ WF.cell? ⟨D, 1, none⟩ = some (.int .i64 (f : Nat)) ∧ WF.cell? ⟨R, o + f * 4, none⟩ = some (.int .i64 xn) ∧ WF.cell? ⟨R, o + f * 4 + 1, none⟩ = some (.int .i64 xt) ∧ WF.cell? ⟨R, o + f * 4 + 2, none⟩ = some (.int .i64 xc) ∧ WF.cell? ⟨R, o + f * 4 + 3, none⟩ = some (.slice xa xl xca) ∧ D < WF.heap.size ∧ R < WF.heap.size := by
    obtain ⟨h0, h1, h2, h3, h4, h5, h6, h7⟩ := HS3.out
    have q := fun i => cell_congr (hne D HND.out.1.symm) i
    have q' := fun i => cell_congr (hne R HND.out.2.symm) i
    exact ⟨(q _).trans h0, (q _).trans h1, (q' _).trans h2, (q' _).trans h3, (q' _).trans h4, (q' _).trans h5, by omega, by omega⟩
  have K1 := Lib.hid k1
  have K2 := Lib.hid k2
  have KB := Lib.hid hBF
  have KS := Lib.hid hSF
  clear k1 k2 hBF hSF hne hnb hsz
  refine hK.out _ _ KS.out (fun hHeld => ?_)
  clear hK K
  try simp only [Act.put, List.setIfInBounds_toArray, List.set_cons_zero, List.set_cons_succ]
  ((refine wpAnyH_take (i := 14) (v := ?_) (by (simp only [List.getElem?_toArray, List.getElem?_cons_succ, List.getElem?_cons_zero]); rfl) (by kernel_rfl) (by kernel_rfl) (by kernel_rfl) (by exact fun _ _ _ h => h) (Or.inl ⟨by rfl, ?_⟩) (by assumption) ?_); rotate_left; focus (intro wS hSw; (try dsimp only at hSw); go_simp; first | done | with_reducible rfl); try simp only [Act.put, List.setIfInBounds_toArray, List.set_cons_zero, List.set_cons_succ])
  refine wpAnyH_done (by kernel_rfl) ?_ _
  go_wp2_with fail
  have r0 : WF.cell? ⟨N, 0, none⟩ = some (.int .i64 xn) := cell_at K1.out 0
  have r1 : WF.cell? ⟨N, 1, none⟩ = some (.int .i64 xt) := cell_at K1.out 1
  have r2 : WF.cell? ⟨N, 2, none⟩ = some (.int .i64 xc) := cell_at K1.out 2
  have r3 : WF.cell? ⟨N, 3, none⟩ = some (.slice a' xl c') := cell_at K1.out 3
  exact bodyPost_ret (v := .tuple #[.agg #[.int .i64 xn, .int .i64 xt, .int .i64 xc, .slice a' xl c'], .bool true]) (by simp [results, Try.results45, go_sem, r0, r1, r2, r3]) rfl ⟨a', c', b', rfl, K2.out, (fun h => by have := HF.out h; have := HN.out; omega), HN.out ▸ KB.out⟩
end Go.Proofs.Ytoodmocapagapaa
namespace Go.Proofs.Ytoodmocapagapaa
open Go.RowKit
set_option linter.unusedSimpArgs false
set_option linter.unusedVariables false

set_option maxRecDepth 100000 in
set_option maxHeartbeats 4000000 in
theorem zhead_any (D R o room f : Nat) (by_ dr : Int) (E : Nat → PkE) (w : World) (hq : FqIn w D R o room f 0 by_ dr E) : Calls Try.prog 45 #[.pointer (some ⟨D, 0, none⟩)] w fun e w' => e = .returned (.tuple #[.agg #[.int .i64 0, .int .i64 0, .int .i64 0, .slice none 0 0], .bool false]) ∧ Below w.heap.size w w' := by
  have HQ := Lib.hid (hq.below ((Below.refl w.heap.size w).alloc (Nat.le_refl _) (.cells #[.int .i64 0, .int .i64 0, .int .i64 0, .slice none 0 0] 53)))
  clear hq
  go_enter Try.func45, Try.ntmps45
  go_wp2_with (go_at_call 31; refine (flen_any D R o room f 0 by_ dr E _ HQ.out).mono ?_; rintro e W ⟨rfl, rfl⟩)
  exact bodyPost_ret (v := .tuple #[.agg #[.int .i64 0, .int .i64 0, .int .i64 0, .slice none 0 0], .bool false]) (by simp [results, Try.results45, go_sem]) rfl ⟨rfl, (Below.refl _ _).alloc (Nat.le_refl _) _⟩

theorem FqIn.fr {W W' : World} {D R o room f n : Nat} {by_ dr : Int} {E : Nat → PkE} (h : FqIn W D R o room f n by_ dr E) {l : List Nat} (hF : Fr l W W') (hD : D ∉ l) (hR : R ∉ l) (hb : ∀ j, j < n → 0 < (E j).n → (E j).b ∉ l) : FqIn W' D R o room f n by_ dr E := by
  obtain ⟨cur, h1, h2, h3⟩ := h.ring
  refine ⟨(hF.block D h.own.lt hD).trans h.own, ⟨cur, (hF.block R h1.lt hR).trans h1, h2, h3⟩, h.ne, h.r1, h.r64, h.fl, h.nl, fun j hj => ?_⟩
  have hx := h.ld j hj
  exact ⟨⟨hx.by_.le, hx.by_.max, fun hk => ⟨(hx.by_.at_ hk).1, by have := (hx.by_.at_ hk).2; have := hF.size; omega⟩, fun k hk => (cell_congr (hF.block _ (hx.by_.at_ (by omega)).2 (hb j hj (by omega))) _).trans (hx.by_.cell k hk), hx.by_.bd⟩, hx.le, hx.d, hx.r⟩

/-- the same packet, wherever its load lies -/
def PkE.sim (x y : PkE) : Prop := x.num = y.num ∧ x.t = y.t ∧ x.c = y.c ∧ x.n = y.n ∧ ∀ j, j < x.n → x.X j = y.X j
theorem sameP_sim {x y : PkE} (h : x.sim y) : sameP x y = true := by
  obtain ⟨h1, h2, h3, h4, h5⟩ := h
  unfold sameP markB
  simp only [Bool.and_eq_true, beq_iff_eq]
  exact ⟨⟨h1, h2, h3⟩, h4, (eqB_iff _ _ _).2 h5⟩
end Go.Proofs.Ytoodmocapagapaa
namespace Go.Proofs.Ytoodmocapagapaa
open Go.RowKit
set_option linter.unusedSimpArgs false
set_option linter.unusedVariables false

end Go.Proofs.Ytoodmocapagapaa
namespace Go.Proofs.Ytoodmocapagapaa
open Go.RowKit
set_option linter.unusedSimpArgs false
set_option linter.unusedVariables false

set_option maxRecDepth 100000 in
set_option maxHeartbeats 8000000 in
theorem fpush_any2 (D R o room f n : Nat) (by_ dr : Int) (E : Nat → PkE) (num t c : Int) (a : Option Addr) (ln ca : Nat) (w : World) (hq : FqIn w D R o room f n by_ dr E) (hn : n < room) (b ob : Nat) (X : Nat → Nat) (hl : ByIn w a ln ca b ob X) (h14 : ln ≤ 1492) (hby : 0 ≤ by_ ∧ by_ ≤ 1000000) :
    Calls Try.prog 24 #[.pointer (some ⟨D, 0, none⟩), .agg #[.int .i64 num, .int .i64 t, .int .i64 c, .slice a ln ca]] w fun e w' => e = .returned (.int .i64 0) ∧ (∃ a' c' b', (0 < ln → w.heap.size ≤ b') ∧ FqIn w' D R o room f (n + 1) (by_ + (8 + (ln : Int))) dr (putE E n ⟨num, t, c, a', ln, c', b', 0, X⟩)) ∧ Fr [D, R] w w' := by
  obtain ⟨N, hN⟩ : ∃ N, N = w.heap.size := ⟨_, rfl⟩
  obtain ⟨W1, hW1⟩ : ∃ W1, W1 = w.alloc (.cells #[.int .i64 num, .int .i64 t, .int .i64 c, .slice a ln ca] 53) := ⟨_, rfl⟩
  have hB1 : Below w.heap.size w W1 := by rw [hW1]; exact (Below.refl _ _).alloc (Nat.le_refl _) _
  have hp : Blk W1 N #[.int .i64 num, .int .i64 t, .int .i64 c, .slice a ln ca] 53 := by rw [hW1, hN]; exact blk_new _ _ _
  have hD : D < N := by rw [hN]; exact hq.own.lt
  have hR : R < N := by rw [hN]; obtain ⟨_, h1, _⟩ := hq.ring; exact h1.lt
  have HB1 := Lib.hid hB1
  have HP1 := Lib.hid hp
  have HQ1 := Lib.hid (hq.below hB1)
  have HL1 := Lib.hid (hl.below hB1)
  have HN := Lib.hid hN
  have hnil : ∀ W, (binOp .eql 65 (.pointer (some ⟨D, 0, none⟩)) (.pointer none)).run Try.prog W = .ok (.bool false) W := fun _ => rfl
  have d1 : decide ((1500 : Int) < 8 + ln) = false := by simp; omega
  have p0 : W1.cell? ⟨N, 0, none⟩ = some (.int .i64 num) := cell_at hp 0
  have p1 : W1.cell? ⟨N, 1, none⟩ = some (.int .i64 t) := cell_at hp 1
  have p2 : W1.cell? ⟨N, 2, none⟩ = some (.int .i64 c) := cell_at hp 2
  have p3 : W1.cell? ⟨N, 3, none⟩ = some (.slice a ln ca) := cell_at hp 3
  have hN1 : N < W1.heap.size := hp.lt
  clear hq hl hB1 hp
  go_enter Try.func24, Try.ntmps24
  go_upto_region 3 with fail
  rw [← hN, ← hW1]
  clear hN hW1
  go_wp2_with fail
  go_at_call 42
  refine (fsize_any _ _ _ _ _ _ _ (by omega)).mono ?_
  rintro e W2 ⟨rfl, hB2⟩
  have HB2 := Lib.hid (HB1.out.trans (hB2.mono HB1.out.size))
  have HP2 := Lib.hid (HP1.out.step hB2)
  have HQ2 := Lib.hid (HQ1.out.below hB2)
  have HL2 := Lib.hid (HL1.out.below hB2)
  clear hB2 p0 p1 p2 p3 hN1
  go_upto_region 5 with fail
  have HB2d := Lib.hid (HB2.out.drew)
  have HP2d : Hid (Blk W2.drew N #[.int .i64 num, .int .i64 t, .int .i64 c, .slice a ln ca] 53) := Lib.hid HP2.out
  have HQ2d : Hid (FqIn W2.drew D R o room f n by_ dr E) := Lib.hid (HQ2.out.below ((Below.refl _ _).drew : Below W2.heap.size W2 W2.drew))
  have HL2d : Hid (ByIn W2.drew a ln ca b ob X) := Lib.hid (HL2.out.below ((Below.refl _ _).drew : Below W2.heap.size W2 W2.drew))
  refine wp_region_held_drew (S := fun X => X.cell? ⟨N, 0, none⟩ = some (.int .i64 num) ∧ X.cell? ⟨N, 1, none⟩ = some (.int .i64 t) ∧ X.cell? ⟨N, 2, none⟩ = some (.int .i64 c) ∧ X.cell? ⟨N, 3, none⟩ = some (.slice a ln ca) ∧ N < X.heap.size) (by kernel_rfl) ⟨cell_at HP2d.out 0, cell_at HP2d.out 1, cell_at HP2d.out 2, cell_at HP2d.out 3, HP2d.out.lt⟩ (fun hHeld => ?_)
  ((refine wpAnyH_take (i := 0) (v := ?_) (by (simp only [List.getElem?_toArray, List.getElem?_cons_succ, List.getElem?_cons_zero]); rfl) (by kernel_rfl) (by kernel_rfl) (by kernel_rfl) (by exact fun _ _ _ h => h) (Or.inl ⟨by rfl, ?_⟩) (by assumption) ?_); rotate_left; focus (intro wS hSw; (try dsimp only at hSw); go_simp; first | done | with_reducible rfl); try simp only [Act.put, List.setIfInBounds_toArray, List.set_cons_zero, List.set_cons_succ])
  ((refine wpAnyH_take (i := 1) (v := ?_) (by (simp only [List.getElem?_toArray, List.getElem?_cons_succ, List.getElem?_cons_zero]); rfl) (by kernel_rfl) (by kernel_rfl) (by kernel_rfl) (by exact fun _ _ _ h => h) (Or.inl ⟨by rfl, ?_⟩) (by assumption) ?_); rotate_left; focus (intro wS hSw; (try dsimp only at hSw); go_simp; first | done | with_reducible rfl); try simp only [Act.put, List.setIfInBounds_toArray, List.set_cons_zero, List.set_cons_succ])
  ((refine wpAnyH_take (i := 2) (v := ?_) (by (simp only [List.getElem?_toArray, List.getElem?_cons_succ, List.getElem?_cons_zero]); rfl) (by kernel_rfl) (by kernel_rfl) (by kernel_rfl) (by exact fun _ _ _ h => h) (Or.inl ⟨by rfl, ?_⟩) (by assumption) ?_); rotate_left; focus (intro wS hSw; (try dsimp only at hSw); go_simp; first | done | with_reducible rfl); try simp only [Act.put, List.setIfInBounds_toArray, List.set_cons_zero, List.set_cons_succ])
  ((refine wpAnyH_take (i := 3) (v := ?_) (by (simp only [List.getElem?_toArray, List.getElem?_cons_succ, List.getElem?_cons_zero]); rfl) (by kernel_rfl) (by kernel_rfl) (by kernel_rfl) (by exact fun _ _ _ h => h) (Or.inl ⟨by rfl, ?_⟩) (by assumption) ?_); rotate_left; focus (intro wS hSw; (try dsimp only at hSw); go_simp; first | done | with_reducible rfl); try simp only [Act.put, List.setIfInBounds_toArray, List.set_cons_zero, List.set_cons_succ])
  ((refine wpAnyH_ready (rs := [4]) (by kernel_rfl) (by simp) ?_); (refine AllReadyH.cons (by (simp only [List.getElem?_toArray, List.getElem?_cons_succ, List.getElem?_cons_zero]); rfl) (fun K hK => ?_) AllReadyH.nil); go_simp; refine Calls.mono (ftwin_any num t c a ln ca b ob X _ HL2d.out (by omega)) ?_)
  rintro e W3 ⟨a', c', b', rfl, hby3, hfr3, hB3⟩
  have HB3 := Lib.hid (HB2d.out.trans (hB3.mono HB2d.out.size))
  have HP3 := Lib.hid (HP2d.out.step hB3)
  have HQ3 := Lib.hid (HQ2d.out.below hB3)
  have HL3 : Hid (LdIn W3 D R ⟨num, t, c, a', ln, c', b', 0, X⟩) := Lib.hid ⟨hby3, h14, fun h0 => (by have := hfr3 h0; have := HP2d.out.lt; show b' ≠ D; omega), fun h0 => (by have := hfr3 h0; have := HP2d.out.lt; show b' ≠ R; omega)⟩
  have HFR3 : Hid (0 < ln → w.heap.size ≤ b') := Lib.hid (fun h0 => by have := hfr3 h0; have := HB2d.out.size; omega)
  clear hby3 hfr3 hB3
  go_wp2_with fail
  refine hK.out _ _ ⟨cell_at HP3.out 0, cell_at HP3.out 1, cell_at HP3.out 2, cell_at HP3.out 3, HP3.out.lt⟩ (fun hHeld => ?_)
  clear hK K
  try simp only [Act.put, List.setIfInBounds_toArray, List.set_cons_zero, List.set_cons_succ]
  ((refine wpAnyH_ready (rs := [5]) (by kernel_rfl) (by simp) ?_); (refine AllReadyH.cons (by (simp only [List.getElem?_toArray, List.getElem?_cons_succ, List.getElem?_cons_zero]); rfl) (fun K hK => ?_) AllReadyH.nil); go_simp; refine Calls.mono (ring_push D R o room f n by_ dr E num t c a' ln c' _ HQ3.out hn b' 0 X HL3.out) ?_)
  rintro e W4 ⟨rfl, hq4, hF4⟩
  have HP4 : Hid (Blk W4 N #[.int .i64 num, .int .i64 t, .int .i64 c, .slice a ln ca] 53) := Lib.hid ((hF4.block N HP3.out.lt (by simp; omega)).trans HP3.out)
  have HQ4 := Lib.hid hq4
  have HF4 : Hid (Fr [D, R] w W4) := Lib.hid (((Fr.of_below HB3.out).mono (by simp)).trans hF4 (by simp))
  clear hq4 hF4
  go_wp2_with fail
  refine hK.out _ _ ⟨cell_at HP4.out 0, cell_at HP4.out 1, cell_at HP4.out 2, cell_at HP4.out 3, HP4.out.lt⟩ (fun hHeld => ?_)
  clear hK K
  try simp only [Act.put, List.setIfInBounds_toArray, List.set_cons_zero, List.set_cons_succ]
  ((refine wpAnyH_take (i := 6) (v := ?_) (by (simp only [List.getElem?_toArray, List.getElem?_cons_succ, List.getElem?_cons_zero]); rfl) (by kernel_rfl) (by kernel_rfl) (by kernel_rfl) (by exact fun _ _ _ h => h) (Or.inl ⟨by rfl, ?_⟩) (by assumption) ?_); rotate_left; focus (intro wS hSw; (try dsimp only at hSw); go_simp; first | done | with_reducible rfl); try simp only [Act.put, List.setIfInBounds_toArray, List.set_cons_zero, List.set_cons_succ])
  ((refine wpAnyH_take (i := 7) (v := ?_) (by (simp only [List.getElem?_toArray, List.getElem?_cons_succ, List.getElem?_cons_zero]); rfl) (by kernel_rfl) (by kernel_rfl) (by kernel_rfl) (by exact fun _ _ _ h => h) (Or.inl ⟨by rfl, ?_⟩) (by assumption) ?_); rotate_left; focus (intro wS hSw; (try dsimp only at hSw); go_simp; first | done | with_reducible rfl); try simp only [Act.put, List.setIfInBounds_toArray, List.set_cons_zero, List.set_cons_succ])
  refine wpAnyH_done (by kernel_rfl) ?_ _
  go_upto_region 8 with fail
  have HP5 : Hid (Blk W4.drew N #[.int .i64 num, .int .i64 t, .int .i64 c, .slice a ln ca] 53) := Lib.hid HP4.out
  have HQ5 : Hid (FqIn W4.drew D R o room f (n + 1) by_ dr (putE E n ⟨num, t, c, a', ln, c', b', 0, X⟩)) := Lib.hid (HQ4.out.below ((Below.refl _ _).drew : Below W4.heap.size W4 W4.drew))
  have HF5 : Hid (Fr [D, R] w W4.drew) := Lib.hid HF4.out.drew
  have p0 : W4.cell? ⟨N, 0, none⟩ = some (.int .i64 num) := cell_at HP4.out 0
  have p1 : W4.cell? ⟨N, 1, none⟩ = some (.int .i64 t) := cell_at HP4.out 1
  have p2 : W4.cell? ⟨N, 2, none⟩ = some (.int .i64 c) := cell_at HP4.out 2
  have p3 : W4.cell? ⟨N, 3, none⟩ = some (.slice a ln ca) := cell_at HP4.out 3
  have pN : N < W4.heap.size := HP4.out.lt
  have k3 : W4.cell? ⟨D, 3, none⟩ = some (.int .i64 by_) := cell_at HQ4.out.own 3
  have z3 := free_at HQ4.out.own 3
  have hDW : D < W4.heap.size := HQ4.out.own.lt
  have hnD : D ≠ N := by omega
  have hw : IntKind.i64.wrap (by_ + (8 + (ln : Int))) = by_ + (8 + (ln : Int)) := by rw [IntKind.wrap_i64]; omega
  refine wp_region_held_drew (S := fun X => X.cell? ⟨N, 0, none⟩ = some (.int .i64 num) ∧ X.cell? ⟨N, 1, none⟩ = some (.int .i64 t) ∧ X.cell? ⟨N, 2, none⟩ = some (.int .i64 c) ∧ X.cell? ⟨N, 3, none⟩ = some (.slice a ln ca) ∧ N < X.heap.size) (by kernel_rfl) ⟨cell_at HP5.out 0, cell_at HP5.out 1, cell_at HP5.out 2, cell_at HP5.out 3, HP5.out.lt⟩ (fun hHeld => ?_)
  ((refine wpAnyH_take (i := 0) (v := ?_) (by (simp only [List.getElem?_toArray, List.getElem?_cons_succ, List.getElem?_cons_zero]); rfl) (by kernel_rfl) (by kernel_rfl) (by kernel_rfl) (by exact fun _ _ _ h => h) (Or.inl ⟨by rfl, ?_⟩) (by assumption) ?_); rotate_left; focus (intro wS hSw; (try dsimp only at hSw); go_simp; first | done | with_reducible rfl); try simp only [Act.put, List.setIfInBounds_toArray, List.set_cons_zero, List.set_cons_succ])
  ((refine wpAnyH_take (i := 1) (v := ?_) (by (simp only [List.getElem?_toArray, List.getElem?_cons_succ, List.getElem?_cons_zero]); rfl) (by kernel_rfl) (by kernel_rfl) (by kernel_rfl) (by exact fun _ _ _ h => h) (Or.inl ⟨by rfl, ?_⟩) (by assumption) ?_); rotate_left; focus (intro wS hSw; (try dsimp only at hSw); go_simp; first | done | with_reducible rfl); try simp only [Act.put, List.setIfInBounds_toArray, List.set_cons_zero, List.set_cons_succ])
  ((refine wpAnyH_take (i := 2) (v := ?_) (by (simp only [List.getElem?_toArray, List.getElem?_cons_succ, List.getElem?_cons_zero]); rfl) (by kernel_rfl) (by kernel_rfl) (by kernel_rfl) (by exact fun _ _ _ h => h) (Or.inl ⟨by rfl, ?_⟩) (by assumption) ?_); rotate_left; focus (intro wS hSw; (try dsimp only at hSw); go_simp; first | done | with_reducible rfl); try simp only [Act.put, List.setIfInBounds_toArray, List.set_cons_zero, List.set_cons_succ])
  ((refine wpAnyH_take (i := 4) (v := ?_) (by (simp only [List.getElem?_toArray, List.getElem?_cons_succ, List.getElem?_cons_zero]); rfl) (by kernel_rfl) (by kernel_rfl) (by kernel_rfl) (by exact fun _ _ _ h => h) (Or.inl ⟨by rfl, ?_⟩) (by assumption) ?_); rotate_left; focus (intro wS hSw; (try dsimp only at hSw); go_simp; first | done | with_reducible rfl); try simp only [Act.put, List.setIfInBounds_toArray, List.set_cons_zero, List.set_cons_succ])
  refine wpAnyH_ready (rs := [3, 5]) (by kernel_rfl) (by simp) ?_
  refine AllReadyH.cons (by (simp only [List.getElem?_toArray, List.getElem?_cons_succ, List.getElem?_cons_zero]); rfl) (fun K hK => ?_) (AllReadyH.cons (by (simp only [List.getElem?_toArray, List.getElem?_cons_succ, List.getElem?_cons_zero]); rfl) (fun K hK => ?_) AllReadyH.nil)
  · go_simp
    refine hK.out _ _ ⟨cell_at HP5.out 0, cell_at HP5.out 1, cell_at HP5.out 2, cell_at HP5.out 3, HP5.out.lt⟩ (fun hHeld => ?_)
    clear hK K
    try simp only [Act.put, List.setIfInBounds_toArray, List.set_cons_zero, List.set_cons_succ]
    ((refine wpAnyH_ready (rs := [5]) (by kernel_rfl) (by simp) ?_); (refine AllReadyH.cons (by (simp only [List.getElem?_toArray, List.getElem?_cons_succ, List.getElem?_cons_zero]); rfl) (fun K hK => ?_) AllReadyH.nil); go_simp; refine Calls.mono (fsize_any _ _ _ _ _ _ _ (by omega)) ?_)
    rintro e W6 ⟨rfl, hB6⟩
    have HP6 := Lib.hid (HP5.out.step hB6)
    have HQ6 := Lib.hid (HQ5.out.below hB6)
    have HF6 : Hid (Fr [D, R] w W6) := Lib.hid (HF5.out.trans (Fr.of_below hB6) (by simp))
    have k6 : W6.cell? ⟨D, 3, none⟩ = some (.int .i64 by_) := cell_at HQ6.out.own 3
    have z6 := free_at HQ6.out.own 3
    have hD6 : D < W6.heap.size := HQ6.out.own.lt
    clear hB6
    go_wp2_with fail
    refine hK.out _ _ ⟨cell_at HP6.out 0, cell_at HP6.out 1, cell_at HP6.out 2, cell_at HP6.out 3, HP6.out.lt⟩ (fun hHeld => ?_)
    clear hK K
    try simp only [Act.put, List.setIfInBounds_toArray, List.set_cons_zero, List.set_cons_succ]
    ((refine wpAnyH_take (i := 6) (v := ?_) (by (simp only [List.getElem?_toArray, List.getElem?_cons_succ, List.getElem?_cons_zero]); rfl) (by kernel_rfl) (by kernel_rfl) (by kernel_rfl) (by exact fun _ _ _ h => h) (Or.inl ⟨by rfl, ?_⟩) (by assumption) ?_); rotate_left; focus (intro wS hSw; (try dsimp only at hSw); go_simp; first | done | with_reducible rfl); try simp only [Act.put, List.setIfInBounds_toArray, List.set_cons_zero, List.set_cons_succ])
    ((refine wpAnyH_take (i := 7) (v := ?_) (by (simp only [List.getElem?_toArray, List.getElem?_cons_succ, List.getElem?_cons_zero]); rfl) (by kernel_rfl) (by kernel_rfl) (by kernel_rfl) (by exact fun _ _ _ h => h) (Or.inl ⟨by rfl, ?_⟩) (by assumption) ?_); rotate_left; focus (intro wS hSw; (try dsimp only at hSw); go_simp; first | done | with_reducible rfl); try simp only [Act.put, List.setIfInBounds_toArray, List.set_cons_zero, List.set_cons_succ])
    ((refine wpAnyH_take (i := 8) (v := ?_) (by (simp only [List.getElem?_toArray, List.getElem?_cons_succ, List.getElem?_cons_zero]); rfl) (by kernel_rfl) (by kernel_rfl) (by kernel_rfl) (by exact fun _ _ _ h => h) (Or.inl ⟨by rfl, ?_⟩) (by assumption) ?_); rotate_left; focus (intro wS hSw; (try dsimp only at hSw); go_simp; first | done | with_reducible rfl); try simp only [Act.put, List.setIfInBounds_toArray, List.set_cons_zero, List.set_cons_succ])
    refine wpAnyH_ready (rs := [9]) (by kernel_rfl) (by simp) ?_
    refine AllReadyH.cons (by (simp only [List.getElem?_toArray, List.getElem?_cons_succ, List.getElem?_cons_zero]); rfl) (fun K hK => ?_) AllReadyH.nil
    go_simp
    have HP7 := Lib.hid (HP6.out.ne ⟨D, 3, none⟩ hnD.symm (.int .i64 (by_ + (8 + (ln : Int)))))
    have HQ7 := Lib.hid (HQ6.out.bytes (by_ + (8 + (ln : Int))))
    have HF7 := Lib.hid (HF6.out.setCell ⟨D, 3, none⟩ (.inl (by simp)) (.int .i64 (by_ + (8 + (ln : Int)))))
    refine hK.out _ _ ⟨cell_at HP7.out 0, cell_at HP7.out 1, cell_at HP7.out 2, cell_at HP7.out 3, HP7.out.lt⟩ (fun hHeld => ?_)
    clear hK K
    try simp only [Act.put, List.setIfInBounds_toArray, List.set_cons_zero, List.set_cons_succ]
    refine wpAnyH_done (by kernel_rfl) ?_ _
    go_wp2_with fail
    go_ret
    exact ⟨rfl, ⟨a', c', b', HFR3.out, HQ7.out⟩, HF7.out⟩
  · go_simp
    refine Calls.mono (fsize_any _ _ _ _ _ _ _ (by omega)) ?_
    rintro e W6 ⟨rfl, hB6⟩
    have HP6 := Lib.hid (HP5.out.step hB6)
    have HQ6 := Lib.hid (HQ5.out.below hB6)
    have HF6 : Hid (Fr [D, R] w W6) := Lib.hid (HF5.out.trans (Fr.of_below hB6) (by simp))
    have k6 : W6.cell? ⟨D, 3, none⟩ = some (.int .i64 by_) := cell_at HQ6.out.own 3
    have z6 := free_at HQ6.out.own 3
    have hD6 : D < W6.heap.size := HQ6.out.own.lt
    clear hB6
    go_wp2_with fail
    refine hK.out _ _ ⟨cell_at HP6.out 0, cell_at HP6.out 1, cell_at HP6.out 2, cell_at HP6.out 3, HP6.out.lt⟩ (fun hHeld => ?_)
    clear hK K
    try simp only [Act.put, List.setIfInBounds_toArray, List.set_cons_zero, List.set_cons_succ]
    refine wpAnyH_ready (rs := [3]) (by kernel_rfl) (by simp) ?_
    refine AllReadyH.cons (by (simp only [List.getElem?_toArray, List.getElem?_cons_succ, List.getElem?_cons_zero]); rfl) (fun K hK => ?_) AllReadyH.nil
    go_simp
    refine hK.out _ _ ⟨cell_at HP6.out 0, cell_at HP6.out 1, cell_at HP6.out 2, cell_at HP6.out 3, HP6.out.lt⟩ (fun hHeld => ?_)
    clear hK K
    try simp only [Act.put, List.setIfInBounds_toArray, List.set_cons_zero, List.set_cons_succ]
    ((refine wpAnyH_take (i := 6) (v := ?_) (by (simp only [List.getElem?_toArray, List.getElem?_cons_succ, List.getElem?_cons_zero]); rfl) (by kernel_rfl) (by kernel_rfl) (by kernel_rfl) (by exact fun _ _ _ h => h) (Or.inl ⟨by rfl, ?_⟩) (by assumption) ?_); rotate_left; focus (intro wS hSw; (try dsimp only at hSw); go_simp; first | done | with_reducible rfl); try simp only [Act.put, List.setIfInBounds_toArray, List.set_cons_zero, List.set_cons_succ])
    ((refine wpAnyH_take (i := 7) (v := ?_) (by (simp only [List.getElem?_toArray, List.getElem?_cons_succ, List.getElem?_cons_zero]); rfl) (by kernel_rfl) (by kernel_rfl) (by kernel_rfl) (by exact fun _ _ _ h => h) (Or.inl ⟨by rfl, ?_⟩) (by assumption) ?_); rotate_left; focus (intro wS hSw; (try dsimp only at hSw); go_simp; first | done | with_reducible rfl); try simp only [Act.put, List.setIfInBounds_toArray, List.set_cons_zero, List.set_cons_succ])
    ((refine wpAnyH_take (i := 8) (v := ?_) (by (simp only [List.getElem?_toArray, List.getElem?_cons_succ, List.getElem?_cons_zero]); rfl) (by kernel_rfl) (by kernel_rfl) (by kernel_rfl) (by exact fun _ _ _ h => h) (Or.inl ⟨by rfl, ?_⟩) (by assumption) ?_); rotate_left; focus (intro wS hSw; (try dsimp only at hSw); go_simp; first | done | with_reducible rfl); try simp only [Act.put, List.setIfInBounds_toArray, List.set_cons_zero, List.set_cons_succ])
    refine wpAnyH_ready (rs := [9]) (by kernel_rfl) (by simp) ?_
    refine AllReadyH.cons (by (simp only [List.getElem?_toArray, List.getElem?_cons_succ, List.getElem?_cons_zero]); rfl) (fun K hK => ?_) AllReadyH.nil
    go_simp
    have HP7 := Lib.hid (HP6.out.ne ⟨D, 3, none⟩ hnD.symm (.int .i64 (by_ + (8 + (ln : Int)))))
    have HQ7 := Lib.hid (HQ6.out.bytes (by_ + (8 + (ln : Int))))
    have HF7 := Lib.hid (HF6.out.setCell ⟨D, 3, none⟩ (.inl (by simp)) (.int .i64 (by_ + (8 + (ln : Int)))))
    refine hK.out _ _ ⟨cell_at HP7.out 0, cell_at HP7.out 1, cell_at HP7.out 2, cell_at HP7.out 3, HP7.out.lt⟩ (fun hHeld => ?_)
    clear hK K
    try simp only [Act.put, List.setIfInBounds_toArray, List.set_cons_zero, List.set_cons_succ]
    refine wpAnyH_done (by kernel_rfl) ?_ _
    go_wp2_with fail
    go_ret
    exact ⟨rfl, ⟨a', c', b', HFR3.out, HQ7.out⟩, HF7.out⟩

end Go.Proofs.Ytoodmocapagapaa
namespace Go.Proofs.Ytoodmocapagapaa
open Go.RowKit
set_option linter.unusedSimpArgs false
set_option linter.unusedVariables false

/-- is a tag given? -/
def goodTag (V : Int) (n : Nat) (T : Nat → TagsE) (k cost at_ : Int) : Bool := vokB V n T && decide (0 ≤ k) && decide (k < n) && (cost != 0) && decide (at_ ≤ 1152921504606846976 - cost)
def TagRes (w : World) (V : Int) (n : Nat) (T : Nat → TagsE) (k : Nat) (cost at_ : Int) (e : Ending) (w' : World) : Bool → Prop
  | true => VRes w V n (updT T k ⟨at_, at_ + cost⟩) 0 e w'
  | false => VRes w 0 0 zeroT 2 e w'

theorem own_k {W : World} {n : Nat} {T : Nat → TagsE} {a : Option Addr} {c : Nat} {ob : Option Nat} (h : Row W (.slice a n c) ob 129 2 n (tagsL T n)) {k : Nat} (hk : k < n) : ∃ g, ob = some g ∧ a = some ⟨g, 0, none⟩ ∧ g < W.heap.size ∧
    W.cell? ⟨g, k * 2, none⟩ = some (.int .i64 (T k).s) ∧ W.cell? ⟨g, k * 2 + 1, none⟩ = some (.int .i64 (T k).f) ∧ W.frozen? ⟨g, k * 2, none⟩ = false ∧ W.frozen? ⟨g, k * 2 + 1, none⟩ = false := by
  obtain ⟨g, rfl, c0, f0⟩ := h.cell (k * 2) (by omega)
  obtain ⟨g', e, c1, f1⟩ := h.cell (k * 2 + 1) (by omega)
  obtain rfl := Option.some.inj e
  have h0 := tagsL_at T n k 0 hk (by omega)
  have h1 := tagsL_at T n k 1 hk (by omega)
  rw [Nat.add_zero] at h0
  rw [h0] at c0
  rw [h1] at c1
  exact ⟨g, rfl, h.own, h.lt, c0, c1, f0, f1⟩

theorem row_tag {W : World} {n k : Nat} {T : Nat → TagsE} {a : Option Addr} {c g : Nat} {s f : Int} (h : Row W (.slice a n c) (some g) 129 2 n (tagsL T n)) (hk : k < n) : Row ((W.setCell ⟨g, k * 2, none⟩ (.int .i64 s)).setCell ⟨g, k * 2 + 1, none⟩ (.int .i64 f)) (.slice a n c) (some g) 129 2 n (tagsL (updT T k ⟨s, f⟩) n) := by
  have := (h.set (k * 2) (.int .i64 s)).set (k * 2 + 1) (.int .i64 f)
  rwa [tagsL_upd T k s f n hk] at this
theorem Row.other {w : World} {v : Value} {g : Nat} {e : TypeId} {size n : Nat} {xs : List Value} (h : Row w v (some g) e size n xs) (b j : Nat) (hb : b ≠ g) (u : Value) : Row (w.setCell ⟨b, j, none⟩ u) v (some g) e size n xs :=
  h.congr fun g' e => by obtain rfl := Option.some.inj e; exact heap_setCell_ne _ _ _ _ (by simp only; omega)

set_option maxRecDepth 100000 in
set_option maxHeartbeats 8000000 in
theorem beginW_good (V : Int) (a : Option Addr) (n c b o : Nat) (T : Nat → TagsE) (k : Nat) (cost at_ : Int) (g : Nat) (w : World) (hs : TagsIn w a n c b o T) (hn : n * 16 ≤ 140737488351232) (hk : k < n) (hok : vokB V n T = true)
    (h0 : 0 < cost) (h1 : cost ≤ 138378240000) (ha : at_ = max (T k).f V) (hat : at_ ≤ 1152921504606846976 - cost) (ha0 : 0 ≤ at_) (hg : w.cell? ⟨g, 0, none⟩ = some (.int .i64 V)) (hgl : g < w.heap.size) :
    Calls Try.prog 75 #[.agg #[.int .i64 V, .slice a n c], .int .i64 k, .int .i64 cost, .func (.func 78) #[] #[.pointer (some ⟨g, 0, none⟩)]] w (VRes w V n (updT T k ⟨at_, at_ + cost⟩) 0) := by
  have hm := hs.max
  have hl := hs.le
  unfold maxLen at hm
  have HQ := Lib.hid (VB2.mk0 w #[.int .i64 V, .slice a n c] #[.int .i64 0, .slice none 0 0] 99 99)
  have HS := Lib.hid hs
  have C1 : Hid (∀ W, TagsIn W a n c b o T → Calls Try.prog 65 #[.agg #[.int .i64 V, .slice a n c]] W fun e w' => e = .returned (.bool true) ∧ Below W.heap.size W w') := Lib.hid (fun W h => by rw [← hok]; exact check_any V a n c b o T W h)
  obtain ⟨e0, e1⟩ := hs.at_ (by omega)
  subst e0
  have C3 := Lib.hid (fun W h => twin_any V (some ⟨b, o, none⟩) n c b o T W h hn)
  obtain ⟨s, hs1⟩ : ∃ s, s = (T k).s := ⟨_, rfl⟩
  obtain ⟨f, hf1⟩ : ∃ f, f = (T k).f := ⟨_, rfl⟩
  rw [← hf1] at ha
  have HW : Hid (∀ W, Below w.heap.size w W → Calls Try.prog 78 #[.agg #[.int .i64 s, .int .i64 f], .pointer (some ⟨g, 0, none⟩)] W fun e w' => e = .returned (.int .i64 at_) ∧ W.alloc (.cells #[.int .i64 s, .int .i64 f] 129) = w') :=
    Lib.hid (fun W h => by rw [ha]; exact wake1_any s f V g W ((h.cell (p := ⟨g, 0, none⟩) hgl).trans hg) (by have := h.size; omega))
  have HK : Hid (∀ W, Below w.heap.size w W → W.cell? ⟨b, o + k * 2, none⟩ = some (.int .i64 s) ∧ W.cell? ⟨b, o + k * 2 + 1, none⟩ = some (.int .i64 f)) := Lib.hid (fun W h => by rw [hs1, hf1]; exact (hs.below h).cell k hk)
  have b1 : (cost == 0) = false := by simp; omega
  have b2 : decide (n ≤ k) = false := by simp; omega
  have b3 : decide ((k : Int) < 0) = false := by simp
  clear hs hok ha hs1 hf1 hg
  go_enter Try.func75, Try.ntmps75
  go_wp2_with (first
    | (go_at_call 65; refine Calls.mono (C1.out _ (HS.out.below HQ.out.2.2)) ?_; rintro e W1 ⟨rfl, hW1⟩; have HQ1 := Lib.hid (HQ.out.step hW1); have r0 := HQ1.out.1.1; have y0 := HQ1.out.1.2.1; have z0 := HQ1.out.1.2.2; have r1 := HQ1.out.2.1.1; have y1 := HQ1.out.2.1.2.1; have z1 := HQ1.out.2.1.2.2; have KK := HK.out W1 HQ1.out.2.2; obtain ⟨k0, k1⟩ := KK)
    | (go_at_call 78; refine Calls.mono (HW.out _ HQ1.out.2.2) ?_; rintro e W2 ⟨rfl, rfl⟩))
  go_at_call 71
  refine Calls.mono (C3.out _ (HS.out.below (HQ1.out.alloc _).2.2)) ?_
  rintro e W2 ⟨v2, rfl, hV2⟩
  obtain ⟨a2, c2, ob2, rfl, hR, hO, hB⟩ := hV2
  have T3 := own_k hR hk
  obtain ⟨g2, rfl, rfl, hg2, u0, u1, v0, v1⟩ := T3
  have hgo := hO g2 rfl
  simp only [World.size_alloc] at hgo
  have zz := HQ1.out.2.1.2.2
  have HQ2 := Lib.hid ((HQ1.out.alloc _).step hB)
  have HR := Lib.hid hR
  clear hO hB hR r0 y0 z0 r1 y1 z1 k0 k1
  have r0 := HQ2.out.1.1
  have y0 := HQ2.out.1.2.1
  have z0 := HQ2.out.1.2.2
  have r1 := HQ2.out.2.1.1
  have y1 := HQ2.out.2.1.2.1
  have z1 := HQ2.out.2.1.2.2
  have q1 : (g2 = w.heap.size) = False := eq_false (by omega)
  have q2 : (w.heap.size = g2) = False := eq_false (by omega)
  have q3 : (g2 = w.heap.size + 1) = False := eq_false (by omega)
  have q4 : (w.heap.size + 1 = g2) = False := eq_false (by omega)
  go_wp2_with fail
  refine bodyPost_ret (v := .tuple #[.agg #[.int .i64 V, .slice (some ⟨g2, 0, none⟩) n c2], .int .i64 0]) (by simp [results, Try.results75, go_sem, z1, r1, y1]) rfl ⟨_, rfl, _, _, some g2, rfl, ?_, ?_, ?_⟩
  · exact ((row_tag ((HR.out.other _ 0 (by omega) _).other _ 1 (by omega) _) hk).other _ 0 (by omega) _).other _ 1 (by omega) _
  · intro g' e
    obtain rfl := Option.some.inj e
    omega
  · exact (((((HQ2.out.2.2.setCell (by simp only; omega) _).setCell (by simp only; omega) _).setCell (by simp only; omega) _).setCell (by simp only; omega) _).setCell (by simp only; omega) _).setCell (by simp only; omega) _
set_option maxRecDepth 100000 in
set_option maxHeartbeats 8000000 in
theorem beginN_good (V : Int) (a : Option Addr) (n c b o : Nat) (T : Nat → TagsE) (k : Nat) (cost at_ : Int) (w : World) (hs : TagsIn w a n c b o T) (hn : n * 16 ≤ 140737488351232) (hk : k < n) (hok : vokB V n T = true)
    (h0 : 0 < cost) (h1 : cost ≤ 138378240000) (ha : at_ = (T k).f) (hat : at_ ≤ 1152921504606846976 - cost) (ha0 : 0 ≤ at_) :
    Calls Try.prog 75 #[.agg #[.int .i64 V, .slice a n c], .int .i64 k, .int .i64 cost, .func (.func 77) #[] #[]] w (VRes w V n (updT T k ⟨at_, at_ + cost⟩) 0) := by
  have hm := hs.max
  have hl := hs.le
  unfold maxLen at hm
  have HQ := Lib.hid (VB2.mk0 w #[.int .i64 V, .slice a n c] #[.int .i64 0, .slice none 0 0] 99 99)
  have HS := Lib.hid hs
  have C1 : Hid (∀ W, TagsIn W a n c b o T → Calls Try.prog 65 #[.agg #[.int .i64 V, .slice a n c]] W fun e w' => e = .returned (.bool true) ∧ Below W.heap.size W w') := Lib.hid (fun W h => by rw [← hok]; exact check_any V a n c b o T W h)
  obtain ⟨e0, e1⟩ := hs.at_ (by omega)
  subst e0
  have C3 := Lib.hid (fun W h => twin_any V (some ⟨b, o, none⟩) n c b o T W h hn)
  obtain ⟨s, hs1⟩ : ∃ s, s = (T k).s := ⟨_, rfl⟩
  obtain ⟨f, hf1⟩ : ∃ f, f = (T k).f := ⟨_, rfl⟩
  rw [← hf1] at ha
  have HW : Hid (∀ W, Below w.heap.size w W → Calls Try.prog 77 #[.agg #[.int .i64 s, .int .i64 f]] W fun e w' => e = .returned (.int .i64 at_) ∧ W.alloc (.cells #[.int .i64 s, .int .i64 f] 129) = w') :=
    Lib.hid (fun W h => by rw [ha]; exact next1_any s f W)
  have HK : Hid (∀ W, Below w.heap.size w W → W.cell? ⟨b, o + k * 2, none⟩ = some (.int .i64 s) ∧ W.cell? ⟨b, o + k * 2 + 1, none⟩ = some (.int .i64 f)) := Lib.hid (fun W h => by rw [hs1, hf1]; exact (hs.below h).cell k hk)
  have b1 : (cost == 0) = false := by simp; omega
  have b2 : decide (n ≤ k) = false := by simp; omega
  have b3 : decide ((k : Int) < 0) = false := by simp
  clear hs hok ha hs1 hf1
  go_enter Try.func75, Try.ntmps75
  go_wp2_with (first
    | (go_at_call 65; refine Calls.mono (C1.out _ (HS.out.below HQ.out.2.2)) ?_; rintro e W1 ⟨rfl, hW1⟩; have HQ1 := Lib.hid (HQ.out.step hW1); have r0 := HQ1.out.1.1; have y0 := HQ1.out.1.2.1; have z0 := HQ1.out.1.2.2; have r1 := HQ1.out.2.1.1; have y1 := HQ1.out.2.1.2.1; have z1 := HQ1.out.2.1.2.2; have KK := HK.out W1 HQ1.out.2.2; obtain ⟨k0, k1⟩ := KK)
    | (go_at_call 77; refine Calls.mono (HW.out _ HQ1.out.2.2) ?_; rintro e W2 ⟨rfl, rfl⟩))
  go_at_call 71
  refine Calls.mono (C3.out _ (HS.out.below (HQ1.out.alloc _).2.2)) ?_
  rintro e W2 ⟨v2, rfl, hV2⟩
  obtain ⟨a2, c2, ob2, rfl, hR, hO, hB⟩ := hV2
  have T3 := own_k hR hk
  obtain ⟨g2, rfl, rfl, hg2, u0, u1, v0, v1⟩ := T3
  have hgo := hO g2 rfl
  simp only [World.size_alloc] at hgo
  have zz := HQ1.out.2.1.2.2
  have HQ2 := Lib.hid ((HQ1.out.alloc _).step hB)
  have HR := Lib.hid hR
  clear hO hB hR r0 y0 z0 r1 y1 z1 k0 k1
  have r0 := HQ2.out.1.1
  have y0 := HQ2.out.1.2.1
  have z0 := HQ2.out.1.2.2
  have r1 := HQ2.out.2.1.1
  have y1 := HQ2.out.2.1.2.1
  have z1 := HQ2.out.2.1.2.2
  have q1 : (g2 = w.heap.size) = False := eq_false (by omega)
  have q2 : (w.heap.size = g2) = False := eq_false (by omega)
  have q3 : (g2 = w.heap.size + 1) = False := eq_false (by omega)
  have q4 : (w.heap.size + 1 = g2) = False := eq_false (by omega)
  go_wp2_with fail
  refine bodyPost_ret (v := .tuple #[.agg #[.int .i64 V, .slice (some ⟨g2, 0, none⟩) n c2], .int .i64 0]) (by simp [results, Try.results75, go_sem, z1, r1, y1]) rfl ⟨_, rfl, _, _, some g2, rfl, ?_, ?_, ?_⟩
  · exact ((row_tag ((HR.out.other _ 0 (by omega) _).other _ 1 (by omega) _) hk).other _ 0 (by omega) _).other _ 1 (by omega) _
  · intro g' e
    obtain rfl := Option.some.inj e
    omega
  · exact (((((HQ2.out.2.2.setCell (by simp only; omega) _).setCell (by simp only; omega) _).setCell (by simp only; omega) _).setCell (by simp only; omega) _).setCell (by simp only; omega) _).setCell (by simp only; omega) _
set_option maxRecDepth 100000 in
set_option maxHeartbeats 8000000 in
theorem beginW_far (V : Int) (a : Option Addr) (n c b o : Nat) (T : Nat → TagsE) (k : Nat) (cost at_ : Int) (g : Nat) (w : World) (hs : TagsIn w a n c b o T) (hn : n * 16 ≤ 140737488351232) (hk : k < n) (hok : vokB V n T = true)
    (h0 : 0 < cost) (h1 : cost ≤ 138378240000) (ha : at_ = max (T k).f V) (hat : 1152921504606846976 - cost < at_) (hg : w.cell? ⟨g, 0, none⟩ = some (.int .i64 V)) (hgl : g < w.heap.size) :
    Calls Try.prog 75 #[.agg #[.int .i64 V, .slice a n c], .int .i64 k, .int .i64 cost, .func (.func 78) #[] #[.pointer (some ⟨g, 0, none⟩)]] w (VRes w 0 0 zeroT 2) := by
  have hm := hs.max
  have hl := hs.le
  unfold maxLen at hm
  have HQ := Lib.hid (VB2.mk0 w #[.int .i64 V, .slice a n c] #[.int .i64 0, .slice none 0 0] 99 99)
  have HS := Lib.hid hs
  have C1 : Hid (∀ W, TagsIn W a n c b o T → Calls Try.prog 65 #[.agg #[.int .i64 V, .slice a n c]] W fun e w' => e = .returned (.bool true) ∧ Below W.heap.size W w') := Lib.hid (fun W h => by rw [← hok]; exact check_any V a n c b o T W h)
  obtain ⟨e0, e1⟩ := hs.at_ (by omega)
  subst e0
  obtain ⟨s, hs1⟩ : ∃ s, s = (T k).s := ⟨_, rfl⟩
  obtain ⟨f, hf1⟩ : ∃ f, f = (T k).f := ⟨_, rfl⟩
  rw [← hf1] at ha
  have HW : Hid (∀ W, Below w.heap.size w W → Calls Try.prog 78 #[.agg #[.int .i64 s, .int .i64 f], .pointer (some ⟨g, 0, none⟩)] W fun e w' => e = .returned (.int .i64 at_) ∧ W.alloc (.cells #[.int .i64 s, .int .i64 f] 129) = w') :=
    Lib.hid (fun W h => by rw [ha]; exact wake1_any s f V g W ((h.cell (p := ⟨g, 0, none⟩) hgl).trans hg) (by have := h.size; omega))
  have HK : Hid (∀ W, Below w.heap.size w W → W.cell? ⟨b, o + k * 2, none⟩ = some (.int .i64 s) ∧ W.cell? ⟨b, o + k * 2 + 1, none⟩ = some (.int .i64 f)) := Lib.hid (fun W h => by rw [hs1, hf1]; exact (hs.below h).cell k hk)
  have b1 : (cost == 0) = false := by simp; omega
  have b2 : decide (n ≤ k) = false := by simp; omega
  have b3 : decide ((k : Int) < 0) = false := by simp
  clear hs hok ha hs1 hf1 hg
  go_enter Try.func75, Try.ntmps75
  go_wp2_with (first
    | (go_at_call 65; refine Calls.mono (C1.out _ (HS.out.below HQ.out.2.2)) ?_; rintro e W1 ⟨rfl, hW1⟩; have HQ1 := Lib.hid (HQ.out.step hW1); have r0 := HQ1.out.1.1; have y0 := HQ1.out.1.2.1; have z0 := HQ1.out.1.2.2; have r1 := HQ1.out.2.1.1; have y1 := HQ1.out.2.1.2.1; have z1 := HQ1.out.2.1.2.2; have KK := HK.out W1 HQ1.out.2.2; obtain ⟨k0, k1⟩ := KK)
    | (go_at_call 78; refine Calls.mono (HW.out _ HQ1.out.2.2) ?_; rintro e W2 ⟨rfl, rfl⟩))
  refine bodyPost_ret (v := .tuple #[.agg #[.int .i64 0, .slice none 0 0], .int .i64 2]) (by simp [results, Try.results75, go_sem, z1, r1, y1]) rfl ⟨_, rfl, none, 0, none, rfl, Row.nil _ _ _, (fun _ h => by cases h), ?_⟩
  exact ((HQ1.out.2.2.setCell (by simp only; omega) _).setCell (by simp only; omega) _).alloc (by have := HQ1.out.2.2.size; simp; omega) _
set_option maxRecDepth 100000 in
set_option maxHeartbeats 8000000 in
theorem beginN_far (V : Int) (a : Option Addr) (n c b o : Nat) (T : Nat → TagsE) (k : Nat) (cost at_ : Int) (w : World) (hs : TagsIn w a n c b o T) (hn : n * 16 ≤ 140737488351232) (hk : k < n) (hok : vokB V n T = true)
    (h0 : 0 < cost) (h1 : cost ≤ 138378240000) (ha : at_ = (T k).f) (hat : 1152921504606846976 - cost < at_) :
    Calls Try.prog 75 #[.agg #[.int .i64 V, .slice a n c], .int .i64 k, .int .i64 cost, .func (.func 77) #[] #[]] w (VRes w 0 0 zeroT 2) := by
  have hm := hs.max
  have hl := hs.le
  unfold maxLen at hm
  have HQ := Lib.hid (VB2.mk0 w #[.int .i64 V, .slice a n c] #[.int .i64 0, .slice none 0 0] 99 99)
  have HS := Lib.hid hs
  have C1 : Hid (∀ W, TagsIn W a n c b o T → Calls Try.prog 65 #[.agg #[.int .i64 V, .slice a n c]] W fun e w' => e = .returned (.bool true) ∧ Below W.heap.size W w') := Lib.hid (fun W h => by rw [← hok]; exact check_any V a n c b o T W h)
  obtain ⟨e0, e1⟩ := hs.at_ (by omega)
  subst e0
  obtain ⟨s, hs1⟩ : ∃ s, s = (T k).s := ⟨_, rfl⟩
  obtain ⟨f, hf1⟩ : ∃ f, f = (T k).f := ⟨_, rfl⟩
  rw [← hf1] at ha
  have HW : Hid (∀ W, Below w.heap.size w W → Calls Try.prog 77 #[.agg #[.int .i64 s, .int .i64 f]] W fun e w' => e = .returned (.int .i64 at_) ∧ W.alloc (.cells #[.int .i64 s, .int .i64 f] 129) = w') :=
    Lib.hid (fun W h => by rw [ha]; exact next1_any s f W)
  have HK : Hid (∀ W, Below w.heap.size w W → W.cell? ⟨b, o + k * 2, none⟩ = some (.int .i64 s) ∧ W.cell? ⟨b, o + k * 2 + 1, none⟩ = some (.int .i64 f)) := Lib.hid (fun W h => by rw [hs1, hf1]; exact (hs.below h).cell k hk)
  have b1 : (cost == 0) = false := by simp; omega
  have b2 : decide (n ≤ k) = false := by simp; omega
  have b3 : decide ((k : Int) < 0) = false := by simp
  clear hs hok ha hs1 hf1
  go_enter Try.func75, Try.ntmps75
  go_wp2_with (first
    | (go_at_call 65; refine Calls.mono (C1.out _ (HS.out.below HQ.out.2.2)) ?_; rintro e W1 ⟨rfl, hW1⟩; have HQ1 := Lib.hid (HQ.out.step hW1); have r0 := HQ1.out.1.1; have y0 := HQ1.out.1.2.1; have z0 := HQ1.out.1.2.2; have r1 := HQ1.out.2.1.1; have y1 := HQ1.out.2.1.2.1; have z1 := HQ1.out.2.1.2.2; have KK := HK.out W1 HQ1.out.2.2; obtain ⟨k0, k1⟩ := KK)
    | (go_at_call 77; refine Calls.mono (HW.out _ HQ1.out.2.2) ?_; rintro e W2 ⟨rfl, rfl⟩))
  refine bodyPost_ret (v := .tuple #[.agg #[.int .i64 0, .slice none 0 0], .int .i64 2]) (by simp [results, Try.results75, go_sem, z1, r1, y1]) rfl ⟨_, rfl, none, 0, none, rfl, Row.nil _ _ _, (fun _ h => by cases h), ?_⟩
  exact ((HQ1.out.2.2.setCell (by simp only; omega) _).setCell (by simp only; omega) _).alloc (by have := HQ1.out.2.2.size; simp; omega) _
set_option maxRecDepth 100000 in
set_option maxHeartbeats 8000000 in
theorem begin_bad (V : Int) (a : Option Addr) (n c b o : Nat) (T : Nat → TagsE) (k cost : Int) (fv : Value) (w : World) (hs : TagsIn w a n c b o T)
    (hh : vokB V n T = false ∨ (vokB V n T = true ∧ k < 0) ∨ (vokB V n T = true ∧ 0 ≤ k ∧ n ≤ k) ∨ (vokB V n T = true ∧ 0 ≤ k ∧ k < n ∧ cost = 0)) :
    Calls Try.prog 75 #[.agg #[.int .i64 V, .slice a n c], .int .i64 k, .int .i64 cost, fv] w (VRes w 0 0 zeroT 2) := by
  have hm := hs.max
  have hl := hs.le
  unfold maxLen at hm
  have HQ := Lib.hid (VB2.mk0 w #[.int .i64 V, .slice a n c] #[.int .i64 0, .slice none 0 0] 99 99)
  have HS := Lib.hid hs
  obtain ⟨C, hC⟩ : ∃ C, C = vokB V n T := ⟨_, rfl⟩
  have C1 : Hid (∀ W, TagsIn W a n c b o T → Calls Try.prog 65 #[.agg #[.int .i64 V, .slice a n c]] W fun e w' => e = .returned (.bool C) ∧ Below W.heap.size W w') := Lib.hid (fun W h => by rw [hC]; exact check_any V a n c b o T W h)
  rw [← hC] at hh
  clear hs hC
  rcases hh with rfl | ⟨rfl, h⟩ | ⟨rfl, h, h2⟩ | ⟨rfl, h, h2, rfl⟩
  all_goals
    go_enter Try.func75, Try.ntmps75
    go_wp2_with (go_at_call 65; refine Calls.mono (C1.out _ (HS.out.below HQ.out.2.2)) ?_; rintro e W1 ⟨rfl, hW1⟩; have HQ1 := Lib.hid (HQ.out.step hW1); have r0 := HQ1.out.1.1; have y0 := HQ1.out.1.2.1; have z0 := HQ1.out.1.2.2; have r1 := HQ1.out.2.1.1; have y1 := HQ1.out.2.1.2.1; have z1 := HQ1.out.2.1.2.2)
    refine bodyPost_ret (v := .tuple #[.agg #[.int .i64 0, .slice none 0 0], .int .i64 2]) (by simp [results, Try.results75, go_sem, z1, r1, y1]) rfl ⟨_, rfl, none, 0, none, rfl, Row.nil _ _ _, (fun _ h => by cases h), ?_⟩
    exact (HQ1.out.2.2.setCell (by simp only; omega) _).setCell (by simp only; omega) _
end Go.Proofs.Ytoodmocapagapaa
namespace Go.Proofs.Ytoodmocapagapaa
open Go.RowKit
set_option linter.unusedSimpArgs false
set_option linter.unusedVariables false

def headF (T : Nat → TagsE) (k : Int) : Int := (T k.toNat).f
theorem goodTag_cases (V : Int) (n : Nat) (T : Nat → TagsE) (k cost at_ : Int) :
    (goodTag V n T k cost at_ = false ∧ (vokB V n T = false ∨ (vokB V n T = true ∧ k < 0) ∨ (vokB V n T = true ∧ 0 ≤ k ∧ n ≤ k) ∨ (vokB V n T = true ∧ 0 ≤ k ∧ k < n ∧ cost = 0))) ∨
    (goodTag V n T k cost at_ = false ∧ vokB V n T = true ∧ 0 ≤ k ∧ k < n ∧ cost ≠ 0 ∧ 1152921504606846976 - cost < at_) ∨
    (goodTag V n T k cost at_ = true ∧ vokB V n T = true ∧ 0 ≤ k ∧ k < n ∧ cost ≠ 0 ∧ at_ ≤ 1152921504606846976 - cost) := by
  unfold goodTag
  cases hv : vokB V n T
  · exact .inl ⟨by simp, .inl rfl⟩
  · by_cases h1 : k < 0
    · exact .inl ⟨by simp; omega, .inr (.inl ⟨rfl, h1⟩)⟩
    · by_cases h2 : (n : Int) ≤ k
      · exact .inl ⟨by simp; omega, .inr (.inr (.inl ⟨rfl, by omega, h2⟩))⟩
      · by_cases h3 : cost = 0
        · exact .inl ⟨by simp [h3], .inr (.inr (.inr ⟨rfl, by omega, by omega, h3⟩))⟩
        · by_cases h4 : at_ ≤ 1152921504606846976 - cost
          · exact .inr (.inr ⟨by simp; omega, rfl, by omega, by omega, h3, h4⟩)
          · exact .inr (.inl ⟨by simp; omega, rfl, by omega, by omega, h3, by omega⟩)
theorem vok_at {V : Int} {n : Nat} {T : Nat → TagsE} (h : vokB V n T = true) {k : Nat} (hk : k < n) : 0 ≤ (T k).s ∧ (T k).s ≤ (T k).f ∧ (T k).f ≤ 1152921504606846976 ∧ 0 ≤ V ∧ V ≤ 1152921504606846976 ∧ n ≤ 8 := by
  unfold vokB at h
  simp only [Bool.and_eq_true, decide_eq_true_eq] at h
  have h2 := (okN_iff T n).1 h.2 k hk
  have h3 := h.1.2
  unfold tagB timeB at h2
  unfold timeB at h3
  simp at h2 h3
  omega

/-- what a tag that is asked for comes to -/
def TagP (w : World) (V : Int) (n : Nat) (T : Nat → TagsE) (k : Int) (cost at_ : Int) (e : Ending) (w' : World) : Prop := TagRes w V n T k.toNat cost at_ e w' (goodTag V n T k cost at_)

theorem beginW_any (V : Int) (a : Option Addr) (n c b o : Nat) (T : Nat → TagsE) (k cost at_ : Int) (g : Nat) (w : World) (hs : TagsIn w a n c b o T) (hn : n * 16 ≤ 140737488351232) (h0 : 0 ≤ cost) (h1 : cost ≤ 138378240000) (ha : at_ = max (headF T k) V)
    (hg : w.cell? ⟨g, 0, none⟩ = some (.int .i64 V)) (hgl : g < w.heap.size) :
    Calls Try.prog 75 #[.agg #[.int .i64 V, .slice a n c], .int .i64 k, .int .i64 cost, .func (.func 78) #[] #[.pointer (some ⟨g, 0, none⟩)]] w (TagP w V n T k cost at_) := by
  unfold TagP
  rcases goodTag_cases V n T k cost at_ with ⟨hG, hh⟩ | ⟨hG, hv, k0, k1, hc, hat⟩ | ⟨hG, hv, k0, k1, hc, hat⟩
  · rw [hG]
    exact begin_bad V a n c b o T k cost _ w hs hh
  · rw [hG]
    obtain ⟨k', rfl⟩ : ∃ k' : Nat, k = k' := ⟨k.toNat, by omega⟩
    exact beginW_far V a n c b o T k' cost at_ g w hs hn (by omega) hv (by omega) h1 (by simpa [headF] using ha) hat hg hgl
  · rw [hG]
    obtain ⟨k', rfl⟩ : ∃ k' : Nat, k = k' := ⟨k.toNat, by omega⟩
    have hb := vok_at hv (k := k') (by omega)
    simp only [headF, Int.toNat_natCast] at ha
    exact beginW_good V a n c b o T k' cost at_ g w hs hn (by omega) hv (by omega) h1 ha hat (by omega) hg hgl
theorem beginN_any (V : Int) (a : Option Addr) (n c b o : Nat) (T : Nat → TagsE) (k cost at_ : Int) (w : World) (hs : TagsIn w a n c b o T) (hn : n * 16 ≤ 140737488351232) (h0 : 0 ≤ cost) (h1 : cost ≤ 138378240000) (ha : at_ = headF T k) :
    Calls Try.prog 75 #[.agg #[.int .i64 V, .slice a n c], .int .i64 k, .int .i64 cost, .func (.func 77) #[] #[]] w (TagP w V n T k cost at_) := by
  unfold TagP
  rcases goodTag_cases V n T k cost at_ with ⟨hG, hh⟩ | ⟨hG, hv, k0, k1, hc, hat⟩ | ⟨hG, hv, k0, k1, hc, hat⟩
  · rw [hG]
    exact begin_bad V a n c b o T k cost _ w hs hh
  · rw [hG]
    obtain ⟨k', rfl⟩ : ∃ k' : Nat, k = k' := ⟨k.toNat, by omega⟩
    exact beginN_far V a n c b o T k' cost at_ w hs hn (by omega) hv (by omega) h1 (by simpa [headF] using ha) hat
  · rw [hG]
    obtain ⟨k', rfl⟩ : ∃ k' : Nat, k = k' := ⟨k.toNat, by omega⟩
    have hb := vok_at hv (k := k') (by omega)
    simp only [headF, Int.toNat_natCast] at ha
    exact beginN_good V a n c b o T k' cost at_ w hs hn (by omega) hv (by omega) h1 ha hat (by omega)

theorem TagP.res {w : World} {V : Int} {n : Nat} {T : Nat → TagsE} {k cost at_ : Int} {e : Ending} {w' : World} (h : TagP w V n T k cost at_ e w') : ∃ V' n' T' er, VRes w V' n' T' er e w' ∧
    (∀ e2 w2 w3, VRes w3 V' n' T' er e2 w2 → TagP w3 V n T k cost at_ e2 w2) := by
  unfold TagP at h ⊢
  cases hG : goodTag V n T k cost at_
  · rw [hG] at h
    exact ⟨0, 0, zeroT, 2, h, fun _ _ _ h => h⟩
  · rw [hG] at h
    exact ⟨V, n, _, 0, h, fun _ _ _ h => h⟩

set_option maxRecDepth 100000 in
set_option maxHeartbeats 8000000 in
theorem wake_any (V : Int) (a : Option Addr) (n c b o : Nat) (T : Nat → TagsE) (k s wt al : Int) (w : World) (hs : TagsIn w a n c b o T) (hn : n * 16 ≤ 140737488351232) :
    Calls Try.prog 64 #[.agg #[.int .i64 V, .slice a n c], .int .i64 k, .int .i64 s, .int .i64 wt, .int .i64 al] w (TagP w V n T k (costS s wt al) (max (headF T k) V)) := by
  have hcr := cost_range s wt al
  obtain ⟨C, hC⟩ : ∃ C, C = costS s wt al := ⟨_, rfl⟩
  rw [← hC] at hcr ⊢
  have C1 : Hid (∀ W, Calls Try.prog 76 #[.int .i64 s, .int .i64 wt, .int .i64 al] W fun e w' => e = .returned (.int .i64 C) ∧ W = w') := Lib.hid (fun W => by rw [hC]; exact cost_any s wt al W)
  obtain ⟨H, hH⟩ : ∃ H, H = max (headF T k) V := ⟨_, rfl⟩
  rw [← hH]
  have C2 : Hid (∀ W g, TagsIn W a n c b o T → W.cell? ⟨g, 0, none⟩ = some (.int .i64 V) → g < W.heap.size → Calls Try.prog 75 #[.agg #[.int .i64 V, .slice a n c], .int .i64 k, .int .i64 C, .func (.func 78) #[] #[.pointer (some ⟨g, 0, none⟩)]] W (TagP W V n T k C H)) :=
    Lib.hid (fun W g h1 h2 h3 => beginW_any V a n c b o T k C H g W h1 hn hcr.1 hcr.2 hH h2 h3)
  have HQ := Lib.hid (VB2.mk0 w #[.int .i64 V, .slice a n c] #[.int .i64 0, .slice none 0 0] 99 99)
  have HQ1 := Lib.hid (HQ.out.step (Below.refl _ _).drew)
  have HS := Lib.hid hs
  clear hs hC hH hcr
  go_enter Try.func64, Try.ntmps64
  go_wp2_with fail
  go_region_with (first
    | (go_at_call 76; refine Calls.mono (C1.out _) ?_; rintro e w' ⟨rfl, rfl⟩)
    | (go_at_call 75; refine Calls.mono (C2.out _ _ (HS.out.below HQ1.out.2.2) (HQ1.out.1.1 0) HQ1.out.1.2.2) ?_; rintro e W2 hT; have hT2 := hT.res; obtain ⟨V', n', T', er, hR, hK⟩ := hT2; obtain ⟨v, rfl, a2, c2, ob2, rfl, hRow, hO, hB⟩ := hR; have HQ2 := Lib.hid (HQ1.out.step hB); have z0 := HQ2.out.1.2.2; have r1 := HQ2.out.2.1.1; have y1 := HQ2.out.2.1.2.1; have z1 := HQ2.out.2.1.2.2; have HR := Lib.hid hRow; have HO := Lib.hid hO; have HK := Lib.hid hK; have zz := HQ1.out.2.1.2.2; clear hT hRow hO hK hB))
  all_goals
    go_wp2_with fail
    refine bodyPost_ret (v := .tuple #[.agg #[.int .i64 V', .slice a2 n' c2], .int .i64 er]) (by simp [results, Try.results64, go_sem, z1, r1, y1]) rfl (HK.out _ _ _ ⟨_, rfl, a2, c2, ob2, rfl, ?_, ?_, ?_⟩)
    · refine HR.out.congr fun g e => ?_
      have := HO.out g e
      rw [heap_setCell_ne _ _ _ _ (by simp only; omega), heap_setCell_ne _ _ _ _ (by simp only; omega)]
    · exact fun g e => by have := HO.out g e; omega
    · exact (HQ2.out.2.2.setCell (by simp only; omega) _).setCell (by simp only; omega) _
set_option maxRecDepth 100000 in
set_option maxHeartbeats 8000000 in
theorem next_any (V : Int) (a : Option Addr) (n c b o : Nat) (T : Nat → TagsE) (k s wt al : Int) (w : World) (hs : TagsIn w a n c b o T) (hn : n * 16 ≤ 140737488351232) :
    Calls Try.prog 63 #[.agg #[.int .i64 V, .slice a n c], .int .i64 k, .int .i64 s, .int .i64 wt, .int .i64 al] w (TagP w V n T k (costS s wt al) (headF T k)) := by
  have hcr := cost_range s wt al
  obtain ⟨C, hC⟩ : ∃ C, C = costS s wt al := ⟨_, rfl⟩
  rw [← hC] at hcr ⊢
  have C1 : Hid (∀ W, Calls Try.prog 76 #[.int .i64 s, .int .i64 wt, .int .i64 al] W fun e w' => e = .returned (.int .i64 C) ∧ W = w') := Lib.hid (fun W => by rw [hC]; exact cost_any s wt al W)
  obtain ⟨H, hH⟩ : ∃ H, H = headF T k := ⟨_, rfl⟩
  rw [← hH]
  have C2 : Hid (∀ W, TagsIn W a n c b o T → Calls Try.prog 75 #[.agg #[.int .i64 V, .slice a n c], .int .i64 k, .int .i64 C, .func (.func 77) #[] #[]] W (TagP W V n T k C H)) :=
    Lib.hid (fun W h1 => beginN_any V a n c b o T k C H W h1 hn hcr.1 hcr.2 hH)
  have HQ := Lib.hid (VB2.mk0 w #[.int .i64 V, .slice a n c] #[.int .i64 0, .slice none 0 0] 99 99)
  have HQ1 := Lib.hid (HQ.out.step (Below.refl _ _).drew)
  have HS := Lib.hid hs
  clear hs hC hH hcr
  go_enter Try.func63, Try.ntmps63
  go_wp2_with fail
  go_region_with (first
    | (go_at_call 76; refine Calls.mono (C1.out _) ?_; rintro e w' ⟨rfl, rfl⟩)
    | (go_at_call 75; refine Calls.mono (C2.out _ (HS.out.below HQ1.out.2.2)) ?_; rintro e W2 hT; have hT2 := hT.res; obtain ⟨V', n', T', er, hR, hK⟩ := hT2; obtain ⟨v, rfl, a2, c2, ob2, rfl, hRow, hO, hB⟩ := hR; have HQ2 := Lib.hid (HQ1.out.step hB); have z0 := HQ2.out.1.2.2; have r1 := HQ2.out.2.1.1; have y1 := HQ2.out.2.1.2.1; have z1 := HQ2.out.2.1.2.2; have HR := Lib.hid hRow; have HO := Lib.hid hO; have HK := Lib.hid hK; have zz := HQ1.out.2.1.2.2; clear hT hRow hO hK hB))
  all_goals
    go_wp2_with fail
    refine bodyPost_ret (v := .tuple #[.agg #[.int .i64 V', .slice a2 n' c2], .int .i64 er]) (by simp [results, Try.results63, go_sem, z1, r1, y1]) rfl (HK.out _ _ _ ⟨_, rfl, a2, c2, ob2, rfl, ?_, ?_, ?_⟩)
    · refine HR.out.congr fun g e => ?_
      have := HO.out g e
      rw [heap_setCell_ne _ _ _ _ (by simp only; omega), heap_setCell_ne _ _ _ _ (by simp only; omega)]
    · exact fun g e => by have := HO.out g e; omega
    · exact (HQ2.out.2.2.setCell (by simp only; omega) _).setCell (by simp only; omega) _
end Go.Proofs.Ytoodmocapagapaa
namespace Go.Proofs.Ytoodmocapagapaa
open Go.RowKit
set_option linter.unusedSimpArgs false
set_option linter.unusedVariables false

theorem firstI_none {tk : Nat → Bool} {lt : Nat → Nat → Bool} {k : Nat} (h : firstS tk lt k = none) : firstI tk lt k = -1 := by unfold firstI; rw [h]
theorem firstI_some {tk : Nat → Bool} {lt : Nat → Nat → Bool} {k b : Nat} (h : firstS tk lt k = some b) : firstI tk lt k = b := by unfold firstI; rw [h]
theorem firstS_n0 {tk : Nat → Bool} {lt : Nat → Nat → Bool} {k : Nat} (h : firstS tk lt k = none) (h1 : tk k = false) : firstS tk lt (k + 1) = none := by unfold firstS; rw [h]; simp [h1]
theorem firstS_n1 {tk : Nat → Bool} {lt : Nat → Nat → Bool} {k : Nat} (h : firstS tk lt k = none) (h1 : tk k = true) : firstS tk lt (k + 1) = some k := by unfold firstS; rw [h]; simp [h1]
theorem firstS_s0 {tk : Nat → Bool} {lt : Nat → Nat → Bool} {k b : Nat} (h : firstS tk lt k = some b) (h1 : (tk k && lt k b) = false) : firstS tk lt (k + 1) = some b := by unfold firstS; rw [h]; simp only [h1]; rfl
theorem firstS_s1 {tk : Nat → Bool} {lt : Nat → Nat → Bool} {k b : Nat} (h : firstS tk lt k = some b) (h1 : (tk k && lt k b) = true) : firstS tk lt (k + 1) = some k := by unfold firstS; rw [h]; simp only [h1]; rfl

/-- two blocks of the call's own -/
def FQ (w : World) (n1 n2 : Nat) (c1 c2 : Array Value) (X : World) : Prop := Holds X n1 c1 ∧ Holds X n2 c2 ∧ Below w.heap.size w X
theorem FQ.step {w A B : World} {n1 n2 : Nat} {c1 c2 : Array Value} (h : FQ w n1 n2 c1 c2 A) (hB : Below A.heap.size A B) : FQ w n1 n2 c1 c2 B := ⟨Holds.step h.1 hB, Holds.step h.2.1 hB, h.2.2.trans (hB.mono h.2.2.size)⟩

set_option maxRecDepth 100000 in
set_option maxHeartbeats 8000000 in
theorem first_any (a : Option Addr) (n c b o : Nat) (T : Nat → TagsE) (fT fA : Nat) (capT : Array Value) (tk : Nat → Bool) (lt : Nat → Nat → Bool) (w : World) (hs : TagsIn w a n c b o T)
    (hcT : ∀ args w, (callFunc fT args).run Try.prog w = .ok (.enter fT args) w) (hcA : ∀ args w, (callFunc fA args).run Try.prog w = .ok (.enter fA args) w)
    (HT0 : ∀ W (k : Nat), Below w.heap.size w W → k < n → Calls Try.prog fT (#[.int .i64 k] ++ capT) W fun e w' => e = .returned (.bool (tk k)) ∧ Below W.heap.size W w')
    (HA0 : ∀ W i j, i < n → j < n → Calls Try.prog fA (#[.agg #[.int .i64 (T i).s, .int .i64 (T i).f], .agg #[.int .i64 (T j).s, .int .i64 (T j).f]] ++ #[]) W fun e w' => e = .returned (.bool (lt i j)) ∧ Below W.heap.size W w') :
    Calls Try.prog 66 #[.slice a n c, .agg #[.func (.func fT) #[] capT, .func (.func fA) #[] #[]]] w fun e w' => e = .returned (.int .i64 (firstI tk lt n)) ∧ Below w.heap.size w w' := by
  have hm := hs.max
  have hl := hs.le
  unfold maxLen at hm
  have HS := Lib.hid hs
  have HT := Lib.hid HT0
  have HA := Lib.hid HA0
  have hb0 : Below w.heap.size w (w.alloc (.cells #[.func (.func fT) #[] capT, .func (.func fA) #[] #[]] 134)) := (Below.refl _ _).alloc (Nat.le_refl _) _
  have hh0 := tw1 (n := w.heap.size) (Below.refl _ (w.alloc (.cells #[.func (.func fT) #[] capT, .func (.func fA) #[] #[]] 134))) rfl
  have HB0 := Lib.hid hb0
  have HH0 := Lib.hid hh0
  clear hs HT0 HA0 hb0 hh0
  go_enter Try.func66, Try.ntmps66
  go_wp2_with fail
  go_loopw [5, 10] (fun q i wr => ∃ k : Nat, k ≤ n ∧ i = .int .i64 k ∧ q = .int .i64 (firstI tk lt k) ∧ Below w.heap.size w wr ∧ Holds wr w.heap.size #[.func (.func fT) #[] capT, .func (.func fA) #[] #[]]) (fun _ i _ => n - (intOf i).toNat)
  case atStart => exact ⟨0, Nat.zero_le _, rfl, rfl, HB0.out, HH0.out⟩
  case round =>
    obtain ⟨k, hk, rfl, rfl, hbel, hh⟩ := hrel
    by_cases hlt : k < n
    · obtain ⟨e0, e1⟩ := HS.out.at_ (by omega)
      subst e0
      obtain ⟨k0, k1⟩ := (HS.out.below hbel).cell k hlt
      obtain ⟨s, hs⟩ : ∃ s, s = (T k).s := ⟨_, rfl⟩
      obtain ⟨f, hf⟩ : ∃ f, f = (T k).f := ⟨_, rfl⟩
      rw [← hs] at k0
      rw [← hf] at k1
      have hw0 : w.heap.size < wr.heap.size := hh.2.2
      have HQ : Hid (FQ w w.heap.size wr.heap.size #[.func (.func fT) #[] capT, .func (.func fA) #[] #[]] #[.int .i64 s, .int .i64 f] (wr.alloc (.cells #[.int .i64 s, .int .i64 f] 129)).drew) := Lib.hid
        ⟨Holds.step hh (((Below.refl _ _).alloc (Nat.le_refl _) _).drew), tw1 (n := wr.heap.size) (Below.refl _ (wr.alloc (.cells #[.int .i64 s, .int .i64 f] 129))).drew rfl, (hbel.alloc hbel.size _).drew⟩
      have q0 : wr.cell? ⟨w.heap.size, 0, none⟩ = some (.func (.func fT) #[] capT) := hh.1 0
      have q1 : wr.cell? ⟨w.heap.size, 1, none⟩ = some (.func (.func fA) #[] #[]) := hh.1 1
      have CT : Hid (∀ W, Below w.heap.size w W → Calls Try.prog fT (#[.int .i64 k] ++ capT) W fun e w' => e = .returned (.bool (tk k)) ∧ Below W.heap.size W w') := Lib.hid (fun W h => HT.out W k h hlt)
      clear hh
      cases hbst : firstS tk lt k with
      | none =>
        rw [firstI_none hbst]
        cases htk : tk k
        · have HF : Hid (firstI tk lt (k + 1) = -1) := Lib.hid (firstI_none (firstS_n0 hbst htk))
          rw [htk] at CT
          clear hbst htk hs hf
          go_wp2_with fail
          refine wp_region_held_drew (S := fun X => X.cell? ⟨w.heap.size, 0, none⟩ = some (.func (.func fT) #[] capT)) (by kernel_rfl) (HQ.out.1.1 0) (fun hHeld => ?_)
          ((refine wpAnyH_take (i := 0) (v := ?_) (by (simp only [List.getElem?_toArray, List.getElem?_cons_succ, List.getElem?_cons_zero]); rfl) (by kernel_rfl) (by kernel_rfl) (by kernel_rfl) (by exact fun _ _ _ h => h) (Or.inl ⟨by rfl, ?_⟩) (by assumption) ?_); rotate_left; focus (intro wS hSw; (try dsimp only at hSw); go_simp; first | done | with_reducible rfl); try simp only [Act.put, List.setIfInBounds_toArray, List.set_cons_zero, List.set_cons_succ])
          ((refine wpAnyH_take (i := 1) (v := ?_) (by (simp only [List.getElem?_toArray, List.getElem?_cons_succ, List.getElem?_cons_zero]); rfl) (by kernel_rfl) (by kernel_rfl) (by kernel_rfl) (by exact fun _ _ _ h => h) (Or.inl ⟨by rfl, ?_⟩) (by assumption) ?_); rotate_left; focus (intro wS hSw; (try dsimp only at hSw); go_simp; first | done | with_reducible rfl); try simp only [Act.put, List.setIfInBounds_toArray, List.set_cons_zero, List.set_cons_succ])
          ((refine wpAnyH_take (i := 2) (v := ?_) (by (simp only [List.getElem?_toArray, List.getElem?_cons_succ, List.getElem?_cons_zero]); rfl) (by kernel_rfl) (by kernel_rfl) (by kernel_rfl) (by exact fun _ _ _ h => h) (Or.inl ⟨by rfl, ?_⟩) (by assumption) ?_); rotate_left; focus (intro wS hSw; (try dsimp only at hSw); go_simp; first | done | with_reducible rfl); try simp only [Act.put, List.setIfInBounds_toArray, List.set_cons_zero, List.set_cons_succ])
          ((refine wpAnyH_ready (rs := [3]) (by kernel_rfl) (by simp) ?_); (refine AllReadyH.cons (by (simp only [List.getElem?_toArray, List.getElem?_cons_succ, List.getElem?_cons_zero]); rfl) (fun K hK => ?_) AllReadyH.nil); go_simp; refine Calls.mono (CT.out _ HQ.out.2.2) ?_)
          rintro e W1 ⟨rfl, hW1⟩
          have HQ1 := Lib.hid (HQ.out.step hW1)
          have p0 : W1.cell? ⟨w.heap.size, 0, none⟩ = some (.func (.func fT) #[] capT) := HQ1.out.1.1 0
          clear hW1
          go_wp2_with fail
          refine hK.out _ _ p0 (fun hHeld2 => ?_)
          try simp only [Act.put, List.setIfInBounds_toArray, List.set_cons_zero, List.set_cons_succ]
          ((refine wpAnyH_take (i := 4) (v := ?_) (by (simp only [List.getElem?_toArray, List.getElem?_cons_succ, List.getElem?_cons_zero]); rfl) (by kernel_rfl) (by kernel_rfl) (by kernel_rfl) (by exact fun _ _ _ h => h) (Or.inl ⟨by rfl, ?_⟩) (by assumption) ?_); rotate_left; focus (intro wS hSw; (try dsimp only at hSw); go_simp; first | done | with_reducible rfl); try simp only [Act.put, List.setIfInBounds_toArray, List.set_cons_zero, List.set_cons_succ])
          ((refine wpAnyH_take (i := 5) (v := undef) (by (simp only [List.getElem?_toArray, List.getElem?_cons_succ, List.getElem?_cons_zero]); rfl) (by kernel_rfl) (by kernel_rfl) (by kernel_rfl) (by exact fun _ _ _ h => h) (Or.inr ⟨by (go_simp; try (intro hh; cases hh)), rfl⟩) (by assumption) ?_); try simp only [Act.put, List.setIfInBounds_toArray, List.set_cons_zero, List.set_cons_succ])
          ((refine wpAnyH_take (i := 6) (v := undef) (by (simp only [List.getElem?_toArray, List.getElem?_cons_succ, List.getElem?_cons_zero]); rfl) (by kernel_rfl) (by kernel_rfl) (by kernel_rfl) (by exact fun _ _ _ h => h) (Or.inr ⟨by (go_simp; try (intro hh; cases hh)), rfl⟩) (by assumption) ?_); try simp only [Act.put, List.setIfInBounds_toArray, List.set_cons_zero, List.set_cons_succ])
          ((refine wpAnyH_take (i := 7) (v := undef) (by (simp only [List.getElem?_toArray, List.getElem?_cons_succ, List.getElem?_cons_zero]); rfl) (by kernel_rfl) (by kernel_rfl) (by kernel_rfl) (by exact fun _ _ _ h => h) (Or.inr ⟨by (go_simp; try (intro hh; cases hh)), rfl⟩) (by assumption) ?_); try simp only [Act.put, List.setIfInBounds_toArray, List.set_cons_zero, List.set_cons_succ])

          ((refine wpAnyH_take (i := 8) (v := undef) (by (simp only [List.getElem?_toArray, List.getElem?_cons_succ, List.getElem?_cons_zero]); rfl) (by kernel_rfl) (by kernel_rfl) (by kernel_rfl) (by exact fun _ _ _ h => h) (Or.inr ⟨by (go_simp; try (intro hh; cases hh)), rfl⟩) (by assumption) ?_); try simp only [Act.put, List.setIfInBounds_toArray, List.set_cons_zero, List.set_cons_succ])
          ((refine wpAnyH_take (i := 9) (v := undef) (by (simp only [List.getElem?_toArray, List.getElem?_cons_succ, List.getElem?_cons_zero]); rfl) (by kernel_rfl) (by kernel_rfl) (by kernel_rfl) (by exact fun _ _ _ h => h) (Or.inr ⟨by (go_simp; try (intro hh; cases hh)), rfl⟩) (by assumption) ?_); try simp only [Act.put, List.setIfInBounds_toArray, List.set_cons_zero, List.set_cons_succ])
          ((refine wpAnyH_take (i := 10) (v := undef) (by (simp only [List.getElem?_toArray, List.getElem?_cons_succ, List.getElem?_cons_zero]); rfl) (by kernel_rfl) (by kernel_rfl) (by kernel_rfl) (by exact fun _ _ _ h => h) (Or.inr ⟨by (go_simp; try (intro hh; cases hh)), rfl⟩) (by assumption) ?_); try simp only [Act.put, List.setIfInBounds_toArray, List.set_cons_zero, List.set_cons_succ])
          ((refine wpAnyH_take (i := 11) (v := undef) (by (simp only [List.getElem?_toArray, List.getElem?_cons_succ, List.getElem?_cons_zero]); rfl) (by kernel_rfl) (by kernel_rfl) (by kernel_rfl) (by exact fun _ _ _ h => h) (Or.inr ⟨by (go_simp; try (intro hh; cases hh)), rfl⟩) (by assumption) ?_); try simp only [Act.put, List.setIfInBounds_toArray, List.set_cons_zero, List.set_cons_succ])
          ((refine wpAnyH_take (i := 12) (v := undef) (by (simp only [List.getElem?_toArray, List.getElem?_cons_succ, List.getElem?_cons_zero]); rfl) (by kernel_rfl) (by kernel_rfl) (by kernel_rfl) (by exact fun _ _ _ h => h) (Or.inr ⟨by (go_simp; try (intro hh; cases hh)), rfl⟩) (by assumption) ?_); try simp only [Act.put, List.setIfInBounds_toArray, List.set_cons_zero, List.set_cons_succ])
          ((refine wpAnyH_take (i := 13) (v := undef) (by (simp only [List.getElem?_toArray, List.getElem?_cons_succ, List.getElem?_cons_zero]); rfl) (by kernel_rfl) (by kernel_rfl) (by kernel_rfl) (by exact fun _ _ _ h => h) (Or.inr ⟨by (go_simp; try (intro hh; cases hh)), rfl⟩) (by assumption) ?_); try simp only [Act.put, List.setIfInBounds_toArray, List.set_cons_zero, List.set_cons_succ])
          ((refine wpAnyH_take (i := 14) (v := undef) (by (simp only [List.getElem?_toArray, List.getElem?_cons_succ, List.getElem?_cons_zero]); rfl) (by kernel_rfl) (by kernel_rfl) (by kernel_rfl) (by exact fun _ _ _ h => h) (Or.inr ⟨by (go_simp; try (intro hh; cases hh)), rfl⟩) (by assumption) ?_); try simp only [Act.put, List.setIfInBounds_toArray, List.set_cons_zero, List.set_cons_succ])
          ((refine wpAnyH_take (i := 15) (v := undef) (by (simp only [List.getElem?_toArray, List.getElem?_cons_succ, List.getElem?_cons_zero]); rfl) (by kernel_rfl) (by kernel_rfl) (by kernel_rfl) (by exact fun _ _ _ h => h) (Or.inr ⟨by (go_simp; try (intro hh; cases hh)), rfl⟩) (by assumption) ?_); try simp only [Act.put, List.setIfInBounds_toArray, List.set_cons_zero, List.set_cons_succ])
          ((refine wpAnyH_take (i := 16) (v := undef) (by (simp only [List.getElem?_toArray, List.getElem?_cons_succ, List.getElem?_cons_zero]); rfl) (by kernel_rfl) (by kernel_rfl) (by kernel_rfl) (by exact fun _ _ _ h => h) (Or.inr ⟨by (go_simp; try (intro hh; cases hh)), rfl⟩) (by assumption) ?_); try simp only [Act.put, List.setIfInBounds_toArray, List.set_cons_zero, List.set_cons_succ])
          ((refine wpAnyH_take (i := 17) (v := ?_) (by (simp only [List.getElem?_toArray, List.getElem?_cons_succ, List.getElem?_cons_zero]); rfl) (by kernel_rfl) (by kernel_rfl) (by kernel_rfl) (by exact fun _ _ _ h => h) (Or.inl ⟨by rfl, ?_⟩) (by assumption) ?_); rotate_left; focus (intro wS hSw; (try dsimp only at hSw); go_simp; first | done | with_reducible rfl); try simp only [Act.put, List.setIfInBounds_toArray, List.set_cons_zero, List.set_cons_succ])
          refine wpAnyH_done (by kernel_rfl) ?_ _
          all_goals
            go_wp2_with fail
            go_roundw
            case rel => exact ⟨k + 1, by omega, by go_num, by rw [HF.out], HQ1.out.2.2, HQ1.out.1⟩
            case measure => simp [intOf]; omega
        · have HF : Hid (firstI tk lt (k + 1) = k) := Lib.hid (firstI_some (firstS_n1 hbst htk))
          rw [htk] at CT
          clear hbst htk hs hf
          go_wp2_with fail
          refine wp_region_held_drew (S := fun X => X.cell? ⟨w.heap.size, 0, none⟩ = some (.func (.func fT) #[] capT)) (by kernel_rfl) (HQ.out.1.1 0) (fun hHeld => ?_)
          ((refine wpAnyH_take (i := 0) (v := ?_) (by (simp only [List.getElem?_toArray, List.getElem?_cons_succ, List.getElem?_cons_zero]); rfl) (by kernel_rfl) (by kernel_rfl) (by kernel_rfl) (by exact fun _ _ _ h => h) (Or.inl ⟨by rfl, ?_⟩) (by assumption) ?_); rotate_left; focus (intro wS hSw; (try dsimp only at hSw); go_simp; first | done | with_reducible rfl); try simp only [Act.put, List.setIfInBounds_toArray, List.set_cons_zero, List.set_cons_succ])
          ((refine wpAnyH_take (i := 1) (v := ?_) (by (simp only [List.getElem?_toArray, List.getElem?_cons_succ, List.getElem?_cons_zero]); rfl) (by kernel_rfl) (by kernel_rfl) (by kernel_rfl) (by exact fun _ _ _ h => h) (Or.inl ⟨by rfl, ?_⟩) (by assumption) ?_); rotate_left; focus (intro wS hSw; (try dsimp only at hSw); go_simp; first | done | with_reducible rfl); try simp only [Act.put, List.setIfInBounds_toArray, List.set_cons_zero, List.set_cons_succ])
          ((refine wpAnyH_take (i := 2) (v := ?_) (by (simp only [List.getElem?_toArray, List.getElem?_cons_succ, List.getElem?_cons_zero]); rfl) (by kernel_rfl) (by kernel_rfl) (by kernel_rfl) (by exact fun _ _ _ h => h) (Or.inl ⟨by rfl, ?_⟩) (by assumption) ?_); rotate_left; focus (intro wS hSw; (try dsimp only at hSw); go_simp; first | done | with_reducible rfl); try simp only [Act.put, List.setIfInBounds_toArray, List.set_cons_zero, List.set_cons_succ])
          ((refine wpAnyH_ready (rs := [3]) (by kernel_rfl) (by simp) ?_); (refine AllReadyH.cons (by (simp only [List.getElem?_toArray, List.getElem?_cons_succ, List.getElem?_cons_zero]); rfl) (fun K hK => ?_) AllReadyH.nil); go_simp; refine Calls.mono (CT.out _ HQ.out.2.2) ?_)
          rintro e W1 ⟨rfl, hW1⟩
          have HQ1 := Lib.hid (HQ.out.step hW1)
          have p0 : W1.cell? ⟨w.heap.size, 0, none⟩ = some (.func (.func fT) #[] capT) := HQ1.out.1.1 0
          clear hW1
          go_wp2_with fail
          refine hK.out _ _ p0 (fun hHeld2 => ?_)
          try simp only [Act.put, List.setIfInBounds_toArray, List.set_cons_zero, List.set_cons_succ]
          ((refine wpAnyH_take (i := 4) (v := ?_) (by (simp only [List.getElem?_toArray, List.getElem?_cons_succ, List.getElem?_cons_zero]); rfl) (by kernel_rfl) (by kernel_rfl) (by kernel_rfl) (by exact fun _ _ _ h => h) (Or.inl ⟨by rfl, ?_⟩) (by assumption) ?_); rotate_left; focus (intro wS hSw; (try dsimp only at hSw); go_simp; first | done | with_reducible rfl); try simp only [Act.put, List.setIfInBounds_toArray, List.set_cons_zero, List.set_cons_succ])
          ((refine wpAnyH_take (i := 5) (v := ?_) (by (simp only [List.getElem?_toArray, List.getElem?_cons_succ, List.getElem?_cons_zero]); rfl) (by kernel_rfl) (by kernel_rfl) (by kernel_rfl) (by exact fun _ _ _ h => h) (Or.inl ⟨by (go_simp; try rfl), ?_⟩) (by assumption) ?_); rotate_left; focus (intro wS hSw; (try dsimp only at hSw); go_simp; first | done | with_reducible rfl); try simp only [Act.put, List.setIfInBounds_toArray, List.set_cons_zero, List.set_cons_succ])
          ((refine wpAnyH_take (i := 6) (v := ?_) (by (simp only [List.getElem?_toArray, List.getElem?_cons_succ, List.getElem?_cons_zero]); rfl) (by kernel_rfl) (by kernel_rfl) (by kernel_rfl) (by exact fun _ _ _ h => h) (Or.inl ⟨by (go_simp; try rfl), ?_⟩) (by assumption) ?_); rotate_left; focus (intro wS hSw; (try dsimp only at hSw); go_simp; first | done | with_reducible rfl); try simp only [Act.put, List.setIfInBounds_toArray, List.set_cons_zero, List.set_cons_succ])
          ((refine wpAnyH_take (i := 7) (v := ?_) (by (simp only [List.getElem?_toArray, List.getElem?_cons_succ, List.getElem?_cons_zero]); rfl) (by kernel_rfl) (by kernel_rfl) (by kernel_rfl) (by exact fun _ _ _ h => h) (Or.inl ⟨by (go_simp; try rfl), ?_⟩) (by assumption) ?_); rotate_left; focus (intro wS hSw; (try dsimp only at hSw); go_simp; first | done | with_reducible rfl); try simp only [Act.put, List.setIfInBounds_toArray, List.set_cons_zero, List.set_cons_succ])

          ((refine wpAnyH_take (i := 8) (v := undef) (by (simp only [List.getElem?_toArray, List.getElem?_cons_succ, List.getElem?_cons_zero]); rfl) (by kernel_rfl) (by kernel_rfl) (by kernel_rfl) (by exact fun _ _ _ h => h) (Or.inr ⟨by (go_simp; try (intro hh; cases hh)), rfl⟩) (by assumption) ?_); try simp only [Act.put, List.setIfInBounds_toArray, List.set_cons_zero, List.set_cons_succ])
          ((refine wpAnyH_take (i := 9) (v := undef) (by (simp only [List.getElem?_toArray, List.getElem?_cons_succ, List.getElem?_cons_zero]); rfl) (by kernel_rfl) (by kernel_rfl) (by kernel_rfl) (by exact fun _ _ _ h => h) (Or.inr ⟨by (go_simp; try (intro hh; cases hh)), rfl⟩) (by assumption) ?_); try simp only [Act.put, List.setIfInBounds_toArray, List.set_cons_zero, List.set_cons_succ])
          ((refine wpAnyH_take (i := 10) (v := undef) (by (simp only [List.getElem?_toArray, List.getElem?_cons_succ, List.getElem?_cons_zero]); rfl) (by kernel_rfl) (by kernel_rfl) (by kernel_rfl) (by exact fun _ _ _ h => h) (Or.inr ⟨by (go_simp; try (intro hh; cases hh)), rfl⟩) (by assumption) ?_); try simp only [Act.put, List.setIfInBounds_toArray, List.set_cons_zero, List.set_cons_succ])
          ((refine wpAnyH_take (i := 11) (v := undef) (by (simp only [List.getElem?_toArray, List.getElem?_cons_succ, List.getElem?_cons_zero]); rfl) (by kernel_rfl) (by kernel_rfl) (by kernel_rfl) (by exact fun _ _ _ h => h) (Or.inr ⟨by (go_simp; try (intro hh; cases hh)), rfl⟩) (by assumption) ?_); try simp only [Act.put, List.setIfInBounds_toArray, List.set_cons_zero, List.set_cons_succ])
          ((refine wpAnyH_take (i := 12) (v := undef) (by (simp only [List.getElem?_toArray, List.getElem?_cons_succ, List.getElem?_cons_zero]); rfl) (by kernel_rfl) (by kernel_rfl) (by kernel_rfl) (by exact fun _ _ _ h => h) (Or.inr ⟨by (go_simp; try (intro hh; cases hh)), rfl⟩) (by assumption) ?_); try simp only [Act.put, List.setIfInBounds_toArray, List.set_cons_zero, List.set_cons_succ])
          ((refine wpAnyH_take (i := 13) (v := undef) (by (simp only [List.getElem?_toArray, List.getElem?_cons_succ, List.getElem?_cons_zero]); rfl) (by kernel_rfl) (by kernel_rfl) (by kernel_rfl) (by exact fun _ _ _ h => h) (Or.inr ⟨by (go_simp; try (intro hh; cases hh)), rfl⟩) (by assumption) ?_); try simp only [Act.put, List.setIfInBounds_toArray, List.set_cons_zero, List.set_cons_succ])
          ((refine wpAnyH_take (i := 14) (v := undef) (by (simp only [List.getElem?_toArray, List.getElem?_cons_succ, List.getElem?_cons_zero]); rfl) (by kernel_rfl) (by kernel_rfl) (by kernel_rfl) (by exact fun _ _ _ h => h) (Or.inr ⟨by (go_simp; try (intro hh; cases hh)), rfl⟩) (by assumption) ?_); try simp only [Act.put, List.setIfInBounds_toArray, List.set_cons_zero, List.set_cons_succ])
          ((refine wpAnyH_take (i := 15) (v := undef) (by (simp only [List.getElem?_toArray, List.getElem?_cons_succ, List.getElem?_cons_zero]); rfl) (by kernel_rfl) (by kernel_rfl) (by kernel_rfl) (by exact fun _ _ _ h => h) (Or.inr ⟨by (go_simp; try (intro hh; cases hh)), rfl⟩) (by assumption) ?_); try simp only [Act.put, List.setIfInBounds_toArray, List.set_cons_zero, List.set_cons_succ])
          ((refine wpAnyH_take (i := 16) (v := ?_) (by (simp only [List.getElem?_toArray, List.getElem?_cons_succ, List.getElem?_cons_zero]); rfl) (by kernel_rfl) (by kernel_rfl) (by kernel_rfl) (by exact fun _ _ _ h => h) (Or.inl ⟨by (go_simp; try rfl), ?_⟩) (by assumption) ?_); rotate_left; focus (intro wS hSw; (try dsimp only at hSw); go_simp; first | done | with_reducible rfl); try simp only [Act.put, List.setIfInBounds_toArray, List.set_cons_zero, List.set_cons_succ])
          ((refine wpAnyH_take (i := 17) (v := ?_) (by (simp only [List.getElem?_toArray, List.getElem?_cons_succ, List.getElem?_cons_zero]); rfl) (by kernel_rfl) (by kernel_rfl) (by kernel_rfl) (by exact fun _ _ _ h => h) (Or.inl ⟨by rfl, ?_⟩) (by assumption) ?_); rotate_left; focus (intro wS hSw; (try dsimp only at hSw); go_simp; first | done | with_reducible rfl); try simp only [Act.put, List.setIfInBounds_toArray, List.set_cons_zero, List.set_cons_succ])
          refine wpAnyH_done (by kernel_rfl) ?_ _
          all_goals
            go_wp2_with fail
            go_roundw
            case rel => exact ⟨k + 1, by omega, by go_num, by rw [HF.out], HQ1.out.2.2, HQ1.out.1⟩
            case measure => simp [intOf]; omega
      | some m =>
        rw [firstI_some hbst]
        have hml := (firstS_some hbst).1
        cases htk : tk k
        · have HF : Hid (firstI tk lt (k + 1) = m) := Lib.hid (firstI_some (firstS_s0 hbst (by rw [htk]; rfl)))
          rw [htk] at CT
          clear hbst htk hs hf
          go_wp2_with fail
          refine wp_region_held_drew (S := fun X => X.cell? ⟨w.heap.size, 0, none⟩ = some (.func (.func fT) #[] capT)) (by kernel_rfl) (HQ.out.1.1 0) (fun hHeld => ?_)
          ((refine wpAnyH_take (i := 0) (v := ?_) (by (simp only [List.getElem?_toArray, List.getElem?_cons_succ, List.getElem?_cons_zero]); rfl) (by kernel_rfl) (by kernel_rfl) (by kernel_rfl) (by exact fun _ _ _ h => h) (Or.inl ⟨by rfl, ?_⟩) (by assumption) ?_); rotate_left; focus (intro wS hSw; (try dsimp only at hSw); go_simp; first | done | with_reducible rfl); try simp only [Act.put, List.setIfInBounds_toArray, List.set_cons_zero, List.set_cons_succ])
          ((refine wpAnyH_take (i := 1) (v := ?_) (by (simp only [List.getElem?_toArray, List.getElem?_cons_succ, List.getElem?_cons_zero]); rfl) (by kernel_rfl) (by kernel_rfl) (by kernel_rfl) (by exact fun _ _ _ h => h) (Or.inl ⟨by rfl, ?_⟩) (by assumption) ?_); rotate_left; focus (intro wS hSw; (try dsimp only at hSw); go_simp; first | done | with_reducible rfl); try simp only [Act.put, List.setIfInBounds_toArray, List.set_cons_zero, List.set_cons_succ])
          ((refine wpAnyH_take (i := 2) (v := ?_) (by (simp only [List.getElem?_toArray, List.getElem?_cons_succ, List.getElem?_cons_zero]); rfl) (by kernel_rfl) (by kernel_rfl) (by kernel_rfl) (by exact fun _ _ _ h => h) (Or.inl ⟨by rfl, ?_⟩) (by assumption) ?_); rotate_left; focus (intro wS hSw; (try dsimp only at hSw); go_simp; first | done | with_reducible rfl); try simp only [Act.put, List.setIfInBounds_toArray, List.set_cons_zero, List.set_cons_succ])
          ((refine wpAnyH_ready (rs := [3]) (by kernel_rfl) (by simp) ?_); (refine AllReadyH.cons (by (simp only [List.getElem?_toArray, List.getElem?_cons_succ, List.getElem?_cons_zero]); rfl) (fun K hK => ?_) AllReadyH.nil); go_simp; refine Calls.mono (CT.out _ HQ.out.2.2) ?_)
          rintro e W1 ⟨rfl, hW1⟩
          have HQ1 := Lib.hid (HQ.out.step hW1)
          have p0 : W1.cell? ⟨w.heap.size, 0, none⟩ = some (.func (.func fT) #[] capT) := HQ1.out.1.1 0
          clear hW1
          go_wp2_with fail
          refine hK.out _ _ p0 (fun hHeld2 => ?_)
          try simp only [Act.put, List.setIfInBounds_toArray, List.set_cons_zero, List.set_cons_succ]
          ((refine wpAnyH_take (i := 4) (v := ?_) (by (simp only [List.getElem?_toArray, List.getElem?_cons_succ, List.getElem?_cons_zero]); rfl) (by kernel_rfl) (by kernel_rfl) (by kernel_rfl) (by exact fun _ _ _ h => h) (Or.inl ⟨by rfl, ?_⟩) (by assumption) ?_); rotate_left; focus (intro wS hSw; (try dsimp only at hSw); go_simp; first | done | with_reducible rfl); try simp only [Act.put, List.setIfInBounds_toArray, List.set_cons_zero, List.set_cons_succ])
          ((refine wpAnyH_take (i := 5) (v := undef) (by (simp only [List.getElem?_toArray, List.getElem?_cons_succ, List.getElem?_cons_zero]); rfl) (by kernel_rfl) (by kernel_rfl) (by kernel_rfl) (by exact fun _ _ _ h => h) (Or.inr ⟨by (go_simp; try (intro hh; cases hh)), rfl⟩) (by assumption) ?_); try simp only [Act.put, List.setIfInBounds_toArray, List.set_cons_zero, List.set_cons_succ])
          ((refine wpAnyH_take (i := 6) (v := undef) (by (simp only [List.getElem?_toArray, List.getElem?_cons_succ, List.getElem?_cons_zero]); rfl) (by kernel_rfl) (by kernel_rfl) (by kernel_rfl) (by exact fun _ _ _ h => h) (Or.inr ⟨by (go_simp; try (intro hh; cases hh)), rfl⟩) (by assumption) ?_); try simp only [Act.put, List.setIfInBounds_toArray, List.set_cons_zero, List.set_cons_succ])
          ((refine wpAnyH_take (i := 7) (v := undef) (by (simp only [List.getElem?_toArray, List.getElem?_cons_succ, List.getElem?_cons_zero]); rfl) (by kernel_rfl) (by kernel_rfl) (by kernel_rfl) (by exact fun _ _ _ h => h) (Or.inr ⟨by (go_simp; try (intro hh; cases hh)), rfl⟩) (by assumption) ?_); try simp only [Act.put, List.setIfInBounds_toArray, List.set_cons_zero, List.set_cons_succ])

          ((refine wpAnyH_take (i := 8) (v := undef) (by (simp only [List.getElem?_toArray, List.getElem?_cons_succ, List.getElem?_cons_zero]); rfl) (by kernel_rfl) (by kernel_rfl) (by kernel_rfl) (by exact fun _ _ _ h => h) (Or.inr ⟨by (go_simp; try (intro hh; cases hh)), rfl⟩) (by assumption) ?_); try simp only [Act.put, List.setIfInBounds_toArray, List.set_cons_zero, List.set_cons_succ])
          ((refine wpAnyH_take (i := 9) (v := undef) (by (simp only [List.getElem?_toArray, List.getElem?_cons_succ, List.getElem?_cons_zero]); rfl) (by kernel_rfl) (by kernel_rfl) (by kernel_rfl) (by exact fun _ _ _ h => h) (Or.inr ⟨by (go_simp; try (intro hh; cases hh)), rfl⟩) (by assumption) ?_); try simp only [Act.put, List.setIfInBounds_toArray, List.set_cons_zero, List.set_cons_succ])
          ((refine wpAnyH_take (i := 10) (v := undef) (by (simp only [List.getElem?_toArray, List.getElem?_cons_succ, List.getElem?_cons_zero]); rfl) (by kernel_rfl) (by kernel_rfl) (by kernel_rfl) (by exact fun _ _ _ h => h) (Or.inr ⟨by (go_simp; try (intro hh; cases hh)), rfl⟩) (by assumption) ?_); try simp only [Act.put, List.setIfInBounds_toArray, List.set_cons_zero, List.set_cons_succ])
          ((refine wpAnyH_take (i := 11) (v := undef) (by (simp only [List.getElem?_toArray, List.getElem?_cons_succ, List.getElem?_cons_zero]); rfl) (by kernel_rfl) (by kernel_rfl) (by kernel_rfl) (by exact fun _ _ _ h => h) (Or.inr ⟨by (go_simp; try (intro hh; cases hh)), rfl⟩) (by assumption) ?_); try simp only [Act.put, List.setIfInBounds_toArray, List.set_cons_zero, List.set_cons_succ])
          ((refine wpAnyH_take (i := 12) (v := undef) (by (simp only [List.getElem?_toArray, List.getElem?_cons_succ, List.getElem?_cons_zero]); rfl) (by kernel_rfl) (by kernel_rfl) (by kernel_rfl) (by exact fun _ _ _ h => h) (Or.inr ⟨by (go_simp; try (intro hh; cases hh)), rfl⟩) (by assumption) ?_); try simp only [Act.put, List.setIfInBounds_toArray, List.set_cons_zero, List.set_cons_succ])
          ((refine wpAnyH_take (i := 13) (v := undef) (by (simp only [List.getElem?_toArray, List.getElem?_cons_succ, List.getElem?_cons_zero]); rfl) (by kernel_rfl) (by kernel_rfl) (by kernel_rfl) (by exact fun _ _ _ h => h) (Or.inr ⟨by (go_simp; try (intro hh; cases hh)), rfl⟩) (by assumption) ?_); try simp only [Act.put, List.setIfInBounds_toArray, List.set_cons_zero, List.set_cons_succ])
          ((refine wpAnyH_take (i := 14) (v := undef) (by (simp only [List.getElem?_toArray, List.getElem?_cons_succ, List.getElem?_cons_zero]); rfl) (by kernel_rfl) (by kernel_rfl) (by kernel_rfl) (by exact fun _ _ _ h => h) (Or.inr ⟨by (go_simp; try (intro hh; cases hh)), rfl⟩) (by assumption) ?_); try simp only [Act.put, List.setIfInBounds_toArray, List.set_cons_zero, List.set_cons_succ])
          ((refine wpAnyH_take (i := 15) (v := undef) (by (simp only [List.getElem?_toArray, List.getElem?_cons_succ, List.getElem?_cons_zero]); rfl) (by kernel_rfl) (by kernel_rfl) (by kernel_rfl) (by exact fun _ _ _ h => h) (Or.inr ⟨by (go_simp; try (intro hh; cases hh)), rfl⟩) (by assumption) ?_); try simp only [Act.put, List.setIfInBounds_toArray, List.set_cons_zero, List.set_cons_succ])
          ((refine wpAnyH_take (i := 16) (v := undef) (by (simp only [List.getElem?_toArray, List.getElem?_cons_succ, List.getElem?_cons_zero]); rfl) (by kernel_rfl) (by kernel_rfl) (by kernel_rfl) (by exact fun _ _ _ h => h) (Or.inr ⟨by (go_simp; try (intro hh; cases hh)), rfl⟩) (by assumption) ?_); try simp only [Act.put, List.setIfInBounds_toArray, List.set_cons_zero, List.set_cons_succ])
          ((refine wpAnyH_take (i := 17) (v := ?_) (by (simp only [List.getElem?_toArray, List.getElem?_cons_succ, List.getElem?_cons_zero]); rfl) (by kernel_rfl) (by kernel_rfl) (by kernel_rfl) (by exact fun _ _ _ h => h) (Or.inl ⟨by rfl, ?_⟩) (by assumption) ?_); rotate_left; focus (intro wS hSw; (try dsimp only at hSw); go_simp; first | done | with_reducible rfl); try simp only [Act.put, List.setIfInBounds_toArray, List.set_cons_zero, List.set_cons_succ])
          refine wpAnyH_done (by kernel_rfl) ?_ _
          all_goals
            go_wp2_with fail
            go_roundw
            case rel => exact ⟨k + 1, by omega, by go_num, by rw [HF.out], HQ1.out.2.2, HQ1.out.1⟩
            case measure => simp [intOf]; omega
        · obtain ⟨s2, hs2⟩ : ∃ s2, s2 = (T m).s := ⟨_, rfl⟩
          obtain ⟨f2, hf2⟩ : ∃ f2, f2 = (T m).f := ⟨_, rfl⟩
          obtain ⟨l0, l1⟩ := (HS.out.below hbel).cell m (by omega)
          rw [← hs2] at l0
          rw [← hf2] at l1
          obtain ⟨L, hL⟩ : ∃ L, L = lt k m := ⟨_, rfl⟩
          have CA : Hid (∀ W, Calls Try.prog fA (#[.agg #[.int .i64 s, .int .i64 f], .agg #[.int .i64 s2, .int .i64 f2]] ++ #[]) W fun e w' => e = .returned (.bool L) ∧ Below W.heap.size W w') := Lib.hid (fun W => by rw [hs, hf, hs2, hf2, hL]; exact HA.out W k m hlt (by omega))
          have HF : Hid (firstI tk lt (k + 1) = if L then k else m) := Lib.hid (by
            cases hL2 : L
            · rw [firstI_some (firstS_s0 hbst (by rw [htk, ← hL, hL2]; rfl))]; rfl
            · rw [firstI_some (firstS_s1 hbst (by rw [htk, ← hL, hL2]; rfl))]; rfl)
          have HKL : Hid (∀ X, FQ w w.heap.size wr.heap.size #[.func (.func fT) #[] capT, .func (.func fA) #[] #[]] #[.int .i64 s, .int .i64 f] X → X.cell? ⟨b, o + m * 2, none⟩ = some (.int .i64 s2) ∧ X.cell? ⟨b, o + m * 2 + 1, none⟩ = some (.int .i64 f2)) := Lib.hid (fun X hX => by rw [hs2, hf2]; exact (HS.out.below hX.2.2).cell m (by omega))
          rw [htk] at CT
          have bm : decide ((m : Int) < 0) = false := by simp
          have q2 : wr.heap.size ≠ b := by omega
          have i1 : (0 : Int) ≤ (m : Int) := by omega
          have i2 : (m : Int) < (n : Int) := by omega
          clear hbst htk hs hf hs2 hf2 hL
          cases L
          all_goals
            go_wp2_with fail
            go_region_held3 (fun X => X.cell? ⟨w.heap.size, 0, none⟩ = some (.func (.func fT) #[] capT) ∧ X.cell? ⟨w.heap.size, 1, none⟩ = some (.func (.func fA) #[] #[]) ∧ X.cell? ⟨wr.heap.size, 0, none⟩ = some (.int .i64 s) ∧ X.cell? ⟨wr.heap.size, 1, none⟩ = some (.int .i64 f) ∧ X.cell? ⟨b, o + m * 2, none⟩ = some (.int .i64 s2) ∧ X.cell? ⟨b, o + m * 2 + 1, none⟩ = some (.int .i64 f2))
              (first | exact ⟨HQ.out.1.1 0, HQ.out.1.1 1, HQ.out.2.1.1 0, HQ.out.2.1.1 1, (HKL.out _ HQ.out).1, (HKL.out _ HQ.out).2⟩ | with_reducible exact ⟨g0, g1, g2, g3, g4, g5⟩ | with_reducible exact ⟨p0, p1, p2, p3, p4, p5⟩ | go_keep)
              (first
                | (refine Calls.mono (CT.out _ HQ.out.2.2) ?_; rintro e W1 ⟨rfl, hW1⟩; have HQ1 := Lib.hid (HQ.out.step hW1); have p0 : W1.cell? ⟨w.heap.size, 0, none⟩ = some (.func (.func fT) #[] capT) := HQ1.out.1.1 0; have p1 : W1.cell? ⟨w.heap.size, 1, none⟩ = some (.func (.func fA) #[] #[]) := HQ1.out.1.1 1; have p2 : W1.cell? ⟨wr.heap.size, 0, none⟩ = some (.int .i64 s) := HQ1.out.2.1.1 0; have p3 : W1.cell? ⟨wr.heap.size, 1, none⟩ = some (.int .i64 f) := HQ1.out.2.1.1 1; have p45 := HKL.out _ HQ1.out; obtain ⟨p4, p5⟩ := p45; clear hW1)
                | (refine Calls.mono (CA.out _) ?_; rintro e W2 ⟨rfl, hW2⟩; have HQ2 := Lib.hid (HQ1.out.step hW2); have g0 : W2.cell? ⟨w.heap.size, 0, none⟩ = some (.func (.func fT) #[] capT) := HQ2.out.1.1 0; have g1 : W2.cell? ⟨w.heap.size, 1, none⟩ = some (.func (.func fA) #[] #[]) := HQ2.out.1.1 1; have g2 : W2.cell? ⟨wr.heap.size, 0, none⟩ = some (.int .i64 s) := HQ2.out.2.1.1 0; have g3 : W2.cell? ⟨wr.heap.size, 1, none⟩ = some (.int .i64 f) := HQ2.out.2.1.1 1; have g45 := HKL.out _ HQ2.out; obtain ⟨g4, g5⟩ := g45; clear hW2))
            all_goals
              go_wp2_with fail
              go_roundw
              case rel => exact ⟨k + 1, by omega, by go_num, by rw [HF.out]; rfl, HQ2.out.2.2, HQ2.out.1⟩
              case measure => simp [intOf]; omega
    · obtain rfl : k = n := by omega
      go_wp2_with fail
      go_ret
      exact ⟨rfl, hbel⟩
end Go.Proofs.Ytoodmocapagapaa
