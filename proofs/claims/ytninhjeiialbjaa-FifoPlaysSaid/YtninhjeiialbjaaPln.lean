/-
  A step of both queues: All; any act.
-/
import Derived.Test.YtninhjeiialbjaaPlm
namespace Go.Proofs.Ytninhjeiialbjaa
open Go.RowKit
set_option linter.unusedSimpArgs false
set_option linter.unusedVariables false

set_option maxRecDepth 100000 in
set_option maxHeartbeats 8000000 in
theorem step_told (D R o room f n D2 : Nat) (dr : Int) (ob : Option Nat) (v : Value) (E F : Nat → PkE) (d k num t c : Int) (a : Option Addr) (ln ca : Nat) (w : World) (h : JQ w D R o room f n dr D2 ob v E F) (hd0 : d ≠ 0) (hd1 : d ≠ 1) (hd2 : d ≠ 2) :
    Calls Try.prog 37 #[.pointer (some ⟨D, 0, none⟩), .pointer (some ⟨D2, 0, none⟩), .agg #[.int .i64 d, .int .i64 k, .int .i64 num, .int .i64 t, .int .i64 c, .slice a ln ca]] w fun e w' => e = .returned (.bool true) ∧ Below w.heap.size w w' := by
  obtain ⟨N, hN⟩ : ∃ N, N = w.heap.size := ⟨_, rfl⟩
  obtain ⟨W1, hW1⟩ : ∃ W1, W1 = w.alloc (.cells #[.int .i64 d, .int .i64 k, .int .i64 num, .int .i64 t, .int .i64 c, .slice a ln ca] 59) := ⟨_, rfl⟩
  have hB1 : Below w.heap.size w W1 := by rw [hW1]; exact (Below.refl _ _).alloc (Nat.le_refl _) _
  have hp : Blk W1 N #[.int .i64 d, .int .i64 k, .int .i64 num, .int .i64 t, .int .i64 c, .slice a ln ca] 59 := by rw [hW1, hN]; exact blk_new _ _ _
  have hj := h.below hB1
  have HP1 : Hid (Blk W1.drew N #[.int .i64 d, .int .i64 k, .int .i64 num, .int .i64 t, .int .i64 c, .slice a ln ca] 59) := Lib.hid hp
  have HB1 : Hid (Below w.heap.size w W1.drew) := Lib.hid hB1.drew
  have HJ : Hid (JQ W1.drew D R o room f n dr D2 ob v E F) := Lib.hid (hj.below ((Below.refl _ _).drew : Below W1.heap.size W1 W1.drew))
  have HT := Lib.hid (told_any D R o room f n dr D2 ob v E F k W1.drew HJ.out)
  have c0 : W1.cell? ⟨N, 0, none⟩ = some (.int .i64 d) := cell_at hp 0
  have hN1 := hp.lt
  have e0 : (d == 0) = false := by simpa using hd0
  have e1 : (d == 1) = false := by simpa using hd1
  have e2 : (d == 2) = false := by simpa using hd2
  obtain ⟨va, vc, rfl, _, _⟩ := h.r.shape
  clear hB1 hp hj h hd0 hd1 hd2
  go_enter Try.func37, Try.ntmps37
  go_upto_region 1 with fail
  rw [← hN, ← hW1]
  clear hN hW1
  go_upto_region 12 with fail
  refine wp_region_held_drew (S := fun X => X.cell? ⟨N, 1, none⟩ = some (.int .i64 k) ∧ X.cell? ⟨D2, 1, none⟩ = some (.slice va n vc) ∧ N < X.heap.size ∧ D2 < X.heap.size) (by kernel_rfl) ⟨cell_at HP1.out 1, cell_at HJ.out.r.own 1, HP1.out.lt, HJ.out.r.own.lt⟩ (fun hHeld => ?_)
  clear c0 hN1
  ((refine wpAnyH_take (i := 0) (v := ?_) (by (simp only [List.getElem?_toArray, List.getElem?_cons_succ, List.getElem?_cons_zero]); rfl) (by kernel_rfl) (by kernel_rfl) (by kernel_rfl) (by exact fun _ _ _ h => h) (Or.inl ⟨by rfl, ?_⟩) (by assumption) ?_); rotate_left; focus (intro wS hSw; (try dsimp only at hSw); go_simp; first | done | with_reducible rfl); try simp only [Act.put, List.setIfInBounds_toArray, List.set_cons_zero, List.set_cons_succ])
  ((refine wpAnyH_take (i := 1) (v := ?_) (by (simp only [List.getElem?_toArray, List.getElem?_cons_succ, List.getElem?_cons_zero]); rfl) (by kernel_rfl) (by kernel_rfl) (by kernel_rfl) (by exact fun _ _ _ h => h) (Or.inl ⟨by rfl, ?_⟩) (by assumption) ?_); rotate_left; focus (intro wS hSw; (try dsimp only at hSw); go_simp; first | done | with_reducible rfl); try simp only [Act.put, List.setIfInBounds_toArray, List.set_cons_zero, List.set_cons_succ])
  ((refine wpAnyH_take (i := 2) (v := ?_) (by (simp only [List.getElem?_toArray, List.getElem?_cons_succ, List.getElem?_cons_zero]); rfl) (by kernel_rfl) (by kernel_rfl) (by kernel_rfl) (by exact fun _ _ _ h => h) (Or.inl ⟨by rfl, ?_⟩) (by assumption) ?_); rotate_left; focus (intro wS hSw; (try dsimp only at hSw); go_simp; first | done | with_reducible rfl); try simp only [Act.put, List.setIfInBounds_toArray, List.set_cons_zero, List.set_cons_succ])
  ((refine wpAnyH_take (i := 3) (v := ?_) (by (simp only [List.getElem?_toArray, List.getElem?_cons_succ, List.getElem?_cons_zero]); rfl) (by kernel_rfl) (by kernel_rfl) (by kernel_rfl) (by exact fun _ _ _ h => h) (Or.inl ⟨by rfl, ?_⟩) (by assumption) ?_); rotate_left; focus (intro wS hSw; (try dsimp only at hSw); go_simp; first | done | with_reducible rfl); try simp only [Act.put, List.setIfInBounds_toArray, List.set_cons_zero, List.set_cons_succ])
  ((refine wpAnyH_take (i := 4) (v := ?_) (by (simp only [List.getElem?_toArray, List.getElem?_cons_succ, List.getElem?_cons_zero]); rfl) (by kernel_rfl) (by kernel_rfl) (by kernel_rfl) (by exact fun _ _ _ h => h) (Or.inl ⟨by rfl, ?_⟩) (by assumption) ?_); rotate_left; focus (intro wS hSw; (try dsimp only at hSw); go_simp; first | done | with_reducible rfl); try simp only [Act.put, List.setIfInBounds_toArray, List.set_cons_zero, List.set_cons_succ])
  ((refine wpAnyH_take (i := 5) (v := ?_) (by (simp only [List.getElem?_toArray, List.getElem?_cons_succ, List.getElem?_cons_zero]); rfl) (by kernel_rfl) (by kernel_rfl) (by kernel_rfl) (by exact fun _ _ _ h => h) (Or.inl ⟨by rfl, ?_⟩) (by assumption) ?_); rotate_left; focus (intro wS hSw; (try dsimp only at hSw); go_simp; first | done | with_reducible rfl); try simp only [Act.put, List.setIfInBounds_toArray, List.set_cons_zero, List.set_cons_succ])
  ((refine wpAnyH_take (i := 6) (v := ?_) (by (simp only [List.getElem?_toArray, List.getElem?_cons_succ, List.getElem?_cons_zero]); rfl) (by kernel_rfl) (by kernel_rfl) (by kernel_rfl) (by exact fun _ _ _ h => h) (Or.inl ⟨by rfl, ?_⟩) (by assumption) ?_); rotate_left; focus (intro wS hSw; (try dsimp only at hSw); go_simp; first | done | with_reducible rfl); try simp only [Act.put, List.setIfInBounds_toArray, List.set_cons_zero, List.set_cons_succ])
  ((refine wpAnyH_ready (rs := [7]) (by kernel_rfl) (by simp) ?_); (refine AllReadyH.cons (by (simp only [List.getElem?_toArray, List.getElem?_cons_succ, List.getElem?_cons_zero]); rfl) (fun K hK => ?_) AllReadyH.nil); go_simp; refine Calls.mono HT.out ?_)
  rintro e W3 ⟨rfl, hB3⟩
  have HP3 := Lib.hid (HP1.out.step hB3)
  have HJ3 := Lib.hid (HJ.out.below hB3)
  have HB3 := Lib.hid (HB1.out.trans (hB3.mono HB1.out.size))
  clear hB3
  go_wp2_with fail
  refine hK.out _ _ ⟨cell_at HP3.out 1, cell_at HJ3.out.r.own 1, HP3.out.lt, HJ3.out.r.own.lt⟩ (fun hHeld => ?_)
  clear hK K
  try simp only [Act.put, List.setIfInBounds_toArray, List.set_cons_zero, List.set_cons_succ]
  ((refine wpAnyH_take (i := 8) (v := ?_) (by (simp only [List.getElem?_toArray, List.getElem?_cons_succ, List.getElem?_cons_zero]); rfl) (by kernel_rfl) (by kernel_rfl) (by kernel_rfl) (by exact fun _ _ _ h => h) (Or.inl ⟨by rfl, ?_⟩) (by assumption) ?_); rotate_left; focus (intro wS hSw; (try dsimp only at hSw); go_simp; first | done | with_reducible rfl); try simp only [Act.put, List.setIfInBounds_toArray, List.set_cons_zero, List.set_cons_succ])
  refine wpAnyH_done (by kernel_rfl) ?_ _
  go_wp2_with fail
  go_ret
  exact ⟨rfl, HB3.out⟩

theorem jstep_any (B D R o room f n D2 : Nat) (dr : Int) (ob : Option Nat) (v : Value) (E F : Nat → PkE) (d k num t c : Int) (a : Option Addr) (ln ca b oo : Nat) (X : Nat → Nat) (w : World) (h : JQ w D R o room f n dr D2 ob v E F) (hl : ByIn w a ln ca b oo X) (hbB : 0 < ln → b < B) (hln : ln ≤ 3000) (hdr : 0 ≤ dr ∧ dr ≤ 1000000) (hBw : B ≤ w.heap.size) (hBD : B ≤ D ∧ B ≤ R ∧ B ≤ D2) (hBo : ∀ g, ob = some g → B ≤ g) :
    Calls Try.prog 37 #[.pointer (some ⟨D, 0, none⟩), .pointer (some ⟨D2, 0, none⟩), .agg #[.int .i64 d, .int .i64 k, .int .i64 num, .int .i64 t, .int .i64 c, .slice a ln ca]] w fun e w' => e = .returned (.bool true) ∧ ∃ dr', (dr' = dr ∨ dr' = dr + 1) ∧ JP B D R o room D2 dr' w w' := by
  by_cases h0 : d = 0
  · subst h0
    exact jstep_push B D R o room f n D2 dr ob v E F k num t c a ln ca b oo X w h hl hbB hln hdr hBw hBD hBo
  · by_cases h1 : d = 1
    · subst h1
      exact (jstep_pop B D R o room f n D2 dr ob v E F k num t c a ln ca w h hBw hBD hBo).mono fun e w' q => ⟨q.1, dr, .inl rfl, q.2⟩
    · by_cases h2 : d = 2
      · subst h2
        exact (jstep_head B D R o room f n D2 dr ob v E F k num t c a ln ca w h hBw hBo).mono fun e w' q => ⟨q.1, dr, .inl rfl, q.2⟩
      · exact (step_told D R o room f n D2 dr ob v E F d k num t c a ln ca w h h0 h1 h2).mono fun e w' q => ⟨q.1, dr, .inl rfl, f, n, ob, v, E, F, h.below q.2, hBo, q.2.mono hBw⟩
end Go.Proofs.Ytninhjeiialbjaa
