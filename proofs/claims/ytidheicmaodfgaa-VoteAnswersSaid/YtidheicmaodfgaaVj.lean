/-
  VoteCounts, walked.
-/
import Derived.Test.YtidheicmaodfgaaVi
namespace Go.Proofs.Ytidheicmaodfgaa
open Go.RowKit

def HBox (w : World) (t v b : Int) (W : World) : Prop :=
  (W.cell? ⟨w.heap.size, 0, none⟩ = some (.int .i64 t) ∧ W.cell? ⟨w.heap.size, 1, none⟩ = some (.int .i64 v) ∧ W.cell? ⟨w.heap.size, 2, none⟩ = some (.int .i64 b)) ∧ w.heap.size < W.heap.size ∧ Below w.heap.size w W
theorem HBox.mk0 (w : World) (t v b : Int) : HBox w t v b (w.alloc (.cells #[.int .i64 t, .int .i64 v, .int .i64 b] 23)) :=
  ⟨⟨by go_simp, by go_simp, by go_simp⟩, by simp, (Below.refl _ _).alloc (Nat.le_refl _) _⟩
theorem HBox.step {w A B : World} {t v b : Int} (q : HBox w t v b A) (h : Below A.heap.size A B) : HBox w t v b B := by
  obtain ⟨⟨q0, q1, q2⟩, q3, q4⟩ := q
  exact ⟨⟨(h.cell (p := ⟨_, 0, none⟩) q3).trans q0, (h.cell (p := ⟨_, 1, none⟩) q3).trans q1, (h.cell (p := ⟨_, 2, none⟩) q3).trans q2⟩, by have := h.size; omega, q4.trans (h.mono q4.size)⟩
theorem HBox.drew {w A : World} {t v b : Int} (q : HBox w t v b A) : HBox w t v b A.drew := ⟨q.1, q.2.1, q.2.2.drew⟩

set_option maxRecDepth 100000 in
set_option maxHeartbeats 8000000 in
theorem voteCounts_any (ht hv hb term : Int) (s y : Nat) (hs : s < 256) (hy : y < 256) (base draw : Int) (d0 : -9223372036854775808 ≤ draw) (d1 : draw ≤ 9223372036854775807) (w : World) (hwk : ∀ w, Calls Try.prog 11 #[] w fun e w' => e = .returned (.bool true) ∧ Below w.heap.size w w') :
    Calls Try.prog 5 #[.agg #[.int .i64 ht, .int .i64 hv, .int .i64 hb], .int .i64 term, .int .u8 s, .int .u8 y, .int .i64 base, .int .i64 draw] w fun e w' => e = .returned (.bool true) ∧ Below w.heap.size w w' := by
  have HWK := Lib.hid hwk
  obtain ⟨S, hS⟩ : ∃ S : Int, S = (s : Int) := ⟨_, rfl⟩
  obtain ⟨Y, hY⟩ : ∃ Y : Int, Y = (y : Int) := ⟨_, rfl⟩
  obtain ⟨p, hp⟩ : ∃ p, p = countB s y := ⟨_, rfl⟩
  obtain ⟨n, hn⟩ : ∃ n, n = timeoutS base draw := ⟨_, rfl⟩
  obtain ⟨x, hx⟩ : ∃ x, x = riseT ht term := ⟨_, rfl⟩
  obtain ⟨z, hz⟩ : ∃ z, z = riseV ht hv term := ⟨_, rfl⟩
  have C1 : Hid (∀ w, Calls Try.prog 20 #[.int .u8 S, .int .u8 Y] w fun e w' => e = .returned (.bool p) ∧ w = w') := Lib.hid (fun w => by rw [hp, hS, hY]; exact count_any s y w hs hy)
  have C2 : Hid (∀ w, Calls Try.prog 21 #[.int .u8 S, .int .u8 Y] w fun e w' => e = .returned (.bool p) ∧ w = w') := Lib.hid (fun w => by rw [hp, hS, hY]; exact rcount_any s y w hs hy)
  have C3 : Hid (∀ w, Calls Try.prog 22 #[.int .i64 base, .int .i64 draw] w fun e w' => e = .returned (.int .i64 n) ∧ w = w') := Lib.hid (fun w => by rw [hn]; exact timeout_any base draw w d0 d1)
  have C4 : Hid (∀ w, Calls Try.prog 23 #[.int .i64 base, .int .i64 draw] w fun e w' => e = .returned (.int .i64 n) ∧ w = w') := Lib.hid (fun w => by rw [hn]; exact rtimeout_any base draw w d0 d1)
  have C5 : Hid (∀ w, Calls Try.prog 18 #[.agg #[.int .i64 ht, .int .i64 hv, .int .i64 hb], .int .i64 term] w fun e w' => e = .returned (.agg #[.int .i64 x, .int .i64 z, .int .i64 hb]) ∧ Below w.heap.size w w') := Lib.hid (fun w => by rw [hx, hz]; exact rise_any ht hv hb term w)
  have C6 : Hid (∀ w, Calls Try.prog 19 #[.agg #[.int .i64 ht, .int .i64 hv, .int .i64 hb], .int .i64 term] w fun e w' => e = .returned (.agg #[.int .i64 x, .int .i64 z, .int .i64 hb]) ∧ Below w.heap.size w w') := Lib.hid (fun w => by rw [hx, hz]; exact rrise_any ht hv hb term w)
  rw [← hS, ← hY]
  clear hS hY hp hn hx hz hs hy d0 d1 hwk
  have cur := (HBox.mk0 w ht hv hb).drew
  obtain ⟨⟨f0, f1, f2⟩, f3, f4⟩ := id cur
  go_enter Try.func5, Try.ntmps5
  go_wp2_with fail
  go_region_held3 (fun X => X.cell? ⟨w.heap.size, 0, none⟩ = some (.int .i64 ht) ∧ X.cell? ⟨w.heap.size, 1, none⟩ = some (.int .i64 hv) ∧ X.cell? ⟨w.heap.size, 2, none⟩ = some (.int .i64 hb)) (first | exact ⟨f0, f1, f2⟩ | go_keep)
    (first
    | (go_at_call 18; refine (C5.out _).mono ?_; rintro e X ⟨rfl, hX⟩; have cur := cur.step hX; obtain ⟨⟨f0, f1, f2⟩, f3, f4⟩ := id cur)
    | (go_at_call 19; refine (C6.out _).mono ?_; rintro e X ⟨rfl, hX⟩; have cur := cur.step hX; obtain ⟨⟨f0, f1, f2⟩, f3, f4⟩ := id cur)
    | (go_at_call 20; refine (C1.out _).mono ?_; rintro e X ⟨rfl, rfl⟩)
    | (go_at_call 21; refine (C2.out _).mono ?_; rintro e X ⟨rfl, rfl⟩)
    | (go_at_call 22; refine (C3.out _).mono ?_; rintro e X ⟨rfl, rfl⟩)
    | (go_at_call 23; refine (C4.out _).mono ?_; rintro e X ⟨rfl, rfl⟩)
    | (go_at_call 11; refine (HWK.out _).mono ?_; rintro e X ⟨rfl, hX⟩; have cur := cur.step hX; obtain ⟨⟨f0, f1, f2⟩, f3, f4⟩ := id cur))
  all_goals
    go_wp2_with fail
    go_ret
    exact ⟨rfl, f4⟩
end Go.Proofs.Ytidheicmaodfgaa
