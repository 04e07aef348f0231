/-
  The law StampCredits, walked.
-/
import Derived.Test.YtdmgmicnfoebmaaSt2
namespace Go.Proofs.Ytdmgmicnfoebmaa
open Go.RowKit

/-- an entry's box, behind calls that make memory -/
def EBox (w : World) (t k s st : Int) (v : Value) (W : World) : Prop :=
  (W.cell? ⟨w.heap.size, 0, none⟩ = some (.int .i64 t) ∧ W.cell? ⟨w.heap.size, 1, none⟩ = some (.int .i8 k) ∧ W.cell? ⟨w.heap.size, 2, none⟩ = some (.int .i64 s) ∧ W.cell? ⟨w.heap.size, 3, none⟩ = some (.int .u8 st) ∧ W.cell? ⟨w.heap.size, 4, none⟩ = some v) ∧ w.heap.size < W.heap.size ∧ Below w.heap.size w W
theorem EBox.mk0 (w : World) (t k s st : Int) (v : Value) : EBox w t k s st v (w.alloc (.cells #[.int .i64 t, .int .i8 k, .int .i64 s, .int .u8 st, v] 58)) :=
  ⟨⟨by go_simp, by go_simp, by go_simp, by go_simp, by go_simp⟩, by simp, (Below.refl _ _).alloc (Nat.le_refl _) _⟩
theorem EBox.step {w A B : World} {t k s st : Int} {v : Value} (q : EBox w t k s st v A) (h : Below A.heap.size A B) : EBox w t k s st v B := by
  obtain ⟨⟨q0, q1, q2, q5, q6⟩, q3, q4⟩ := q
  exact ⟨⟨(h.cell (p := ⟨_, 0, none⟩) q3).trans q0, (h.cell (p := ⟨_, 1, none⟩) q3).trans q1, (h.cell (p := ⟨_, 2, none⟩) q3).trans q2, (h.cell (p := ⟨_, 3, none⟩) q3).trans q5, (h.cell (p := ⟨_, 4, none⟩) q3).trans q6⟩, by have := h.size; omega, q4.trans (h.mono q4.size)⟩
theorem EBox.drew {w A : World} {t k s st : Int} {v : Value} (q : EBox w t k s st v A) : EBox w t k s st v A.drew := ⟨q.1, q.2.1, q.2.2.drew⟩

set_option maxRecDepth 100000 in
set_option maxHeartbeats 4000000 in
theorem stampCredits_in (term last t k s st : Int) (da : Option Addr) (dl dc : Nat) (ticks rho began now : Int) (w : World) (b0 : -9223372036854775808 ≤ s) (b1 : s ≤ 9223372036854775807) (b2 : -9223372036854775808 ≤ last) (b3 : last ≤ 9223372036854775807)
    (c0 : -9223372036854775808 ≤ now) (c1 : now ≤ 9223372036854775807) (c2 : -9223372036854775808 ≤ began) (c3 : began ≤ 9223372036854775807) :
    Calls Try.prog 8 #[.int .i64 term, .int .i64 last, .agg #[.int .i64 t, .int .i8 k, .int .i64 s, .int .u8 st, .slice da dl dc], .int .i64 ticks, .int .i64 rho, .int .i64 began, .int .i64 now] w fun e w' => e = .returned (.bool true) ∧ Below w.heap.size w w' := by
  have cur := (EBox.mk0 w t k s st (.slice da dl dc)).drew
  obtain ⟨⟨f0, f1, f2, f3, f4⟩, f5, f6⟩ := id cur
  go_enter Try.func8, Try.ntmps8
  go_wp2_with fail
  go_region_held3 (fun W => W.cell? ⟨w.heap.size, 0, none⟩ = some (.int .i64 t) ∧ W.cell? ⟨w.heap.size, 1, none⟩ = some (.int .i8 k) ∧ W.cell? ⟨w.heap.size, 2, none⟩ = some (.int .i64 s) ∧ W.cell? ⟨w.heap.size, 3, none⟩ = some (.int .u8 st) ∧ W.cell? ⟨w.heap.size, 4, none⟩ = some (.slice da dl dc)) (first | exact ⟨f0, f1, f2, f3, f4⟩ | go_keep)
    (first
    | (go_at_call 33; refine (scredit_any _ _ _ _ _ _ _ _ _ _ b0 b1 b2 b3).mono ?_; rintro e W ⟨rfl, hW⟩; have cur := cur.step hW; obtain ⟨⟨f0, f1, f2, f3, f4⟩, f5, f6⟩ := id cur)
    | (go_at_call 34; refine (rcredit_any _ _ _ _ _ _ _ _ _ _).mono ?_; rintro e W ⟨rfl, hW⟩; have cur := cur.step hW; obtain ⟨⟨f0, f1, f2, f3, f4⟩, f5, f6⟩ := id cur)
    | (go_at_call 35; refine (swait_any _ _ _ _ _ c0 c1 c2 c3).mono ?_; rintro e W ⟨rfl, hW⟩; have cur := cur.step hW; obtain ⟨⟨f0, f1, f2, f3, f4⟩, f5, f6⟩ := id cur)
    | (go_at_call 36; refine (rwait_any _ _ _ _ _ c0 c1 c2 c3).mono ?_; rintro e W ⟨rfl, rfl⟩)
    | (go_at_call 27; refine (swakes_any _).mono ?_; rintro e W ⟨rfl, hW⟩; have cur := cur.step hW; obtain ⟨⟨f0, f1, f2, f3, f4⟩, f5, f6⟩ := id cur))
  all_goals
    go_wp2_with fail
    go_ret
    exact ⟨rfl, f6⟩

theorem entry_inv {W : World} {x : Dt} (h : Fits Try.prog W 58 x) : ∃ (t k s st : Int) (da : Option Addr) (dl dc : Nat), x.cells = [.int .i64 t, .int .i8 k, .int .i64 s, .int .u8 st, .slice da dl dc] ∧ -9223372036854775808 ≤ s ∧ s ≤ 9223372036854775807 ∧ -9223372036854775808 ≤ t ∧ t ≤ 9223372036854775807 := by
  obtain ⟨l, rfl, hl2, hl3⟩ := h.agg_inv Try.underlying58
  obtain ⟨y0, e0, f0⟩ := hl3 0 _ rfl
  obtain ⟨y1, e1, f1⟩ := hl3 1 _ rfl
  obtain ⟨y2, e2, f2⟩ := hl3 2 _ rfl
  obtain ⟨y3, e3, f3⟩ := hl3 3 _ rfl
  obtain ⟨y4, e4, f4⟩ := hl3 4 _ rfl
  obtain ⟨n0, rfl, g0⟩ := f0.int_inv Try.underlying3
  obtain ⟨n1, rfl, g1⟩ := f1.int_inv Try.underlying55
  obtain ⟨n2, rfl, g2⟩ := f2.int_inv Try.underlying3
  obtain ⟨n3, rfl, g3⟩ := f3.int_inv Try.underlying5
  obtain ⟨da, dl, dc, ys, rfl, g4⟩ := f4.slice_inv Try.underlying56
  match l, hl2 with
  | [z0, z1, z2, z3, z4], _ =>
    obtain rfl : z0 = _ := by simpa using e0
    obtain rfl : z1 = _ := by simpa using e1
    obtain rfl : z2 = _ := by simpa using e2
    obtain rfl : z3 = _ := by simpa using e3
    obtain rfl : z4 = _ := by simpa using e4
    exact ⟨n0, n1, n2, n3, da, dl, dc, rfl, g2.1, g2.2, g0.1, g0.2⟩

theorem stampCredits_walk (term last : Int) (x : Dt) (ticks rho began now : Int) (w : World) (hx : Fits Try.prog w 58 x) (b2 : -9223372036854775808 ≤ last ∧ last ≤ 9223372036854775807)
    (c0 : -9223372036854775808 ≤ now ∧ now ≤ 9223372036854775807) (c2 : -9223372036854775808 ≤ began ∧ began ≤ 9223372036854775807) :
    Calls Try.prog 8 #[.int .i64 term, .int .i64 last, .agg x.cells.toArray, .int .i64 ticks, .int .i64 rho, .int .i64 began, .int .i64 now] w fun e w' => e = .returned (.bool true) ∧ Below w.heap.size w w' := by
  obtain ⟨t, k, s, st, da, dl, dc, e, h1, h2, _, _⟩ := entry_inv hx
  rw [e]
  exact stampCredits_in term last t k s st da dl dc ticks rho began now w h1 h2 b2.1 b2.2 c0.1 c0.2 c2.1 c2.2
end Go.Proofs.Ytdmgmicnfoebmaa
