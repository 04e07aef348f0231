/-
  WireEntry: entries that are the same.
-/
import Derived.Test.YtiednacpmlilbaaDoorWq7
import Derived.Test.YtiednacpmlilbaaDoorWen
import Derived.Test.YtiednacpmlilbaaDoorWd2
namespace Go.Proofs.YtiednacpmlilbaaDoor
open Go.RowKit
set_option linter.unusedSimpArgs false
set_option linter.unusedVariables false

theorem vds_entry {W : World} {cs : Array Value} {ds : List WD} (h : VDs W cs entryW ds) (hn : cs.size = 5) : ∃ (t k st : Int) (n : Nat) (da : Option Addr) (dn dc : Nat) (l : List Nat), cs = #[.int .i64 t, .int .i8 k, .int .i64 st, .int .u8 (n : Nat), .slice da dn dc] ∧ ds = [.i t, .i k, .i st, .i (n : Nat), .b l] ∧ BV W (.slice da dn dc) l ∧ n < 256 := by
  obtain ⟨c0, c1, c2, c3, c4, hcx⟩ := len5 (show cs.toList.length = 5 by simpa using hn)
  obtain rfl : cs = #[c0, c1, c2, c3, c4] := by apply Array.ext'; rw [hcx]
  obtain ⟨d0, d1, d2, d3, d4, rfl⟩ := len5 (show ds.length = 5 from h.1)
  obtain ⟨v0, e0, h0⟩ := h.2 0 .num d0 rfl rfl
  obtain ⟨v1, e1, h1⟩ := h.2 1 .small d1 rfl rfl
  obtain ⟨v2, e2, h2⟩ := h.2 2 .num d2 rfl rfl
  obtain ⟨v3, e3, h3⟩ := h.2 3 .set d3 rfl rfl
  obtain ⟨v4, e4, h4⟩ := h.2 4 .text d4 rfl rfl
  obtain rfl : c0 = v0 := Option.some.inj e0
  obtain rfl : c1 = v1 := Option.some.inj e1
  obtain rfl : c2 = v2 := Option.some.inj e2
  obtain rfl : c3 = v3 := Option.some.inj e3
  obtain rfl : c4 = v4 := Option.some.inj e4
  cases d0 with
  | b _ => exact h0.elim
  | i t =>
  cases d1 with
  | b _ => exact h1.elim
  | i k =>
  cases d2 with
  | b _ => exact h2.elim
  | i st =>
  cases d3 with
  | b _ => exact h3.elim
  | i n =>
  cases d4 with
  | i _ => exact h4.elim
  | b l =>
  obtain ⟨rfl, _⟩ := h0
  obtain ⟨rfl, _⟩ := h1
  obtain ⟨rfl, _⟩ := h2
  obtain ⟨rfl, n0, n1⟩ := h3
  obtain ⟨m, rfl⟩ := Int.eq_ofNat_of_zero_le n0
  have h4' : BV W c4 l := h4
  have h4'' := h4'
  obtain ⟨a, b, o, c, rfl, _⟩ := h4'
  exact ⟨t, k, st, m, a, _, c, l, rfl, rfl, h4'', by omega⟩
def reU (bs : List Nat) : List WD × Int × Int := match readFs entryW bs with
  | .error a => ([.i 0, .i 0, .i 0, .i ((0 : Nat) : Int), .b []], (a : Nat), 50)
  | .ok xs => (xs, 0, 0)
theorem reU_any (w : World) (v : Value) (bs : List Nat) (hv : BV w v bs) (hl : bs.length ≤ 1048576) :
    Calls Tryd.prog 10 #[v] w fun e w' => ∃ t k st n da dn dc l, e = .returned (.tuple #[.agg #[.int .i64 t, .int .i8 k, .int .i64 st, .int .u8 (n : Nat), .slice da dn dc], .int .i64 (reU bs).2.1, .int .i64 (reU bs).2.2]) ∧ (reU bs).1 = [.i t, .i k, .i st, .i (n : Nat), .b l] ∧ BV w' (.slice da dn dc) l ∧ Below w.heap.size w w' := by
  refine Calls.mono (rEntry_any w v bs hv hl) ?_
  rintro e w' ⟨hB, h1⟩
  unfold reU
  rcases h : readFs entryW bs with a | xs
  · rw [h] at h1
    exact ⟨0, 0, 0, 0, none, 0, 0, [], h1, rfl, bv_nil _, hB⟩
  · rw [h] at h1
    obtain ⟨cs, h2, h3, h4⟩ := h1
    obtain ⟨t, k, st, n, da, dn, dc, l, rfl, h5, h6, _⟩ := vds_entry h4 h3
    exact ⟨t, k, st, n, da, dn, dc, l, h2, h5, h6, hB⟩
theorem rreU_any (w : World) (v : Value) (bs : List Nat) (hv : BV w v bs) (hl : bs.length ≤ 1048576) :
    Calls Tryd.prog 11 #[v] w fun e w' => ∃ t k st n da dn dc l, e = .returned (.tuple #[.agg #[.int .i64 t, .int .i8 k, .int .i64 st, .int .u8 (n : Nat), .slice da dn dc], .int .i64 (reU bs).2.1, .int .i64 (reU bs).2.2]) ∧ (reU bs).1 = [.i t, .i k, .i st, .i (n : Nat), .b l] ∧ BV w' (.slice da dn dc) l ∧ Below w.heap.size w w' := by
  refine Calls.mono (rrEntry_any w v bs hv hl) ?_
  rintro e w' ⟨hB, h1⟩
  unfold reU
  rcases h : readFs entryW bs with a | xs
  · rw [h] at h1
    exact ⟨0, 0, 0, 0, none, 0, 0, [], h1, rfl, bv_nil _, hB⟩
  · rw [h] at h1
    obtain ⟨cs, h2, h3, h4⟩ := h1
    obtain ⟨t, k, st, n, da, dn, dc, l, rfl, h5, h6, _⟩ := vds_entry h4 h3
    exact ⟨t, k, st, n, da, dn, dc, l, h2, h5, h6, hB⟩
set_option maxRecDepth 100000 in
set_option maxHeartbeats 8000000 in
theorem same_data (w : World) (v1 v2 : Value) (l : List Nat) (h1 : BV w v1 l) (h2 : BV w v2 l) : Calls Tryd.prog 47 #[v1, v2] w fun e w' => e = .returned (.bool true) ∧ w = w' := by
  have q1 := bv_string h1
  have q2 := bv_string h2
  obtain ⟨sA, hsA⟩ : ∃ x, x = (bytesU l).toArray := ⟨_, rfl⟩
  rw [← hsA] at q1 q2
  clear hsA h1 h2
  go_enter Tryd.func47, Tryd.ntmps47
  go_wp2_with fail
  go_ret
  exact ⟨rfl, rfl⟩
set_option maxRecDepth 100000 in
set_option maxHeartbeats 8000000 in
theorem same_entry (w : World) (t k st : Int) (n : Nat) (da : Option Addr) (dn dc : Nat) (ea : Option Addr) (en ec : Nat) (l : List Nat) (h1 : BV w (.slice da dn dc) l) (h2 : BV w (.slice ea en ec) l) :
    Calls Tryd.prog 14 #[.agg #[.int .i64 t, .int .i8 k, .int .i64 st, .int .u8 (n : Nat), .slice da dn dc], .agg #[.int .i64 t, .int .i8 k, .int .i64 st, .int .u8 (n : Nat), .slice ea en ec]] w fun e w' => e = .returned (.bool true) ∧ Below w.heap.size w w' := by
  obtain ⟨A, hA⟩ : ∃ A, A = w.heap.size := ⟨_, rfl⟩
  obtain ⟨B, hB⟩ : ∃ B, B = A + 1 := ⟨_, rfl⟩
  obtain ⟨W1, hW1⟩ : ∃ X, X = (w.alloc (.cells #[.int .i64 t, .int .i8 k, .int .i64 st, .int .u8 (n : Nat), .slice da dn dc] 25)).alloc (.cells #[.int .i64 t, .int .i8 k, .int .i64 st, .int .u8 (n : Nat), .slice ea en ec] 25) := ⟨_, rfl⟩
  have b1 := alloc_b w (.cells #[.int .i64 t, .int .i8 k, .int .i64 st, .int .u8 (n : Nat), .slice da dn dc] 25)
  have b2 := alloc_b (w.alloc (.cells #[.int .i64 t, .int .i8 k, .int .i64 st, .int .u8 (n : Nat), .slice da dn dc] 25)) (.cells #[.int .i64 t, .int .i8 k, .int .i64 st, .int .u8 (n : Nat), .slice ea en ec] 25)
  have bb : Below w.heap.size w W1 := by rw [hW1]; exact b1.trans (b2.mono b1.size)
  have kA : Blk W1 A #[.int .i64 t, .int .i8 k, .int .i64 st, .int .u8 (n : Nat), .slice da dn dc] 25 := by rw [hW1, hA]; exact (blk_new w _ _).step b2
  have kB : Blk W1 B #[.int .i64 t, .int .i8 k, .int .i64 st, .int .u8 (n : Nat), .slice ea en ec] 25 := by rw [hW1, hB, hA]; have := blk_new (w.alloc (.cells #[.int .i64 t, .int .i8 k, .int .i64 st, .int .u8 (n : Nat), .slice da dn dc] 25)) #[.int .i64 t, .int .i8 k, .int .i64 st, .int .u8 (n : Nat), .slice ea en ec] 25; simpa using this
  have a0 : W1.cell? ⟨A, 0, none⟩ = some (.int .i64 t) := cell_at kA 0
  have y0 : W1.cell? ⟨B, 0, none⟩ = some (.int .i64 t) := cell_at kB 0
  have a1 : W1.cell? ⟨A, 1, none⟩ = some (.int .i8 k) := cell_at kA 1
  have y1 : W1.cell? ⟨B, 1, none⟩ = some (.int .i8 k) := cell_at kB 1
  have a2 : W1.cell? ⟨A, 2, none⟩ = some (.int .i64 st) := cell_at kA 2
  have y2 : W1.cell? ⟨B, 2, none⟩ = some (.int .i64 st) := cell_at kB 2
  have a3 : W1.cell? ⟨A, 3, none⟩ = some (.int .u8 (n : Nat)) := cell_at kA 3
  have y3 : W1.cell? ⟨B, 3, none⟩ = some (.int .u8 (n : Nat)) := cell_at kB 3
  have a4 : W1.cell? ⟨A, 4, none⟩ = some (.slice da dn dc) := cell_at kA 4
  have y4 : W1.cell? ⟨B, 4, none⟩ = some (.slice ea en ec) := cell_at kB 4
  have HC := Lib.hid (same_data W1 _ _ l (h1.below bb) (h2.below bb))
  have HB := Lib.hid bb
  have HX := Lib.hid (And.intro hA hB)
  clear b1 b2 bb kA kB h1 h2 hA hB
  go_enter Tryd.func14, Tryd.ntmps14
  go_upto_region 1 with fail
  rw [← HX.out.1, ← HX.out.2, ← hW1]
  clear hW1
  go_wp2_with (refine Calls.mono HC.out ?_; rintro e W2 ⟨rfl, rfl⟩; clear HC)
  try go_wp2_with fail
  go_ret
  exact ⟨rfl, HB.out⟩
end Go.Proofs.YtiednacpmlilbaaDoor
