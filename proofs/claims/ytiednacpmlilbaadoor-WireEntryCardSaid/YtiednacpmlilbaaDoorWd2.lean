/-
  The document's writers: entries.
-/
import Derived.Test.YtiednacpmlilbaaDoorWd
namespace Go.Proofs.YtiednacpmlilbaaDoor
open Go.RowKit
set_option linter.unusedSimpArgs false
set_option linter.unusedVariables false

set_option maxRecDepth 100000 in
set_option maxHeartbeats 8000000 in
theorem rentry_any (M : Nat) (W : World) (v : Value) (ob : Option Nat) (s : List Nat) (t k st : Int) (e : Nat) (dv : Value) (l : List Nat) (h : BO M W v ob s) (hM : M ≤ W.heap.size) (hx : BL M W dv l) (he : e < 256) (hs : s.length + 26 + l.length ≤ 1000000000) :
    Calls Tryd.prog 46 #[v, .agg #[.int .i64 t, .int .i8 k, .int .i64 st, .int .u8 (e : Nat), dv]] W fun r W' => ∃ a' n' c' ob', r = .returned (.slice a' n' c') ∧ BO M W' (.slice a' n' c') ob' (s ++ encFs entryW [.i t, .i k, .i st, .i (e : Nat), .b l]) ∧ GrB M W W' := by
  have hxl : ∃ a n c, dv = .slice a n c := by obtain ⟨a, _, _, c, e, _⟩ := hx; exact ⟨a, _, c, e⟩
  obtain ⟨da, dn, dc, rfl⟩ := hxl
  obtain ⟨W1, hW1⟩ : ∃ X, X = W.alloc (.cells #[.int .i64 t, .int .i8 k, .int .i64 st, .int .u8 (e : Nat), .slice da dn dc] 25) := ⟨_, rfl⟩
  obtain ⟨B, hB⟩ : ∃ B, B = W.heap.size := ⟨_, rfl⟩
  have b1 : Below W.heap.size W W1 := by rw [hW1]; exact alloc_b _ _
  have k1 : Blk W1 B #[.int .i64 t, .int .i8 k, .int .i64 st, .int .u8 (e : Nat), .slice da dn dc] 25 := by rw [hW1, hB]; exact blk_new _ _ _
  have HG1 := Lib.hid (GrB.of_below b1 hM)
  have HC1 := Lib.hid (rnumber_any M W1 v ob s t (h.step b1) (Nat.le_trans hM b1.size) (by omega))
  have HX := Lib.hid (hx.fr (fun q hq => b1.block q (by omega)) b1.size)
  have q0 : W1.cell? ⟨B, 0, none⟩ = some (.int .i64 t) := cell_at k1 0
  have cv : IntKind.u8.wrap k = ((u8 k : Nat) : Int) := wrap_u8 k
  have hk8 := u8_lt k
  obtain ⟨y, hy⟩ : ∃ y, y = u8 k := ⟨_, rfl⟩
  rw [← hy] at cv hk8
  have HEN : Hid (encFs entryW [.i t, .i k, .i st, .i (e : Nat), .b l] = e8 t ++ ([y] ++ (e8 st ++ ([e] ++ ((e8 (l.length : Nat) ++ l) ++ []))))) := Lib.hid (by rw [hy]; rfl)
  have HS := Lib.hid hs
  have HM := Lib.hid hM
  have HK := Lib.hid k1
  have HE := Lib.hid (And.intro he hk8)
  have HS1 := Lib.hid (Nat.le_trans hM b1.size)
  clear h hM hx he hs b1 k1 hy hk8
  go_enter Tryd.func46, Tryd.ntmps46
  go_upto_region 1 with fail
  rw [← hB, ← hW1]
  clear hB hW1
  go_wp2_with (first
    | (refine Calls.mono HC1.out ?_; rintro r W2 ⟨a1, n1, c1, ob1, rfl, ho1, hg1⟩; have kb := blk_grb HK.out hg1 (by decide); have z1 : W2.cell? ⟨B, 1, none⟩ = some (.int .i8 k) := cell_at kb 1; have hB2 := alloc_b W2 (.cells #[.int .u8 (y : Nat)] 5); obtain ⟨a2, n2, c2, ob2, W3, hr, ho2, hg2⟩ := b_app3 (ty := 23) (ho1.step hB2) (bv_one (blk_new _ _ _) HE.out.2) (Nat.le_trans HS1.out (Nat.le_trans hg1.1.size hB2.size)) (by have := HS.out; rw [List.length_append, e8_len]; simp; omega); have hg3 := (HG1.out.trans hg1).trans ((GrB.of_below hB2 (Nat.le_trans HS1.out hg1.1.size)).trans hg2); have kb3 := blk_grb (blk_grb kb (GrB.of_below hB2 (Nat.le_trans HS1.out hg1.1.size)) (by decide)) hg2 (by decide); have z2 : W3.cell? ⟨B, 2, none⟩ = some (.int .i64 st) := cell_at kb3 2; have HQ := Lib.hid (show ∀ q, q < M → W3.heap[q]? = W1.heap[q]? from fun q hq => ((hg1.trans ((GrB.of_below hB2 (Nat.le_trans HS1.out hg1.1.size)).trans hg2)).1.block q hq)); have HQS := Lib.hid (show ∀ m, W3.heap.size ≤ m → W1.heap.size ≤ m from fun m hm => Nat.le_trans ((hg1.trans ((GrB.of_below hB2 (Nat.le_trans HS1.out hg1.1.size)).trans hg2)).1.size) hm); have HR2 := Lib.hid hr; have HG3 := Lib.hid hg3; have HK3 := Lib.hid kb3; have HC3 := Lib.hid (rnumber_any M W3 _ ob2 _ st ho2 (Nat.le_trans HM.out hg3.1.size) (by have := HS.out; rw [List.length_append, List.length_append, e8_len]; simp; omega)); clear hr ho2 hg2 hg3 kb kb3 hB2 ho1 hg1 HC1)
    | (at_builtin; refine Lib.wpList_append_run _ rfl (.tmp 9) (.tmp 13) 23 23 rfl _ _ rfl rfl _ _ HR2.out ?_)
    | (refine Calls.mono HC3.out ?_; rintro r W4 ⟨a4, n4, c4, ob4, rfl, ho4, hg4⟩; have kb := blk_grb HK3.out hg4 (by decide); have z3 : W4.cell? ⟨B, 3, none⟩ = some (.int .u8 (e : Nat)) := cell_at kb 3; have hB2 := alloc_b W4 (.cells #[.int .u8 (e : Nat)] 5); have hm4 := Nat.le_trans HM.out (HG3.out.trans hg4).1.size; obtain ⟨a5, n5, c5, ob5, W5, hr, ho5, hg5⟩ := b_app3 (ty := 23) (ho4.step hB2) (bv_one (blk_new _ _ _) HE.out.1) (Nat.le_trans hm4 hB2.size) (by have := HS.out; rw [List.length_append, List.length_append, List.length_append, e8_len, e8_len]; simp; omega); have hg6 := (HG3.out.trans hg4).trans ((GrB.of_below hB2 hm4).trans hg5); have kb5 := blk_grb (blk_grb kb (GrB.of_below hB2 hm4) (by decide)) hg5 (by decide); have z4 : W5.cell? ⟨B, 4, none⟩ = some (.slice da dn dc) := cell_at kb5 4; have HR4 := Lib.hid hr; have HG6 := Lib.hid hg6; have HC5 := Lib.hid (rbytes_any5 M W5 _ ob5 _ (.slice da dn dc) l ho5 (Nat.le_trans HM.out hg6.1.size) (BL.fr HX.out (fun q hq => (((GrB.trans hg4 (GrB.of_below hB2 hm4)).trans hg5).1.block q hq).trans (HQ.out q hq)) (HQS.out _ (Nat.le_trans hg4.1.size (Nat.le_trans hB2.size hg5.1.size)))) (by have := HS.out; rw [List.length_append, List.length_append, List.length_append, List.length_append, e8_len, e8_len]; simp; omega)); clear hr ho5 hg5 hg6 kb kb5 hB2 ho4 hg4 HC3)
    | (at_builtin; refine Lib.wpList_append_run _ rfl (.tmp 19) (.tmp 22) 23 23 rfl _ _ rfl rfl _ _ HR4.out ?_)
    | (refine Calls.mono HC5.out ?_; rintro r W6 ⟨a6, n6, c6, ob6, rfl, ho6, hg6⟩; have HEND := Lib.hid (And.intro ho6 (HG6.out.trans hg6)); clear ho6 hg6 HC5))
  try go_wp2_with fail
  go_ret
  refine ⟨_, _, _, ob6, rfl, ?_, HEND.out.2⟩
  have h9 := HEND.out.1
  rw [HEN.out]
  simpa using h9
set_option maxRecDepth 100000 in
set_option maxHeartbeats 8000000 in
theorem rEntry_w (W : World) (t k st : Int) (e : Nat) (dv : Value) (l : List Nat) (hx : BV W dv l) (he : e < 256) (hs : 26 + l.length ≤ 1000000000) :
    Calls Tryd.prog 13 #[.agg #[.int .i64 t, .int .i8 k, .int .i64 st, .int .u8 (e : Nat), dv]] W fun r W' => ∃ v', r = .returned v' ∧ BV W' v' (encFs entryW [.i t, .i k, .i st, .i (e : Nat), .b l]) ∧ Below W.heap.size W W' := by
  obtain ⟨W1, hW1⟩ : ∃ X, X = W.alloc (.cells #[.int .i64 t, .int .i8 k, .int .i64 st, .int .u8 (e : Nat), dv] 25) := ⟨_, rfl⟩
  obtain ⟨B, hB⟩ : ∃ B, B = W.heap.size := ⟨_, rfl⟩
  have b1 : Below W.heap.size W W1 := by rw [hW1]; exact alloc_b _ _
  have k1 : Blk W1 B #[.int .i64 t, .int .i8 k, .int .i64 st, .int .u8 (e : Nat), dv] 25 := by rw [hW1, hB]; exact blk_new _ _ _
  have hbl : BL W.heap.size W1 dv l := by
    obtain ⟨a, b, o, c, rfl, h1⟩ := hx
    exact ⟨a, b, o, c, rfl, h1.below b1, fun h0 => (h1.at_ h0).2⟩
  have HC := Lib.hid (rentry_any W.heap.size W1 (.slice none 0 0) none [] t k st e dv l (bo_nil _ _) b1.size hbl he (by simpa using hs))
  have HB := Lib.hid b1
  have q0 : W1.cell? ⟨B, 0, none⟩ = some (.int .i64 t) := cell_at k1 0
  have q1 : W1.cell? ⟨B, 1, none⟩ = some (.int .i8 k) := cell_at k1 1
  have q2 : W1.cell? ⟨B, 2, none⟩ = some (.int .i64 st) := cell_at k1 2
  have q3 : W1.cell? ⟨B, 3, none⟩ = some (.int .u8 (e : Nat)) := cell_at k1 3
  have q4 : W1.cell? ⟨B, 4, none⟩ = some dv := cell_at k1 4
  have hxl : ∃ a n c, dv = .slice a n c := by obtain ⟨a, _, _, c, e, _⟩ := hx; exact ⟨a, _, c, e⟩
  obtain ⟨da, dn, dc, rfl⟩ := hxl
  clear b1 k1 hbl hx hs he
  go_enter Tryd.func13, Tryd.ntmps13
  go_upto_region 1 with fail
  rw [← hB, ← hW1]
  clear hB hW1
  go_wp2_with (refine Calls.mono HC.out ?_; rintro r W2 ⟨a2, n2, c2, ob2, rfl, ho, hg⟩; have HEND := Lib.hid (And.intro ho.v (HB.out.trans hg.1)); clear ho hg HC)
  try go_wp2_with fail
  go_ret
  exact ⟨_, rfl, HEND.out⟩
end Go.Proofs.YtiednacpmlilbaaDoor
