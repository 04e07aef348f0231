/-
  The document's reader: entries.
-/
import Derived.Test.YtiednacpmlilbaaDoorWMq
namespace Go.Proofs.YtiednacpmlilbaaDoor
open Go.RowKit
set_option linter.unusedSimpArgs false
set_option linter.unusedVariables false

theorem smallS_bd {R lo : Nat} {bs : List Nat} {W : World} {S0 S : RdS} (h : RdIn R lo bs W S0) : (smallS bs S).1 < 256 := by
  obtain ⟨v, _, ⟨a, b, o, c, rfl, hby, _⟩, _⟩ := h
  have hok : okB bs := BV.ok ⟨a, b, o, c, rfl, hby⟩
  unfold smallS
  cases S with
  | error e => exact (show (0 : Nat) < 256 by decide)
  | ok s =>
    simp only
    split
    · exact hok _ (List.getElem_mem _)
    · exact (show (0 : Nat) < 256 by decide)
theorem numS_bd {R lo : Nat} {bs : List Nat} {W : World} {S0 S : RdS} (h : RdIn R lo bs W S0) : -9223372036854775808 ≤ (numS bs S).1 ∧ (numS bs S).1 ≤ 9223372036854775807 := by
  obtain ⟨v, _, ⟨a, b, o, c, rfl, hby, _⟩, _⟩ := h
  have hok : okB bs := BV.ok ⟨a, b, o, c, rfl, hby⟩
  cases S with
  | error e => exact ⟨show (-9223372036854775808 : Int) ≤ 0 by decide, show (0 : Int) ≤ 9223372036854775807 by decide⟩
  | ok s =>
    unfold numS numB
    rcases ht : takeB bs s 8 with a | l
    · simp only [ht]
      exact ⟨by decide, by decide⟩
    · have h1 := takeB_ok ht
      have h2 := (e8_d8 h1.2.1 (fun x hx => hok x (List.mem_of_mem_drop (i := s) (by rw [h1.2.2]; exact List.mem_append.2 (.inl hx))))).2
      simp only [ht]
      exact h2
theorem Fr.wk {L L' : List Nat} {a b : World} (h : Fr L a b) (hs : ∀ x ∈ L, x ∈ L') : Fr L' a b := ⟨h.os, h.tape, h.output, h.size, fun q hq hm => h.block q hq fun hx => hm (hs q hx)⟩
theorem RdIn.set {R lo : Nat} {bs : List Nat} {W : World} {S : RdS} (h : RdIn R lo bs W S) {q j : Nat} {u : Value} (hq : q ≠ R) (hl : lo ≤ q) : RdIn R lo bs (W.setCell ⟨q, j, none⟩ u) S := by
  obtain ⟨v, h1, h2, h3⟩ := h
  exact ⟨v, (heap_setCell_ne W ⟨q, j, none⟩ u R (fun e => hq e.symm)).trans h1, h2.fr (fun r hr => heap_setCell_ne W ⟨q, j, none⟩ u r (fun e => by dsimp only at e; omega)) (by simp), h3⟩
def truS (bs : List Nat) (S : RdS) : Nat × RdS := if 1 < (smallS bs S).1 then (0, failS (smallS bs S).2 (atS bs.length S)) else ((smallS bs S).1, (smallS bs S).2)
def rdF (bs : List Nat) : WF → RdS → WD × RdS
  | .num, S => (.i (numS bs S).1, (numS bs S).2)
  | .small, S => (.i (i8 (smallS bs S).1), (smallS bs S).2)
  | .set, S => (.i ((smallS bs S).1 : Nat), (smallS bs S).2)
  | .truth, S => (.i ((truS bs S).1 : Nat), (truS bs S).2)
  | .text, S => (.b (bytS bs S).1, (bytS bs S).2)
def rdFs (bs : List Nat) : List WF → RdS → List WD × RdS
  | [], S => ([], S)
  | f :: fs, S => ((rdF bs f S).1 :: (rdFs bs fs (rdF bs f S).2).1, (rdFs bs fs (rdF bs f S).2).2)
theorem rdF_err (bs : List Nat) (f : WF) (e : Nat) : (rdF bs f (.error e)).2 = .error e := by
  cases f <;> rfl
theorem rdFs_err (bs : List Nat) : ∀ (fs : List WF) (e : Nat), (rdFs bs fs (.error e)).2 = .error e
  | [], _ => rfl
  | f :: fs, e => by
    show (rdFs bs fs (rdF bs f (.error e)).2).2 = _
    rw [rdF_err]
    exact rdFs_err bs fs e
theorem small_take (bs : List Nat) (s : Nat) : (∀ l, takeB bs s 1 = .ok l → smallS bs (.ok s) = (l.headD 0, .ok (s + 1))) ∧ (∀ a, takeB bs s 1 = .error a → smallS bs (.ok s) = (0, .error a)) := by
  unfold takeB smallS
  by_cases h : s < bs.length
  · rw [if_pos (by omega)]
    simp only
    rw [dif_pos h]
    refine ⟨fun l e => ?_, fun a e => by cases e⟩
    injection e with e
    rw [← e, List.drop_eq_getElem_cons h]
    rfl
  · rw [if_neg (by omega)]
    simp only
    rw [dif_neg h]
    refine ⟨fun l e => (by cases e), fun a e => ?_⟩
    injection e with e
    rw [e]
theorem rdF_ok (bs : List Nat) (f : WF) (s : Nat) : (∀ d s', decF bs s f = .ok (d, s') → rdF bs f (.ok s) = (d, .ok s')) ∧ (∀ a, decF bs s f = .error a → (rdF bs f (.ok s)).2 = .error a) := by
  have hs := small_take bs s
  cases f
  · rcases h : numB bs s with a | n
    · have h1 : decF bs s .num = .error a := by unfold decF; simp only [h]
      have h2 : rdF bs .num (.ok s) = (.i 0, .error a) := by unfold rdF numS; simp only [h]
      rw [h1, h2]
      exact ⟨fun d s' e => (by cases e), fun a' e => by injection e with e; rw [e]⟩
    · have h1 : decF bs s .num = .ok (.i n, s + 8) := by unfold decF; simp only [h]
      have h2 : rdF bs .num (.ok s) = (.i n, .ok (s + 8)) := by unfold rdF numS; simp only [h]
      rw [h1, h2]
      exact ⟨fun d s' e => by injection e with e; injection e with e1 e2; rw [← e1, ← e2], fun a' e => by cases e⟩
  · rcases h : takeB bs s 1 with a | l
    · have h1 : decF bs s .small = .error a := by unfold decF; simp only [h]
      have h2 : rdF bs .small (.ok s) = (.i (i8 0), .error a) := by show (WD.i (i8 (smallS bs (.ok s)).1), (smallS bs (.ok s)).2) = _; rw [hs.2 a h]
      rw [h1, h2]
      exact ⟨fun d s' e => (by cases e), fun a' e => by injection e with e; rw [e]⟩
    · have h1 : decF bs s .small = .ok (.i (i8 (l.headD 0)), s + 1) := by unfold decF; simp only [h]
      have h2 : rdF bs .small (.ok s) = (.i (i8 (l.headD 0)), .ok (s + 1)) := by show (WD.i (i8 (smallS bs (.ok s)).1), (smallS bs (.ok s)).2) = _; rw [hs.1 l h]
      rw [h1, h2]
      exact ⟨fun d s' e => by injection e with e; injection e with e1 e2; rw [← e1, ← e2], fun a' e => by cases e⟩
  · rcases h : takeB bs s 1 with a | l
    · have h1 : decF bs s .set = .error a := by unfold decF; simp only [h]
      have h2 : (rdF bs .set (.ok s)).2 = .error a := by show (smallS bs (.ok s)).2 = _; rw [hs.2 a h]
      rw [h1, h2]
      exact ⟨fun d s' e => (by cases e), fun a' e => by injection e with e; rw [e]⟩
    · have h1 : decF bs s .set = .ok (.i (l.headD 0 : Nat), s + 1) := by unfold decF; simp only [h]
      have h2 : rdF bs .set (.ok s) = (.i (l.headD 0 : Nat), .ok (s + 1)) := by show (WD.i ((smallS bs (.ok s)).1 : Nat), (smallS bs (.ok s)).2) = _; rw [hs.1 l h]
      rw [h1, h2]
      exact ⟨fun d s' e => by injection e with e; injection e with e1 e2; rw [← e1, ← e2], fun a' e => by cases e⟩
  · rcases h : takeB bs s 1 with a | l
    · have h1 : decF bs s .truth = .error a := by unfold decF; simp only [h]
      have h2 : (rdF bs .truth (.ok s)).2 = .error a := by
        show (truS bs (.ok s)).2 = _
        unfold truS
        rw [hs.2 a h]
        rfl
      rw [h1, h2]
      exact ⟨fun d s' e => (by cases e), fun a' e => by injection e with e; rw [e]⟩
    · by_cases hx : l.headD 0 ≤ 1
      · have h1 : decF bs s .truth = .ok (.i (l.headD 0 : Nat), s + 1) := by unfold decF; simp only [h]; rw [if_pos hx]
        have h2 : rdF bs .truth (.ok s) = (.i (l.headD 0 : Nat), .ok (s + 1)) := by
          show (WD.i ((truS bs (.ok s)).1 : Nat), (truS bs (.ok s)).2) = _
          unfold truS
          rw [hs.1 l h, if_neg (by show ¬ 1 < l.headD 0; omega)]
        rw [h1, h2]
        exact ⟨fun d s' e => by injection e with e; injection e with e1 e2; rw [← e1, ← e2], fun a' e => by cases e⟩
      · have h1 : decF bs s .truth = .error s := by unfold decF; simp only [h]; rw [if_neg hx]
        have h2 : (rdF bs .truth (.ok s)).2 = .error s := by
          show (truS bs (.ok s)).2 = _
          unfold truS
          rw [hs.1 l h, if_pos (by show 1 < l.headD 0; omega)]
          rfl
        rw [h1, h2]
        exact ⟨fun d s' e => (by cases e), fun a' e => by injection e with e; rw [e]⟩
  · rcases h : cntB bs s 1 with a | n
    · have h1 : decF bs s .text = .error a := by unfold decF; simp only [h]
      have h0 : cntS bs 1 (.ok s) = (0, .error a) := by unfold cntS; simp only [h]
      have h2 : (rdF bs .text (.ok s)).2 = .error a := by
        show (bytS bs (.ok s)).2 = _
        unfold bytS
        rw [h0]
        rfl
      rw [h1, h2]
      exact ⟨fun d s' e => (by cases e), fun a' e => by injection e with e; rw [e]⟩
    · have h1 : decF bs s .text = .ok (.b ((bs.drop (s + 8)).take n), s + 8 + n) := by unfold decF; simp only [h]
      have h0 : cntS bs 1 (.ok s) = (n, .ok (s + 8)) := by unfold cntS; simp only [h]
      have h2 : rdF bs .text (.ok s) = (.b ((bs.drop (s + 8)).take n), .ok (s + 8 + n)) := by
        show (WD.b (bytS bs (.ok s)).1, (bytS bs (.ok s)).2) = _
        unfold bytS
        rw [h0]
        rfl
      rw [h1, h2]
      exact ⟨fun d s' e => by injection e with e; injection e with e1 e2; rw [← e1, ← e2], fun a' e => by cases e⟩
theorem rdFs_ok (bs : List Nat) : ∀ (fs : List WF) (s : Nat), (∀ ds s', decFs bs s fs = .ok (ds, s') → rdFs bs fs (.ok s) = (ds, .ok s')) ∧ (∀ a, decFs bs s fs = .error a → (rdFs bs fs (.ok s)).2 = .error a)
  | [], s => ⟨fun ds s' e => by injection e with e; injection e with e1 e2; rw [← e1, ← e2]; rfl, fun a e => by cases e⟩
  | f :: fs, s => by
    have h1 := rdF_ok bs f s
    rcases h : decF bs s f with a | ⟨d, s1⟩
    · have h2 := h1.2 a h
      refine ⟨fun ds s' e => (by rw [decFs, h] at e; cases e), fun a' e => ?_⟩
      rw [decFs, h] at e
      injection e with e
      show (rdFs bs fs (rdF bs f (.ok s)).2).2 = _
      rw [h2, rdFs_err, e]
    · have h2 := h1.1 d s1 h
      have h3 := rdFs_ok bs fs s1
      refine ⟨fun ds s' e => ?_, fun a' e => ?_⟩
      · rw [decFs, h] at e
        simp only at e
        rcases h4 : decFs bs s1 fs with a | ⟨xs, s2⟩
        · rw [h4] at e; cases e
        · rw [h4] at e
          injection e with e
          injection e with e1 e2
          rw [rdFs, h2, h3.1 _ _ h4, ← e1, ← e2]
      · rw [decFs, h] at e
        simp only at e
        show (rdFs bs fs (rdF bs f (.ok s)).2).2 = _
        rw [h2]
        rcases h4 : decFs bs s1 fs with a | ⟨xs, s2⟩
        · rw [h4] at e
          injection e with e
          rw [← e]
          exact h3.2 _ h4
        · rw [h4] at e; cases e
section
variable {R lo : Nat} {bs : List Nat}
set_option maxRecDepth 100000 in
set_option maxHeartbeats 8000000 in
theorem rent_any (W : World) (S : RdS) (h : RdIn R lo bs W S) :
    Calls Tryd.prog 43 #[.pointer (some ⟨R, 0, none⟩)] W fun e W' => ∃ cs, e = .returned (.agg cs) ∧ cs.size = 5 ∧ (∀ L W9, (∀ x ∈ L, x < W.heap.size) → Fr L W' W9 → VDs W9 cs entryW (rdFs bs entryW S).1) ∧ RdIn R lo bs W' (rdFs bs entryW S).2 ∧ Fr [R] W W' := by
  obtain ⟨X, hX⟩ : ∃ X, X = W.heap.size := ⟨_, rfl⟩
  obtain ⟨Y, hY⟩ : ∃ Y, Y = X + 1 := ⟨_, rfl⟩
  obtain ⟨W1, hW1⟩ : ∃ A, A = (W.alloc (.cells #[.int .i64 0, .int .i8 0, .int .i64 0, .int .u8 0, .slice none 0 0] 25)).alloc (.cells #[.int .i64 0, .int .i8 0, .int .i64 0, .int .u8 0, .slice none 0 0] 25) := ⟨_, rfl⟩
  have bA := alloc_b W (.cells #[.int .i64 0, .int .i8 0, .int .i64 0, .int .u8 0, .slice none 0 0] 25)
  have bB := alloc_b (W.alloc (.cells #[.int .i64 0, .int .i8 0, .int .i64 0, .int .u8 0, .slice none 0 0] 25)) (.cells #[.int .i64 0, .int .i8 0, .int .i64 0, .int .u8 0, .slice none 0 0] 25)
  have b1 : Below W.heap.size W W1 := by rw [hW1]; exact bA.trans (bB.mono bA.size)
  have kX : Blk W1 X #[.int .i64 0, .int .i8 0, .int .i64 0, .int .u8 0, .slice none 0 0] 25 := by rw [hW1, hX]; exact (blk_new W _ _).step bB
  have kY : Blk W1 Y #[.int .i64 0, .int .i8 0, .int .i64 0, .int .u8 0, .slice none 0 0] 25 := by rw [hW1, hY, hX]; have := blk_new (W.alloc (.cells #[.int .i64 0, .int .i8 0, .int .i64 0, .int .u8 0, .slice none 0 0] 25)) #[.int .i64 0, .int .i8 0, .int .i64 0, .int .u8 0, .slice none 0 0] 25; simpa using this
  have hRW : R < W.heap.size ∧ lo ≤ W.heap.size := by obtain ⟨v, hb, _, hl, _⟩ := h; have := hb.lt; exact ⟨this, by omega⟩
  have HRR := Lib.hid (show R < W.heap.size ∧ lo ≤ W.heap.size ∧ X = W.heap.size ∧ Y ≠ R ∧ X ≠ R ∧ lo ≤ Y ∧ lo ≤ X from ⟨hRW.1, hRW.2, hX, by omega, by omega, by omega, by omega⟩)
  have HYY := Lib.hid hY
  have nXY : X ≠ Y := by omega
  have nYX : Y ≠ X := by omega
  obtain ⟨t, ht⟩ : ∃ t, t = (numS bs S).1 := ⟨_, rfl⟩
  obtain ⟨S1, hS1⟩ : ∃ S1, S1 = (numS bs S).2 := ⟨_, rfl⟩
  obtain ⟨k, hk⟩ : ∃ k, k = (smallS bs S1).1 := ⟨_, rfl⟩
  obtain ⟨S2, hS2⟩ : ∃ S2, S2 = (smallS bs S1).2 := ⟨_, rfl⟩
  obtain ⟨st, hst⟩ : ∃ st, st = (numS bs S2).1 := ⟨_, rfl⟩
  obtain ⟨S3, hS3⟩ : ∃ S3, S3 = (numS bs S2).2 := ⟨_, rfl⟩
  obtain ⟨e, he⟩ : ∃ e, e = (smallS bs S3).1 := ⟨_, rfl⟩
  obtain ⟨S4, hS4⟩ : ∃ S4, S4 = (smallS bs S3).2 := ⟨_, rfl⟩
  obtain ⟨l, hl⟩ : ∃ l, l = (bytS bs S4).1 := ⟨_, rfl⟩
  obtain ⟨S5, hS5⟩ : ∃ S5, S5 = (bytS bs S4).2 := ⟨_, rfl⟩
  obtain ⟨ds, hds⟩ : ∃ ds, ds = (rdFs bs entryW S).1 := ⟨_, rfl⟩
  obtain ⟨SE, hSE⟩ : ∃ SE, SE = (rdFs bs entryW S).2 := ⟨_, rfl⟩
  have hds2 : ds = [.i t, .i (i8 k), .i st, .i (e : Nat), .b l] := by rw [hds, ht, hk, hst, he, hl, hS4, hS3, hS2, hS1]; rfl
  have hSE2 : SE = S5 := by rw [hSE, hS5, hS4, hS3, hS2, hS1]; rfl
  rw [← hds, ← hSE]
  have HDS := Lib.hid (And.intro hds2 hSE2)
  have hk8 : k < 256 := by rw [hk]; exact smallS_bd h
  have HC1 := Lib.hid (rnum_any W1 S (h.below b1))
  rw [← ht, ← hS1] at HC1
  have HG2 := Lib.hid (fun WX (hr : RdIn R lo bs WX S1) => rsmall_any WX S1 hr)
  rw [← hk, ← hS2] at HG2
  have HG3 := Lib.hid (fun WX (hr : RdIn R lo bs WX S2) => rnum_any WX S2 hr)
  rw [← hst, ← hS3] at HG3
  have HG4 := Lib.hid (fun WX (hr : RdIn R lo bs WX S3) => rsmall_any WX S3 hr)
  rw [← he, ← hS4] at HG4
  have HG5 := Lib.hid (fun WX (hr : RdIn R lo bs WX S4) => rbyt_any WX S4 hr)
  rw [← hl, ← hS5] at HG5
  have HNB := Lib.hid (show (-9223372036854775808 ≤ t ∧ t ≤ 9223372036854775807) ∧ (-9223372036854775808 ≤ st ∧ st ≤ 9223372036854775807) from ⟨by rw [ht]; exact numS_bd h, by rw [hst]; exact numS_bd h⟩)
  have HKX := Lib.hid kX
  have HKY := Lib.hid kY
  have HB1 := Lib.hid b1
  have cv : IntKind.i8.wrap (k : Int) = i8 k := wrap_i8 hk8
  clear bA bB b1 kX kY hRW hY ht hS1 hk hS2 hst hS3 he hS4 hl hS5 hds hSE hds2 hSE2 h hX hk8
  go_enter Tryd.func43, Tryd.ntmps43
  go_upto_region 2 with fail
  rw [← HRR.out.2.2.1, ← HYY.out, ← hW1]
  clear hW1
  go_wp2_with (first
    | (refine Calls.mono HC1.out ?_; rintro r W2 ⟨rfl, hr, hf⟩; have kx := (hf.block X HKX.out.lt (by have := HRR.out; simp; omega)).trans HKX.out; have ky := (hf.block Y HKY.out.lt (by have := HRR.out; simp; omega)).trans HKY.out; have HQ2 := Lib.hid hf.size; have ky : Blk W2 Y #[.int .i64 0, .int .i8 0, .int .i64 0, .int .u8 0, .slice none 0 0] 25 := ky; have kx : Blk W2 X #[.int .i64 0, .int .i8 0, .int .i64 0, .int .u8 0, .slice none 0 0] 25 := kx; have y0 : W2.cell? ⟨Y, 0, none⟩ = some (.int .i64 0) := cell_at ky 0; have z0 : ∀ j, W2.frozen? ⟨Y, j, none⟩ = false := (fun j => free_at ky j); have l0 : Y < W2.heap.size := ky.lt; have HKX1 := Lib.hid kx; have HKY1 := Lib.hid ky; have HFR1 := Lib.hid hf; have HC2 := Lib.hid (HG2.out (W2.setCell ⟨Y, 0, none⟩ (.int .i64 t)) (hr.set HRR.out.2.2.2.1 HRR.out.2.2.2.2.2.1)); clear kx ky hr hf HC1)
    | (refine Calls.mono HC2.out ?_; rintro r W3 ⟨rfl, hr, hf, hk⟩; have kx := (hf.block X (by have := HKX1.out.lt; simpa using this) (by have := HRR.out; simp; omega)).trans ((heap_setCell_ne W2 ⟨Y, 0, none⟩ _ X (fun e9 => nXY e9)).trans HKX1.out); have ky := (hf.block Y (by have := HKY1.out.lt; simpa using this) (by have := HRR.out; simp; omega)).trans (HKY1.out.set 0 _); have HB11 := Lib.hid hk; have ky : Blk W3 Y #[.int .i64 t, .int .i8 0, .int .i64 0, .int .u8 0, .slice none 0 0] 25 := ky; have kx : Blk W3 X #[.int .i64 0, .int .i8 0, .int .i64 0, .int .u8 0, .slice none 0 0] 25 := kx; have y1 : W3.cell? ⟨Y, 1, none⟩ = some (.int .i8 0) := cell_at ky 1; have z1 : ∀ j, W3.frozen? ⟨Y, j, none⟩ = false := (fun j => free_at ky j); have l1 : Y < W3.heap.size := ky.lt; have HKX2 := Lib.hid kx; have HKY2 := Lib.hid ky; have HFR2 := Lib.hid hf; have HC3 := Lib.hid (HG3.out (W3.setCell ⟨Y, 1, none⟩ (.int .i8 (i8 k))) (hr.set HRR.out.2.2.2.1 HRR.out.2.2.2.2.2.1)); clear kx ky hr hf hk HC2)
    | (refine Calls.mono HC3.out ?_; rintro r W4 ⟨rfl, hr, hf⟩; have kx := (hf.block X (by have := HKX2.out.lt; simpa using this) (by have := HRR.out; simp; omega)).trans ((heap_setCell_ne W3 ⟨Y, 1, none⟩ _ X (fun e9 => nXY e9)).trans HKX2.out); have ky := (hf.block Y (by have := HKY2.out.lt; simpa using this) (by have := HRR.out; simp; omega)).trans (HKY2.out.set 1 _); have ky : Blk W4 Y #[.int .i64 t, .int .i8 (i8 k), .int .i64 0, .int .u8 0, .slice none 0 0] 25 := ky; have kx : Blk W4 X #[.int .i64 0, .int .i8 0, .int .i64 0, .int .u8 0, .slice none 0 0] 25 := kx; have y2 : W4.cell? ⟨Y, 2, none⟩ = some (.int .i64 0) := cell_at ky 2; have z2 : ∀ j, W4.frozen? ⟨Y, j, none⟩ = false := (fun j => free_at ky j); have l2 : Y < W4.heap.size := ky.lt; have HKX3 := Lib.hid kx; have HKY3 := Lib.hid ky; have HFR3 := Lib.hid hf; have HC4 := Lib.hid (HG4.out (W4.setCell ⟨Y, 2, none⟩ (.int .i64 st)) (hr.set HRR.out.2.2.2.1 HRR.out.2.2.2.2.2.1)); clear kx ky hr hf HC3)
    | (refine Calls.mono HC4.out ?_; rintro r W5 ⟨rfl, hr, hf, hk⟩; have kx := (hf.block X (by have := HKX3.out.lt; simpa using this) (by have := HRR.out; simp; omega)).trans ((heap_setCell_ne W4 ⟨Y, 2, none⟩ _ X (fun e9 => nXY e9)).trans HKX3.out); have ky := (hf.block Y (by have := HKY3.out.lt; simpa using this) (by have := HRR.out; simp; omega)).trans (HKY3.out.set 2 _); have HB13 := Lib.hid hk; have ky : Blk W5 Y #[.int .i64 t, .int .i8 (i8 k), .int .i64 st, .int .u8 0, .slice none 0 0] 25 := ky; have kx : Blk W5 X #[.int .i64 0, .int .i8 0, .int .i64 0, .int .u8 0, .slice none 0 0] 25 := kx; have y3 : W5.cell? ⟨Y, 3, none⟩ = some (.int .u8 0) := cell_at ky 3; have z3 : ∀ j, W5.frozen? ⟨Y, j, none⟩ = false := (fun j => free_at ky j); have l3 : Y < W5.heap.size := ky.lt; have HKX4 := Lib.hid kx; have HKY4 := Lib.hid ky; have HFR4 := Lib.hid hf; have HC5 := Lib.hid (HG5.out (W5.setCell ⟨Y, 3, none⟩ (.int .u8 (e : Nat))) (hr.set HRR.out.2.2.2.1 HRR.out.2.2.2.2.2.1)); clear kx ky hr hf hk HC4)
    | (refine Calls.mono HC5.out ?_; rintro r W6 ⟨v5, ob5, rfl, hbo, hr, hf⟩; have kx := (hf.block X (by have := HKX4.out.lt; simpa using this) (by have := HRR.out; simp; omega)).trans ((heap_setCell_ne W5 ⟨Y, 3, none⟩ _ X (fun e9 => nXY e9)).trans HKX4.out); have ky := (hf.block Y (by have := HKY4.out.lt; simpa using this) (by have := HRR.out; simp; omega)).trans (HKY4.out.set 3 _); obtain ⟨a5, n5, c5, rfl, -⟩ := hbo.v.sh; have HBO := Lib.hid hbo; have ky : Blk W6 Y #[.int .i64 t, .int .i8 (i8 k), .int .i64 st, .int .u8 (e : Nat), .slice none 0 0] 25 := ky; have kx : Blk W6 X #[.int .i64 0, .int .i8 0, .int .i64 0, .int .u8 0, .slice none 0 0] 25 := kx; have y4 : W6.cell? ⟨Y, 4, none⟩ = some (.slice none 0 0) := cell_at ky 4; have z4 : ∀ j, W6.frozen? ⟨Y, j, none⟩ = false := (fun j => free_at ky j); have l4 : Y < W6.heap.size := ky.lt; have HKX5 := Lib.hid kx; have HKY5 := Lib.hid ky; have HFR5 := Lib.hid hf; have HRD := Lib.hid hr; have y50 : W6.cell? ⟨Y, 0, none⟩ = some (.int .i64 t) := cell_at ky 0; have y51 : W6.cell? ⟨Y, 1, none⟩ = some (.int .i8 (i8 k)) := cell_at ky 1; have y52 : W6.cell? ⟨Y, 2, none⟩ = some (.int .i64 st) := cell_at ky 2; have y53 : W6.cell? ⟨Y, 3, none⟩ = some (.int .u8 (e : Nat)) := cell_at ky 3; have x50 : W6.cell? ⟨X, 0, none⟩ = some (.int .i64 0) := cell_at kx 0; have x51 : W6.cell? ⟨X, 1, none⟩ = some (.int .i8 0) := cell_at kx 1; have x52 : W6.cell? ⟨X, 2, none⟩ = some (.int .i64 0) := cell_at kx 2; have x53 : W6.cell? ⟨X, 3, none⟩ = some (.int .u8 0) := cell_at kx 3; have x54 : W6.cell? ⟨X, 4, none⟩ = some (.slice none 0 0) := cell_at kx 4; have xf5 : ∀ j, W6.frozen? ⟨X, j, none⟩ = false := (fun j => free_at kx j); have xl5 : X < W6.heap.size := kx.lt; clear kx ky hr hf hbo HC5))
  obtain ⟨W7, hW7⟩ : ∃ A, A = (((((W6.setCell ⟨Y, 4, none⟩ (.slice a5 n5 c5)).setCell ⟨X, 0, none⟩ (.int .i64 t)).setCell ⟨X, 1, none⟩ (.int .i8 (i8 k))).setCell ⟨X, 2, none⟩ (.int .i64 st)).setCell ⟨X, 3, none⟩ (.int .u8 (e : Nat))).setCell ⟨X, 4, none⟩ (.slice a5 n5 c5) := ⟨_, rfl⟩
  rw [← hW7]
  have kx0 : Blk (W6.setCell ⟨Y, 4, none⟩ (.slice a5 n5 c5)) X #[.int .i64 0, .int .i8 0, .int .i64 0, .int .u8 0, .slice none 0 0] 25 := (heap_setCell_ne W6 ⟨Y, 4, none⟩ _ X (fun e9 => nXY e9)).trans HKX5.out
  have kx7 : Blk W7 X #[.int .i64 t, .int .i8 (i8 k), .int .i64 st, .int .u8 (e : Nat), .slice a5 n5 c5] 25 := by rw [hW7]; exact (((((kx0.set 0 _).set 1 _).set 2 _).set 3 _).set 4 _)
  have hf7 : Fr [X, Y] W6 W7 := by rw [hW7]; exact (((((((Fr.refl [X, Y] W6).setCell _ (.inl (by simp)) _).setCell _ (.inl (by simp)) _).setCell _ (.inl (by simp)) _).setCell _ (.inl (by simp)) _).setCell _ (.inl (by simp)) _).setCell _ (.inl (by simp)) _)
  have hr7 : RdIn R lo bs W7 S5 := by rw [hW7]; exact ((((((HRD.out.set HRR.out.2.2.2.1 HRR.out.2.2.2.2.2.1).set HRR.out.2.2.2.2.1 HRR.out.2.2.2.2.2.2).set HRR.out.2.2.2.2.1 HRR.out.2.2.2.2.2.2).set HRR.out.2.2.2.2.1 HRR.out.2.2.2.2.2.2).set HRR.out.2.2.2.2.1 HRR.out.2.2.2.2.2.2).set HRR.out.2.2.2.2.1 HRR.out.2.2.2.2.2.2)
  have hfs : Fr [R, X, Y] W1 W7 := ((((((((((HFR1.out.wk (by simp)).setCell ⟨Y, 0, none⟩ (.inl (by simp)) (.int .i64 t)).tr (HFR2.out.wk (by simp))).setCell ⟨Y, 1, none⟩ (.inl (by simp)) (.int .i8 (i8 k))).tr (HFR3.out.wk (by simp))).setCell ⟨Y, 2, none⟩ (.inl (by simp)) (.int .i64 st)).tr (HFR4.out.wk (by simp))).setCell ⟨Y, 3, none⟩ (.inl (by simp)) (.int .u8 (e : Nat))).tr (HFR5.out.wk (by simp)))).tr (hf7.wk (by intro x hx; simp at hx ⊢; omega))
  have hrr := HRR.out
  have hfr : Fr [R] W W7 := ⟨hfs.os.trans HB1.out.os, hfs.tape.trans HB1.out.tape, hfs.output.trans HB1.out.output, Nat.le_trans HB1.out.size hfs.size, fun q hq hm => (hfs.block q (Nat.lt_of_lt_of_le hq HB1.out.size) (by simp at hm ⊢; have := HYY.out; omega)).trans (HB1.out.block q hq)⟩
  have hxl : X < W1.heap.size := HKX.out.lt
  have hyl : Y < W1.heap.size := HKY.out.lt
  have hsz : W1.heap.size ≤ (W5.setCell ⟨Y, 3, none⟩ (.int .u8 (e : Nat))).heap.size := ((((((((HFR1.out.wk (L' := [R, X, Y]) (by simp)).setCell ⟨Y, 0, none⟩ (.inl (by simp)) (.int .i64 t)).tr (HFR2.out.wk (by simp))).setCell ⟨Y, 1, none⟩ (.inl (by simp)) (.int .i8 (i8 k))).tr (HFR3.out.wk (by simp))).setCell ⟨Y, 2, none⟩ (.inl (by simp)) (.int .i64 st)).tr (HFR4.out.wk (by simp))).setCell ⟨Y, 3, none⟩ (.inl (by simp)) (.int .u8 (e : Nat))).size
  have hbo7 : BO W1.heap.size W7 (.slice a5 n5 c5) ob5 l := ⟨HBO.out.1.congr fun g e9 => hf7.block g (by obtain ⟨cs, kk⟩ := row_blk8 HBO.out e9; exact kk.lt) (by have := HBO.out.2.2 g e9; simp; omega), HBO.out.2.1, fun g e9 => Nat.le_trans hsz (HBO.out.2.2 g e9)⟩
  have hvd : ∀ L W9, (∀ x ∈ L, x < W.heap.size) → Fr L W7 W9 → VDs W9 #[.int .i64 t, .int .i8 (i8 k), .int .i64 st, .int .u8 (e : Nat), .slice a5 n5 c5] entryW ds := by
    intro L W9 hL hf9
    have hbv : BV W9 (.slice a5 n5 c5) l := BO.v (M := W1.heap.size) (ob := ob5) ⟨hbo7.1.congr fun g e9 => hf9.block g (by obtain ⟨cs, kk⟩ := row_blk8 hbo7 e9; exact kk.lt) (fun hm => by have := hL g hm; have := hbo7.2.2 g e9; have := HB1.out.size; omega), hbo7.2.1, hbo7.2.2⟩
    rw [HDS.out.1]
    refine ⟨rfl, fun i f d h1 h2 => ?_⟩
    match i, h1, h2 with
    | 0, h1, h2 => cases h1; cases h2; exact ⟨_, rfl, rfl, HNB.out.1⟩
    | 1, h1, h2 => cases h1; cases h2; exact ⟨_, rfl, rfl, (u8_i8 HB11.out).2⟩
    | 2, h1, h2 => cases h1; cases h2; exact ⟨_, rfl, rfl, HNB.out.2⟩
    | 3, h1, h2 => cases h1; cases h2; exact ⟨_, rfl, rfl, by omega, by have := HB13.out; omega⟩
    | 4, h1, h2 => cases h1; cases h2; exact ⟨_, rfl, hbv⟩
    | k + 5, h1, h2 => simp [entryW] at h1
  have q0 : W7.cell? ⟨X, 0, none⟩ = some (.int .i64 t) := cell_at kx7 0
  have q1 : W7.cell? ⟨X, 1, none⟩ = some (.int .i8 (i8 k)) := cell_at kx7 1
  have q2 : W7.cell? ⟨X, 2, none⟩ = some (.int .i64 st) := cell_at kx7 2
  have q3 : W7.cell? ⟨X, 3, none⟩ = some (.int .u8 (e : Nat)) := cell_at kx7 3
  have q4 : W7.cell? ⟨X, 4, none⟩ = some (.slice a5 n5 c5) := cell_at kx7 4
  have HEND := Lib.hid (And.intro hvd (And.intro hr7 hfr))
  clear hvd hr7 hfr hbo7 hsz hxl hyl hrr hfs hf7 kx7 kx0 hW7
  try rw [Exit.noGoto_ret]
  exact bodyPost_ret (v := .agg #[.int .i64 t, .int .i8 (i8 k), .int .i64 st, .int .u8 (e : Nat), .slice a5 n5 c5]) (by simp [results, Tryd.results43, go_sem, q0, q1, q2, q3, q4]) rfl ⟨_, rfl, rfl, HEND.out.1, by rw [HDS.out.2]; exact HEND.out.2.1, HEND.out.2.2⟩
end
end Go.Proofs.YtiednacpmlilbaaDoor
