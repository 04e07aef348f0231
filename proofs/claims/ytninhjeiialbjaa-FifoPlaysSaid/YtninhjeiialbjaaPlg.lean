/-
  A step: Pop, or Head, on both sides.
-/
import Derived.Test.YtninhjeiialbjaaPlf
namespace Go.Proofs.Ytninhjeiialbjaa
open Go.RowKit
set_option linter.unusedSimpArgs false
set_option linter.unusedVariables false

set_option maxRecDepth 100000 in
set_option maxHeartbeats 8000000 in
theorem step_pop (D D2 : Nat) (k num t c : Int) (a : Option Addr) (ln ca : Nat) (p q : PkE) (hpq : p.sim q) (er : Int) (w : World) (l l2 : List Nat) (hl : ∀ x ∈ l, x < w.heap.size) (hl2 : ∀ x ∈ l2, x < w.heap.size) (R1 : World → World → Prop) (R2 : World → World → World → World → Prop)
    (H1 : ∀ W, Below w.heap.size w W → Calls Try.prog 43 #[.pointer (some ⟨D, 0, none⟩)] W fun e W1 => ∃ a' c' b', e = .returned (.tuple #[.agg #[.int .i64 p.num, .int .i64 p.t, .int .i64 p.c, .slice a' p.n c'], .int .i64 er]) ∧ ByIn W1 a' p.n c' b' 0 p.X ∧ (0 < p.n → w.heap.size ≤ b') ∧ R1 W W1 ∧ Fr l W W1)
    (H2 : ∀ W W1 W2, Below w.heap.size w W → R1 W W1 → Below W1.heap.size W1 W2 → Calls Try.prog 74 #[.pointer (some ⟨D2, 0, none⟩)] W2 fun e W3 => ∃ a' c' b', e = .returned (.tuple #[.agg #[.int .i64 q.num, .int .i64 q.t, .int .i64 q.c, .slice a' q.n c'], .int .i64 er]) ∧ ByIn W3 a' q.n c' b' 0 q.X ∧ R2 W W1 W2 W3 ∧ Fr l2 W2 W3) :
    Calls Try.prog 37 #[.pointer (some ⟨D, 0, none⟩), .pointer (some ⟨D2, 0, none⟩), .agg #[.int .i64 1, .int .i64 k, .int .i64 num, .int .i64 t, .int .i64 c, .slice a ln ca]] w fun e w' => e = .returned (.bool true) ∧ ∃ W W1 W2 W3, Below w.heap.size w W ∧ R1 W W1 ∧ Below W1.heap.size W1 W2 ∧ R2 W W1 W2 W3 ∧ Below W3.heap.size W3 w' := by
  obtain ⟨N, hN⟩ : ∃ N, N = w.heap.size := ⟨_, rfl⟩
  obtain ⟨W1, hW1⟩ : ∃ W1, W1 = w.alloc (.cells #[.int .i64 1, .int .i64 k, .int .i64 num, .int .i64 t, .int .i64 c, .slice a ln ca] 59) := ⟨_, rfl⟩
  have hB1 : Below w.heap.size w W1 := by rw [hW1]; exact (Below.refl _ _).alloc (Nat.le_refl _) _
  have hp : Blk W1 N #[.int .i64 1, .int .i64 k, .int .i64 num, .int .i64 t, .int .i64 c, .slice a ln ca] 59 := by rw [hW1, hN]; exact blk_new _ _ _
  have HB1 := Lib.hid hB1
  have c0 : W1.cell? ⟨N, 0, none⟩ = some (.int .i64 1) := cell_at hp 0
  have hN1 := hp.lt
  have HL := Lib.hid hl
  have HL2 := Lib.hid hl2
  have HN := Lib.hid hN
  have H1 := Lib.hid H1
  have H2 := Lib.hid H2
  have HSP := Lib.hid (sameP_sim hpq)
  clear hB1 hp hl hl2 hpq
  go_enter Try.func37, Try.ntmps37
  go_upto_region 1 with fail
  rw [← hN, ← hW1]
  clear hN hW1
  go_wp2_with fail
  go_at_call 43
  refine (H1.out _ HB1.out).mono ?_
  rintro e W2 ⟨a1, c1, b1, rfl, hby1, hf1, hr1, hF1⟩
  obtain ⟨W3, hW3⟩ : ∃ W3, W3 = W2.alloc (.cells #[.int .i64 p.num, .int .i64 p.t, .int .i64 p.c, .slice a1 p.n c1] 57) := ⟨_, rfl⟩
  obtain ⟨M1, hM1⟩ : ∃ M1, M1 = W2.heap.size := ⟨_, rfl⟩
  have hB3 : Below W2.heap.size W2 W3 := by rw [hW3]; exact (Below.refl _ _).alloc (Nat.le_refl _) _
  have hp1 : Blk W3 M1 #[.int .i64 p.num, .int .i64 p.t, .int .i64 p.c, .slice a1 p.n c1] 57 := by rw [hW3, hM1]; exact blk_new _ _ _
  have HP1 := Lib.hid hp1
  have HB3 := Lib.hid hB3
  have HY1 := Lib.hid (hby1.below hB3)
  have HF1 := Lib.hid hf1
  have HR1 := Lib.hid hr1
  have HM1 : Hid (w.heap.size ≤ M1) := Lib.hid (by rw [hM1]; have := HB1.out.size; have := hF1.size; omega)
  clear hB3 hp1 hby1 hf1 hr1 hF1 c0 hN1
  go_upto_region 6 with fail
  rw [← hW3, ← hM1]
  clear hW3 hM1
  go_wp2_with fail
  go_at_call 74
  refine (H2.out _ _ _ HB1.out HR1.out HB3.out).mono ?_
  rintro e W4 ⟨a2, c2, b2, rfl, hby2, hr2, hF2⟩
  obtain ⟨W5, hW5⟩ : ∃ W5, W5 = W4.alloc (.cells #[.int .i64 q.num, .int .i64 q.t, .int .i64 q.c, .slice a2 q.n c2] 57) := ⟨_, rfl⟩
  obtain ⟨M2, hM2⟩ : ∃ M2, M2 = W4.heap.size := ⟨_, rfl⟩
  have hB5 : Below W4.heap.size W4 W5 := by rw [hW5]; exact (Below.refl _ _).alloc (Nat.le_refl _) _
  have hp2 : Blk W5 M2 #[.int .i64 q.num, .int .i64 q.t, .int .i64 q.c, .slice a2 q.n c2] 57 := by rw [hW5, hM2]; exact blk_new _ _ _
  have hp1 : Blk W4 M1 #[.int .i64 p.num, .int .i64 p.t, .int .i64 p.c, .slice a1 p.n c1] 57 := (hF2.block M1 HP1.out.lt (fun h => by have := HL2.out M1 h; have := HM1.out; omega)).trans HP1.out
  have hp15 := hp1.step hB5
  have hy1 : ByIn W4 a1 p.n c1 b1 0 p.X := ⟨HY1.out.le, HY1.out.max, fun h => ⟨(HY1.out.at_ h).1, by have := (HY1.out.at_ h).2; have := hF2.size; omega⟩, fun j hj => (cell_congr (hF2.block b1 (HY1.out.at_ (by omega)).2 (fun h => by have := HL2.out b1 h; have := HF1.out (by omega); omega)) _).trans (HY1.out.cell j hj), HY1.out.bd⟩
  have HS := Lib.hid (rsame_any ⟨p.num, p.t, p.c, a1, p.n, c1, b1, 0, p.X⟩ ⟨q.num, q.t, q.c, a2, q.n, c2, b2, 0, q.X⟩ W5 (hy1.below hB5) (hby2.below hB5))
  have hsp : sameP ⟨p.num, p.t, p.c, a1, p.n, c1, b1, 0, p.X⟩ ⟨q.num, q.t, q.c, a2, q.n, c2, b2, 0, q.X⟩ = true := HSP.out
  rw [hsp] at HS
  have HR2 := Lib.hid hr2
  have HB5 := Lib.hid hB5
  have u0 : W5.cell? ⟨M1, 0, none⟩ = some (.int .i64 p.num) := cell_at hp15 0
  have u1 : W5.cell? ⟨M1, 1, none⟩ = some (.int .i64 p.t) := cell_at hp15 1
  have u2 : W5.cell? ⟨M1, 2, none⟩ = some (.int .i64 p.c) := cell_at hp15 2
  have u3 : W5.cell? ⟨M1, 3, none⟩ = some (.slice a1 p.n c1) := cell_at hp15 3
  have v0 : W5.cell? ⟨M2, 0, none⟩ = some (.int .i64 q.num) := cell_at hp2 0
  have v1 : W5.cell? ⟨M2, 1, none⟩ = some (.int .i64 q.t) := cell_at hp2 1
  have v2 : W5.cell? ⟨M2, 2, none⟩ = some (.int .i64 q.c) := cell_at hp2 2
  have v3 : W5.cell? ⟨M2, 3, none⟩ = some (.slice a2 q.n c2) := cell_at hp2 3
  clear hB5 hp1 hp15 hp2 hy1 hby2 hr2 hF2 hsp
  go_upto_region 7 with fail
  rw [← hW5, ← hM2]
  clear hW5 hM2
  go_wp2_with fail
  go_at_call 46
  refine HS.out.mono ?_
  rintro e W6 ⟨rfl, hB6⟩
  have HB6 := Lib.hid (HB5.out.trans (hB6.mono HB5.out.size))
  clear hB6
  go_wp2_with fail
  go_ret
  exact ⟨rfl, _, _, _, _, HB1.out, HR1.out, HB3.out, HR2.out, HB6.out⟩

set_option maxRecDepth 100000 in
set_option maxHeartbeats 8000000 in
theorem step_head (D D2 : Nat) (k num t c : Int) (a : Option Addr) (ln ca : Nat) (p q : PkE) (hpq : p.sim q) (er : Bool) (w : World) (l l2 : List Nat) (hl : ∀ x ∈ l, x < w.heap.size) (hl2 : ∀ x ∈ l2, x < w.heap.size) (R1 : World → World → Prop) (R2 : World → World → World → World → Prop)
    (H1 : ∀ W, Below w.heap.size w W → Calls Try.prog 44 #[.pointer (some ⟨D, 0, none⟩)] W fun e W1 => ∃ a' c' b', e = .returned (.tuple #[.agg #[.int .i64 p.num, .int .i64 p.t, .int .i64 p.c, .slice a' p.n c'], .bool er]) ∧ ByIn W1 a' p.n c' b' 0 p.X ∧ (0 < p.n → w.heap.size ≤ b') ∧ R1 W W1 ∧ Fr l W W1)
    (H2 : ∀ W W1 W2, Below w.heap.size w W → R1 W W1 → Below W1.heap.size W1 W2 → Calls Try.prog 75 #[.pointer (some ⟨D2, 0, none⟩)] W2 fun e W3 => ∃ a' c' b', e = .returned (.tuple #[.agg #[.int .i64 q.num, .int .i64 q.t, .int .i64 q.c, .slice a' q.n c'], .bool er]) ∧ ByIn W3 a' q.n c' b' 0 q.X ∧ R2 W W1 W2 W3 ∧ Fr l2 W2 W3) :
    Calls Try.prog 37 #[.pointer (some ⟨D, 0, none⟩), .pointer (some ⟨D2, 0, none⟩), .agg #[.int .i64 2, .int .i64 k, .int .i64 num, .int .i64 t, .int .i64 c, .slice a ln ca]] w fun e w' => e = .returned (.bool true) ∧ ∃ W W1 W2 W3, Below w.heap.size w W ∧ R1 W W1 ∧ Below W1.heap.size W1 W2 ∧ R2 W W1 W2 W3 ∧ Below W3.heap.size W3 w' := by
  obtain ⟨N, hN⟩ : ∃ N, N = w.heap.size := ⟨_, rfl⟩
  obtain ⟨W1, hW1⟩ : ∃ W1, W1 = w.alloc (.cells #[.int .i64 2, .int .i64 k, .int .i64 num, .int .i64 t, .int .i64 c, .slice a ln ca] 59) := ⟨_, rfl⟩
  have hB1 : Below w.heap.size w W1 := by rw [hW1]; exact (Below.refl _ _).alloc (Nat.le_refl _) _
  have hp : Blk W1 N #[.int .i64 2, .int .i64 k, .int .i64 num, .int .i64 t, .int .i64 c, .slice a ln ca] 59 := by rw [hW1, hN]; exact blk_new _ _ _
  have HB1 := Lib.hid hB1
  have c0 : W1.cell? ⟨N, 0, none⟩ = some (.int .i64 2) := cell_at hp 0
  have hN1 := hp.lt
  have HL := Lib.hid hl
  have HL2 := Lib.hid hl2
  have HN := Lib.hid hN
  have H1 := Lib.hid H1
  have H2 := Lib.hid H2
  have HSP := Lib.hid (sameP_sim hpq)
  have eb : ∀ W, (binOp .eql 4 (.bool er) (.bool er)).run Try.prog W = .ok (.bool true) W := fun W => by cases er <;> rfl
  clear hB1 hp hl hl2 hpq
  go_enter Try.func37, Try.ntmps37
  go_upto_region 1 with fail
  rw [← hN, ← hW1]
  clear hN hW1
  go_wp2_with fail
  go_at_call 44
  refine (H1.out _ HB1.out).mono ?_
  rintro e W2 ⟨a1, c1, b1, rfl, hby1, hf1, hr1, hF1⟩
  obtain ⟨W3, hW3⟩ : ∃ W3, W3 = W2.alloc (.cells #[.int .i64 p.num, .int .i64 p.t, .int .i64 p.c, .slice a1 p.n c1] 57) := ⟨_, rfl⟩
  obtain ⟨M1, hM1⟩ : ∃ M1, M1 = W2.heap.size := ⟨_, rfl⟩
  have hB3 : Below W2.heap.size W2 W3 := by rw [hW3]; exact (Below.refl _ _).alloc (Nat.le_refl _) _
  have hp1 : Blk W3 M1 #[.int .i64 p.num, .int .i64 p.t, .int .i64 p.c, .slice a1 p.n c1] 57 := by rw [hW3, hM1]; exact blk_new _ _ _
  have HP1 := Lib.hid hp1
  have HB3 := Lib.hid hB3
  have HY1 := Lib.hid (hby1.below hB3)
  have HF1 := Lib.hid hf1
  have HR1 := Lib.hid hr1
  have HM1 : Hid (w.heap.size ≤ M1) := Lib.hid (by rw [hM1]; have := HB1.out.size; have := hF1.size; omega)
  clear hB3 hp1 hby1 hf1 hr1 hF1 c0 hN1
  go_upto_region 10 with fail
  rw [← hW3, ← hM1]
  clear hW3 hM1
  go_wp2_with fail
  go_at_call 75
  refine (H2.out _ _ _ HB1.out HR1.out HB3.out).mono ?_
  rintro e W4 ⟨a2, c2, b2, rfl, hby2, hr2, hF2⟩
  obtain ⟨W5, hW5⟩ : ∃ W5, W5 = W4.alloc (.cells #[.int .i64 q.num, .int .i64 q.t, .int .i64 q.c, .slice a2 q.n c2] 57) := ⟨_, rfl⟩
  obtain ⟨M2, hM2⟩ : ∃ M2, M2 = W4.heap.size := ⟨_, rfl⟩
  have hB5 : Below W4.heap.size W4 W5 := by rw [hW5]; exact (Below.refl _ _).alloc (Nat.le_refl _) _
  have hp2 : Blk W5 M2 #[.int .i64 q.num, .int .i64 q.t, .int .i64 q.c, .slice a2 q.n c2] 57 := by rw [hW5, hM2]; exact blk_new _ _ _
  have hp1 : Blk W4 M1 #[.int .i64 p.num, .int .i64 p.t, .int .i64 p.c, .slice a1 p.n c1] 57 := (hF2.block M1 HP1.out.lt (fun h => by have := HL2.out M1 h; have := HM1.out; omega)).trans HP1.out
  have hp15 := hp1.step hB5
  have hy1 : ByIn W4 a1 p.n c1 b1 0 p.X := ⟨HY1.out.le, HY1.out.max, fun h => ⟨(HY1.out.at_ h).1, by have := (HY1.out.at_ h).2; have := hF2.size; omega⟩, fun j hj => (cell_congr (hF2.block b1 (HY1.out.at_ (by omega)).2 (fun h => by have := HL2.out b1 h; have := HF1.out (by omega); omega)) _).trans (HY1.out.cell j hj), HY1.out.bd⟩
  have HS := Lib.hid (rsame_any ⟨p.num, p.t, p.c, a1, p.n, c1, b1, 0, p.X⟩ ⟨q.num, q.t, q.c, a2, q.n, c2, b2, 0, q.X⟩ W5 (hy1.below hB5) (hby2.below hB5))
  have hsp : sameP ⟨p.num, p.t, p.c, a1, p.n, c1, b1, 0, p.X⟩ ⟨q.num, q.t, q.c, a2, q.n, c2, b2, 0, q.X⟩ = true := HSP.out
  rw [hsp] at HS
  have HR2 := Lib.hid hr2
  have HB5 := Lib.hid hB5
  have u0 : W5.cell? ⟨M1, 0, none⟩ = some (.int .i64 p.num) := cell_at hp15 0
  have u1 : W5.cell? ⟨M1, 1, none⟩ = some (.int .i64 p.t) := cell_at hp15 1
  have u2 : W5.cell? ⟨M1, 2, none⟩ = some (.int .i64 p.c) := cell_at hp15 2
  have u3 : W5.cell? ⟨M1, 3, none⟩ = some (.slice a1 p.n c1) := cell_at hp15 3
  have v0 : W5.cell? ⟨M2, 0, none⟩ = some (.int .i64 q.num) := cell_at hp2 0
  have v1 : W5.cell? ⟨M2, 1, none⟩ = some (.int .i64 q.t) := cell_at hp2 1
  have v2 : W5.cell? ⟨M2, 2, none⟩ = some (.int .i64 q.c) := cell_at hp2 2
  have v3 : W5.cell? ⟨M2, 3, none⟩ = some (.slice a2 q.n c2) := cell_at hp2 3
  clear hB5 hp1 hp15 hp2 hy1 hby2 hr2 hF2 hsp
  go_upto_region 11 with fail
  rw [← hW5, ← hM2]
  clear hW5 hM2
  go_wp2_with fail
  go_at_call 46
  refine HS.out.mono ?_
  rintro e W6 ⟨rfl, hB6⟩
  have HB6 := Lib.hid (HB5.out.trans (hB6.mono HB5.out.size))
  clear hB6
  go_wp2_with fail
  go_ret
  exact ⟨rfl, _, _, _, _, HB1.out, HR1.out, HB3.out, HR2.out, HB6.out⟩
end Go.Proofs.Ytninhjeiialbjaa
