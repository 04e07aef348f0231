/-
  AgentRestart.
-/
import Derived.Test.YtlgjdiadohhleaaAgc
namespace Go.Proofs.Ytlgjdiadohhleaa
open Go.RowKit
set_option linter.unusedSimpArgs false
set_option linter.unusedVariables false

theorem tmod_bd (a m : Int) (h : 0 < m) : -m < a.tmod m ∧ a.tmod m < m := by
  by_cases h0 : 0 ≤ a
  · rw [IntWalk.rem_in _ _ h0]
    have := Int.emod_nonneg a (by omega : m ≠ 0)
    have := Int.emod_lt_of_pos a h
    omega
  · have e : a.tmod m = -((-a).tmod m) := by rw [← Int.neg_tmod, Int.neg_neg]
    rw [e, IntWalk.rem_in _ _ (by omega : 0 ≤ -a)]
    have := Int.emod_nonneg (-a) (by omega : m ≠ 0)
    have := Int.emod_lt_of_pos (-a) h
    omega
theorem wmod_bd (a m : Int) (h : 0 < m) (h2 : m ≤ 2305843009213693952) : 0 ≤ (wrap64 (a.tmod m + m)).tmod m ∧ (wrap64 (a.tmod m + m)).tmod m < m := by
  have h3 := tmod_bd a m h
  rw [IntWalk.wrap64_in _ (by omega), IntWalk.rem_in _ _ (by omega)]
  exact ⟨Int.emod_nonneg _ (by omega), Int.emod_lt_of_pos _ h⟩

def rs0 (SH LA : Int) : Ag := ⟨SH, LA, 10000, 0, 0, false, 0, 0, 0, 0, 0⟩
def rs1 (SH LA N : Int) : Ag := ⟨SH, LA, 10000, N, 0, false, 0, 0, 0, 0, 0⟩
def rs2 (SH LA N : Int) : Ag := ⟨SH, LA, 10000, N, 1, true, LA, 1, 1, 9, N⟩
def rs3 (SH LA N : Int) : Ag := ⟨SH, LA, 10000, N, 1, false, LA, 1, 1, 9, N⟩
theorem rk1 (SH LA : Int) {N : Int} (h : 0 ≤ N) : (rs0 SH LA).tick N = rs1 SH LA N := by
  simp only [Ag.tick, rs0, rs1, Ag.mk.injEq, true_and, and_true]
  omega
theorem rk2 (SH LA N : Int) : (rs1 SH LA N).tick N = rs1 SH LA N := by simp [Ag.tick, rs1]
theorem rk3 (SH LA N : Int) : (rs1 SH LA N).ask 1 9 N = rs2 SH LA N := by simp [Ag.ask, Ag.tick, rs1, rs2]
theorem rk4 (SH LA N : Int) : (rs2 SH LA N).tick N = rs2 SH LA N := by simp [Ag.tick, rs2]
theorem rk5 (SH LA N : Int) : (rs2 SH LA N).told N = rs3 SH LA N := by simp [Ag.told, Ag.tick, rs2, rs3]
theorem rk6 (SH LA N : Int) : (rs3 SH LA N).tick N = rs3 SH LA N := by simp [Ag.tick, rs3]
theorem rk7 (SH LA N U : Int) (b c : Nat) (x : Lz) (hx : x.un = U) (h : N < U) : Hd.tick (.one b c x) (rs3 SH LA N) N = .one b c x := by
  unfold Hd.tick
  refine keep_pos _ (decide_eq_true ?_)
  show max N N < x.un
  omega

set_option maxRecDepth 100000 in
set_option maxHeartbeats 16000000 in
theorem restart_any (a0 a1 a2 a3 x0 x1 x2 x3 x4 a5 : Int) (w : World) :
    Calls Try.prog 6 #[.int .i64 a0, .int .i64 a1, .int .i64 a2, .int .i64 a3, .agg #[.int .i64 x0, .int .i64 x1, .int .i64 x2, .int .i64 x3, .int .i64 x4], .int .i64 a5] w fun e w' => e = .returned (.bool true) ∧ Below w.heap.size w w' := by
  obtain ⟨q0, q1⟩ := wmod_bd a0 8 (by omega) (by omega)
  obtain ⟨q2, q3⟩ := wmod_bd a1 1000 (by omega) (by omega)
  obtain ⟨q4, q5⟩ := wmod_bd a2 1000 (by omega) (by omega)
  obtain ⟨q6, q7⟩ := wmod_bd a5 1099511627776 (by omega) (by omega)
  obtain ⟨X, hX⟩ : ∃ X, X = w.heap.size := ⟨_, rfl⟩
  obtain ⟨W0, hW0⟩ : ∃ W0, W0 = w.alloc (.cells #[.int .i64 x0, .int .i64 x1, .int .i64 x2, .int .i64 x3, .int .i64 x4] 24) := ⟨_, rfl⟩
  have HB0 : Hid (Below w.heap.size w W0) := Lib.hid (by rw [hW0]; exact (Below.refl _ _).alloc (Nat.le_refl _) _)
  have HX0 : Hid (Blk W0 X #[.int .i64 x0, .int .i64 x1, .int .i64 x2, .int .i64 x3, .int .i64 x4] 24) := Lib.hid (by rw [hW0, hX]; exact blk_new _ _ _)
  have HX := Lib.hid hX
  go_enter Try.func6, Try.ntmps6
  go_upto_region 5 with fail
  rw [← hX, ← hW0]
  clear hX hW0
  generalize (wrap64 (a0.tmod 8 + 8)).tmod 8 = Q0 at q0 q1 ⊢
  generalize (wrap64 (a1.tmod 1000 + 1000)).tmod 1000 = Q1 at q2 q3 ⊢
  generalize (wrap64 (a2.tmod 1000 + 1000)).tmod 1000 = Q2 at q4 q5 ⊢
  generalize (wrap64 (a5.tmod 1099511627776 + 1099511627776)).tmod 1099511627776 = NOW at q6 q7 ⊢
  try rw [IntWalk.wrap64_in (1 + Q0) (by omega)]
  try rw [IntWalk.wrap64_in (1 + Q1) (by omega)]
  try rw [IntWalk.wrap64_in (1 + Q1 + 1) (by omega)]
  try rw [IntWalk.wrap64_in (1 + Q1 + 1 + Q2) (by omega)]
  obtain ⟨SH, hSH⟩ : ∃ SH, SH = 1 + Q0 := ⟨_, rfl⟩
  obtain ⟨EP, hEP⟩ : ∃ EP, EP = 1 + Q1 := ⟨_, rfl⟩
  obtain ⟨LA, hLA⟩ : ∃ LA, LA = EP + 1 + Q2 := ⟨_, rfl⟩
  rw [← hSH, ← hEP, ← hLA]
  have s1 : 1 ≤ SH ∧ SH ≤ 8 := by omega
  have s2 : 1 ≤ EP := by omega
  have s3 : EP < LA := by omega
  have s4 : LA ≤ 2001 := by omega
  clear hSH hEP hLA q0 q1 q2 q3 q4 q5
  have HS1 := Lib.hid s1
  -- a
  go_wp2_with fail
  go_at_call 24
  refine (agNew_ok SH EP 10 HS1.out s2 (by omega) W0).mono ?_
  rintro e W1 ⟨rfl, h1, hw1⟩
  obtain ⟨g1, hg1⟩ : ∃ g, g = W0.heap.size := ⟨_, rfl⟩
  rw [← hg1] at h1
  rw [← hg1]
  change AgAt W1 g1 (rs0 SH EP) (.gone none 0) at h1
  have hB1 : Below W0.heap.size W0 W1 := by rw [hw1]; exact (Below.refl _ _).alloc (Nat.le_refl _) _
  have HA1 := Lib.hid h1
  have HB1 := Lib.hid (HB0.out.trans (hB1.mono HB0.out.size))
  have HX1 := Lib.hid (HX0.out.step hB1)
  have HG1 : Hid (w.heap.size = X ∧ X < g1) := Lib.hid ⟨HX.out.symm, by have := HX0.out.lt; omega⟩
  clear h1 hw1 hB1 hg1 HB0 HX0
  -- b
  go_wp2_with fail
  go_at_call 24
  refine (agNew_ok SH LA 10 HS1.out (by omega) (by omega) W1).mono ?_
  rintro e W2 ⟨rfl, h2, hw2⟩
  obtain ⟨g2, hg2⟩ : ∃ g, g = W1.heap.size := ⟨_, rfl⟩
  rw [← hg2] at h2
  rw [← hg2]
  change AgAt W2 g2 (rs0 SH LA) (.gone none 0) at h2
  have hB2 : Below W1.heap.size W1 W2 := by rw [hw2]; exact (Below.refl _ _).alloc (Nat.le_refl _) _
  have hA2 := HA1.out.below hB2
  have HA2 := Lib.hid h2
  have HB2 := Lib.hid (HB1.out.trans (hB2.mono HB1.out.size))
  have HX2 := Lib.hid (HX1.out.step hB2)
  have HG2 : Hid (w.heap.size = X ∧ X < g1 ∧ g1 < g2) := Lib.hid ⟨HX.out.symm, HG1.out.2, by have := HA1.out.blk.lt; omega⟩
  have AK := ask_ok g1 (rs0 SH EP) (.gone none 0) 1 9 NOW W2 hA2 rfl (by omega) (by omega) ⟨q6, by omega⟩ (by simp [rs0])
  simp only [cmdL] at AK
  rw [show (rs0 SH EP).nu + 1 = 1 from rfl, show (rs0 SH EP).sh = SH from rfl, show (rs0 SH EP).ep = EP from rfl] at AK
  have HAK := Lib.hid AK
  clear h2 hw2 hB2 hg2 hA2 AK HB1 HX1 HA1 HG1
  go_wp2_with fail
  go_at_call 14
  refine Calls.mono HAK.out ?_
  rintro e W3 ⟨rfl, _, hf⟩
  have HB3 := Lib.hid (HB2.out.trans (hf.below HB2.out.size (by have := HG2.out; simp [Hd.bl]; omega)))
  have HX3 := Lib.hid ((hf.block X HX2.out.lt (by have := HG2.out; simp [Hd.bl]; omega)).trans HX2.out)
  change Hid (Blk W3 X _ _) at HX3
  have HA3 : Hid (AgAt W3 g2 (rs0 SH LA) (.gone none 0)) := Lib.hid (HA2.out.fr hf (by have := HG2.out; simp [Hd.bl]; omega) (by simp [Hd.bl]))
  clear hf HAK HB2 HX2 HA2
  go_upto_region 10 with fail
  obtain ⟨T1, hT1⟩ : ∃ P, P = W3.heap.size := ⟨_, rfl⟩
  obtain ⟨W4, hW4⟩ : ∃ W, W = W3.alloc (.cells #[.int .i8 4, .int .i64 0, .int .i64 1, .int .i64 1, .int .i64 0, .int .i64 0, .int .i64 SH, .int .i64 EP, .int .i64 0, .int .i64 9, .int .i64 0, .bool false, .slice none 0 0] 31) := ⟨_, rfl⟩
  have hBx : Below W3.heap.size W3 W4 := by rw [hW4]; exact (Below.refl _ _).alloc (Nat.le_refl _) _
  have HT4 : Hid (Blk W4 T1 #[.int .i8 4, .int .i64 0, .int .i64 1, .int .i64 1, .int .i64 0, .int .i64 0, .int .i64 SH, .int .i64 EP, .int .i64 0, .int .i64 9, .int .i64 0, .bool false, .slice none 0 0] 31) := Lib.hid (by rw [hW4, hT1]; exact blk_new _ _ _)
  have HB4 := Lib.hid (HB3.out.trans (hBx.mono HB3.out.size))
  have HA4 := Lib.hid (HA3.out.below hBx)
  have HX4 := Lib.hid (HX3.out.step hBx)
  rw [← hT1]
  change Code.wp _ _ _ _ (W3.alloc (.cells #[.int .i8 4, .int .i64 0, .int .i64 1, .int .i64 1, .int .i64 0, .int .i64 0, .int .i64 SH, .int .i64 EP, .int .i64 0, .int .i64 9, .int .i64 0, .bool false, .slice none 0 0] 31))
  rw [← hW4]
  have hgT : g2 < T1 := by rw [hT1]; exact HA3.out.blk.lt
  clear hT1 hW4 hBx HB3 HX3 HA3
  have TS := told_stale g2 (rs0 SH LA) (.gone none 0) EP 1 NOW 0 0 0 1 9 W4 HA4.out (.inl rfl)
  rw [rk1 SH LA q6] at TS
  change Calls _ _ _ _ (fun e w' => _ ∧ AgAt w' g2 (rs1 SH LA NOW) (.gone none 0) ∧ Fr [g2] W4 w') at TS
  have HTS := Lib.hid TS
  have t7 : W4.cell? ⟨T1, 7, none⟩ = some (.int .i64 EP) := cell_at HT4.out 7
  have t2 : W4.cell? ⟨T1, 2, none⟩ = some (.int .i64 1) := cell_at HT4.out 2
  have HGA : Hid (w.heap.size = X ∧ X < g1 ∧ g1 < g2 ∧ g2 < T1) := Lib.hid ⟨HX.out.symm, HG2.out.2.1, HG2.out.2.2, hgT⟩
  clear TS hgT HG2
  go_wp2_with fail
  go_at_call 17
  refine Calls.mono HTS.out ?_
  rintro e W5 ⟨rfl, h5, hf⟩
  have HB5 := Lib.hid (HB4.out.trans (hf.below HB4.out.size (by have := HGA.out; simp [Hd.bl]; omega)))
  have HX5 := Lib.hid ((hf.block X HX4.out.lt (by have := HGA.out; simp [Hd.bl]; omega)).trans HX4.out)
  change Hid (Blk W5 X _ _) at HX5
  have HT5 := Lib.hid ((hf.block T1 HT4.out.lt (by have := HGA.out; simp [Hd.bl]; omega)).trans HT4.out)
  change Hid (Blk W5 T1 _ _) at HT5
  have TK := tokens_any g2 (rs1 SH LA NOW) (.gone none 0) 1 NOW W5 h5 trivial
  rw [rk2] at TK
  change Calls _ _ _ _ (fun e w' => _ ∧ AgAt w' g2 (rs1 SH LA NOW) (.gone none 0) ∧ Fr [g2] W5 w') at TK
  have HTK := Lib.hid TK
  clear TK h5 hf t7 t2 HTS HB4 HX4 HT4 HA4
  go_wp2_with fail
  go_at_call 19
  refine Calls.mono HTK.out ?_
  rintro e W6 ⟨rfl, h6, hf⟩
  rw [show Hd.tok (Hd.tick (.gone none 0) (rs1 SH LA NOW) NOW) 1 = 0 from rfl]
  have HB6 := Lib.hid (HB5.out.trans (hf.below HB5.out.size (by have := HGA.out; simp [Hd.bl]; omega)))
  have HX6 := Lib.hid ((hf.block X HX5.out.lt (by have := HGA.out; simp [Hd.bl]; omega)).trans HX5.out)
  change Hid (Blk W6 X _ _) at HX6
  have HT6 := Lib.hid ((hf.block T1 HT5.out.lt (by have := HGA.out; simp [Hd.bl]; omega)).trans HT5.out)
  change Hid (Blk W6 T1 _ _) at HT6
  have AK := ask_ok g2 (rs1 SH LA NOW) (.gone none 0) 1 9 NOW W6 h6 rfl (by omega) (by omega) ⟨q6, by omega⟩ (by simp [rs1])
  simp only [cmdL] at AK
  rw [rk3, show (rs1 SH LA NOW).nu + 1 = 1 from rfl, show (rs1 SH LA NOW).sh = SH from rfl, show (rs1 SH LA NOW).ep = LA from rfl] at AK
  change Calls _ _ _ _ (fun e w' => _ ∧ AgAt w' g2 (rs2 SH LA NOW) (.gone none 0) ∧ Fr [g2] W6 w') at AK
  have HAK := Lib.hid AK
  clear AK h6 hf HTK HB5 HX5 HT5
  go_wp2_with fail
  go_at_call 14
  refine Calls.mono HAK.out ?_
  rintro e W7 ⟨rfl, h7, hf⟩
  have HB7 := Lib.hid (HB6.out.trans (hf.below HB6.out.size (by have := HGA.out; simp [Hd.bl]; omega)))
  have HX7 := Lib.hid ((hf.block X HX6.out.lt (by have := HGA.out; simp [Hd.bl]; omega)).trans HX6.out)
  change Hid (Blk W7 X _ _) at HX7
  have HT7 := Lib.hid ((hf.block T1 HT6.out.lt (by have := HGA.out; simp [Hd.bl]; omega)).trans HT6.out)
  change Hid (Blk W7 T1 _ _) at HT7
  have HA7 := Lib.hid h7
  clear h7 hf HAK HB6 HX6 HT6
  go_upto_region 13 with fail
  obtain ⟨T2, hT2⟩ : ∃ P, P = W7.heap.size := ⟨_, rfl⟩
  obtain ⟨W8, hW8⟩ : ∃ W, W = W7.alloc (.cells #[.int .i8 4, .int .i64 0, .int .i64 1, .int .i64 1, .int .i64 0, .int .i64 0, .int .i64 SH, .int .i64 LA, .int .i64 0, .int .i64 9, .int .i64 0, .bool false, .slice none 0 0] 31) := ⟨_, rfl⟩
  have hBx : Below W7.heap.size W7 W8 := by rw [hW8]; exact (Below.refl _ _).alloc (Nat.le_refl _) _
  have HU8 : Hid (Blk W8 T2 #[.int .i8 4, .int .i64 0, .int .i64 1, .int .i64 1, .int .i64 0, .int .i64 0, .int .i64 SH, .int .i64 LA, .int .i64 0, .int .i64 9, .int .i64 0, .bool false, .slice none 0 0] 31) := Lib.hid (by rw [hW8, hT2]; exact blk_new _ _ _)
  have HB8 := Lib.hid (HB7.out.trans (hBx.mono HB7.out.size))
  have HA8 := Lib.hid (HA7.out.below hBx)
  have HX8 := Lib.hid (HX7.out.step hBx)
  have HT8 := Lib.hid (HT7.out.step hBx)
  rw [← hT2]
  change Code.wp _ _ _ _ (W7.alloc (.cells #[.int .i8 4, .int .i64 0, .int .i64 1, .int .i64 1, .int .i64 0, .int .i64 0, .int .i64 SH, .int .i64 LA, .int .i64 0, .int .i64 9, .int .i64 0, .bool false, .slice none 0 0] 31))
  rw [← hW8]
  have hgU : T1 < T2 := by rw [hT2]; exact HT7.out.lt
  clear hT2 hW8 hBx HB7 HX7 HT7 HA7
  have t7 : W8.cell? ⟨T1, 7, none⟩ = some (.int .i64 EP) := cell_at HT8.out 7
  have t2 : W8.cell? ⟨T1, 2, none⟩ = some (.int .i64 1) := cell_at HT8.out 2
  have u7 : W8.cell? ⟨T2, 7, none⟩ = some (.int .i64 LA) := cell_at HU8.out 7
  have u2 : W8.cell? ⟨T2, 2, none⟩ = some (.int .i64 1) := cell_at HU8.out 2
  have HGB : Hid (w.heap.size = X ∧ X < g1 ∧ g1 < g2 ∧ g2 < T1 ∧ T1 < T2) := Lib.hid ⟨HX.out.symm, HGA.out.2.1, HGA.out.2.2.1, HGA.out.2.2.2, hgU⟩
  have hne : (LA == EP && (1 : Int) == 1) = false := by
    have : (LA == EP) = false := by rw [beq_eq_false_iff_ne]; omega
    rw [this]
    rfl
  have TS := told_stale g2 (rs2 SH LA NOW) (.gone none 0) EP 1 NOW 0 0 0 1 9 W8 HA8.out (.inr ⟨rfl, hne⟩)
  rw [rk4] at TS
  change Calls _ _ _ _ (fun e w' => _ ∧ AgAt w' g2 (rs2 SH LA NOW) (.gone none 0) ∧ Fr [g2] W8 w') at TS
  have HTS := Lib.hid TS
  clear TS hgU HGA hne
  go_wp2_with fail
  go_at_call 17
  refine Calls.mono HTS.out ?_
  rintro e W9 ⟨rfl, h9, hf⟩
  have HB9 := Lib.hid (HB8.out.trans (hf.below HB8.out.size (by have := HGB.out; simp [Hd.bl]; omega)))
  have HX9 := Lib.hid ((hf.block X HX8.out.lt (by have := HGB.out; simp [Hd.bl]; omega)).trans HX8.out)
  change Hid (Blk W9 X _ _) at HX9
  have HT9 := Lib.hid ((hf.block T1 HT8.out.lt (by have := HGB.out; simp [Hd.bl]; omega)).trans HT8.out)
  change Hid (Blk W9 T1 _ _) at HT9
  have HU9 := Lib.hid ((hf.block T2 HU8.out.lt (by have := HGB.out; simp [Hd.bl]; omega)).trans HU8.out)
  change Hid (Blk W9 T2 _ _) at HU9
  have HA9 := Lib.hid h9
  clear h9 hf t7 t2 u7 u2 HTS HB8 HX8 HT8 HU8 HA8 HT9
  have u2 : W9.cell? ⟨T2, 2, none⟩ = some (.int .i64 1) := cell_at HU9.out 2
  have x_0 : W9.cell? ⟨X, 0, none⟩ = some (.int .i64 x0) := cell_at HX9.out 0
  have x_1 : W9.cell? ⟨X, 1, none⟩ = some (.int .i64 x1) := cell_at HX9.out 1
  have x_2 : W9.cell? ⟨X, 2, none⟩ = some (.int .i64 x2) := cell_at HX9.out 2
  have x_3 : W9.cell? ⟨X, 3, none⟩ = some (.int .i64 x3) := cell_at HX9.out 3
  have x_4 : W9.cell? ⟨X, 4, none⟩ = some (.int .i64 x4) := cell_at HX9.out 4
  by_cases hn : a3 = 1
  · subst hn
    go_wp2_with fail
    have HB10 := HB9
    have HU10 := HU9
    have HA10 := HA9
    clear HB9 HU9 HA9 x_0 x_1 x_2 x_3 x_4
    obtain ⟨W10, hW10⟩ : ∃ W10, W10 = W9 := ⟨_, rfl⟩
    rw [← hW10] at HB10 HU10 HA10 u2
    rw [← hW10]
    clear hW10
    have TK := tokens_any g2 (rs2 SH LA NOW) (.gone none 0) 1 NOW W10 HA10.out trivial
    rw [rk4] at TK
    change Calls _ _ _ _ (fun e w' => _ ∧ AgAt w' g2 (rs2 SH LA NOW) (.gone none 0) ∧ Fr [g2] W10 w') at TK
    have HTK := Lib.hid TK
    clear TK
    go_wp2_with fail
    go_at_call 19
    refine Calls.mono HTK.out ?_
    rintro e W11 ⟨rfl, h11, hf⟩
    rw [show Hd.tok (Hd.tick (.gone none 0) (rs2 SH LA NOW) NOW) 1 = 0 from rfl]
    have HB11 := Lib.hid (HB10.out.trans (hf.below HB10.out.size (by have := HGB.out; simp [Hd.bl]; omega)))
    have HU11 := Lib.hid ((hf.block T2 HU10.out.lt (by have := HGB.out; simp [Hd.bl]; omega)).trans HU10.out)
    change Hid (Blk W11 T2 _ _) at HU11
    have TD := told_ok g2 (rs2 SH LA NOW) NOW 0 0 1 9 W11 h11 rfl (by omega) (by omega) (by simp [rs2]) (by simp [rs2]; omega) (by simp [rs2]; omega) (by simp [rs2]) (by simp [rs2])
    rw [rk5] at TD
    have HTD := Lib.hid TD
    clear TD h11 hf HTK HB10 HU10 HA10 u2
    have u2 : W11.cell? ⟨T2, 2, none⟩ = some (.int .i64 1) := cell_at HU11.out 2
    go_wp2_with fail
    go_at_call 17
    refine Calls.mono HTD.out ?_
    rintro e W12 ⟨hf, hcase⟩
    obtain ⟨_, b, c, rfl, h12, hb12⟩ | ⟨hno, _⟩ := hcase
    rotate_left
    · exfalso
      simp [rs2] at hno
      omega
    have HB12 := Lib.hid (HB11.out.trans (hf.below HB11.out.size (by have := HGB.out; simp [Hd.bl]; omega)))
    have hbw : w.heap.size ≤ b := Nat.le_trans HB11.out.size hb12
    have TK := tokens_any g2 (rs3 SH LA NOW) (.one b c ⟨1, 1, 9, NOW + 10000, 0, 0⟩) 1 NOW W12 h12 (by simp [Hd.ok])
    rw [rk6, rk7 SH LA NOW (NOW + 10000) b c _ rfl (by omega)] at TK
    have HTK2 := Lib.hid TK
    have HBW := Lib.hid hbw
    clear TK h12 hf HTD HB11 HU11 hb12 u2 hbw
    go_wp2_with fail
    go_at_call 19
    refine Calls.mono HTK2.out ?_
    rintro e W13 ⟨rfl, h13, hf⟩
    rw [show Hd.tok (.one b c ⟨1, 1, 9, NOW + 10000, 0, 0⟩) 1 = 9 from rfl]
    have HB13 := Lib.hid (HB12.out.trans (hf.below HB12.out.size (by have := HGB.out; have := HBW.out; simp [Hd.bl]; omega)))
    clear h13 hf HTK2 HB12
    go_wp2_with fail
    go_at_call 23
    refine (agwakes_any _).mono ?_
    rintro e W14 ⟨rfl, hB⟩
    have HB14 := Lib.hid (HB13.out.trans (hB.mono HB13.out.size))
    clear hB HB13
    go_wp2_with fail
    go_ret
    exact ⟨rfl, HB14.out⟩
  · have hn1 : ((1 : Int) == a3) = false := by rw [beq_eq_false_iff_ne]; exact fun e => hn e.symm
    have hn2 : (a3 == (1 : Int)) = false := by rw [beq_eq_false_iff_ne]; exact hn
    have hne : (LA == LA && (1 : Int) == a3) = false := by rw [hn1]; simp
    have TS := told_stale g2 (rs2 SH LA NOW) (.gone none 0) LA a3 NOW x0 x1 x2 x3 x4 W9 HA9.out (.inr ⟨rfl, hne⟩)
    rw [rk4] at TS
    change Calls _ _ _ _ (fun e w' => _ ∧ AgAt w' g2 (rs2 SH LA NOW) (.gone none 0) ∧ Fr [g2] W9 w') at TS
    have HTS2 := Lib.hid TS
    clear TS hne
    go_wp2_with fail
    go_at_call 17
    refine Calls.mono HTS2.out ?_
    rintro e W10 ⟨rfl, h10, hf⟩
    have HB10 := Lib.hid (HB9.out.trans (hf.below HB9.out.size (by have := HGB.out; simp [Hd.bl]; omega)))
    have HU10 := Lib.hid ((hf.block T2 HU9.out.lt (by have := HGB.out; simp [Hd.bl]; omega)).trans HU9.out)
    change Hid (Blk W10 T2 _ _) at HU10
    have HA10 := Lib.hid h10
    clear h10 hf HTS2 HB9 HU9 HA9 x_0 x_1 x_2 x_3 x_4 u2
    have u2 : W10.cell? ⟨T2, 2, none⟩ = some (.int .i64 1) := cell_at HU10.out 2
    have TK := tokens_any g2 (rs2 SH LA NOW) (.gone none 0) 1 NOW W10 HA10.out trivial
    rw [rk4] at TK
    change Calls _ _ _ _ (fun e w' => _ ∧ AgAt w' g2 (rs2 SH LA NOW) (.gone none 0) ∧ Fr [g2] W10 w') at TK
    have HTK := Lib.hid TK
    clear TK
    go_wp2_with fail
    go_at_call 19
    refine Calls.mono HTK.out ?_
    rintro e W11 ⟨rfl, h11, hf⟩
    rw [show Hd.tok (Hd.tick (.gone none 0) (rs2 SH LA NOW) NOW) 1 = 0 from rfl]
    have HB11 := Lib.hid (HB10.out.trans (hf.below HB10.out.size (by have := HGB.out; simp [Hd.bl]; omega)))
    have HU11 := Lib.hid ((hf.block T2 HU10.out.lt (by have := HGB.out; simp [Hd.bl]; omega)).trans HU10.out)
    change Hid (Blk W11 T2 _ _) at HU11
    have TD := told_ok g2 (rs2 SH LA NOW) NOW 0 0 1 9 W11 h11 rfl (by omega) (by omega) (by simp [rs2]) (by simp [rs2]; omega) (by simp [rs2]; omega) (by simp [rs2]) (by simp [rs2])
    rw [rk5] at TD
    have HTD := Lib.hid TD
    clear TD h11 hf HTK HB10 HU10 HA10 u2
    have u2 : W11.cell? ⟨T2, 2, none⟩ = some (.int .i64 1) := cell_at HU11.out 2
    go_wp2_with fail
    go_at_call 17
    refine Calls.mono HTD.out ?_
    rintro e W12 ⟨hf, hcase⟩
    obtain ⟨_, b, c, rfl, h12, hb12⟩ | ⟨hno, _⟩ := hcase
    rotate_left
    · exfalso
      simp [rs2] at hno
      omega
    have HB12 := Lib.hid (HB11.out.trans (hf.below HB11.out.size (by have := HGB.out; simp [Hd.bl]; omega)))
    have hbw : w.heap.size ≤ b := Nat.le_trans HB11.out.size hb12
    have TK := tokens_any g2 (rs3 SH LA NOW) (.one b c ⟨1, 1, 9, NOW + 10000, 0, 0⟩) 1 NOW W12 h12 (by simp [Hd.ok])
    rw [rk6, rk7 SH LA NOW (NOW + 10000) b c _ rfl (by omega)] at TK
    have HTK2 := Lib.hid TK
    have HBW := Lib.hid hbw
    clear TK h12 hf HTD HB11 HU11 hb12 u2 hbw
    go_wp2_with fail
    go_at_call 19
    refine Calls.mono HTK2.out ?_
    rintro e W13 ⟨rfl, h13, hf⟩
    rw [show Hd.tok (.one b c ⟨1, 1, 9, NOW + 10000, 0, 0⟩) 1 = 9 from rfl]
    have HB13 := Lib.hid (HB12.out.trans (hf.below HB12.out.size (by have := HGB.out; have := HBW.out; simp [Hd.bl]; omega)))
    clear h13 hf HTK2 HB12
    go_wp2_with fail
    go_at_call 23
    refine (agwakes_any _).mono ?_
    rintro e W14 ⟨rfl, hB⟩
    have HB14 := Lib.hid (HB13.out.trans (hB.mono HB13.out.size))
    clear hB HB13
    go_wp2_with fail
    go_ret
    exact ⟨rfl, HB14.out⟩
end Go.Proofs.Ytlgjdiadohhleaa
