/-
  No agent answers no agent's answers.
-/
import Derived.Test.YtlgjdiadohhleaaAgc
namespace Go.Proofs.Ytlgjdiadohhleaa
open Go.RowKit
set_option linter.unusedSimpArgs false
set_option linter.unusedVariables false

set_option maxRecDepth 100000 in
set_option maxHeartbeats 2000000 in
theorem ask_nil (a b c : Int) (w : World) :
    Calls Try.prog 14 #[.pointer none, .int .i64 a, .int .i64 b, .int .i64 c] w fun e w' => e = .returned (.tuple #[.agg #[.int .i8 0, .int .i64 0, .int .i64 0, .int .i64 0, .int .i64 0, .int .i64 0, .int .i64 0, .int .i64 0, .int .i64 0, .int .i64 0, .int .i64 0, .bool false, .slice none 0 0], .int .i64 1]) ∧ Below w.heap.size w w' := by
  obtain ⟨N, hN⟩ : ∃ N, N = w.heap.size := ⟨_, rfl⟩
  obtain ⟨W1, hW1⟩ : ∃ W1, W1 = w.alloc (.cells #[.int .i8 0, .int .i64 0, .int .i64 0, .int .i64 0, .int .i64 0, .int .i64 0, .int .i64 0, .int .i64 0, .int .i64 0, .int .i64 0, .int .i64 0, .bool false, .slice none 0 0] 31) := ⟨_, rfl⟩
  have HB1 : Hid (Below w.heap.size w W1) := Lib.hid (by rw [hW1]; exact (Below.refl _ _).alloc (Nat.le_refl _) _)
  have HK : Hid (Blk W1 N #[.int .i8 0, .int .i64 0, .int .i64 0, .int .i64 0, .int .i64 0, .int .i64 0, .int .i64 0, .int .i64 0, .int .i64 0, .int .i64 0, .int .i64 0, .bool false, .slice none 0 0] 31) := Lib.hid (by rw [hW1, hN]; exact blk_new _ _ _)
  have HN := Lib.hid hN
  have zso : ∀ j, W1.frozen? ⟨N, j, none⟩ = false := fun j => free_at HK.out j
  have o0 : W1.cell? ⟨N, 0, none⟩ = some (.int .i8 0) := cell_at HK.out 0
  have o1 : W1.cell? ⟨N, 1, none⟩ = some (.int .i64 0) := cell_at HK.out 1
  have o2 : W1.cell? ⟨N, 2, none⟩ = some (.int .i64 0) := cell_at HK.out 2
  have o3 : W1.cell? ⟨N, 3, none⟩ = some (.int .i64 0) := cell_at HK.out 3
  have o4 : W1.cell? ⟨N, 4, none⟩ = some (.int .i64 0) := cell_at HK.out 4
  have o5 : W1.cell? ⟨N, 5, none⟩ = some (.int .i64 0) := cell_at HK.out 5
  have o6 : W1.cell? ⟨N, 6, none⟩ = some (.int .i64 0) := cell_at HK.out 6
  have o7 : W1.cell? ⟨N, 7, none⟩ = some (.int .i64 0) := cell_at HK.out 7
  have o8 : W1.cell? ⟨N, 8, none⟩ = some (.int .i64 0) := cell_at HK.out 8
  have o9 : W1.cell? ⟨N, 9, none⟩ = some (.int .i64 0) := cell_at HK.out 9
  have o10 : W1.cell? ⟨N, 10, none⟩ = some (.int .i64 0) := cell_at HK.out 10
  have o11 : W1.cell? ⟨N, 11, none⟩ = some (.bool false) := cell_at HK.out 11
  have o12 : W1.cell? ⟨N, 12, none⟩ = some (.slice none 0 0) := cell_at HK.out 12
  have hl := HK.out.lt
  go_enter Try.func14, Try.ntmps14
  go_upto_region 1 with fail
  rw [← hN, ← hW1]
  clear hN hW1
  go_wp2_with fail
  obtain ⟨LS, hLS⟩ : ∃ L : List Value, L = [.int .i8 0, .int .i64 0, .int .i64 0, .int .i64 0, .int .i64 0, .int .i64 0, .int .i64 0, .int .i64 0, .int .i64 0, .int .i64 0, .int .i64 0, .bool false, .slice none 0 0] := ⟨_, rfl⟩
  obtain ⟨WS, hWS⟩ : ∃ WS, WS = W1.setCells (N) 0 LS := ⟨_, rfl⟩
  have hchS := hWS
  rw [hLS] at hchS
  simp only [World.setCells, Nat.zero_add, Nat.reduceAdd] at hchS
  rw [← hchS]
  clear hchS
  have hcS : ∀ j, j < 13 → (W1.setCells (N) 0 LS).cell? ⟨N, j, none⟩ = LS[j]? := fun j hj => by
    have := setCells_cell HK.out LS 0 (by rw [hLS]; exact Nat.le_refl _) j (by rw [hLS]; exact hj)
    rwa [Nat.zero_add] at this
  have hfrS : Fr [N] W1 WS := by
    have := setCells_fr (N) LS 0 W1
    rw [← hWS] at this
    exact this
  rw [← hWS, hLS] at hcS
  have r0 : WS.cell? ⟨N, 0, none⟩ = some (.int .i8 0) := by exact hcS 0 (by omega)
  have r1 : WS.cell? ⟨N, 1, none⟩ = some (.int .i64 0) := by exact hcS 1 (by omega)
  have r2 : WS.cell? ⟨N, 2, none⟩ = some (.int .i64 0) := by exact hcS 2 (by omega)
  have r3 : WS.cell? ⟨N, 3, none⟩ = some (.int .i64 0) := by exact hcS 3 (by omega)
  have r4 : WS.cell? ⟨N, 4, none⟩ = some (.int .i64 0) := by exact hcS 4 (by omega)
  have r5 : WS.cell? ⟨N, 5, none⟩ = some (.int .i64 0) := by exact hcS 5 (by omega)
  have r6 : WS.cell? ⟨N, 6, none⟩ = some (.int .i64 0) := by exact hcS 6 (by omega)
  have r7 : WS.cell? ⟨N, 7, none⟩ = some (.int .i64 0) := by exact hcS 7 (by omega)
  have r8 : WS.cell? ⟨N, 8, none⟩ = some (.int .i64 0) := by exact hcS 8 (by omega)
  have r9 : WS.cell? ⟨N, 9, none⟩ = some (.int .i64 0) := by exact hcS 9 (by omega)
  have r10 : WS.cell? ⟨N, 10, none⟩ = some (.int .i64 0) := by exact hcS 10 (by omega)
  have r11 : WS.cell? ⟨N, 11, none⟩ = some (.bool false) := by exact hcS 11 (by omega)
  have r12 : WS.cell? ⟨N, 12, none⟩ = some (.slice none 0 0) := by exact hcS 12 (by omega)
  clear hWS hcS hLS zso o0 o1 o2 o3 o4 o5 o6 o7 o8 o9 o10 o11 o12
  have HBF := Lib.hid ((((Fr.of_below HB1.out).mono (l' := [N]) (by simp)).trans hfrS (fun y hy => .inl hy)).below (B := w.heap.size) (Nat.le_refl _) (by have := HN.out; simp; omega))
  exact bodyPost_ret (v := .tuple #[.agg #[.int .i8 0, .int .i64 0, .int .i64 0, .int .i64 0, .int .i64 0, .int .i64 0, .int .i64 0, .int .i64 0, .int .i64 0, .int .i64 0, .int .i64 0, .bool false, .slice none 0 0], .int .i64 1]) (by simp [results, Try.results14, go_sem, r0, r1, r2, r3, r4, r5, r6, r7, r8, r9, r10, r11, r12]) rfl ⟨rfl, HBF.out⟩

set_option maxRecDepth 100000 in
set_option maxHeartbeats 2000000 in
theorem again_nil (w : World) :
    Calls Try.prog 15 #[.pointer none] w fun e w' => e = .returned (.tuple #[.agg #[.int .i8 0, .int .i64 0, .int .i64 0, .int .i64 0, .int .i64 0, .int .i64 0, .int .i64 0, .int .i64 0, .int .i64 0, .int .i64 0, .int .i64 0, .bool false, .slice none 0 0], .bool false]) ∧ Below w.heap.size w w' := by
  obtain ⟨N, hN⟩ : ∃ N, N = w.heap.size := ⟨_, rfl⟩
  obtain ⟨W1, hW1⟩ : ∃ W1, W1 = w.alloc (.cells #[.int .i8 0, .int .i64 0, .int .i64 0, .int .i64 0, .int .i64 0, .int .i64 0, .int .i64 0, .int .i64 0, .int .i64 0, .int .i64 0, .int .i64 0, .bool false, .slice none 0 0] 31) := ⟨_, rfl⟩
  have HB1 : Hid (Below w.heap.size w W1) := Lib.hid (by rw [hW1]; exact (Below.refl _ _).alloc (Nat.le_refl _) _)
  have HK : Hid (Blk W1 N #[.int .i8 0, .int .i64 0, .int .i64 0, .int .i64 0, .int .i64 0, .int .i64 0, .int .i64 0, .int .i64 0, .int .i64 0, .int .i64 0, .int .i64 0, .bool false, .slice none 0 0] 31) := Lib.hid (by rw [hW1, hN]; exact blk_new _ _ _)
  have HN := Lib.hid hN
  have zso : ∀ j, W1.frozen? ⟨N, j, none⟩ = false := fun j => free_at HK.out j
  have o0 : W1.cell? ⟨N, 0, none⟩ = some (.int .i8 0) := cell_at HK.out 0
  have o1 : W1.cell? ⟨N, 1, none⟩ = some (.int .i64 0) := cell_at HK.out 1
  have o2 : W1.cell? ⟨N, 2, none⟩ = some (.int .i64 0) := cell_at HK.out 2
  have o3 : W1.cell? ⟨N, 3, none⟩ = some (.int .i64 0) := cell_at HK.out 3
  have o4 : W1.cell? ⟨N, 4, none⟩ = some (.int .i64 0) := cell_at HK.out 4
  have o5 : W1.cell? ⟨N, 5, none⟩ = some (.int .i64 0) := cell_at HK.out 5
  have o6 : W1.cell? ⟨N, 6, none⟩ = some (.int .i64 0) := cell_at HK.out 6
  have o7 : W1.cell? ⟨N, 7, none⟩ = some (.int .i64 0) := cell_at HK.out 7
  have o8 : W1.cell? ⟨N, 8, none⟩ = some (.int .i64 0) := cell_at HK.out 8
  have o9 : W1.cell? ⟨N, 9, none⟩ = some (.int .i64 0) := cell_at HK.out 9
  have o10 : W1.cell? ⟨N, 10, none⟩ = some (.int .i64 0) := cell_at HK.out 10
  have o11 : W1.cell? ⟨N, 11, none⟩ = some (.bool false) := cell_at HK.out 11
  have o12 : W1.cell? ⟨N, 12, none⟩ = some (.slice none 0 0) := cell_at HK.out 12
  have hl := HK.out.lt
  go_enter Try.func15, Try.ntmps15
  go_upto_region 1 with fail
  rw [← hN, ← hW1]
  clear hN hW1
  go_wp2_with fail
  obtain ⟨LS, hLS⟩ : ∃ L : List Value, L = [.int .i8 0, .int .i64 0, .int .i64 0, .int .i64 0, .int .i64 0, .int .i64 0, .int .i64 0, .int .i64 0, .int .i64 0, .int .i64 0, .int .i64 0, .bool false, .slice none 0 0] := ⟨_, rfl⟩
  obtain ⟨WS, hWS⟩ : ∃ WS, WS = W1.setCells (N) 0 LS := ⟨_, rfl⟩
  have hchS := hWS
  rw [hLS] at hchS
  simp only [World.setCells, Nat.zero_add, Nat.reduceAdd] at hchS
  rw [← hchS]
  clear hchS
  have hcS : ∀ j, j < 13 → (W1.setCells (N) 0 LS).cell? ⟨N, j, none⟩ = LS[j]? := fun j hj => by
    have := setCells_cell HK.out LS 0 (by rw [hLS]; exact Nat.le_refl _) j (by rw [hLS]; exact hj)
    rwa [Nat.zero_add] at this
  have hfrS : Fr [N] W1 WS := by
    have := setCells_fr (N) LS 0 W1
    rw [← hWS] at this
    exact this
  rw [← hWS, hLS] at hcS
  have r0 : WS.cell? ⟨N, 0, none⟩ = some (.int .i8 0) := by exact hcS 0 (by omega)
  have r1 : WS.cell? ⟨N, 1, none⟩ = some (.int .i64 0) := by exact hcS 1 (by omega)
  have r2 : WS.cell? ⟨N, 2, none⟩ = some (.int .i64 0) := by exact hcS 2 (by omega)
  have r3 : WS.cell? ⟨N, 3, none⟩ = some (.int .i64 0) := by exact hcS 3 (by omega)
  have r4 : WS.cell? ⟨N, 4, none⟩ = some (.int .i64 0) := by exact hcS 4 (by omega)
  have r5 : WS.cell? ⟨N, 5, none⟩ = some (.int .i64 0) := by exact hcS 5 (by omega)
  have r6 : WS.cell? ⟨N, 6, none⟩ = some (.int .i64 0) := by exact hcS 6 (by omega)
  have r7 : WS.cell? ⟨N, 7, none⟩ = some (.int .i64 0) := by exact hcS 7 (by omega)
  have r8 : WS.cell? ⟨N, 8, none⟩ = some (.int .i64 0) := by exact hcS 8 (by omega)
  have r9 : WS.cell? ⟨N, 9, none⟩ = some (.int .i64 0) := by exact hcS 9 (by omega)
  have r10 : WS.cell? ⟨N, 10, none⟩ = some (.int .i64 0) := by exact hcS 10 (by omega)
  have r11 : WS.cell? ⟨N, 11, none⟩ = some (.bool false) := by exact hcS 11 (by omega)
  have r12 : WS.cell? ⟨N, 12, none⟩ = some (.slice none 0 0) := by exact hcS 12 (by omega)
  clear hWS hcS hLS zso o0 o1 o2 o3 o4 o5 o6 o7 o8 o9 o10 o11 o12
  have HBF := Lib.hid ((((Fr.of_below HB1.out).mono (l' := [N]) (by simp)).trans hfrS (fun y hy => .inl hy)).below (B := w.heap.size) (Nat.le_refl _) (by have := HN.out; simp; omega))
  exact bodyPost_ret (v := .tuple #[.agg #[.int .i8 0, .int .i64 0, .int .i64 0, .int .i64 0, .int .i64 0, .int .i64 0, .int .i64 0, .int .i64 0, .int .i64 0, .int .i64 0, .int .i64 0, .bool false, .slice none 0 0], .bool false]) (by simp [results, Try.results15, go_sem, r0, r1, r2, r3, r4, r5, r6, r7, r8, r9, r10, r11, r12]) rfl ⟨rfl, HBF.out⟩

set_option maxRecDepth 100000 in
set_option maxHeartbeats 2000000 in
theorem giveup_nil (w : World) :
    Calls Try.prog 16 #[.pointer none] w fun e w' => e = .returned (.int .i64 1) ∧ Below w.heap.size w w' := by
  go_enter Try.func16, Try.ntmps16
  go_wp2_with fail
  go_ret
  first | exact ⟨rfl, Below.refl _ _⟩ | exact ⟨rfl, (Below.refl _ _).alloc (Nat.le_refl _) _⟩

set_option maxRecDepth 100000 in
set_option maxHeartbeats 2000000 in
theorem told_nil (a b c d e f g h : Int) (w : World) :
    Calls Try.prog 17 #[.pointer none, .int .i64 a, .int .i64 b, .agg #[.int .i64 c, .int .i64 d, .int .i64 e, .int .i64 f, .int .i64 g], .int .i64 h] w fun e w' => e = .returned (.int .i64 1) ∧ Below w.heap.size w w' := by
  go_enter Try.func17, Try.ntmps17
  go_wp2_with fail
  go_ret
  first | exact ⟨rfl, Below.refl _ _⟩ | exact ⟨rfl, (Below.refl _ _).alloc (Nat.le_refl _) _⟩

set_option maxRecDepth 100000 in
set_option maxHeartbeats 2000000 in
theorem tokens_nil (a b : Int) (w : World) :
    Calls Try.prog 19 #[.pointer none, .int .i64 a, .int .i64 b] w fun e w' => e = .returned (.int .i64 0) ∧ Below w.heap.size w w' := by
  go_enter Try.func19, Try.ntmps19
  go_wp2_with fail
  go_ret
  first | exact ⟨rfl, Below.refl _ _⟩ | exact ⟨rfl, (Below.refl _ _).alloc (Nat.le_refl _) _⟩

set_option maxRecDepth 100000 in
set_option maxHeartbeats 2000000 in
theorem spend_nil (a b c : Int) (w : World) :
    Calls Try.prog 18 #[.pointer none, .int .i64 a, .int .i64 b, .int .i64 c] w fun e w' => e = .returned (.int .i64 1) ∧ Below w.heap.size w w' := by
  go_enter Try.func18, Try.ntmps18
  go_wp2_with (go_at_call 19; refine (tokens_nil _ _ _).mono ?_; rintro e w' ⟨rfl, hB⟩)
  go_ret
  exact ⟨rfl, hB⟩

set_option maxRecDepth 100000 in
set_option maxHeartbeats 2000000 in
theorem reports_nil (a : Int) (w : World) :
    Calls Try.prog 20 #[.pointer none, .int .i64 a] w fun e w' => e = .returned (.slice none 0 0) ∧ Below w.heap.size w w' := by
  go_enter Try.func20, Try.ntmps20
  go_wp2_with fail
  go_ret
  first | exact ⟨rfl, Below.refl _ _⟩ | exact ⟨rfl, (Below.refl _ _).alloc (Nat.le_refl _) _⟩

set_option maxRecDepth 100000 in
set_option maxHeartbeats 2000000 in
theorem close_nil (a b : Int) (w : World) :
    Calls Try.prog 21 #[.pointer none, .int .i64 a, .int .i64 b] w fun e w' => e = .returned (.slice none 0 0) ∧ Below w.heap.size w w' := by
  go_enter Try.func21, Try.ntmps21
  go_wp2_with fail
  go_ret
  first | exact ⟨rfl, Below.refl _ _⟩ | exact ⟨rfl, (Below.refl _ _).alloc (Nat.le_refl _) _⟩

set_option maxRecDepth 100000 in
set_option maxHeartbeats 2000000 in
theorem held_nil (a : Int) (w : World) :
    Calls Try.prog 22 #[.pointer none, .int .i64 a] w fun e w' => e = .returned (.slice none 0 0) ∧ Below w.heap.size w w' := by
  go_enter Try.func22, Try.ntmps22
  go_wp2_with fail
  go_ret
  first | exact ⟨rfl, Below.refl _ _⟩ | exact ⟨rfl, (Below.refl _ _).alloc (Nat.le_refl _) _⟩

set_option maxRecDepth 100000 in
set_option maxHeartbeats 8000000 in
theorem agentNil_any (a0 a1 a2 a3 a4 a5 a6 a7 a8 a9 a10 : Int) (w : World) :
    Calls Try.prog 3 #[.agg #[.int .i64 a0, .int .i64 a1, .int .i64 a2, .int .i64 a3, .int .i64 a4, .int .i64 a5, .int .i64 a6, .int .i64 a7, .int .i64 a8, .int .i64 a9, .int .i64 a10]] w fun e w' => e = .returned (.bool true) ∧ Below w.heap.size w w' := by
  obtain ⟨N, hN⟩ : ∃ N, N = w.heap.size := ⟨_, rfl⟩
  obtain ⟨W0, hW0⟩ : ∃ W0, W0 = w.alloc (.cells #[.int .i64 a0, .int .i64 a1, .int .i64 a2, .int .i64 a3, .int .i64 a4, .int .i64 a5, .int .i64 a6, .int .i64 a7, .int .i64 a8, .int .i64 a9, .int .i64 a10] 26) := ⟨_, rfl⟩
  have HB : Hid (Below w.heap.size w W0) := Lib.hid (by rw [hW0]; exact (Below.refl _ _).alloc (Nat.le_refl _) _)
  have HK : Hid (Blk W0 N #[.int .i64 a0, .int .i64 a1, .int .i64 a2, .int .i64 a3, .int .i64 a4, .int .i64 a5, .int .i64 a6, .int .i64 a7, .int .i64 a8, .int .i64 a9, .int .i64 a10] 26) := Lib.hid (by rw [hW0, hN]; exact blk_new _ _ _)
  have hs0 : W0.heap.size = w.heap.size + 1 := by rw [hW0]; simp
  have HZ := Lib.hid hs0
  have HN := Lib.hid hN
  have CC := fun (W : World) (h : Below W0.heap.size W0 W) (j : Nat) => cell_at (HK.out.step h) j
  have HCC := Lib.hid CC
  have hcr := Below.refl W0.heap.size W0
  have c0 : W0.cell? ⟨N, 0, none⟩ = some (.int .i64 a0) := HCC.out W0 hcr 0
  have c1 : W0.cell? ⟨N, 1, none⟩ = some (.int .i64 a1) := HCC.out W0 hcr 1
  have c2 : W0.cell? ⟨N, 2, none⟩ = some (.int .i64 a2) := HCC.out W0 hcr 2
  have c3 : W0.cell? ⟨N, 3, none⟩ = some (.int .i64 a3) := HCC.out W0 hcr 3
  have c4 : W0.cell? ⟨N, 4, none⟩ = some (.int .i64 a4) := HCC.out W0 hcr 4
  have c5 : W0.cell? ⟨N, 5, none⟩ = some (.int .i64 a5) := HCC.out W0 hcr 5
  have c6 : W0.cell? ⟨N, 6, none⟩ = some (.int .i64 a6) := HCC.out W0 hcr 6
  have c7 : W0.cell? ⟨N, 7, none⟩ = some (.int .i64 a7) := HCC.out W0 hcr 7
  have c8 : W0.cell? ⟨N, 8, none⟩ = some (.int .i64 a8) := HCC.out W0 hcr 8
  have c9 : W0.cell? ⟨N, 9, none⟩ = some (.int .i64 a9) := HCC.out W0 hcr 9
  have c10 : W0.cell? ⟨N, 10, none⟩ = some (.int .i64 a10) := HCC.out W0 hcr 10
  have hl := HK.out.lt
  clear CC hs0
  go_enter Try.func3, Try.ntmps3
  go_upto_region 2 with fail
  rw [← hN, ← hW0]
  clear hN hW0 hcr
  go_wp2_with fail
  go_at_call 14
  refine (ask_nil _ _ _ _).mono ?_
  rintro e Va ⟨rfl, hBa⟩
  have HBa : Hid (Below W0.heap.size W0 Va) := Lib.hid hBa
  clear hBa c0 c1 c2 c3 c4 c5 c6 c7 c8 c9 c10 hl
  have c0 : Va.cell? ⟨N, 0, none⟩ = some (.int .i64 a0) := HCC.out Va HBa.out 0
  have c1 : Va.cell? ⟨N, 1, none⟩ = some (.int .i64 a1) := HCC.out Va HBa.out 1
  have c2 : Va.cell? ⟨N, 2, none⟩ = some (.int .i64 a2) := HCC.out Va HBa.out 2
  have c3 : Va.cell? ⟨N, 3, none⟩ = some (.int .i64 a3) := HCC.out Va HBa.out 3
  have c4 : Va.cell? ⟨N, 4, none⟩ = some (.int .i64 a4) := HCC.out Va HBa.out 4
  have c5 : Va.cell? ⟨N, 5, none⟩ = some (.int .i64 a5) := HCC.out Va HBa.out 5
  have c6 : Va.cell? ⟨N, 6, none⟩ = some (.int .i64 a6) := HCC.out Va HBa.out 6
  have c7 : Va.cell? ⟨N, 7, none⟩ = some (.int .i64 a7) := HCC.out Va HBa.out 7
  have c8 : Va.cell? ⟨N, 8, none⟩ = some (.int .i64 a8) := HCC.out Va HBa.out 8
  have c9 : Va.cell? ⟨N, 9, none⟩ = some (.int .i64 a9) := HCC.out Va HBa.out 9
  have c10 : Va.cell? ⟨N, 10, none⟩ = some (.int .i64 a10) := HCC.out Va HBa.out 10
  have hl : N < Va.heap.size := Nat.lt_of_lt_of_le HK.out.lt HBa.out.size
  go_wp2_with fail
  go_at_call 15
  refine (again_nil _).mono ?_
  rintro e Vb ⟨rfl, hBb⟩
  have HBb : Hid (Below W0.heap.size W0 Vb) := Lib.hid ((HBa.out.alloc HBa.out.size _).trans (hBb.mono (by have := HBa.out.size; simp; omega)))
  clear hBb c0 c1 c2 c3 c4 c5 c6 c7 c8 c9 c10 hl
  have c0 : Vb.cell? ⟨N, 0, none⟩ = some (.int .i64 a0) := HCC.out Vb HBb.out 0
  have c1 : Vb.cell? ⟨N, 1, none⟩ = some (.int .i64 a1) := HCC.out Vb HBb.out 1
  have c2 : Vb.cell? ⟨N, 2, none⟩ = some (.int .i64 a2) := HCC.out Vb HBb.out 2
  have c3 : Vb.cell? ⟨N, 3, none⟩ = some (.int .i64 a3) := HCC.out Vb HBb.out 3
  have c4 : Vb.cell? ⟨N, 4, none⟩ = some (.int .i64 a4) := HCC.out Vb HBb.out 4
  have c5 : Vb.cell? ⟨N, 5, none⟩ = some (.int .i64 a5) := HCC.out Vb HBb.out 5
  have c6 : Vb.cell? ⟨N, 6, none⟩ = some (.int .i64 a6) := HCC.out Vb HBb.out 6
  have c7 : Vb.cell? ⟨N, 7, none⟩ = some (.int .i64 a7) := HCC.out Vb HBb.out 7
  have c8 : Vb.cell? ⟨N, 8, none⟩ = some (.int .i64 a8) := HCC.out Vb HBb.out 8
  have c9 : Vb.cell? ⟨N, 9, none⟩ = some (.int .i64 a9) := HCC.out Vb HBb.out 9
  have c10 : Vb.cell? ⟨N, 10, none⟩ = some (.int .i64 a10) := HCC.out Vb HBb.out 10
  have hl : N < Vb.heap.size := Nat.lt_of_lt_of_le HK.out.lt HBb.out.size
  go_wp2_with fail
  go_at_call 16
  refine (giveup_nil _).mono ?_
  rintro e Vc ⟨rfl, hBc⟩
  have HBc : Hid (Below W0.heap.size W0 Vc) := Lib.hid ((HBb.out.alloc HBb.out.size _).trans (hBc.mono (by have := HBb.out.size; simp; omega)))
  clear hBc c0 c1 c2 c3 c4 c5 c6 c7 c8 c9 c10 hl
  have c0 : Vc.cell? ⟨N, 0, none⟩ = some (.int .i64 a0) := HCC.out Vc HBc.out 0
  have c1 : Vc.cell? ⟨N, 1, none⟩ = some (.int .i64 a1) := HCC.out Vc HBc.out 1
  have c2 : Vc.cell? ⟨N, 2, none⟩ = some (.int .i64 a2) := HCC.out Vc HBc.out 2
  have c3 : Vc.cell? ⟨N, 3, none⟩ = some (.int .i64 a3) := HCC.out Vc HBc.out 3
  have c4 : Vc.cell? ⟨N, 4, none⟩ = some (.int .i64 a4) := HCC.out Vc HBc.out 4
  have c5 : Vc.cell? ⟨N, 5, none⟩ = some (.int .i64 a5) := HCC.out Vc HBc.out 5
  have c6 : Vc.cell? ⟨N, 6, none⟩ = some (.int .i64 a6) := HCC.out Vc HBc.out 6
  have c7 : Vc.cell? ⟨N, 7, none⟩ = some (.int .i64 a7) := HCC.out Vc HBc.out 7
  have c8 : Vc.cell? ⟨N, 8, none⟩ = some (.int .i64 a8) := HCC.out Vc HBc.out 8
  have c9 : Vc.cell? ⟨N, 9, none⟩ = some (.int .i64 a9) := HCC.out Vc HBc.out 9
  have c10 : Vc.cell? ⟨N, 10, none⟩ = some (.int .i64 a10) := HCC.out Vc HBc.out 10
  have hl : N < Vc.heap.size := Nat.lt_of_lt_of_le HK.out.lt HBc.out.size
  go_wp2_with fail
  go_at_call 17
  refine (told_nil _ _ _ _ _ _ _ _ _).mono ?_
  rintro e Vd ⟨rfl, hBd⟩
  have HBd : Hid (Below W0.heap.size W0 Vd) := Lib.hid (HBc.out.trans (hBd.mono HBc.out.size))
  clear hBd c0 c1 c2 c3 c4 c5 c6 c7 c8 c9 c10 hl
  have c0 : Vd.cell? ⟨N, 0, none⟩ = some (.int .i64 a0) := HCC.out Vd HBd.out 0
  have c1 : Vd.cell? ⟨N, 1, none⟩ = some (.int .i64 a1) := HCC.out Vd HBd.out 1
  have c2 : Vd.cell? ⟨N, 2, none⟩ = some (.int .i64 a2) := HCC.out Vd HBd.out 2
  have c3 : Vd.cell? ⟨N, 3, none⟩ = some (.int .i64 a3) := HCC.out Vd HBd.out 3
  have c4 : Vd.cell? ⟨N, 4, none⟩ = some (.int .i64 a4) := HCC.out Vd HBd.out 4
  have c5 : Vd.cell? ⟨N, 5, none⟩ = some (.int .i64 a5) := HCC.out Vd HBd.out 5
  have c6 : Vd.cell? ⟨N, 6, none⟩ = some (.int .i64 a6) := HCC.out Vd HBd.out 6
  have c7 : Vd.cell? ⟨N, 7, none⟩ = some (.int .i64 a7) := HCC.out Vd HBd.out 7
  have c8 : Vd.cell? ⟨N, 8, none⟩ = some (.int .i64 a8) := HCC.out Vd HBd.out 8
  have c9 : Vd.cell? ⟨N, 9, none⟩ = some (.int .i64 a9) := HCC.out Vd HBd.out 9
  have c10 : Vd.cell? ⟨N, 10, none⟩ = some (.int .i64 a10) := HCC.out Vd HBd.out 10
  have hl : N < Vd.heap.size := Nat.lt_of_lt_of_le HK.out.lt HBd.out.size
  go_wp2_with fail
  go_at_call 18
  refine (spend_nil _ _ _ _).mono ?_
  rintro e Ve ⟨rfl, hBe⟩
  have HBe : Hid (Below W0.heap.size W0 Ve) := Lib.hid (HBd.out.trans (hBe.mono HBd.out.size))
  clear hBe c0 c1 c2 c3 c4 c5 c6 c7 c8 c9 c10 hl
  have c0 : Ve.cell? ⟨N, 0, none⟩ = some (.int .i64 a0) := HCC.out Ve HBe.out 0
  have c1 : Ve.cell? ⟨N, 1, none⟩ = some (.int .i64 a1) := HCC.out Ve HBe.out 1
  have c2 : Ve.cell? ⟨N, 2, none⟩ = some (.int .i64 a2) := HCC.out Ve HBe.out 2
  have c3 : Ve.cell? ⟨N, 3, none⟩ = some (.int .i64 a3) := HCC.out Ve HBe.out 3
  have c4 : Ve.cell? ⟨N, 4, none⟩ = some (.int .i64 a4) := HCC.out Ve HBe.out 4
  have c5 : Ve.cell? ⟨N, 5, none⟩ = some (.int .i64 a5) := HCC.out Ve HBe.out 5
  have c6 : Ve.cell? ⟨N, 6, none⟩ = some (.int .i64 a6) := HCC.out Ve HBe.out 6
  have c7 : Ve.cell? ⟨N, 7, none⟩ = some (.int .i64 a7) := HCC.out Ve HBe.out 7
  have c8 : Ve.cell? ⟨N, 8, none⟩ = some (.int .i64 a8) := HCC.out Ve HBe.out 8
  have c9 : Ve.cell? ⟨N, 9, none⟩ = some (.int .i64 a9) := HCC.out Ve HBe.out 9
  have c10 : Ve.cell? ⟨N, 10, none⟩ = some (.int .i64 a10) := HCC.out Ve HBe.out 10
  have hl : N < Ve.heap.size := Nat.lt_of_lt_of_le HK.out.lt HBe.out.size
  go_wp2_with fail
  go_at_call 19
  refine (tokens_nil _ _ _).mono ?_
  rintro e Vf ⟨rfl, hBf⟩
  have HBf : Hid (Below W0.heap.size W0 Vf) := Lib.hid (HBe.out.trans (hBf.mono HBe.out.size))
  clear hBf c0 c1 c2 c3 c4 c5 c6 c7 c8 c9 c10 hl
  have c0 : Vf.cell? ⟨N, 0, none⟩ = some (.int .i64 a0) := HCC.out Vf HBf.out 0
  have c1 : Vf.cell? ⟨N, 1, none⟩ = some (.int .i64 a1) := HCC.out Vf HBf.out 1
  have c2 : Vf.cell? ⟨N, 2, none⟩ = some (.int .i64 a2) := HCC.out Vf HBf.out 2
  have c3 : Vf.cell? ⟨N, 3, none⟩ = some (.int .i64 a3) := HCC.out Vf HBf.out 3
  have c4 : Vf.cell? ⟨N, 4, none⟩ = some (.int .i64 a4) := HCC.out Vf HBf.out 4
  have c5 : Vf.cell? ⟨N, 5, none⟩ = some (.int .i64 a5) := HCC.out Vf HBf.out 5
  have c6 : Vf.cell? ⟨N, 6, none⟩ = some (.int .i64 a6) := HCC.out Vf HBf.out 6
  have c7 : Vf.cell? ⟨N, 7, none⟩ = some (.int .i64 a7) := HCC.out Vf HBf.out 7
  have c8 : Vf.cell? ⟨N, 8, none⟩ = some (.int .i64 a8) := HCC.out Vf HBf.out 8
  have c9 : Vf.cell? ⟨N, 9, none⟩ = some (.int .i64 a9) := HCC.out Vf HBf.out 9
  have c10 : Vf.cell? ⟨N, 10, none⟩ = some (.int .i64 a10) := HCC.out Vf HBf.out 10
  have hl : N < Vf.heap.size := Nat.lt_of_lt_of_le HK.out.lt HBf.out.size
  go_wp2_with fail
  go_at_call 20
  refine (reports_nil _ _).mono ?_
  rintro e Vg ⟨rfl, hBg⟩
  have HBg : Hid (Below W0.heap.size W0 Vg) := Lib.hid (HBf.out.trans (hBg.mono HBf.out.size))
  clear hBg c0 c1 c2 c3 c4 c5 c6 c7 c8 c9 c10 hl
  have c0 : Vg.cell? ⟨N, 0, none⟩ = some (.int .i64 a0) := HCC.out Vg HBg.out 0
  have c1 : Vg.cell? ⟨N, 1, none⟩ = some (.int .i64 a1) := HCC.out Vg HBg.out 1
  have c2 : Vg.cell? ⟨N, 2, none⟩ = some (.int .i64 a2) := HCC.out Vg HBg.out 2
  have c3 : Vg.cell? ⟨N, 3, none⟩ = some (.int .i64 a3) := HCC.out Vg HBg.out 3
  have c4 : Vg.cell? ⟨N, 4, none⟩ = some (.int .i64 a4) := HCC.out Vg HBg.out 4
  have c5 : Vg.cell? ⟨N, 5, none⟩ = some (.int .i64 a5) := HCC.out Vg HBg.out 5
  have c6 : Vg.cell? ⟨N, 6, none⟩ = some (.int .i64 a6) := HCC.out Vg HBg.out 6
  have c7 : Vg.cell? ⟨N, 7, none⟩ = some (.int .i64 a7) := HCC.out Vg HBg.out 7
  have c8 : Vg.cell? ⟨N, 8, none⟩ = some (.int .i64 a8) := HCC.out Vg HBg.out 8
  have c9 : Vg.cell? ⟨N, 9, none⟩ = some (.int .i64 a9) := HCC.out Vg HBg.out 9
  have c10 : Vg.cell? ⟨N, 10, none⟩ = some (.int .i64 a10) := HCC.out Vg HBg.out 10
  have hl : N < Vg.heap.size := Nat.lt_of_lt_of_le HK.out.lt HBg.out.size
  go_wp2_with fail
  go_at_call 21
  refine (close_nil _ _ _).mono ?_
  rintro e Vh ⟨rfl, hBh⟩
  have HBh : Hid (Below W0.heap.size W0 Vh) := Lib.hid (HBg.out.trans (hBh.mono HBg.out.size))
  clear hBh c0 c1 c2 c3 c4 c5 c6 c7 c8 c9 c10 hl
  have c0 : Vh.cell? ⟨N, 0, none⟩ = some (.int .i64 a0) := HCC.out Vh HBh.out 0
  have c1 : Vh.cell? ⟨N, 1, none⟩ = some (.int .i64 a1) := HCC.out Vh HBh.out 1
  have c2 : Vh.cell? ⟨N, 2, none⟩ = some (.int .i64 a2) := HCC.out Vh HBh.out 2
  have c3 : Vh.cell? ⟨N, 3, none⟩ = some (.int .i64 a3) := HCC.out Vh HBh.out 3
  have c4 : Vh.cell? ⟨N, 4, none⟩ = some (.int .i64 a4) := HCC.out Vh HBh.out 4
  have c5 : Vh.cell? ⟨N, 5, none⟩ = some (.int .i64 a5) := HCC.out Vh HBh.out 5
  have c6 : Vh.cell? ⟨N, 6, none⟩ = some (.int .i64 a6) := HCC.out Vh HBh.out 6
  have c7 : Vh.cell? ⟨N, 7, none⟩ = some (.int .i64 a7) := HCC.out Vh HBh.out 7
  have c8 : Vh.cell? ⟨N, 8, none⟩ = some (.int .i64 a8) := HCC.out Vh HBh.out 8
  have c9 : Vh.cell? ⟨N, 9, none⟩ = some (.int .i64 a9) := HCC.out Vh HBh.out 9
  have c10 : Vh.cell? ⟨N, 10, none⟩ = some (.int .i64 a10) := HCC.out Vh HBh.out 10
  have hl : N < Vh.heap.size := Nat.lt_of_lt_of_le HK.out.lt HBh.out.size
  go_wp2_with fail
  go_at_call 22
  refine (held_nil _ _).mono ?_
  rintro e Vi ⟨rfl, hBi⟩
  have HBi : Hid (Below W0.heap.size W0 Vi) := Lib.hid (HBh.out.trans (hBi.mono HBh.out.size))
  clear hBi c0 c1 c2 c3 c4 c5 c6 c7 c8 c9 c10 hl
  have c0 : Vi.cell? ⟨N, 0, none⟩ = some (.int .i64 a0) := HCC.out Vi HBi.out 0
  have c1 : Vi.cell? ⟨N, 1, none⟩ = some (.int .i64 a1) := HCC.out Vi HBi.out 1
  have c2 : Vi.cell? ⟨N, 2, none⟩ = some (.int .i64 a2) := HCC.out Vi HBi.out 2
  have c3 : Vi.cell? ⟨N, 3, none⟩ = some (.int .i64 a3) := HCC.out Vi HBi.out 3
  have c4 : Vi.cell? ⟨N, 4, none⟩ = some (.int .i64 a4) := HCC.out Vi HBi.out 4
  have c5 : Vi.cell? ⟨N, 5, none⟩ = some (.int .i64 a5) := HCC.out Vi HBi.out 5
  have c6 : Vi.cell? ⟨N, 6, none⟩ = some (.int .i64 a6) := HCC.out Vi HBi.out 6
  have c7 : Vi.cell? ⟨N, 7, none⟩ = some (.int .i64 a7) := HCC.out Vi HBi.out 7
  have c8 : Vi.cell? ⟨N, 8, none⟩ = some (.int .i64 a8) := HCC.out Vi HBi.out 8
  have c9 : Vi.cell? ⟨N, 9, none⟩ = some (.int .i64 a9) := HCC.out Vi HBi.out 9
  have c10 : Vi.cell? ⟨N, 10, none⟩ = some (.int .i64 a10) := HCC.out Vi HBi.out 10
  have hl : N < Vi.heap.size := Nat.lt_of_lt_of_le HK.out.lt HBi.out.size
  go_wp2_with fail
  go_at_call 23
  refine (agwakes_any _).mono ?_
  rintro e Vw ⟨rfl, hBw⟩
  have HBw : Hid (Below W0.heap.size W0 Vw) := Lib.hid (HBi.out.trans (hBw.mono HBi.out.size))
  clear hBw c0 c1 c2 c3 c4 c5 c6 c7 c8 c9 c10 hl
  have c0 : Vw.cell? ⟨N, 0, none⟩ = some (.int .i64 a0) := HCC.out Vw HBw.out 0
  have c1 : Vw.cell? ⟨N, 1, none⟩ = some (.int .i64 a1) := HCC.out Vw HBw.out 1
  have c2 : Vw.cell? ⟨N, 2, none⟩ = some (.int .i64 a2) := HCC.out Vw HBw.out 2
  have c3 : Vw.cell? ⟨N, 3, none⟩ = some (.int .i64 a3) := HCC.out Vw HBw.out 3
  have c4 : Vw.cell? ⟨N, 4, none⟩ = some (.int .i64 a4) := HCC.out Vw HBw.out 4
  have c5 : Vw.cell? ⟨N, 5, none⟩ = some (.int .i64 a5) := HCC.out Vw HBw.out 5
  have c6 : Vw.cell? ⟨N, 6, none⟩ = some (.int .i64 a6) := HCC.out Vw HBw.out 6
  have c7 : Vw.cell? ⟨N, 7, none⟩ = some (.int .i64 a7) := HCC.out Vw HBw.out 7
  have c8 : Vw.cell? ⟨N, 8, none⟩ = some (.int .i64 a8) := HCC.out Vw HBw.out 8
  have c9 : Vw.cell? ⟨N, 9, none⟩ = some (.int .i64 a9) := HCC.out Vw HBw.out 9
  have c10 : Vw.cell? ⟨N, 10, none⟩ = some (.int .i64 a10) := HCC.out Vw HBw.out 10
  have hl : N < Vw.heap.size := Nat.lt_of_lt_of_le HK.out.lt HBw.out.size
  go_wp2_with fail
  go_ret
  exact ⟨rfl, HB.out.trans (HBw.out.mono HB.out.size)⟩
theorem act_inv {W : World} {x : Dt} (h : Fits Try.prog W 26 x) : ∃ (v0_0 : Int) (v0_1 : Int) (v0_2 : Int) (v0_3 : Int) (v0_4 : Int) (v1_0 : Int) (v1_1 : Int) (v1_2 : Int) (v1_3 : Int) (v1_4 : Int) (v0_6 : Int), x.cells = [.int .i64 v0_0, .int .i64 v0_1, .int .i64 v0_2, .int .i64 v0_3, .int .i64 v0_4, .int .i64 v1_0, .int .i64 v1_1, .int .i64 v1_2, .int .i64 v1_3, .int .i64 v1_4, .int .i64 v0_6] ∧ (-9223372036854775808 ≤ v0_0 ∧ v0_0 ≤ 9223372036854775807) ∧ (-9223372036854775808 ≤ v0_1 ∧ v0_1 ≤ 9223372036854775807) ∧ (-9223372036854775808 ≤ v0_2 ∧ v0_2 ≤ 9223372036854775807) ∧ (-9223372036854775808 ≤ v0_3 ∧ v0_3 ≤ 9223372036854775807) ∧ (-9223372036854775808 ≤ v0_4 ∧ v0_4 ≤ 9223372036854775807) ∧ (-9223372036854775808 ≤ v1_0 ∧ v1_0 ≤ 9223372036854775807) ∧ (-9223372036854775808 ≤ v1_1 ∧ v1_1 ≤ 9223372036854775807) ∧ (-9223372036854775808 ≤ v1_2 ∧ v1_2 ≤ 9223372036854775807) ∧ (-9223372036854775808 ≤ v1_3 ∧ v1_3 ≤ 9223372036854775807) ∧ (-9223372036854775808 ≤ v1_4 ∧ v1_4 ≤ 9223372036854775807) ∧ (-9223372036854775808 ≤ v0_6 ∧ v0_6 ≤ 9223372036854775807) := by
  obtain ⟨l0, rfl, hl0, hf0⟩ := h.agg_inv Try.underlying26
  obtain ⟨y0_0, e0_0, f0_0⟩ := hf0 0 _ rfl
  obtain ⟨y0_1, e0_1, f0_1⟩ := hf0 1 _ rfl
  obtain ⟨y0_2, e0_2, f0_2⟩ := hf0 2 _ rfl
  obtain ⟨y0_3, e0_3, f0_3⟩ := hf0 3 _ rfl
  obtain ⟨y0_4, e0_4, f0_4⟩ := hf0 4 _ rfl
  obtain ⟨y0_5, e0_5, f0_5⟩ := hf0 5 _ rfl
  obtain ⟨y0_6, e0_6, f0_6⟩ := hf0 6 _ rfl
  obtain ⟨v0_0, rfl, gv0_0⟩ := f0_0.int_inv Try.underlying3
  obtain ⟨v0_1, rfl, gv0_1⟩ := f0_1.int_inv Try.underlying3
  obtain ⟨v0_2, rfl, gv0_2⟩ := f0_2.int_inv Try.underlying3
  obtain ⟨v0_3, rfl, gv0_3⟩ := f0_3.int_inv Try.underlying3
  obtain ⟨v0_4, rfl, gv0_4⟩ := f0_4.int_inv Try.underlying3
  obtain ⟨l1, rfl, hl1, hf1⟩ := f0_5.agg_inv Try.underlying24
  obtain ⟨y1_0, e1_0, f1_0⟩ := hf1 0 _ rfl
  obtain ⟨y1_1, e1_1, f1_1⟩ := hf1 1 _ rfl
  obtain ⟨y1_2, e1_2, f1_2⟩ := hf1 2 _ rfl
  obtain ⟨y1_3, e1_3, f1_3⟩ := hf1 3 _ rfl
  obtain ⟨y1_4, e1_4, f1_4⟩ := hf1 4 _ rfl
  obtain ⟨v1_0, rfl, gv1_0⟩ := f1_0.int_inv Try.underlying22
  obtain ⟨v1_1, rfl, gv1_1⟩ := f1_1.int_inv Try.underlying3
  obtain ⟨v1_2, rfl, gv1_2⟩ := f1_2.int_inv Try.underlying3
  obtain ⟨v1_3, rfl, gv1_3⟩ := f1_3.int_inv Try.underlying3
  obtain ⟨v1_4, rfl, gv1_4⟩ := f1_4.int_inv Try.underlying3
  obtain ⟨v0_6, rfl, gv0_6⟩ := f0_6.int_inv Try.underlying3
  match l0, hl0 with
  | [z0_0, z0_1, z0_2, z0_3, z0_4, z0_5, z0_6], _ =>
    obtain rfl : z0_0 = _ := by simpa using e0_0
    obtain rfl : z0_1 = _ := by simpa using e0_1
    obtain rfl : z0_2 = _ := by simpa using e0_2
    obtain rfl : z0_3 = _ := by simpa using e0_3
    obtain rfl : z0_4 = _ := by simpa using e0_4
    obtain rfl : z0_5 = _ := by simpa using e0_5
    obtain rfl : z0_6 = _ := by simpa using e0_6
    match l1, hl1 with
    | [z1_0, z1_1, z1_2, z1_3, z1_4], _ =>
      obtain rfl : z1_0 = _ := by simpa using e1_0
      obtain rfl : z1_1 = _ := by simpa using e1_1
      obtain rfl : z1_2 = _ := by simpa using e1_2
      obtain rfl : z1_3 = _ := by simpa using e1_3
      obtain rfl : z1_4 = _ := by simpa using e1_4
      exact ⟨v0_0, v0_1, v0_2, v0_3, v0_4, v1_0, v1_1, v1_2, v1_3, v1_4, v0_6, rfl, gv0_0, gv0_1, gv0_2, gv0_3, gv0_4, gv1_0, gv1_1, gv1_2, gv1_3, gv1_4, gv0_6⟩

theorem agentNil_dt (x : Dt) (w : World) (hx : Fits Try.prog w 26 x) :
    Calls Try.prog 3 #[.agg x.cells.toArray] w fun e w' => e = .returned (.bool true) ∧ Below w.heap.size w w' := by
  obtain ⟨v0, v1, v2, v3, v4, v5, v6, v7, v8, v9, v10, e, _⟩ := act_inv hx
  rw [e]
  exact agentNil_any v0 v1 v2 v3 v4 v5 v6 v7 v8 v9 v10 w
end Go.Proofs.Ytlgjdiadohhleaa
