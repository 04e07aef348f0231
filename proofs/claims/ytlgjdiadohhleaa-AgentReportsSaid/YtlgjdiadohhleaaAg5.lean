/-
  An agent's ask, again.
-/
import Derived.Test.YtlgjdiadohhleaaAg4
namespace Go.Proofs.Ytlgjdiadohhleaa
open Go.RowKit
set_option linter.unusedSimpArgs false
set_option linter.unusedVariables false

set_option maxRecDepth 100000 in
set_option maxHeartbeats 4000000 in
theorem again_ok (g : Nat) (s : Ag) (v : Value) (w : World) (h : Blk w g (s.cells v) 107) (hu : s.un = true) :
    Calls Try.prog 15 #[.pointer (some ⟨g, 0, none⟩)] w fun e w' => e = .returned (.tuple #[.agg (cmdL 4 s.an s.at_ s.sh s.ae 0 s.sz 0 false), .bool true]) ∧ Below w.heap.size w w' := by
  obtain ⟨N, hN⟩ : ∃ N, N = w.heap.size := ⟨_, rfl⟩
  obtain ⟨W1, hW1⟩ : ∃ W1, W1 = (w.alloc (.cells #[.int .i8 0, .int .i64 0, .int .i64 0, .int .i64 0, .int .i64 0, .int .i64 0, .int .i64 0, .int .i64 0, .int .i64 0, .int .i64 0, .int .i64 0, .bool false, .slice none 0 0] 31)).alloc (.cells #[.int .i64 s.ae, .int .i64 s.an, .int .i64 s.at_, .int .i64 s.sz, .int .i64 s.st] 104) := ⟨_, rfl⟩
  have hB1 : Below N w W1 := by rw [hW1, hN]; exact ((Below.refl _ _).alloc (Nat.le_refl _) _).alloc (by simp) _
  have b0 : Blk W1 N #[.int .i8 0, .int .i64 0, .int .i64 0, .int .i64 0, .int .i64 0, .int .i64 0, .int .i64 0, .int .i64 0, .int .i64 0, .int .i64 0, .int .i64 0, .bool false, .slice none 0 0] 31 := by rw [hW1, hN]; exact (blk_new _ _ _).alloc _
  have b1 : Blk W1 (N + 1) #[.int .i64 s.ae, .int .i64 s.an, .int .i64 s.at_, .int .i64 s.sz, .int .i64 s.st] 104 := by
    have := blk_new (w.alloc (.cells #[.int .i8 0, .int .i64 0, .int .i64 0, .int .i64 0, .int .i64 0, .int .i64 0, .int .i64 0, .int .i64 0, .int .i64 0, .int .i64 0, .int .i64 0, .bool false, .slice none 0 0] 31)) #[.int .i64 s.ae, .int .i64 s.an, .int .i64 s.at_, .int .i64 s.sz, .int .i64 s.st] 104
    rw [World.size_alloc] at this
    rw [hW1, hN]
    exact this
  have h1 := h.step (hN ▸ hB1)
  have HB1 := Lib.hid hB1
  have HN := Lib.hid hN
  have HK := Lib.hid b0
  have g5 : w.cell? ⟨g, 5, none⟩ = some (.bool true) := by rw [← hu]; exact cell_at h 5
  have g6 : w.cell? ⟨g, 6, none⟩ = some (.int .i64 s.ae) := cell_at h 6
  have g7 : w.cell? ⟨g, 7, none⟩ = some (.int .i64 s.an) := cell_at h 7
  have g8 : w.cell? ⟨g, 8, none⟩ = some (.int .i64 s.at_) := cell_at h 8
  have g9 : w.cell? ⟨g, 9, none⟩ = some (.int .i64 s.sz) := cell_at h 9
  have g10 : w.cell? ⟨g, 10, none⟩ = some (.int .i64 s.st) := cell_at h 10
  have hg := h.lt
  have c0 : W1.cell? ⟨g, 0, none⟩ = some (.int .i64 s.sh) := cell_at h1 0
  have d0 : W1.cell? ⟨N + 1, 0, none⟩ = some (.int .i64 s.ae) := cell_at b1 0
  have d1 : W1.cell? ⟨N + 1, 1, none⟩ = some (.int .i64 s.an) := cell_at b1 1
  have d2 : W1.cell? ⟨N + 1, 2, none⟩ = some (.int .i64 s.at_) := cell_at b1 2
  have d3 : W1.cell? ⟨N + 1, 3, none⟩ = some (.int .i64 s.sz) := cell_at b1 3
  have hl := b1.lt
  have hlt : N < W1.heap.size := b0.lt
  clear h h1 b0 b1 hB1 hu
  have zso : ∀ j, W1.frozen? ⟨N, j, none⟩ = false := fun j => free_at HK.out j
  have o0 : W1.cell? ⟨N, 0, none⟩ = some (.int .i8 0) := cell_at HK.out 0
  have o1 : W1.cell? ⟨N, 1, none⟩ = some (.int .i64 0) := cell_at HK.out 1
  have o2 : W1.cell? ⟨N, 2, none⟩ = some (.int .i64 0) := cell_at HK.out 2
  have o3 : W1.cell? ⟨N, 3, none⟩ = some (.int .i64 0) := cell_at HK.out 3
  have o4 : W1.cell? ⟨N, 4, none⟩ = some (.int .i64 0) := cell_at HK.out 4
  have o5 : W1.cell? ⟨N, 5, none⟩ = some (.int .i64 0) := cell_at HK.out 5
  have o6 : W1.cell? ⟨N, 6, none⟩ = some (.int .i64 0) := cell_at HK.out 6
  have o7 : W1.cell? ⟨N, 7, none⟩ = some (.int .i64 0) := cell_at HK.out 7
  have o8 : W1.cell? ⟨N, 8, none⟩ = some (.int .i64 0) := cell_at HK.out 8
  have o9 : W1.cell? ⟨N, 9, none⟩ = some (.int .i64 0) := cell_at HK.out 9
  have o10 : W1.cell? ⟨N, 10, none⟩ = some (.int .i64 0) := cell_at HK.out 10
  have o11 : W1.cell? ⟨N, 11, none⟩ = some (.bool false) := cell_at HK.out 11
  have o12 : W1.cell? ⟨N, 12, none⟩ = some (.slice none 0 0) := cell_at HK.out 12
  go_enter Try.func15, Try.ntmps15
  go_upto_region 4 with fail
  rw [← hN, ← hW1]
  clear hN hW1 g5 g6 g7 g8 g9 g10
  go_region
  all_goals
    obtain ⟨LS, hLS⟩ : ∃ L : List Value, L = [.int .i8 4, .int .i64 0, .int .i64 s.an, .int .i64 s.at_, .int .i64 0, .int .i64 0, .int .i64 s.sh, .int .i64 s.ae, .int .i64 0, .int .i64 s.sz, .int .i64 0, .bool false, .slice none 0 0] := ⟨_, rfl⟩
    obtain ⟨WS, hWS⟩ : ∃ WS, WS = W1.setCells (N) 0 LS := ⟨_, rfl⟩
    have hchS := hWS
    rw [hLS] at hchS
    simp only [World.setCells, Nat.zero_add, Nat.reduceAdd] at hchS
    rw [← hchS]
    clear hchS
    obtain ⟨FS, hFS⟩ : ∃ WF, WF = WS.drew := ⟨_, rfl⟩
    rw [← hFS]
    have hcS : ∀ j, j < 13 → (W1.setCells (N) 0 LS).cell? ⟨N, j, none⟩ = LS[j]? := fun j hj => by
      have := setCells_cell HK.out LS 0 (by rw [hLS]; exact Nat.le_refl _) j (by rw [hLS]; exact hj)
      rwa [Nat.zero_add] at this
    have hfrS : Fr [N] W1 FS := by
      have := setCells_fr (N) LS 0 W1
      rw [← hWS] at this
      rw [hFS]
      exact this.drew
    rw [← hWS, hLS] at hcS
    have r0 : FS.cell? ⟨N, 0, none⟩ = some (.int .i8 4) := by rw [hFS]; exact hcS 0 (by omega)
    have r1 : FS.cell? ⟨N, 1, none⟩ = some (.int .i64 0) := by rw [hFS]; exact hcS 1 (by omega)
    have r2 : FS.cell? ⟨N, 2, none⟩ = some (.int .i64 s.an) := by rw [hFS]; exact hcS 2 (by omega)
    have r3 : FS.cell? ⟨N, 3, none⟩ = some (.int .i64 s.at_) := by rw [hFS]; exact hcS 3 (by omega)
    have r4 : FS.cell? ⟨N, 4, none⟩ = some (.int .i64 0) := by rw [hFS]; exact hcS 4 (by omega)
    have r5 : FS.cell? ⟨N, 5, none⟩ = some (.int .i64 0) := by rw [hFS]; exact hcS 5 (by omega)
    have r6 : FS.cell? ⟨N, 6, none⟩ = some (.int .i64 s.sh) := by rw [hFS]; exact hcS 6 (by omega)
    have r7 : FS.cell? ⟨N, 7, none⟩ = some (.int .i64 s.ae) := by rw [hFS]; exact hcS 7 (by omega)
    have r8 : FS.cell? ⟨N, 8, none⟩ = some (.int .i64 0) := by rw [hFS]; exact hcS 8 (by omega)
    have r9 : FS.cell? ⟨N, 9, none⟩ = some (.int .i64 s.sz) := by rw [hFS]; exact hcS 9 (by omega)
    have r10 : FS.cell? ⟨N, 10, none⟩ = some (.int .i64 0) := by rw [hFS]; exact hcS 10 (by omega)
    have r11 : FS.cell? ⟨N, 11, none⟩ = some (.bool false) := by rw [hFS]; exact hcS 11 (by omega)
    have r12 : FS.cell? ⟨N, 12, none⟩ = some (.slice none 0 0) := by rw [hFS]; exact hcS 12 (by omega)
    clear hWS hcS hLS hFS zso o0 o1 o2 o3 o4 o5 o6 o7 o8 o9 o10 o11 o12
    have hBF : Below N w FS := (((Fr.of_below (HN.out ▸ HB1.out)).mono (l' := [N]) (by simp)).trans hfrS (fun y hy => .inl hy)).below (by have := HN.out; omega) (by simp)
    have HBF := Lib.hid (HN.out ▸ hBF)
    clear hBF hfrS c0 d0 d1 d2 d3
    go_wp2_with fail
    exact bodyPost_ret (v := .tuple #[.agg #[.int .i8 4, .int .i64 0, .int .i64 s.an, .int .i64 s.at_, .int .i64 0, .int .i64 0, .int .i64 s.sh, .int .i64 s.ae, .int .i64 0, .int .i64 s.sz, .int .i64 0, .bool false, .slice none 0 0], .bool true]) (by simp [results, Try.results15, go_sem, r0, r1, r2, r3, r4, r5, r6, r7, r8, r9, r10, r11, r12]) rfl ⟨rfl, HBF.out⟩
end Go.Proofs.Ytlgjdiadohhleaa
