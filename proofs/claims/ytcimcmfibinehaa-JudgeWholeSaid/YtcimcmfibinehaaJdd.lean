/-
  What the document says of a rate of one byte a tick.
-/
import Derived.Test.YtcimcmfibinehaaJdc
namespace Go.Proofs.Ytcimcmfibinehaa
open Go.RowKit
set_option linter.unusedSimpArgs false
set_option linter.unusedVariables false

def w30L (z : Int) (k : Nat) : SentE := if k = 0 then ⟨5, 0, 1, 0, 100, 0⟩ else ⟨7, 0, 1, 0, z, 0⟩
def w30F (_ : Nat) : ForceE := ⟨0, 1, 1000, 100⟩
theorem w30_in {W : World} {g : Nat} {z : Int} (hz : 0 ≤ z ∧ z ≤ 1500) (h : Blk W g #[.int .i64 5, .int .i64 0, .int .i64 1, .int .i64 0, .int .i64 100, .int .i64 0, .int .i64 7, .int .i64 0, .int .i64 1, .int .i64 0, .int .i64 z, .int .i64 0] 34) : SentIn W (some ⟨g, 0, none⟩) 2 2 g 0 (w30L z) := by
  refine ⟨Nat.le_refl _, by unfold maxLen; omega, fun _ => ⟨rfl, h.lt⟩, fun k hk => ?_, fun k hk => ?_⟩
  · have hk2 : k = 0 ∨ k = 1 := by omega
    rcases hk2 with rfl | rfl
    · exact ⟨cell_at h 0, cell_at h 1, cell_at h 2, cell_at h 3, cell_at h 4, cell_at h 5⟩
    · exact ⟨cell_at h 6, cell_at h 7, cell_at h 8, cell_at h 9, cell_at h 10, cell_at h 11⟩
  · unfold w30L SentE.ok
    split <;> simp only <;> omega
theorem w30_fin {W : World} {g : Nat} (h : Blk W g #[.int .i64 0, .int .i64 1, .int .i64 1000, .int .i64 100] 36) : ForceIn W (some ⟨g, 0, none⟩) 1 1 g 0 w30F := by
  refine ⟨Nat.le_refl _, by unfold maxLen; omega, fun _ => ⟨rfl, h.lt⟩, fun k hk => ?_, fun k hk => ?_⟩
  · obtain rfl : k = 0 := by omega
    exact ⟨cell_at h 0, cell_at h 1, cell_at h 2, cell_at h 3⟩
  · unfold w30F ForceE.ok
    simp only
    omega
theorem w30_none (z T : Int) (h : T ≠ 1) : (sumC (w30L z) T 2).1 = 0 := by
  have h' : ¬ (1 : Int) = T := fun e => h e.symm
  simp [sumC, w30L, h']
theorem w30_bad : badT (w30L 4) 2 w30F 1 0 1 0 1 = true ∧ badT (w30L 4) 2 w30F 1 0 1 0 0 = false ∧ (sumC (w30L 4) 1 2).1 = 2 ∧ ((sumC (w30L 4) 1 2).2 0).t = 5 ∧ ((sumC (w30L 4) 1 2).2 1).t = 7 ∧ (chkS (w30L 4) 2 && chkF w30F 1) = true := by decide +kernel
theorem w30_good : badT (w30L 3) 2 w30F 1 0 1 0 1 = false ∧ badT (w30L 3) 2 w30F 1 0 1 0 0 = false ∧ badT (w30L 3) 2 w30F 1 0 1 1 1 = false ∧ (sumC (w30L 3) 1 2).1 = 2 ∧ chkS (w30L 3) 2 = true ∧ chkF w30F 1 = true ∧ outS (w30L 3) 1 4 5 2 = 100 ∧ (if (7 : Int) ≤ 4 then 0 else boundC (spanC w30F 1 1).2 (spanC w30F 1 1).1 4 7 (4 - max 0 0)) = 103000 := by decide +kernel
theorem kept_w1 (g g' : Nat) (w : World) (h : Blk w g #[.int .i64 5, .int .i64 0, .int .i64 1, .int .i64 0, .int .i64 100, .int .i64 0, .int .i64 7, .int .i64 0, .int .i64 1, .int .i64 0, .int .i64 4, .int .i64 0] 34) (h2 : Blk w g' #[.int .i64 0, .int .i64 1, .int .i64 1000, .int .i64 100] 36) :
    Calls Try.prog 8 #[.slice (some ⟨g, 0, none⟩) 2 2, .slice (some ⟨g', 0, none⟩) 1 1, .int .i64 0] w fun e w' => e = .returned (.tuple #[.int .i64 4, .int .i64 7, .int .i64 1, .bool false, .int .i64 0]) ∧ Below w.heap.size w w' := by
  refine Calls.mono (kept_any 0 _ 2 2 g 0 (w30L 4) _ 1 1 g' 0 w30F w (w30_in (by omega) h) (w30_fin h2) (by omega) (by omega) (by omega)) ?_
  obtain ⟨b1, b2, b3, b4, b5, b6⟩ := w30_bad
  rw [show max (0 : Int) 0 = 0 from rfl]
  rintro e w' ⟨hB, ⟨hc, _⟩ | ⟨_, hn, _⟩ | ⟨_, T, k, c, hT1, _, hno, hf, he⟩⟩
  · rw [b6] at hc; cases hc
  · have := hn 1 (by omega) (by omega) 0 1 (by omega) (by rw [b3]; omega)
    rw [b1] at this; cases this
  · have hT : T = 1 := by
      by_cases e : T = 1
      · exact e
      · have := hno 1 (by omega) (by omega) 0 1 (by omega) (by rw [b3]; omega)
        rw [b1] at this; cases this
    subst hT
    obtain ⟨f1, f2, f3, f4, f5⟩ := hf
    rw [b3] at f2
    have hk : k = 0 := by
      by_cases e : k = 0
      · exact e
      · have := f4 0 (by omega) 1 (by omega) (by rw [b3]; omega)
        rw [b1] at this; cases this
    subst hk
    have hc : c = 1 := by
      by_cases e : c = 0
      · subst e; rw [b2] at f3; cases f3
      · omega
    subst hc
    rw [b4, b5] at he
    exact ⟨he, hB⟩
theorem kept_w2 (g g' : Nat) (w : World) (h : Blk w g #[.int .i64 5, .int .i64 0, .int .i64 1, .int .i64 0, .int .i64 100, .int .i64 0, .int .i64 7, .int .i64 0, .int .i64 1, .int .i64 0, .int .i64 3, .int .i64 0] 34) (h2 : Blk w g' #[.int .i64 0, .int .i64 1, .int .i64 1000, .int .i64 100] 36) :
    Calls Try.prog 8 #[.slice (some ⟨g, 0, none⟩) 2 2, .slice (some ⟨g', 0, none⟩) 1 1, .int .i64 0] w fun e w' => e = .returned (.tuple #[.int .i64 0, .int .i64 0, .int .i64 0, .bool true, .int .i64 0]) ∧ Below w.heap.size w w' := by
  refine Calls.mono (kept_any 0 _ 2 2 g 0 (w30L 3) _ 1 1 g' 0 w30F w (w30_in (by omega) h) (w30_fin h2) (by omega) (by omega) (by omega)) ?_
  obtain ⟨b1, b2, b3, b4, b5, b6, _⟩ := w30_good
  rw [show max (0 : Int) 0 = 0 from rfl]
  rintro e w' ⟨hB, ⟨hc, _⟩ | ⟨_, hn, he⟩ | ⟨_, T, k, c, hT1, _, hno, hf, he⟩⟩
  · rw [b5, b6] at hc; cases hc
  · exact ⟨he, hB⟩
  · exfalso
    obtain ⟨f1, f2, f3, f4, f5⟩ := hf
    by_cases e : T = 1
    · subst e
      rw [b4] at f2
      have : (k = 0 ∧ c = 0) ∨ (k = 0 ∧ c = 1) ∨ (k = 1 ∧ c = 1) := by omega
      rcases this with ⟨rfl, rfl⟩ | ⟨rfl, rfl⟩ | ⟨rfl, rfl⟩
      · rw [b2] at f3; cases f3
      · rw [b1] at f3; cases f3
      · rw [b3] at f3; cases f3
    · rw [w30_none 3 T e] at f2; omega
theorem out_w (g : Nat) (w : World) (h : Blk w g #[.int .i64 5, .int .i64 0, .int .i64 1, .int .i64 0, .int .i64 100, .int .i64 0, .int .i64 7, .int .i64 0, .int .i64 1, .int .i64 0, .int .i64 3, .int .i64 0] 34) :
    Calls Try.prog 9 #[.slice (some ⟨g, 0, none⟩) 2 2, .int .i64 1, .int .i64 4, .int .i64 5] w fun e w' => e = .returned (.int .i64 100) ∧ Below w.heap.size w w' := by
  obtain ⟨_, _, _, _, b5, _, b7, _⟩ := w30_good
  have hh := out_any 1 4 5 (some ⟨g, 0, none⟩) 2 2 g 0 (w30L 3) w (w30_in (by omega) h) b5 (by omega)
  rw [b7] at hh
  exact hh
theorem bound_w (g : Nat) (w : World) (h : Blk w g #[.int .i64 0, .int .i64 1, .int .i64 1000, .int .i64 100] 36) :
    Calls Try.prog 10 #[.slice (some ⟨g, 0, none⟩) 1 1, .int .i64 1, .int .i64 4, .int .i64 7, .int .i64 0] w fun e w' => e = .returned (.int .i64 103000) ∧ Below w.heap.size w w' := by
  obtain ⟨_, _, _, _, _, b6, _, b8⟩ := w30_good
  have hh := bound_any 1 4 7 0 (some ⟨g, 0, none⟩) 1 1 g 0 w30F w (w30_fin h) (by omega) b6 (by omega) (by omega) (by omega) (by omega) (by omega)
  rw [b8] at hh
  exact hh
set_option maxRecDepth 100000 in
set_option maxHeartbeats 8000000 in
theorem jwakes_any (w : World) : Calls Try.prog 4 #[] w fun e w' => e = .returned (.bool true) ∧ Below w.heap.size w w' := by
  obtain ⟨WY, hWY⟩ : ∃ WY, WY = (w.alloc (.cells #[.int .i64 0, .int .i64 1, .int .i64 1000, .int .i64 100] 36)).alloc (.cells #[.int .i64 5, .int .i64 0, .int .i64 1, .int .i64 0, .int .i64 100, .int .i64 0, .int .i64 7, .int .i64 0, .int .i64 1, .int .i64 0, .int .i64 4, .int .i64 0] 34) := ⟨_, rfl⟩
  have hF : Blk WY w.heap.size #[.int .i64 0, .int .i64 1, .int .i64 1000, .int .i64 100] 36 := by rw [hWY]; exact (blk_new _ _ _).alloc _
  have hS : Blk WY (w.heap.size + 1) #[.int .i64 5, .int .i64 0, .int .i64 1, .int .i64 0, .int .i64 100, .int .i64 0, .int .i64 7, .int .i64 0, .int .i64 1, .int .i64 0, .int .i64 4, .int .i64 0] 34 := by
    rw [hWY]
    have h := blk_new (w.alloc (.cells #[.int .i64 0, .int .i64 1, .int .i64 1000, .int .i64 100] 36)) #[.int .i64 5, .int .i64 0, .int .i64 1, .int .i64 0, .int .i64 100, .int .i64 0, .int .i64 7, .int .i64 0, .int .i64 1, .int .i64 0, .int .i64 4, .int .i64 0] 34
    rw [World.size_alloc] at h
    exact h
  have hB : Below w.heap.size w WY := by rw [hWY]; exact ((Below.refl _ _).alloc (Nat.le_refl _) _).alloc (by simp) _
  have HW := Lib.hid hWY
  have HF := Lib.hid hF
  have HS := Lib.hid hS
  have HB := Lib.hid hB
  clear hF hS hB hWY
  go_enter Try.func4, Try.ntmps4
  go_wp2_with fail
  rw [← HW.out]
  go_at_call 8
  refine (kept_w1 _ _ _ HS.out HF.out).mono ?_
  rintro e W1 ⟨rfl, hB1⟩
  have hS1 := HS.out.step hB1
  have f1 : W1.frozen? ⟨w.heap.size + 1, 10, none⟩ = false := free_at hS1 10
  have c1 : W1.cell? ⟨w.heap.size + 1, 10, none⟩ = some (.int .i64 4) := cell_at hS1 10
  obtain ⟨W2, hW2⟩ : ∃ W2, W2 = W1.setCell ⟨w.heap.size + 1, 10, none⟩ (.int .i64 3) := ⟨_, rfl⟩
  have HS2 : Hid (Blk W2 (w.heap.size + 1) #[.int .i64 5, .int .i64 0, .int .i64 1, .int .i64 0, .int .i64 100, .int .i64 0, .int .i64 7, .int .i64 0, .int .i64 1, .int .i64 0, .int .i64 3, .int .i64 0] 34) := Lib.hid (by rw [hW2]; exact hS1.set 10 _)
  have HF2 : Hid (Blk W2 w.heap.size #[.int .i64 0, .int .i64 1, .int .i64 1000, .int .i64 100] 36) := Lib.hid (by rw [hW2]; exact (HF.out.step hB1).ne _ (by simp) _)
  have HB2 : Hid (Below w.heap.size w W2) := Lib.hid (by rw [hW2]; exact (HB.out.trans (hB1.mono HB.out.size)).setCell (by simp) _)
  have hlt1 := hS1.lt
  have HW2 := Lib.hid hW2
  clear hS1 hB1 hW2
  go_wp2_with fail
  rw [← HW2.out]
  go_at_call 8
  refine (kept_w2 _ _ _ HS2.out HF2.out).mono ?_
  rintro e W3 ⟨rfl, hB3⟩
  have HS3 := Lib.hid (HS2.out.step hB3)
  have HF3 := Lib.hid (HF2.out.step hB3)
  have HB3 := Lib.hid (HB2.out.trans (hB3.mono HB2.out.size))
  clear hB3 f1 c1 hlt1
  go_wp2_with fail
  go_at_call 9
  refine (out_w _ _ HS3.out).mono ?_
  rintro e W4 ⟨rfl, hB4⟩
  have HF4 := Lib.hid (HF3.out.step hB4)
  have HB4 := Lib.hid (HB3.out.trans (hB4.mono HB3.out.size))
  clear hB4
  go_wp2_with fail
  go_at_call 10
  refine (bound_w _ _ HF4.out).mono ?_
  rintro e W5 ⟨rfl, hB5⟩
  have HB5 := Lib.hid (HB4.out.trans (hB5.mono HB4.out.size))
  clear hB5
  go_wp2_with fail
  go_ret
  exact ⟨rfl, HB5.out⟩
end Go.Proofs.Ytcimcmfibinehaa
