/-
  Package clock: the example that the document names; the law ClockParts.
-/
import Derived.Test.YtnaoajdbopminaaCk2
namespace Go.Proofs.Ytnaoajdbopminaa
open Go.RowKit
set_option linter.unusedSimpArgs false
set_option linter.unusedVariables false

theorem CkAt.fr {w w' : World} {g : Nat} {now ticks rho : Int} {l : List Nat} (h : CkAt w g now ticks rho) (hf : Fr l w w') (hl : g ∉ l) : CkAt w' g now ticks rho := (hf.block g (lt_of_block h) hl).trans h
theorem RcAt.fr {w w' : World} {g : Nat} {now ticks rho : Int} {l : List Nat} (h : RcAt w g now ticks rho) (hf : Fr l w w') (hl : g ∉ l) : RcAt w' g now ticks rho := (hf.block g (lt_of_block h) hl).trans h

set_option maxRecDepth 100000 in
set_option maxHeartbeats 1000000 in
theorem wakes_any (w : World) : Calls Try.prog 15 #[] w fun e w' => e = .returned (.bool true) ∧ Below w.heap.size w w' := by
  have a1 : surelyS 10999 100 = 9 := by decide
  have a2 : overS 10 100 = 12223 := by decide
  have a3 : (0 : Int) + cwithin 99999 (10 * (1000 - 100)) (10 * (1000 + 100)) = 11000 := by decide
  have A3 := Lib.hid a3
  clear a3
  go_enter Try.func15, Try.ntmps15
  go_wp2_with (go_at_call 16; refine (new_ok 100 (by omega) (by omega) _).mono ?_; rintro e w' ⟨rfl, rfl⟩)
  refine (step_good w.heap.size 0 0 100 10 99999 _ (heap_alloc_new _ _) (by omega) (by omega) (by omega) (by omega) (by omega) (by omega) (by omega) (by omega)).mono ?_
  rintro e w1 ⟨rfl, hf1, hc1⟩
  rw [A3.out] at hc1
  have hb1 : Below w.heap.size w w1 := ((Below.refl _ _).alloc (Nat.le_refl _) _).trans (hf1.below (by simp) (by simp))
  go_wp2_with (first
    | (go_at_call 18; refine (now_any _ _ _ _ _ hc1).mono ?_; rintro e w' ⟨rfl, rfl⟩)
    | (go_at_call 19; refine (true_any _ _ _ _ _ hc1).mono ?_; rintro e w' ⟨rfl, rfl⟩)
    | (go_at_call 61; refine (surely_any _ _ _).mono ?_; rintro e w2 ⟨rfl, hb2⟩)
    | (go_at_call 62; refine (over_any _ _ _).mono ?_; rintro e w3 ⟨rfl, hb3⟩))
  go_ret
  have h2 := hb1.trans (hb2.mono hb1.size)
  exact ⟨rfl, h2.trans (hb3.mono h2.size)⟩

end Go.Proofs.Ytnaoajdbopminaa
