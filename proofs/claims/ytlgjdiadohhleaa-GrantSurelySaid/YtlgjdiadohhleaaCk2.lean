/-
  Package clock: a clock, stepped and copied; the document's clock beside it.
-/
import Derived.Test.YtlgjdiadohhleaaCk
import Derived.StillTailTactics
import Derived.BigRegion
import Derived.RegionTactic
import Derived.Deep.DeepCutAuto
namespace Go.Proofs.Ytlgjdiadohhleaa
open Go.RowKit
set_option linter.unusedSimpArgs false
set_option linter.unusedVariables false

theorem stillQ {P : Program} {f : FuncId} {args : Array Value} {w : World} {v : Value} (h : Calls P f args w fun e w' => e = .returned v ∧ w = w') : Calls P f args w fun e w'' => e = .returned v ∧ w'' = w :=
  h.mono fun _ _ ⟨he, hm⟩ => ⟨he, hm.symm⟩

/-- a clock's block: now, true ticks, drift -/
def CkAt (w : World) (g : Nat) (now ticks rho : Int) : Prop := w.heap[g]? = some (.cells #[.int .i64 now, .int .i64 ticks, .int .i64 rho] 136 (0, 0))
set_option maxHeartbeats 400000 in
theorem new_ok (rho : Int) (h0 : 0 ≤ rho) (h1 : rho ≤ 200) (w : World) : Calls Try.prog 36 #[.int .i64 rho] w fun e w' => e = .returned (.tuple #[.pointer (some ⟨w.heap.size, 0, none⟩), .int .i64 0]) ∧ w' = w.alloc (.cells #[.int .i64 0, .int .i64 0, .int .i64 rho] 136) := by
  have hc : cwithin rho 0 200 = rho := by unfold cwithin; omega
  go_enter Try.func36, Try.ntmps36
  go_wp2_with (refine (cwithin_any _ _ _ _).mono ?_; rintro e w' ⟨rfl, rfl⟩)
  go_ret2
  exact ⟨rfl, rfl⟩
set_option maxHeartbeats 400000 in
theorem new_bad (rho : Int) (h : rho < 0 ∨ 200 < rho) (w : World) : Calls Try.prog 36 #[.int .i64 rho] w fun e w' => e = .returned (.tuple #[.pointer none, .int .i64 2]) ∧ w = w' := by
  have hc : (rho != cwithin rho 0 200) = true := by unfold cwithin; rw [bne_iff_ne]; omega
  have hd : (rho == cwithin rho 0 200) = false := by unfold cwithin; rw [beq_eq_false_iff_ne]; omega
  clear h
  go_enter Try.func36, Try.ntmps36
  go_wp2_with (refine (cwithin_any _ _ _ _).mono ?_; rintro e w' ⟨rfl, rfl⟩)
  go_ret2
  exact ⟨rfl, rfl⟩
theorem now_nil (w : World) : Calls Try.prog 37 #[.pointer none] w fun e w' => e = .returned (.int .i64 0) ∧ w = w' := by
  go_enter Try.func37, Try.ntmps37
  go_wp2
  go_ret
  exact ⟨rfl, rfl⟩
theorem step_nil (a b : Int) (w : World) : Calls Try.prog 38 #[.pointer none, .int .i64 a, .int .i64 b] w fun e w' => e = .returned (.int .i64 1) ∧ w = w' := by
  go_enter Try.func38, Try.ntmps38
  go_wp2
  go_ret
  exact ⟨rfl, rfl⟩
theorem now_any (g : Nat) (now ticks rho : Int) (w : World) (h : CkAt w g now ticks rho) : Calls Try.prog 37 #[.pointer (some ⟨g, 0, none⟩)] w fun e w' => e = .returned (.int .i64 now) ∧ w = w' := by
  have c0 : w.cell? ⟨g, 0, none⟩ = some (.int .i64 now) := cell_of_row w g 0 _ _ _ h
  clear h
  go_enter Try.func37, Try.ntmps37
  go_wp2
  go_ret
  exact ⟨rfl, rfl⟩
theorem wish_in (wish : Int) {n rho : Int} (h0 : 0 ≤ n) (r0 : 0 ≤ rho) (r1 : rho ≤ 200) : n * (1000 - rho) ≤ cwithin wish (n * (1000 - rho)) (n * (1000 + rho)) ∧ cwithin wish (n * (1000 - rho)) (n * (1000 + rho)) ≤ n * (1000 + rho) := by
  have : n * (1000 - rho) ≤ n * (1000 + rho) := Int.mul_le_mul_of_nonneg_left (by omega) h0
  unfold cwithin; omega
theorem wish_bd (wish : Int) {n rho : Int} (h0 : 0 ≤ n) (h1 : n ≤ 1099511627776) (r0 : 0 ≤ rho) (r1 : rho ≤ 200) : 0 ≤ n * (1000 - rho) ∧ n * (1000 - rho) ≤ 1100000000000000 ∧ 0 ≤ n * (1000 + rho) ∧ n * (1000 + rho) ≤ 1319413953331200 := by
  have h2 : n * (1000 - rho) ≤ 1099511627776 * 1000 := Int.mul_le_mul h1 (by omega) (by omega) (by omega)
  have h3 : n * (1000 + rho) ≤ 1099511627776 * 1200 := Int.mul_le_mul h1 (by omega) (by omega) (by omega)
  exact ⟨Int.mul_nonneg h0 (by omega), by omega, Int.mul_nonneg h0 (by omega), by omega⟩

set_option maxRecDepth 100000 in
set_option maxHeartbeats 1000000 in
theorem step_bad (g : Nat) (now ticks rho n wish : Int) (w : World) (h : CkAt w g now ticks rho) (k0 : 0 ≤ ticks) (k1 : ticks ≤ 1099511627776) (hb : n < 0 ∨ (0 ≤ n ∧ 1099511627776 - ticks < n)) :
    Calls Try.prog 38 #[.pointer (some ⟨g, 0, none⟩), .int .i64 n, .int .i64 wish] w fun e w' => e = .returned (.int .i64 2) ∧ w = w' := by
  have c1 : w.cell? ⟨g, 1, none⟩ = some (.int .i64 ticks) := cell_of_row w g 1 _ _ _ h
  clear h
  rcases hb with hb | ⟨hb, hb2⟩
  all_goals
    go_enter Try.func38, Try.ntmps38
    go_wp2_with fail
    go_ret
    exact ⟨rfl, rfl⟩

set_option maxRecDepth 100000 in
set_option maxHeartbeats 1000000 in
theorem step_good (g : Nat) (now ticks rho n wish : Int) (w : World) (h : CkAt w g now ticks rho) (k0 : 0 ≤ ticks) (k1 : ticks ≤ 1099511627776) (r0 : 0 ≤ rho) (r1 : rho ≤ 200) (m0 : 0 ≤ now) (m1 : now ≤ 1200 * ticks) (h0 : 0 ≤ n) (h1 : n ≤ 1099511627776 - ticks) :
    Calls Try.prog 38 #[.pointer (some ⟨g, 0, none⟩), .int .i64 n, .int .i64 wish] w fun e w' => e = .returned (.int .i64 0) ∧ Fr [g] w w' ∧ CkAt w' g (now + cwithin wish (n * (1000 - rho)) (n * (1000 + rho))) (ticks + n) rho := by
  have c0 : w.cell? ⟨g, 0, none⟩ = some (.int .i64 now) := cell_of_row w g 0 _ _ _ h
  have c1 : w.cell? ⟨g, 1, none⟩ = some (.int .i64 ticks) := cell_of_row w g 1 _ _ _ h
  have c2 : w.cell? ⟨g, 2, none⟩ = some (.int .i64 rho) := cell_of_row w g 2 _ _ _ h
  have f0 : w.frozen? ⟨g, 0, none⟩ = false := free_at h 0
  have f1 : w.frozen? ⟨g, 1, none⟩ = false := free_at h 1
  obtain ⟨b0, b1, b2, b3⟩ := wish_bd wish h0 (by omega : n ≤ 1099511627776) r0 r1
  obtain ⟨b4, b5⟩ := wish_in wish h0 r0 r1
  have e1 : IntKind.i64.wrap (1000 - rho) = 1000 - rho := IntWalk.i64_in _ (by omega)
  have e2 : IntKind.i64.wrap (1000 + rho) = 1000 + rho := IntWalk.i64_in _ (by omega)
  have e3 : IntKind.i64.wrap (n * (1000 - rho)) = n * (1000 - rho) := IntWalk.i64_in _ (by omega)
  have e4 : IntKind.i64.wrap (n * (1000 + rho)) = n * (1000 + rho) := IntWalk.i64_in _ (by omega)
  have e5 : IntKind.i64.wrap (now + cwithin wish (n * (1000 - rho)) (n * (1000 + rho))) = now + cwithin wish (n * (1000 - rho)) (n * (1000 + rho)) := IntWalk.i64_in _ (by omega)
  have H := Lib.hid h
  clear h
  go_enter Try.func38, Try.ntmps38
  go_wp2_with fail
  go_still_tail 25, (by kernel_rfl)
  still_call (stillQ (cwithin_any _ _ _ _))
  repeat still_step
  refine wpStill_nil ?_
  change wpList _ _ _ _ _ w.drew
  go_wp2
  go_ret
  refine ⟨rfl, ((Fr.refl [g] w).drew.setCell ⟨g, 0, none⟩ (.inl (by simp)) _).setCell ⟨g, 1, none⟩ (.inl (by simp)) _, ?_⟩
  exact heap_setCell_same (heap_setCell_same (w := w.drew) H.out 0 _) 1 _

end Go.Proofs.Ytlgjdiadohhleaa
