/-
  Package clock: a clock, stepped and copied; the document's clock beside it.
-/
import Derived.Test.YtnaoajdbopminaaCk
import Derived.StillTailTactics
import Derived.BigRegion
import Derived.RegionTactic
import Derived.Deep.DeepCutAuto
namespace Go.Proofs.Ytnaoajdbopminaa
open Go.RowKit
set_option linter.unusedSimpArgs false
set_option linter.unusedVariables false

theorem stillQ {P : Program} {f : FuncId} {args : Array Value} {w : World} {v : Value} (h : Calls P f args w fun e w' => e = .returned v ∧ w = w') : Calls P f args w fun e w'' => e = .returned v ∧ w'' = w :=
  h.mono fun _ _ ⟨he, hm⟩ => ⟨he, hm.symm⟩

/-- a clock's block: now, true ticks, drift -/
def CkAt (w : World) (g : Nat) (now ticks rho : Int) : Prop := w.heap[g]? = some (.cells #[.int .i64 now, .int .i64 ticks, .int .i64 rho] 96 (0, 0))
/-- the document's clock: drift, ticks, milliticks -/
def RcAt (w : World) (g : Nat) (now ticks rho : Int) : Prop := w.heap[g]? = some (.cells #[.int .i64 rho, .int .i64 ticks, .int .i64 now] 37 (0, 0))

set_option maxHeartbeats 400000 in
theorem new_ok (rho : Int) (h0 : 0 ≤ rho) (h1 : rho ≤ 200) (w : World) : Calls Try.prog 16 #[.int .i64 rho] w fun e w' => e = .returned (.tuple #[.pointer (some ⟨w.heap.size, 0, none⟩), .int .i64 0]) ∧ w' = w.alloc (.cells #[.int .i64 0, .int .i64 0, .int .i64 rho] 96) := by
  have hc : cwithin rho 0 200 = rho := by unfold cwithin; omega
  go_enter Try.func16, Try.ntmps16
  go_wp2_with (refine (cwithin_any _ _ _ _).mono ?_; rintro e w' ⟨rfl, rfl⟩)
  go_ret2
  exact ⟨rfl, rfl⟩
set_option maxHeartbeats 400000 in
theorem new_bad (rho : Int) (h : rho < 0 ∨ 200 < rho) (w : World) : Calls Try.prog 16 #[.int .i64 rho] w fun e w' => e = .returned (.tuple #[.pointer none, .int .i64 2]) ∧ w = w' := by
  have hc : (rho != cwithin rho 0 200) = true := by unfold cwithin; rw [bne_iff_ne]; omega
  have hd : (rho == cwithin rho 0 200) = false := by unfold cwithin; rw [beq_eq_false_iff_ne]; omega
  clear h
  go_enter Try.func16, Try.ntmps16
  go_wp2_with (refine (cwithin_any _ _ _ _).mono ?_; rintro e w' ⟨rfl, rfl⟩)
  go_ret2
  exact ⟨rfl, rfl⟩
set_option maxHeartbeats 400000 in
theorem rnew_ok (rho : Int) (h0 : 0 ≤ rho) (h1 : rho ≤ 200) (w : World) : Calls Try.prog 17 #[.int .i64 rho] w fun e w' => e = .returned (.tuple #[.pointer (some ⟨w.heap.size, 0, none⟩), .int .i64 0]) ∧ w' = w.alloc (.cells #[.int .i64 rho, .int .i64 0, .int .i64 0] 37) := by
  go_enter Try.func17, Try.ntmps17
  go_wp2_with fail
  go_ret2
  exact ⟨rfl, rfl⟩
set_option maxHeartbeats 400000 in
theorem rnew_bad (rho : Int) (h : rho < 0 ∨ 200 < rho) (w : World) : Calls Try.prog 17 #[.int .i64 rho] w fun e w' => e = .returned (.tuple #[.pointer none, .int .i64 2]) ∧ w = w' := by
  rcases h with h | h
  all_goals
    go_enter Try.func17, Try.ntmps17
    go_wp2_with fail
    all_goals
      go_ret2
      exact ⟨rfl, rfl⟩
theorem now_nil (w : World) : Calls Try.prog 18 #[.pointer none] w fun e w' => e = .returned (.int .i64 0) ∧ w = w' := by
  go_enter Try.func18, Try.ntmps18
  go_wp2
  go_ret
  exact ⟨rfl, rfl⟩
theorem true_nil (w : World) : Calls Try.prog 19 #[.pointer none] w fun e w' => e = .returned (.int .i64 0) ∧ w = w' := by
  go_enter Try.func19, Try.ntmps19
  go_wp2
  go_ret
  exact ⟨rfl, rfl⟩
theorem step_nil (a b : Int) (w : World) : Calls Try.prog 20 #[.pointer none, .int .i64 a, .int .i64 b] w fun e w' => e = .returned (.int .i64 1) ∧ w = w' := by
  go_enter Try.func20, Try.ntmps20
  go_wp2
  go_ret
  exact ⟨rfl, rfl⟩
theorem copy_nil (w : World) : Calls Try.prog 21 #[.pointer none] w fun e w' => e = .returned (.pointer none) ∧ w = w' := by
  go_enter Try.func21, Try.ntmps21
  go_wp2
  go_ret
  exact ⟨rfl, rfl⟩
theorem now_any (g : Nat) (now ticks rho : Int) (w : World) (h : CkAt w g now ticks rho) : Calls Try.prog 18 #[.pointer (some ⟨g, 0, none⟩)] w fun e w' => e = .returned (.int .i64 now) ∧ w = w' := by
  have c0 : w.cell? ⟨g, 0, none⟩ = some (.int .i64 now) := cell_of_row w g 0 _ _ _ h
  clear h
  go_enter Try.func18, Try.ntmps18
  go_wp2
  go_ret
  exact ⟨rfl, rfl⟩
theorem true_any (g : Nat) (now ticks rho : Int) (w : World) (h : CkAt w g now ticks rho) : Calls Try.prog 19 #[.pointer (some ⟨g, 0, none⟩)] w fun e w' => e = .returned (.int .i64 ticks) ∧ w = w' := by
  have c0 : w.cell? ⟨g, 1, none⟩ = some (.int .i64 ticks) := cell_of_row w g 1 _ _ _ h
  clear h
  go_enter Try.func19, Try.ntmps19
  go_wp2
  go_ret
  exact ⟨rfl, rfl⟩
theorem copy_any (g : Nat) (now ticks rho : Int) (w : World) (h : CkAt w g now ticks rho) : Calls Try.prog 21 #[.pointer (some ⟨g, 0, none⟩)] w fun e w' => e = .returned (.pointer (some ⟨w.heap.size, 0, none⟩)) ∧ w' = w.alloc (.cells #[.int .i64 now, .int .i64 ticks, .int .i64 rho] 96) := by
  have c0 : w.cell? ⟨g, 0, none⟩ = some (.int .i64 now) := cell_of_row w g 0 _ _ _ h
  have c1 : w.cell? ⟨g, 1, none⟩ = some (.int .i64 ticks) := cell_of_row w g 1 _ _ _ h
  have c2 : w.cell? ⟨g, 2, none⟩ = some (.int .i64 rho) := cell_of_row w g 2 _ _ _ h
  clear h
  go_enter Try.func21, Try.ntmps21
  go_wp2
  go_ret
  exact ⟨rfl, rfl⟩

theorem wish_in (wish : Int) {n rho : Int} (h0 : 0 ≤ n) (r0 : 0 ≤ rho) (r1 : rho ≤ 200) : n * (1000 - rho) ≤ cwithin wish (n * (1000 - rho)) (n * (1000 + rho)) ∧ cwithin wish (n * (1000 - rho)) (n * (1000 + rho)) ≤ n * (1000 + rho) := by
  have : n * (1000 - rho) ≤ n * (1000 + rho) := Int.mul_le_mul_of_nonneg_left (by omega) h0
  unfold cwithin; omega
theorem wish_bd (wish : Int) {n rho : Int} (h0 : 0 ≤ n) (h1 : n ≤ 1099511627776) (r0 : 0 ≤ rho) (r1 : rho ≤ 200) : 0 ≤ n * (1000 - rho) ∧ n * (1000 - rho) ≤ 1100000000000000 ∧ 0 ≤ n * (1000 + rho) ∧ n * (1000 + rho) ≤ 1319413953331200 := by
  have h2 : n * (1000 - rho) ≤ 1099511627776 * 1000 := Int.mul_le_mul h1 (by omega) (by omega) (by omega)
  have h3 : n * (1000 + rho) ≤ 1099511627776 * 1200 := Int.mul_le_mul h1 (by omega) (by omega) (by omega)
  exact ⟨Int.mul_nonneg h0 (by omega), by omega, Int.mul_nonneg h0 (by omega), by omega⟩

set_option maxRecDepth 100000 in
set_option maxHeartbeats 1000000 in
theorem step_bad (g : Nat) (now ticks rho n wish : Int) (w : World) (h : CkAt w g now ticks rho) (k0 : 0 ≤ ticks) (k1 : ticks ≤ 1099511627776) (hb : n < 0 ∨ (0 ≤ n ∧ 1099511627776 - ticks < n)) :
    Calls Try.prog 20 #[.pointer (some ⟨g, 0, none⟩), .int .i64 n, .int .i64 wish] w fun e w' => e = .returned (.int .i64 2) ∧ w = w' := by
  have c1 : w.cell? ⟨g, 1, none⟩ = some (.int .i64 ticks) := cell_of_row w g 1 _ _ _ h
  clear h
  rcases hb with hb | ⟨hb, hb2⟩
  all_goals
    go_enter Try.func20, Try.ntmps20
    go_wp2_with fail
    go_ret
    exact ⟨rfl, rfl⟩

set_option maxRecDepth 100000 in
set_option maxHeartbeats 1000000 in
theorem step_good (g : Nat) (now ticks rho n wish : Int) (w : World) (h : CkAt w g now ticks rho) (k0 : 0 ≤ ticks) (k1 : ticks ≤ 1099511627776) (r0 : 0 ≤ rho) (r1 : rho ≤ 200) (m0 : 0 ≤ now) (m1 : now ≤ 1200 * ticks) (h0 : 0 ≤ n) (h1 : n ≤ 1099511627776 - ticks) :
    Calls Try.prog 20 #[.pointer (some ⟨g, 0, none⟩), .int .i64 n, .int .i64 wish] w fun e w' => e = .returned (.int .i64 0) ∧ Fr [g] w w' ∧ CkAt w' g (now + cwithin wish (n * (1000 - rho)) (n * (1000 + rho))) (ticks + n) rho := by
  have c0 : w.cell? ⟨g, 0, none⟩ = some (.int .i64 now) := cell_of_row w g 0 _ _ _ h
  have c1 : w.cell? ⟨g, 1, none⟩ = some (.int .i64 ticks) := cell_of_row w g 1 _ _ _ h
  have c2 : w.cell? ⟨g, 2, none⟩ = some (.int .i64 rho) := cell_of_row w g 2 _ _ _ h
  have f0 : w.frozen? ⟨g, 0, none⟩ = false := free_at h 0
  have f1 : w.frozen? ⟨g, 1, none⟩ = false := free_at h 1
  obtain ⟨b0, b1, b2, b3⟩ := wish_bd wish h0 (by omega : n ≤ 1099511627776) r0 r1
  obtain ⟨b4, b5⟩ := wish_in wish h0 r0 r1
  have e1 : IntKind.i64.wrap (1000 - rho) = 1000 - rho := IntWalk.i64_in _ (by omega)
  have e2 : IntKind.i64.wrap (1000 + rho) = 1000 + rho := IntWalk.i64_in _ (by omega)
  have e3 : IntKind.i64.wrap (n * (1000 - rho)) = n * (1000 - rho) := IntWalk.i64_in _ (by omega)
  have e4 : IntKind.i64.wrap (n * (1000 + rho)) = n * (1000 + rho) := IntWalk.i64_in _ (by omega)
  have e5 : IntKind.i64.wrap (now + cwithin wish (n * (1000 - rho)) (n * (1000 + rho))) = now + cwithin wish (n * (1000 - rho)) (n * (1000 + rho)) := IntWalk.i64_in _ (by omega)
  have H := Lib.hid h
  clear h
  go_enter Try.func20, Try.ntmps20
  go_wp2_with fail
  go_still_tail 25, (by kernel_rfl)
  still_call (stillQ (cwithin_any _ _ _ _))
  repeat still_step
  refine wpStill_nil ?_
  change wpList _ _ _ _ _ w.drew
  go_wp2
  go_ret
  refine ⟨rfl, ((Fr.refl [g] w).drew.setCell ⟨g, 0, none⟩ (.inl (by simp)) _).setCell ⟨g, 1, none⟩ (.inl (by simp)) _, ?_⟩
  exact heap_setCell_same (heap_setCell_same (w := w.drew) H.out 0 _) 1 _

set_option maxRecDepth 100000 in
set_option maxHeartbeats 1000000 in
theorem rstep_bad (g : Nat) (now ticks rho n wish : Int) (w : World) (h : RcAt w g now ticks rho) (k0 : 0 ≤ ticks) (k1 : ticks ≤ 1099511627776) (hb : n < 0 ∨ (0 ≤ n ∧ 1099511627776 - ticks < n)) :
    Calls Try.prog 22 #[.pointer (some ⟨g, 0, none⟩), .int .i64 n, .int .i64 wish] w fun e w' => e = .returned (.int .i64 2) ∧ w = w' := by
  have c1 : w.cell? ⟨g, 1, none⟩ = some (.int .i64 ticks) := cell_of_row w g 1 _ _ _ h
  clear h
  rcases hb with hb | ⟨hb, hb2⟩
  all_goals
    go_enter Try.func22, Try.ntmps22
    go_wp2_with fail
    go_ret
    exact ⟨rfl, rfl⟩

theorem rstep_end {g : Nat} {now ticks rho n C v : Int} {w wx : World} (h : RcAt w g now ticks rho) (hw : wx = w.setCell ⟨g, 1, none⟩ (.int .i64 (ticks + n))) (hC : C = v) :
    Fr [g] w (wx.drew.setCell ⟨g, 2, none⟩ (.int .i64 (now + v))) ∧ RcAt (wx.drew.setCell ⟨g, 2, none⟩ (.int .i64 (now + v))) g (now + C) (ticks + n) rho := by
  subst hw hC
  exact ⟨((Fr.refl [g] w).setCell ⟨g, 1, none⟩ (.inl (by simp)) _).drew.setCell ⟨g, 2, none⟩ (.inl (by simp)) _, heap_setCell_same (w := (w.setCell ⟨g, 1, none⟩ _).drew) (heap_setCell_same h 1 _) 2 _⟩

set_option maxRecDepth 100000 in
set_option maxHeartbeats 2000000 in
theorem rstep_good (g : Nat) (now ticks rho n wish : Int) (w : World) (h : RcAt w g now ticks rho) (k0 : 0 ≤ ticks) (k1 : ticks ≤ 1099511627776) (r0 : 0 ≤ rho) (r1 : rho ≤ 200) (m0 : 0 ≤ now) (m1 : now ≤ 1200 * ticks) (h0 : 0 ≤ n) (h1 : n ≤ 1099511627776 - ticks) :
    Calls Try.prog 22 #[.pointer (some ⟨g, 0, none⟩), .int .i64 n, .int .i64 wish] w fun e w' => e = .returned (.int .i64 0) ∧ Fr [g] w w' ∧ RcAt w' g (now + cwithin wish (n * (1000 - rho)) (n * (1000 + rho))) (ticks + n) rho := by
  have c0 : w.cell? ⟨g, 0, none⟩ = some (.int .i64 rho) := cell_of_row w g 0 _ _ _ h
  have c1 : w.cell? ⟨g, 1, none⟩ = some (.int .i64 ticks) := cell_of_row w g 1 _ _ _ h
  have c2 : w.cell? ⟨g, 2, none⟩ = some (.int .i64 now) := cell_of_row w g 2 _ _ _ h
  have f1 : w.frozen? ⟨g, 1, none⟩ = false := free_at h 1
  have f2 : w.frozen? ⟨g, 2, none⟩ = false := free_at h 2
  obtain ⟨b0, b1, b2, b3⟩ := wish_bd wish h0 (by omega : n ≤ 1099511627776) r0 r1
  obtain ⟨b4, b5⟩ := wish_in wish h0 r0 r1
  have e1 : IntKind.i64.wrap (1000 - rho) = 1000 - rho := IntWalk.i64_in _ (by omega)
  have e2 : IntKind.i64.wrap (1000 + rho) = 1000 + rho := IntWalk.i64_in _ (by omega)
  have e3 : IntKind.i64.wrap (n * (1000 - rho)) = n * (1000 - rho) := IntWalk.i64_in _ (by omega)
  have e4 : IntKind.i64.wrap (n * (1000 + rho)) = n * (1000 + rho) := IntWalk.i64_in _ (by omega)
  have hlh : n * (1000 - rho) ≤ n * (1000 + rho) := Int.mul_le_mul_of_nonneg_left (by omega) h0
  have H := Lib.hid h
  clear h
  rcases (show wish < n * (1000 - rho) ∨ (n * (1000 - rho) ≤ wish ∧ wish ≤ n * (1000 + rho)) ∨ (n * (1000 - rho) ≤ wish ∧ n * (1000 + rho) < wish) by omega) with hw | ⟨hw, hw2⟩ | ⟨hw, hw2⟩
  · have HC : Hid (cwithin wish (n * (1000 - rho)) (n * (1000 + rho)) = n * (1000 - rho)) := Lib.hid (by unfold cwithin; omega)
    have e5 : IntKind.i64.wrap (now + n * (1000 - rho)) = now + n * (1000 - rho) := IntWalk.i64_in _ (by omega)
    go_enter Try.func22, Try.ntmps22
    go_wp2_with fail
    obtain ⟨wx, hwx⟩ : ∃ wx, wx = w.setCell ⟨g, 1, none⟩ (.int .i64 (ticks + n)) := ⟨_, rfl⟩
    have x0 : wx.cell? ⟨g, 0, none⟩ = some (.int .i64 rho) := by rw [hwx]; go_simp
    have x2 : wx.cell? ⟨g, 2, none⟩ = some (.int .i64 now) := by rw [hwx]; go_simp
    have xf : wx.frozen? ⟨g, 2, none⟩ = false := by rw [hwx]; go_simp
    rw [← hwx]
    have HW := Lib.hid hwx
    clear hwx c0 c1 c2
    go_region
    all_goals
      go_wp2
      go_ret
      exact ⟨rfl, rstep_end H.out HW.out HC.out⟩
  · have HC : Hid (cwithin wish (n * (1000 - rho)) (n * (1000 + rho)) = wish) := Lib.hid (by unfold cwithin; omega)
    have e5 : IntKind.i64.wrap (now + wish) = now + wish := IntWalk.i64_in _ (by omega)
    go_enter Try.func22, Try.ntmps22
    go_wp2_with fail
    obtain ⟨wx, hwx⟩ : ∃ wx, wx = w.setCell ⟨g, 1, none⟩ (.int .i64 (ticks + n)) := ⟨_, rfl⟩
    have x0 : wx.cell? ⟨g, 0, none⟩ = some (.int .i64 rho) := by rw [hwx]; go_simp
    have x2 : wx.cell? ⟨g, 2, none⟩ = some (.int .i64 now) := by rw [hwx]; go_simp
    have xf : wx.frozen? ⟨g, 2, none⟩ = false := by rw [hwx]; go_simp
    rw [← hwx]
    have HW := Lib.hid hwx
    clear hwx c0 c1 c2
    go_region
    all_goals
      go_wp2
      go_ret
      exact ⟨rfl, rstep_end H.out HW.out HC.out⟩
  · have HC : Hid (cwithin wish (n * (1000 - rho)) (n * (1000 + rho)) = n * (1000 + rho)) := Lib.hid (by unfold cwithin; omega)
    have e5 : IntKind.i64.wrap (now + n * (1000 + rho)) = now + n * (1000 + rho) := IntWalk.i64_in _ (by omega)
    go_enter Try.func22, Try.ntmps22
    go_wp2_with fail
    obtain ⟨wx, hwx⟩ : ∃ wx, wx = w.setCell ⟨g, 1, none⟩ (.int .i64 (ticks + n)) := ⟨_, rfl⟩
    have x0 : wx.cell? ⟨g, 0, none⟩ = some (.int .i64 rho) := by rw [hwx]; go_simp
    have x2 : wx.cell? ⟨g, 2, none⟩ = some (.int .i64 now) := by rw [hwx]; go_simp
    have xf : wx.frozen? ⟨g, 2, none⟩ = false := by rw [hwx]; go_simp
    rw [← hwx]
    have HW := Lib.hid hwx
    clear hwx c0 c1 c2
    go_region
    all_goals
      go_wp2
      go_ret
      exact ⟨rfl, rstep_end H.out HW.out HC.out⟩
end Go.Proofs.Ytnaoajdbopminaa
