/-
  Package fifo: New, Len, Bytes, Drops, Push.
-/
import Derived.Test.YtninhjeiialbjaaFf3
namespace Go.Proofs.Ytninhjeiialbjaa
open Go.RowKit
set_option linter.unusedSimpArgs false
set_option linter.unusedVariables false

theorem infoPkt : (Try.prog.info? 57).map (fun i => (i.zero, i.size, i.bytes)) = some (some (.agg #[.int .i64 0, .int .i64 0, .int .i64 0, .slice none 0 0]), 4, 48) := by kernel_rfl
theorem make_pkts (k : Nat) (h8 : k ≤ 64) (w : World) : (Instr.makeSlice 68 (.int .i64 (k : Int)) (.int .i64 (k : Int))).run Try.prog w = .ok (.slice (some ⟨w.heap.size, 0, none⟩) k k) (w.alloc (.cells (madeCells (Value.agg #[.int .i64 0, .int .i64 0, .int .i64 0, .slice none 0 0]).cells (k * 4)) 57)) := by
  obtain ⟨i0, hi, hz0, hz1, hz2⟩ := info_parts infoPkt
  have hr := run_makeSlice (P := Try.prog) w 68 57 i0 _ Try.underlying68 hi hz0 .i64 .i64 k k (by omega) (Int.le_refl _) (by rw [hz1]; simp; omega) (by rw [hz2]; omega) (by omega)
  rw [hz1] at hr
  simpa only [Int.toNat_natCast] using hr

set_option maxRecDepth 100000 in
set_option maxHeartbeats 4000000 in
theorem fnew_bad (n : Int) (w : World) (h : n < 1 ∨ (1 ≤ n ∧ 64 < n)) : Calls Try.prog 35 #[.int .i64 n] w fun e w' => e = .returned (.tuple #[.pointer none, .int .i64 2]) ∧ w = w' := by
  rcases h with h | ⟨h, h2⟩
  all_goals
    go_enter Try.func35, Try.ntmps35
    go_wp2_with fail
    go_ret2
    exact ⟨rfl, rfl⟩

set_option maxRecDepth 100000 in
set_option maxHeartbeats 4000000 in
theorem fnew_any (room : Nat) (E : Nat → PkE) (w : World) (h : 1 ≤ room) (h64 : room ≤ 64) : Calls Try.prog 35 #[.int .i64 (room : Int)] w fun e w' => e = .returned (.tuple #[.pointer (some ⟨w.heap.size + 1, 0, none⟩), .int .i64 0]) ∧ QIn w' (w.heap.size + 1) w.heap.size 0 room 0 0 0 0 E ∧ Below w.heap.size w w' := by
  have hmk := make_pkts room h64
  go_enter Try.func35, Try.ntmps35
  go_wp2_with fail
  go_ret2
  refine ⟨rfl, ⟨?_, ⟨madeCells (Value.agg #[.int .i64 0, .int .i64 0, .int .i64 0, .slice none 0 0]).cells (room * 4), ?_, ?_, fun j hj => absurd hj (Nat.not_lt_zero _)⟩, by omega, h, h64, by omega, by omega, fun j hj => absurd hj (Nat.not_lt_zero _)⟩, ?_⟩
  · have h1 := blk_new (w.alloc (.cells (madeCells (Value.agg #[.int .i64 0, .int .i64 0, .int .i64 0, .slice none 0 0]).cells (room * 4)) 57)) #[.slice (some ⟨w.heap.size, 0, none⟩) room room, .int .i64 0, .int .i64 0, .int .i64 0, .int .i64 0] 114
    rw [World.size_alloc] at h1
    exact h1
  · exact (blk_new _ _ _).alloc _
  · simp [size_madeCells]
  · exact ((Below.refl _ _).alloc (Nat.le_refl _) _).alloc (by simp) _

set_option maxRecDepth 100000 in
set_option maxHeartbeats 8000000 in
theorem ring_full (D R o room f n : Nat) (by_ dr : Int) (E : Nat → PkE) (num t c : Int) (a : Option Addr) (ln ca : Nat) (w : World) (hq : QIn w D R o room f n by_ dr E) (hn : n = room) :
    Calls Try.prog 82 #[.pointer (some ⟨D, 0, none⟩), .agg #[.int .i64 num, .int .i64 t, .int .i64 c, .slice a ln ca]] w fun e w' => e = .returned (.bool false) ∧ Below w.heap.size w w' := by
  have hB1 : Below w.heap.size w (w.alloc (.cells #[.int .i64 num, .int .i64 t, .int .i64 c, .slice a ln ca] 57)) := (Below.refl _ _).alloc (Nat.le_refl _) _
  have hD := hq.own.lt
  have c0 : w.cell? ⟨D, 0, none⟩ = some (.slice (some ⟨R, o, none⟩) room room) := cell_at hq.own 0
  have c2 : w.cell? ⟨D, 2, none⟩ = some (.int .i64 (n : Nat)) := cell_at hq.own 2
  have HB1 := Lib.hid hB1
  have d1 : decide ((room : Int) ≤ n) = true := by simp; omega
  have d2 : decide (room ≤ n) = true := by simp; omega
  clear hq hB1
  go_enter Try.func82, Try.ntmps82
  go_wp2_with fail
  go_quiet (fail)
  go_wp2_with fail
  go_ret
  exact ⟨rfl, below_drewN HB1.out _⟩

set_option maxRecDepth 100000 in
set_option maxHeartbeats 4000000 in
theorem flen_any (D R o room f n : Nat) (by_ dr : Int) (E : Nat → PkE) (w : World) (hq : QIn w D R o room f n by_ dr E) :
    Calls Try.prog 38 #[.pointer (some ⟨D, 0, none⟩)] w fun e w' => e = .returned (.int .i64 (n : Nat)) ∧ w = w' := by
  have hD := hq.own.lt
  have c2 : w.cell? ⟨D, 2, none⟩ = some (.int .i64 (n : Nat)) := cell_at hq.own 2
  clear hq
  go_enter Try.func38, Try.ntmps38
  go_wp2_with fail
  go_ret
  exact ⟨rfl, rfl⟩
set_option maxRecDepth 100000 in
set_option maxHeartbeats 4000000 in
theorem fbytes_any (D R o room f n : Nat) (by_ dr : Int) (E : Nat → PkE) (w : World) (hq : QIn w D R o room f n by_ dr E) :
    Calls Try.prog 39 #[.pointer (some ⟨D, 0, none⟩)] w fun e w' => e = .returned (.int .i64 by_) ∧ w = w' := by
  have hD := hq.own.lt
  have c3 : w.cell? ⟨D, 3, none⟩ = some (.int .i64 by_) := cell_at hq.own 3
  clear hq
  go_enter Try.func39, Try.ntmps39
  go_wp2_with fail
  go_ret
  exact ⟨rfl, rfl⟩
set_option maxRecDepth 100000 in
set_option maxHeartbeats 4000000 in
theorem fdrops_any (D R o room f n : Nat) (by_ dr : Int) (E : Nat → PkE) (w : World) (hq : QIn w D R o room f n by_ dr E) :
    Calls Try.prog 41 #[.pointer (some ⟨D, 0, none⟩)] w fun e w' => e = .returned (.int .i64 dr) ∧ w = w' := by
  have hD := hq.own.lt
  have c4 : w.cell? ⟨D, 4, none⟩ = some (.int .i64 dr) := cell_at hq.own 4
  clear hq
  go_enter Try.func41, Try.ntmps41
  go_wp2_with fail
  go_ret
  exact ⟨rfl, rfl⟩
end Go.Proofs.Ytninhjeiialbjaa
