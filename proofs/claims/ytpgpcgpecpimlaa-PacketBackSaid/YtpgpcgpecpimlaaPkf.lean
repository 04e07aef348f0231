/-
  PacketFlows, walked.
-/
import Derived.Test.YtpgpcgpecpimlaaPke
namespace Go.Proofs.Ytpgpcgpecpimlaa
open Go.RowKit
set_option linter.unusedSimpArgs false
set_option linter.unusedVariables false

set_option maxRecDepth 100000 in
set_option maxHeartbeats 8000000 in
theorem packetFlows_any (num t c : Int) (la : Option Addr) (ln lc : Nat) (a : Option Addr) (len cap b o : Nat) (E : Nat → FlowE) (w : World) (hs : FlowIn w a len cap b o E) :
    Calls Try.prog 7 #[.slice a len cap, .agg #[.int .i64 num, .int .i64 t, .int .i64 c, .slice la ln lc]] w fun e w' => e = .returned (.bool true) ∧ Below w.heap.size w w' := by
  have hm := hs.max
  have hl := hs.le
  unfold maxLen at hm
  have HB0 : Hid (Below w.heap.size w (w.alloc (.cells #[.int .i64 num, .int .i64 t, .int .i64 c, .slice la ln lc] 46))) := Lib.hid ((Below.refl _ _).alloc (Nat.le_refl _) _)
  by_cases h60 : 60 < len
  · have d1 : decide ((60 : Int) < len) = true := by simp; omega
    clear hs
    go_enter Try.func7, Try.ntmps7
    go_wp2_with (go_at_call 33; refine (pwakes_any _).mono ?_; rintro e W ⟨rfl, hW⟩)
    go_ret
    exact ⟨rfl, HB0.out.trans (hW.mono HB0.out.size)⟩
  · have d1 : decide ((60 : Int) < len) = false := by simp; omega
    have HF : Hid (∀ W, Below w.heap.size w W → Calls Try.prog 34 #[.slice a len cap, .agg #[.int .i64 num, .int .i64 t, .int .i64 c, .slice la ln lc]] W fun e w' => e = .returned (.tuple #[.int .i64 (flowK t c E len), .int .i64 (flowE t c E len)]) ∧ Below W.heap.size W w') := Lib.hid (fun W h => flow_any num t c la ln lc a len cap b o E W (hs.below h))
    have HR : Hid (∀ W, Below w.heap.size w W → Calls Try.prog 35 #[.slice a len cap, .agg #[.int .i64 num, .int .i64 t, .int .i64 c, .slice la ln lc]] W fun e w' => e = .returned (.tuple #[.int .i64 (flowK t c E len), .int .i64 (flowE t c E len)]) ∧ Below W.heap.size W w') := Lib.hid (fun W h => rflow_any num t c la ln lc a len cap b o E W (hs.below h) (by omega))
    obtain ⟨K, hK⟩ : ∃ K, K = flowK t c E len := ⟨_, rfl⟩
    obtain ⟨R, hR⟩ : ∃ R, R = flowE t c E len := ⟨_, rfl⟩
    rw [← hK, ← hR] at HF HR
    have HP0 := Lib.hid (blk_new w #[.int .i64 num, .int .i64 t, .int .i64 c, .slice la ln lc] 46)
    clear hs hK hR
    go_enter Try.func7, Try.ntmps7
    go_wp2_with fail
    go_at_call 34
    refine Calls.mono (HF.out _ HB0.out) ?_
    rintro e W1 ⟨rfl, hB1⟩
    have hp := HP0.out.step hB1
    have p0 : W1.cell? ⟨w.heap.size, 0, none⟩ = some (.int .i64 num) := cell_at hp 0
    have p1 : W1.cell? ⟨w.heap.size, 1, none⟩ = some (.int .i64 t) := cell_at hp 1
    have p2 : W1.cell? ⟨w.heap.size, 2, none⟩ = some (.int .i64 c) := cell_at hp 2
    have p3 : W1.cell? ⟨w.heap.size, 3, none⟩ = some (.slice la ln lc) := cell_at hp 3
    have HB1 := Lib.hid (HB0.out.trans (hB1.mono HB0.out.size))
    clear hp hB1
    go_wp2_with fail
    go_at_call 35
    refine Calls.mono (HR.out _ HB1.out) ?_
    rintro e W2 ⟨rfl, hB2⟩
    have HB2 := Lib.hid (HB1.out.trans (hB2.mono HB1.out.size))
    clear hB2 p0 p1 p2 p3
    go_wp2_with (go_at_call 33; refine (pwakes_any _).mono ?_; rintro e W ⟨rfl, hW⟩)
    go_ret
    exact ⟨rfl, HB2.out.trans (hW.mono HB2.out.size)⟩
theorem pkt_inv {W : World} {x : Dt} (h : Fits Try.prog W 46 x) : ∃ (v0_0 : Int) (v0_1 : Int) (v0_2 : Int) (av0_3 : Option Addr) (nv0_3 : Nat) (cv0_3 : Nat) (xv0_3 : List Dt), x.cells = [.int .i64 v0_0, .int .i64 v0_1, .int .i64 v0_2, .slice av0_3 nv0_3 cv0_3] ∧ (-9223372036854775808 ≤ v0_0 ∧ v0_0 ≤ 9223372036854775807) ∧ (-9223372036854775808 ≤ v0_1 ∧ v0_1 ≤ 9223372036854775807) ∧ (-9223372036854775808 ≤ v0_2 ∧ v0_2 ≤ 9223372036854775807) ∧ (SliceFits Try.prog W 5 av0_3 nv0_3 cv0_3 xv0_3) := by
  obtain ⟨l0, rfl, hl0, hf0⟩ := h.agg_inv Try.underlying46
  obtain ⟨y0_0, e0_0, f0_0⟩ := hf0 0 _ rfl
  obtain ⟨y0_1, e0_1, f0_1⟩ := hf0 1 _ rfl
  obtain ⟨y0_2, e0_2, f0_2⟩ := hf0 2 _ rfl
  obtain ⟨y0_3, e0_3, f0_3⟩ := hf0 3 _ rfl
  obtain ⟨v0_0, rfl, gv0_0⟩ := f0_0.int_inv Try.underlying3
  obtain ⟨v0_1, rfl, gv0_1⟩ := f0_1.int_inv Try.underlying3
  obtain ⟨v0_2, rfl, gv0_2⟩ := f0_2.int_inv Try.underlying3
  obtain ⟨av0_3, nv0_3, cv0_3, xv0_3, rfl, gv0_3⟩ := f0_3.slice_inv Try.underlying44
  match l0, hl0 with
  | [z0_0, z0_1, z0_2, z0_3], _ =>
    obtain rfl : z0_0 = _ := by simpa using e0_0
    obtain rfl : z0_1 = _ := by simpa using e0_1
    obtain rfl : z0_2 = _ := by simpa using e0_2
    obtain rfl : z0_3 = _ := by simpa using e0_3
    exact ⟨v0_0, v0_1, v0_2, av0_3, nv0_3, cv0_3, xv0_3, rfl, gv0_0, gv0_1, gv0_2, gv0_3⟩

theorem packetFlows_walk (a : Option Addr) (len cap : Nat) (xs : List Dt) (x : Dt) (w : World) (h : SliceFits Try.prog w 58 a len cap xs) (hx : Fits Try.prog w 46 x) :
    Calls Try.prog 7 #[.slice a len cap, .agg x.cells.toArray] w fun e w' => e = .returned (.bool true) ∧ Below w.heap.size w w' := by
  obtain ⟨b, o, E, hs⟩ := flow_cells w h
  obtain ⟨num, t, c, la, ln, lc, _, e, _⟩ := pkt_inv hx
  rw [e]
  exact packetFlows_any num t c la ln lc a len cap b o E w hs
end Go.Proofs.Ytpgpcgpecpimlaa
