/-
  What any table answers; which histories may be.
-/
import Derived.Test.YthmjlomlceljkaaHik
import Derived.Test.YthmjlomlceljkaaHih
import Derived.Deep.DeepFit
import Derived.Lib.AppendZeros
import Derived.Deep.RegionLaw
import Derived.Deep.RegionWith
import Derived.Lib.EndianBits
import Derived.Deep.MidRow
import Derived.Laws.StructEq
namespace Go.Proofs.Ythmjlomlceljkaa
open Go.RowKit
set_option linter.unusedSimpArgs false
set_option linter.unusedVariables false

theorem cmd_inv {W : World} {x : Dt} (h : Fits Try.prog W 51 x) : ∃ (v0_0 : Int) (v0_1 : Int) (v0_2 : Int) (v0_3 : Int) (v0_4 : Int) (v0_5 : Int) (v0_6 : Int) (v0_7 : Int) (v0_8 : Int) (v0_9 : Int) (v0_10 : Int) (v0_11 : Bool) (av0_12 : Option Addr) (nv0_12 : Nat) (cv0_12 : Nat) (xv0_12 : List Dt), x.cells = [.int .i8 v0_0, .int .i64 v0_1, .int .i64 v0_2, .int .i64 v0_3, .int .i64 v0_4, .int .i64 v0_5, .int .i64 v0_6, .int .i64 v0_7, .int .i64 v0_8, .int .i64 v0_9, .int .i64 v0_10, .bool v0_11, .slice av0_12 nv0_12 cv0_12] ∧ (-128 ≤ v0_0 ∧ v0_0 ≤ 127) ∧ (-9223372036854775808 ≤ v0_1 ∧ v0_1 ≤ 9223372036854775807) ∧ (-9223372036854775808 ≤ v0_2 ∧ v0_2 ≤ 9223372036854775807) ∧ (-9223372036854775808 ≤ v0_3 ∧ v0_3 ≤ 9223372036854775807) ∧ (-9223372036854775808 ≤ v0_4 ∧ v0_4 ≤ 9223372036854775807) ∧ (-9223372036854775808 ≤ v0_5 ∧ v0_5 ≤ 9223372036854775807) ∧ (-9223372036854775808 ≤ v0_6 ∧ v0_6 ≤ 9223372036854775807) ∧ (-9223372036854775808 ≤ v0_7 ∧ v0_7 ≤ 9223372036854775807) ∧ (-9223372036854775808 ≤ v0_8 ∧ v0_8 ≤ 9223372036854775807) ∧ (-9223372036854775808 ≤ v0_9 ∧ v0_9 ≤ 9223372036854775807) ∧ (-9223372036854775808 ≤ v0_10 ∧ v0_10 ≤ 9223372036854775807) ∧ (SliceFits Try.prog W 3 av0_12 nv0_12 cv0_12 xv0_12) := by
  obtain ⟨l0, rfl, hl0, hf0⟩ := h.agg_inv Try.underlying51
  obtain ⟨y0_0, e0_0, f0_0⟩ := hf0 0 _ rfl
  obtain ⟨y0_1, e0_1, f0_1⟩ := hf0 1 _ rfl
  obtain ⟨y0_2, e0_2, f0_2⟩ := hf0 2 _ rfl
  obtain ⟨y0_3, e0_3, f0_3⟩ := hf0 3 _ rfl
  obtain ⟨y0_4, e0_4, f0_4⟩ := hf0 4 _ rfl
  obtain ⟨y0_5, e0_5, f0_5⟩ := hf0 5 _ rfl
  obtain ⟨y0_6, e0_6, f0_6⟩ := hf0 6 _ rfl
  obtain ⟨y0_7, e0_7, f0_7⟩ := hf0 7 _ rfl
  obtain ⟨y0_8, e0_8, f0_8⟩ := hf0 8 _ rfl
  obtain ⟨y0_9, e0_9, f0_9⟩ := hf0 9 _ rfl
  obtain ⟨y0_10, e0_10, f0_10⟩ := hf0 10 _ rfl
  obtain ⟨y0_11, e0_11, f0_11⟩ := hf0 11 _ rfl
  obtain ⟨y0_12, e0_12, f0_12⟩ := hf0 12 _ rfl
  obtain ⟨v0_0, rfl, gv0_0⟩ := f0_0.int_inv Try.underlying49
  obtain ⟨v0_1, rfl, gv0_1⟩ := f0_1.int_inv Try.underlying3
  obtain ⟨v0_2, rfl, gv0_2⟩ := f0_2.int_inv Try.underlying3
  obtain ⟨v0_3, rfl, gv0_3⟩ := f0_3.int_inv Try.underlying3
  obtain ⟨v0_4, rfl, gv0_4⟩ := f0_4.int_inv Try.underlying3
  obtain ⟨v0_5, rfl, gv0_5⟩ := f0_5.int_inv Try.underlying3
  obtain ⟨v0_6, rfl, gv0_6⟩ := f0_6.int_inv Try.underlying3
  obtain ⟨v0_7, rfl, gv0_7⟩ := f0_7.int_inv Try.underlying3
  obtain ⟨v0_8, rfl, gv0_8⟩ := f0_8.int_inv Try.underlying3
  obtain ⟨v0_9, rfl, gv0_9⟩ := f0_9.int_inv Try.underlying3
  obtain ⟨v0_10, rfl, gv0_10⟩ := f0_10.int_inv Try.underlying3
  obtain ⟨v0_11, rfl⟩ := f0_11.bool_inv Try.underlying4
  obtain ⟨av0_12, nv0_12, cv0_12, xv0_12, rfl, gv0_12⟩ := f0_12.slice_inv Try.underlying33
  match l0, hl0 with
  | [z0_0, z0_1, z0_2, z0_3, z0_4, z0_5, z0_6, z0_7, z0_8, z0_9, z0_10, z0_11, z0_12], _ =>
    obtain rfl : z0_0 = _ := by simpa using e0_0
    obtain rfl : z0_1 = _ := by simpa using e0_1
    obtain rfl : z0_2 = _ := by simpa using e0_2
    obtain rfl : z0_3 = _ := by simpa using e0_3
    obtain rfl : z0_4 = _ := by simpa using e0_4
    obtain rfl : z0_5 = _ := by simpa using e0_5
    obtain rfl : z0_6 = _ := by simpa using e0_6
    obtain rfl : z0_7 = _ := by simpa using e0_7
    obtain rfl : z0_8 = _ := by simpa using e0_8
    obtain rfl : z0_9 = _ := by simpa using e0_9
    obtain rfl : z0_10 = _ := by simpa using e0_10
    obtain rfl : z0_11 = _ := by simpa using e0_11
    obtain rfl : z0_12 = _ := by simpa using e0_12
    exact ⟨v0_0, v0_1, v0_2, v0_3, v0_4, v0_5, v0_6, v0_7, v0_8, v0_9, v0_10, v0_11, av0_12, nv0_12, cv0_12, xv0_12, rfl, gv0_0, gv0_1, gv0_2, gv0_3, gv0_4, gv0_5, gv0_6, gv0_7, gv0_8, gv0_9, gv0_10, gv0_12⟩
theorem cmd_ca {W : World} {x : Dt} (h : Fits Try.prog W 51 x) : ∃ c : CaE, x.cells = [.int .i8 c.kind, .int .i64 c.client, .int .i64 c.number, .int .i64 c.tenant, .int .i64 c.crate, .int .i64 c.cburst, .int .i64 c.shaper, .int .i64 c.epoch, .int .i64 c.clease, .int .i64 c.csize, .int .i64 c.spent, .bool c.closed, .slice c.lsa c.lsn c.lsc] := by
  obtain ⟨a0, a1, a2, a3, a4, a5, a6, a7, a8, a9, a10, b, ad, an, ac, xs, e, _⟩ := cmd_inv h
  exact ⟨⟨a0, a1, a2, a3, a4, a5, a6, a7, a8, a9, a10, b, ad, an, ac, 0, 0, 0, 0, 0, 0, 0⟩, e⟩
theorem an_eq (e r b : Int) (w : World) : (Op.equal 54 (.agg #[.int .i64 e, .int .i64 r, .int .i64 b, .int .i64 0, .int .i64 0]) (.agg #[.int .i64 e, .int .i64 r, .int .i64 b, .int .i64 0, .int .i64 0])).run Try.prog w = .ok true w := by
  have hf : Try.prog.fieldsOf 54 = #[⟨"E", 25, 0, false, "", "", 0⟩, ⟨"Rate", 3, 1, false, "", "", 8⟩, ⟨"Burst", 3, 2, false, "", "", 16⟩, ⟨"Lease", 3, 3, false, "", "", 24⟩, ⟨"Size", 3, 4, false, "", "", 32⟩] := by kernel_rfl
  have e1 : ∀ (d : Nat) (a b : Int), (Op.equalIn (d + 1) 3 (.int .i64 a) (.int .i64 b)).run Try.prog w = .ok (a == b) w := fun d a b => run_equalIn_int w d _ .i64 .i64 a b (by kernel_rfl)
  have e2 : ∀ a b : Int, (Op.equalIn (9998 + 1) 25 (.int .i64 a) (.int .i64 b)).run Try.prog w = .ok (a == b) w := fun a b => run_equalIn_int w 9998 _ .i64 .i64 a b (by kernel_rfl)
  show (Op.equalIn (9998 + 1 + 1) _ _ _).run _ w = _
  rw [run_equalIn_struct w _ _ _ _ (by kernel_rfl) (by kernel_rfl), hf]
  simp [Op.eqFields, part, e1, e2, go_sem]
theorem an_eql (e r b : Int) (w : World) : (binOp .eql 54 (.agg #[.int .i64 e, .int .i64 r, .int .i64 b, .int .i64 0, .int .i64 0]) (.agg #[.int .i64 e, .int .i64 r, .int .i64 b, .int .i64 0, .int .i64 0])).run Try.prog w = .ok (.bool true) w := by
  simp only [binOp]
  simp [an_eq, Result.andThen]
set_option maxRecDepth 100000 in
set_option maxHeartbeats 16000000 in
theorem historyDoes_walk (vt vl : Value) (c : CaE) (t : List FcE) (L : List CaE) (w : World) (ht : FcV w vt t) (hl : CaV w vl L) : Calls Try.prog 4 #[vt, .agg #[.int .i8 c.kind, .int .i64 c.client, .int .i64 c.number, .int .i64 c.tenant, .int .i64 c.crate, .int .i64 c.cburst, .int .i64 c.shaper, .int .i64 c.epoch, .int .i64 c.clease, .int .i64 c.csize, .int .i64 c.spent, .bool c.closed, .slice c.lsa c.lsn c.lsc], vl] w fun e w' => e = .returned (.bool true) ∧ Below w.heap.size w w' := by
  obtain ⟨a, n, cap, rfl, HN, m1, m2⟩ := ht.sh
  obtain ⟨la, lN, lc, rfl, Hln, l1, l2⟩ := hl.sh
  have HT0 := Lib.hid ht
  have HT := Lib.hid ht
  have HL0 := Lib.hid hl
  have HL := Lib.hid hl
  have HWK := Lib.hid (fun W => hwakes_any W)
  have HC1 := Lib.hid (fun W (h : CaV W (.slice la lN lc) L) => check_any _ L W h)
  have HC2 := Lib.hid (fun W (h : CaV W (.slice la lN lc) L) => rcheck_any _ L W h)
  obtain ⟨C, hC⟩ : ∃ C, C = ckB L := ⟨_, rfl⟩
  rw [← hC] at HC1 HC2
  clear hC ht hl
  have HB : Hid (Below w.heap.size w w) := Lib.hid (Below.refl _ _)
  by_cases k1 : 60 < n
  · skip
    have t1 : decide ((60 : Int) < (n : Int)) = true := decide_eq_true (by omega)
    go_enter Try.func4, Try.ntmps4
    go_upto_region 1 with fail
    obtain ⟨N, hN⟩ : ∃ n0, n0 = w.heap.size := ⟨_, rfl⟩
    have HLON : Hid (w.heap.size ≤ N) := Lib.hid (by have := HB.out.size; omega)
    obtain ⟨W1, hA0⟩ : ∃ W0, W0 = w.alloc (.cells #[.int .i8 c.kind, .int .i64 c.client, .int .i64 c.number, .int .i64 c.tenant, .int .i64 c.crate, .int .i64 c.cburst, .int .i64 c.shaper, .int .i64 c.epoch, .int .i64 c.clease, .int .i64 c.csize, .int .i64 c.spent, .bool c.closed, .slice c.lsa c.lsn c.lsc] 51) := ⟨_, rfl⟩
    have hB : Below w.heap.size w W1 := by rw [hA0]; exact (Below.refl _ _).alloc (Nat.le_refl _) _
    have hS0 : W1.heap.size = N + 1 := by rw [hA0]; simp [← hN]
    have HK := Lib.hid (show Blk W1 N #[.int .i8 c.kind, .int .i64 c.client, .int .i64 c.number, .int .i64 c.tenant, .int .i64 c.crate, .int .i64 c.cburst, .int .i64 c.shaper, .int .i64 c.epoch, .int .i64 c.clease, .int .i64 c.csize, .int .i64 c.spent, .bool c.closed, .slice c.lsa c.lsn c.lsc] 51 by rw [hA0, hN]; exact blk_new _ _ _)
    replace HB := Lib.hid (HB.out.trans (hB.mono HB.out.size))
    replace HT := Lib.hid (HT0.out.below HB.out)
    replace HL := Lib.hid (HL0.out.below HB.out)
    clear hB
    have HSN := Lib.hid hS0
    rw [← hN, ← hA0]
    clear hA0 hN hS0
    go_wp2_with fail
    go_at_call 19
    go_fit (HWK.out _)
    rintro e W2 ⟨rfl, hB⟩
    replace HB := Lib.hid (HB.out.trans (hB.mono HB.out.size))
    replace HT := Lib.hid (HT0.out.below HB.out)
    replace HL := Lib.hid (HL0.out.below HB.out)
    replace HK := Lib.hid (HK.out.step hB)
    clear hB
    go_wp2_with fail
    go_ret
    exact ⟨rfl, HB.out⟩
  have t1 : decide ((60 : Int) < (n : Int)) = false := decide_eq_false (by omega)
  by_cases k2 : 60 < lN
  · skip
    have t2 : decide ((60 : Int) < (lN : Int)) = true := decide_eq_true (by omega)
    go_enter Try.func4, Try.ntmps4
    go_upto_region 1 with fail
    obtain ⟨N, hN⟩ : ∃ n0, n0 = w.heap.size := ⟨_, rfl⟩
    have HLON : Hid (w.heap.size ≤ N) := Lib.hid (by have := HB.out.size; omega)
    obtain ⟨W1, hA0⟩ : ∃ W0, W0 = w.alloc (.cells #[.int .i8 c.kind, .int .i64 c.client, .int .i64 c.number, .int .i64 c.tenant, .int .i64 c.crate, .int .i64 c.cburst, .int .i64 c.shaper, .int .i64 c.epoch, .int .i64 c.clease, .int .i64 c.csize, .int .i64 c.spent, .bool c.closed, .slice c.lsa c.lsn c.lsc] 51) := ⟨_, rfl⟩
    have hB : Below w.heap.size w W1 := by rw [hA0]; exact (Below.refl _ _).alloc (Nat.le_refl _) _
    have hS0 : W1.heap.size = N + 1 := by rw [hA0]; simp [← hN]
    have HK := Lib.hid (show Blk W1 N #[.int .i8 c.kind, .int .i64 c.client, .int .i64 c.number, .int .i64 c.tenant, .int .i64 c.crate, .int .i64 c.cburst, .int .i64 c.shaper, .int .i64 c.epoch, .int .i64 c.clease, .int .i64 c.csize, .int .i64 c.spent, .bool c.closed, .slice c.lsa c.lsn c.lsc] 51 by rw [hA0, hN]; exact blk_new _ _ _)
    replace HB := Lib.hid (HB.out.trans (hB.mono HB.out.size))
    replace HT := Lib.hid (HT0.out.below HB.out)
    replace HL := Lib.hid (HL0.out.below HB.out)
    clear hB
    have HSN := Lib.hid hS0
    rw [← hN, ← hA0]
    clear hA0 hN hS0
    go_wp2_with fail
    go_at_call 19
    go_fit (HWK.out _)
    rintro e W2 ⟨rfl, hB⟩
    replace HB := Lib.hid (HB.out.trans (hB.mono HB.out.size))
    replace HT := Lib.hid (HT0.out.below HB.out)
    replace HL := Lib.hid (HL0.out.below HB.out)
    replace HK := Lib.hid (HK.out.step hB)
    clear hB
    go_wp2_with fail
    go_ret
    exact ⟨rfl, HB.out⟩
  have t2 : decide ((60 : Int) < (lN : Int)) = false := decide_eq_false (by omega)
  have HD1 := Lib.hid (fun W (h : FcV W (.slice a n cap) t) => do_any c _ t W h (by have := HN.out; omega))
  have HD2 := Lib.hid (fun W (h : FcV W (.slice a n cap) t) => rdo_any c _ t W h (by have := HN.out; omega))
  obtain ⟨A, hA⟩ : ∃ A, A = doC t c := ⟨_, rfl⟩
  rw [← hA] at HD1 HD2
  clear hA
  go_enter Try.func4, Try.ntmps4
  go_upto_region 1 with fail
  obtain ⟨N, hN⟩ : ∃ n0, n0 = w.heap.size := ⟨_, rfl⟩
  have HLON : Hid (w.heap.size ≤ N) := Lib.hid (by have := HB.out.size; omega)
  obtain ⟨W1, hA0⟩ : ∃ W0, W0 = w.alloc (.cells #[.int .i8 c.kind, .int .i64 c.client, .int .i64 c.number, .int .i64 c.tenant, .int .i64 c.crate, .int .i64 c.cburst, .int .i64 c.shaper, .int .i64 c.epoch, .int .i64 c.clease, .int .i64 c.csize, .int .i64 c.spent, .bool c.closed, .slice c.lsa c.lsn c.lsc] 51) := ⟨_, rfl⟩
  have hB : Below w.heap.size w W1 := by rw [hA0]; exact (Below.refl _ _).alloc (Nat.le_refl _) _
  have hS0 : W1.heap.size = N + 1 := by rw [hA0]; simp [← hN]
  have HK := Lib.hid (show Blk W1 N #[.int .i8 c.kind, .int .i64 c.client, .int .i64 c.number, .int .i64 c.tenant, .int .i64 c.crate, .int .i64 c.cburst, .int .i64 c.shaper, .int .i64 c.epoch, .int .i64 c.clease, .int .i64 c.csize, .int .i64 c.spent, .bool c.closed, .slice c.lsa c.lsn c.lsc] 51 by rw [hA0, hN]; exact blk_new _ _ _)
  replace HB := Lib.hid (HB.out.trans (hB.mono HB.out.size))
  replace HT := Lib.hid (HT0.out.below HB.out)
  replace HL := Lib.hid (HL0.out.below HB.out)
  clear hB
  have HSN := Lib.hid hS0
  rw [← hN, ← hA0]
  clear hA0 hN hS0
  have qK0 : W1.cell? ⟨N, 0, none⟩ = some (.int .i8 c.kind) := cell_at HK.out 0
  have qK1 : W1.cell? ⟨N, 1, none⟩ = some (.int .i64 c.client) := cell_at HK.out 1
  have qK2 : W1.cell? ⟨N, 2, none⟩ = some (.int .i64 c.number) := cell_at HK.out 2
  have qK3 : W1.cell? ⟨N, 3, none⟩ = some (.int .i64 c.tenant) := cell_at HK.out 3
  have qK4 : W1.cell? ⟨N, 4, none⟩ = some (.int .i64 c.crate) := cell_at HK.out 4
  have qK5 : W1.cell? ⟨N, 5, none⟩ = some (.int .i64 c.cburst) := cell_at HK.out 5
  have qK6 : W1.cell? ⟨N, 6, none⟩ = some (.int .i64 c.shaper) := cell_at HK.out 6
  have qK7 : W1.cell? ⟨N, 7, none⟩ = some (.int .i64 c.epoch) := cell_at HK.out 7
  have qK8 : W1.cell? ⟨N, 8, none⟩ = some (.int .i64 c.clease) := cell_at HK.out 8
  have qK9 : W1.cell? ⟨N, 9, none⟩ = some (.int .i64 c.csize) := cell_at HK.out 9
  have qK10 : W1.cell? ⟨N, 10, none⟩ = some (.int .i64 c.spent) := cell_at HK.out 10
  have qK11 : W1.cell? ⟨N, 11, none⟩ = some (.bool c.closed) := cell_at HK.out 11
  have qK12 : W1.cell? ⟨N, 12, none⟩ = some (.slice c.lsa c.lsn c.lsc) := cell_at HK.out 12
  have qKz : ∀ j, W1.frozen? ⟨N, j, none⟩ = false := fun j => free_at HK.out j
  have qKl : N < W1.heap.size := HK.out.lt
  go_wp2_with fail
  go_at_call 20
  go_fit (HD1.out _ HT.out)
  rintro e W2 ⟨v1, ob1, rfl, hv1, hB⟩
  clear qK0 qK1 qK2 qK3 qK4 qK5 qK6 qK7 qK8 qK9 qK10 qK11 qK12 qKz qKl
  replace HB := Lib.hid (HB.out.trans (hB.mono HB.out.size))
  replace HT := Lib.hid (HT0.out.below HB.out)
  replace HL := Lib.hid (HL0.out.below HB.out)
  replace HK := Lib.hid (HK.out.step hB)
  clear hB
  have HV1 := Lib.hid hv1.v
  clear hv1
  have qK0 : W2.cell? ⟨N, 0, none⟩ = some (.int .i8 c.kind) := cell_at HK.out 0
  have qK1 : W2.cell? ⟨N, 1, none⟩ = some (.int .i64 c.client) := cell_at HK.out 1
  have qK2 : W2.cell? ⟨N, 2, none⟩ = some (.int .i64 c.number) := cell_at HK.out 2
  have qK3 : W2.cell? ⟨N, 3, none⟩ = some (.int .i64 c.tenant) := cell_at HK.out 3
  have qK4 : W2.cell? ⟨N, 4, none⟩ = some (.int .i64 c.crate) := cell_at HK.out 4
  have qK5 : W2.cell? ⟨N, 5, none⟩ = some (.int .i64 c.cburst) := cell_at HK.out 5
  have qK6 : W2.cell? ⟨N, 6, none⟩ = some (.int .i64 c.shaper) := cell_at HK.out 6
  have qK7 : W2.cell? ⟨N, 7, none⟩ = some (.int .i64 c.epoch) := cell_at HK.out 7
  have qK8 : W2.cell? ⟨N, 8, none⟩ = some (.int .i64 c.clease) := cell_at HK.out 8
  have qK9 : W2.cell? ⟨N, 9, none⟩ = some (.int .i64 c.csize) := cell_at HK.out 9
  have qK10 : W2.cell? ⟨N, 10, none⟩ = some (.int .i64 c.spent) := cell_at HK.out 10
  have qK11 : W2.cell? ⟨N, 11, none⟩ = some (.bool c.closed) := cell_at HK.out 11
  have qK12 : W2.cell? ⟨N, 12, none⟩ = some (.slice c.lsa c.lsn c.lsc) := cell_at HK.out 12
  have qKz : ∀ j, W2.frozen? ⟨N, j, none⟩ = false := fun j => free_at HK.out j
  have qKl : N < W2.heap.size := HK.out.lt
  go_upto_region 4 with fail
  clear qK0 qK1 qK2 qK3 qK4 qK5 qK6 qK7 qK8 qK9 qK10 qK11 qK12 qKz qKl
  obtain ⟨P, hP⟩ : ∃ n0, n0 = W2.heap.size := ⟨_, rfl⟩
  have HXPHK : Hid (N < P) := Lib.hid (by rw [hP]; exact HK.out.lt)
  have HLOP : Hid (w.heap.size ≤ P) := Lib.hid (by have := HB.out.size; omega)
  obtain ⟨W3, hA0⟩ : ∃ W0, W0 = W2.alloc (.cells #[.int .i64 A.e, .int .i64 A.r, .int .i64 A.b, .int .i64 0, .int .i64 0] 54) := ⟨_, rfl⟩
  have hB : Below W2.heap.size W2 W3 := by rw [hA0]; exact (Below.refl _ _).alloc (Nat.le_refl _) _
  have hS0 : W3.heap.size = P + 1 := by rw [hA0]; simp [← hP]
  have HP := Lib.hid (show Blk W3 P #[.int .i64 A.e, .int .i64 A.r, .int .i64 A.b, .int .i64 0, .int .i64 0] 54 by rw [hA0, hP]; exact blk_new _ _ _)
  replace HB := Lib.hid (HB.out.trans (hB.mono HB.out.size))
  replace HT := Lib.hid (HT0.out.below HB.out)
  replace HL := Lib.hid (HL0.out.below HB.out)
  replace HK := Lib.hid (HK.out.step hB)
  replace HV1 := Lib.hid (HV1.out.below hB)
  clear hB
  have HSP := Lib.hid hS0
  rw [← hP, ← hA0]
  clear hA0 hP hS0
  have qK0 : W3.cell? ⟨N, 0, none⟩ = some (.int .i8 c.kind) := cell_at HK.out 0
  have qK1 : W3.cell? ⟨N, 1, none⟩ = some (.int .i64 c.client) := cell_at HK.out 1
  have qK2 : W3.cell? ⟨N, 2, none⟩ = some (.int .i64 c.number) := cell_at HK.out 2
  have qK3 : W3.cell? ⟨N, 3, none⟩ = some (.int .i64 c.tenant) := cell_at HK.out 3
  have qK4 : W3.cell? ⟨N, 4, none⟩ = some (.int .i64 c.crate) := cell_at HK.out 4
  have qK5 : W3.cell? ⟨N, 5, none⟩ = some (.int .i64 c.cburst) := cell_at HK.out 5
  have qK6 : W3.cell? ⟨N, 6, none⟩ = some (.int .i64 c.shaper) := cell_at HK.out 6
  have qK7 : W3.cell? ⟨N, 7, none⟩ = some (.int .i64 c.epoch) := cell_at HK.out 7
  have qK8 : W3.cell? ⟨N, 8, none⟩ = some (.int .i64 c.clease) := cell_at HK.out 8
  have qK9 : W3.cell? ⟨N, 9, none⟩ = some (.int .i64 c.csize) := cell_at HK.out 9
  have qK10 : W3.cell? ⟨N, 10, none⟩ = some (.int .i64 c.spent) := cell_at HK.out 10
  have qK11 : W3.cell? ⟨N, 11, none⟩ = some (.bool c.closed) := cell_at HK.out 11
  have qK12 : W3.cell? ⟨N, 12, none⟩ = some (.slice c.lsa c.lsn c.lsc) := cell_at HK.out 12
  have qKz : ∀ j, W3.frozen? ⟨N, j, none⟩ = false := fun j => free_at HK.out j
  have qKl : N < W3.heap.size := HK.out.lt
  go_wp2_with fail
  go_at_call 21
  go_fit (HD2.out _ HT.out)
  rintro e W4 ⟨v2, ob2, rfl, hv2, hB⟩
  clear qK0 qK1 qK2 qK3 qK4 qK5 qK6 qK7 qK8 qK9 qK10 qK11 qK12 qKz qKl
  replace HB := Lib.hid (HB.out.trans (hB.mono HB.out.size))
  replace HT := Lib.hid (HT0.out.below HB.out)
  replace HL := Lib.hid (HL0.out.below HB.out)
  replace HK := Lib.hid (HK.out.step hB)
  replace HV1 := Lib.hid (HV1.out.below hB)
  replace HP := Lib.hid (HP.out.step hB)
  clear hB
  have HV2 := Lib.hid hv2.v
  clear hv2
  go_upto_region 5 with fail
  obtain ⟨Q, hQ⟩ : ∃ n0, n0 = W4.heap.size := ⟨_, rfl⟩
  have HXQHK : Hid (N < Q) := Lib.hid (by rw [hQ]; exact HK.out.lt)
  have HXQHP : Hid (P < Q) := Lib.hid (by rw [hQ]; exact HP.out.lt)
  have HLOQ : Hid (w.heap.size ≤ Q) := Lib.hid (by have := HB.out.size; omega)
  obtain ⟨W5, hA0⟩ : ∃ W0, W0 = W4.alloc (.cells #[.int .i64 A.e, .int .i64 A.r, .int .i64 A.b, .int .i64 0, .int .i64 0] 54) := ⟨_, rfl⟩
  have hB : Below W4.heap.size W4 W5 := by rw [hA0]; exact (Below.refl _ _).alloc (Nat.le_refl _) _
  have hS0 : W5.heap.size = Q + 1 := by rw [hA0]; simp [← hQ]
  have HQ := Lib.hid (show Blk W5 Q #[.int .i64 A.e, .int .i64 A.r, .int .i64 A.b, .int .i64 0, .int .i64 0] 54 by rw [hA0, hQ]; exact blk_new _ _ _)
  replace HB := Lib.hid (HB.out.trans (hB.mono HB.out.size))
  replace HT := Lib.hid (HT0.out.below HB.out)
  replace HL := Lib.hid (HL0.out.below HB.out)
  replace HK := Lib.hid (HK.out.step hB)
  replace HV1 := Lib.hid (HV1.out.below hB)
  replace HP := Lib.hid (HP.out.step hB)
  replace HV2 := Lib.hid (HV2.out.below hB)
  clear hB
  have HSQ := Lib.hid hS0
  rw [← hQ, ← hA0]
  clear hA0 hQ hS0
  have qP0 : W5.cell? ⟨P, 0, none⟩ = some (.int .i64 A.e) := cell_at HP.out 0
  have qP1 : W5.cell? ⟨P, 1, none⟩ = some (.int .i64 A.r) := cell_at HP.out 1
  have qP2 : W5.cell? ⟨P, 2, none⟩ = some (.int .i64 A.b) := cell_at HP.out 2
  have qP3 : W5.cell? ⟨P, 3, none⟩ = some (.int .i64 0) := cell_at HP.out 3
  have qP4 : W5.cell? ⟨P, 4, none⟩ = some (.int .i64 0) := cell_at HP.out 4
  have qPz : ∀ j, W5.frozen? ⟨P, j, none⟩ = false := fun j => free_at HP.out j
  have qPl : P < W5.heap.size := HP.out.lt
  have qQ0 : W5.cell? ⟨Q, 0, none⟩ = some (.int .i64 A.e) := cell_at HQ.out 0
  have qQ1 : W5.cell? ⟨Q, 1, none⟩ = some (.int .i64 A.r) := cell_at HQ.out 1
  have qQ2 : W5.cell? ⟨Q, 2, none⟩ = some (.int .i64 A.b) := cell_at HQ.out 2
  have qQ3 : W5.cell? ⟨Q, 3, none⟩ = some (.int .i64 0) := cell_at HQ.out 3
  have qQ4 : W5.cell? ⟨Q, 4, none⟩ = some (.int .i64 0) := cell_at HQ.out 4
  have qQz : ∀ j, W5.frozen? ⟨Q, j, none⟩ = false := fun j => free_at HQ.out j
  have qQl : Q < W5.heap.size := HQ.out.lt
  have HTB := Lib.hid (fun W (h1 : FcV W v1 A.l) (h2 : FcV W v2 A.l) => table_any v1 v2 A.l A.l W h1 h2)
  rw [decide_eq_true rfl] at HTB
  have hne := fun W => an_eql A.e A.r A.b W
  have hcc : ∀ W, (binOp .eql 4 (.bool C) (.bool C)).run Try.prog W = .ok (.bool true) W := fun W => by cases C <;> rfl
  go_wp2_with fail
  go_at_call 22
  go_fit (HTB.out _ HV1.out HV2.out)
  rintro e W6 ⟨rfl, hB⟩
  clear qP0 qP1 qP2 qP3 qP4 qPz qPl qQ0 qQ1 qQ2 qQ3 qQ4 qQz qQl
  replace HB := Lib.hid (HB.out.trans (hB.mono HB.out.size))
  replace HT := Lib.hid (HT0.out.below HB.out)
  replace HL := Lib.hid (HL0.out.below HB.out)
  replace HK := Lib.hid (HK.out.step hB)
  replace HV1 := Lib.hid (HV1.out.below hB)
  replace HP := Lib.hid (HP.out.step hB)
  replace HV2 := Lib.hid (HV2.out.below hB)
  replace HQ := Lib.hid (HQ.out.step hB)
  clear hB
  have qP0 : W6.cell? ⟨P, 0, none⟩ = some (.int .i64 A.e) := cell_at HP.out 0
  have qP1 : W6.cell? ⟨P, 1, none⟩ = some (.int .i64 A.r) := cell_at HP.out 1
  have qP2 : W6.cell? ⟨P, 2, none⟩ = some (.int .i64 A.b) := cell_at HP.out 2
  have qP3 : W6.cell? ⟨P, 3, none⟩ = some (.int .i64 0) := cell_at HP.out 3
  have qP4 : W6.cell? ⟨P, 4, none⟩ = some (.int .i64 0) := cell_at HP.out 4
  have qPz : ∀ j, W6.frozen? ⟨P, j, none⟩ = false := fun j => free_at HP.out j
  have qPl : P < W6.heap.size := HP.out.lt
  have qQ0 : W6.cell? ⟨Q, 0, none⟩ = some (.int .i64 A.e) := cell_at HQ.out 0
  have qQ1 : W6.cell? ⟨Q, 1, none⟩ = some (.int .i64 A.r) := cell_at HQ.out 1
  have qQ2 : W6.cell? ⟨Q, 2, none⟩ = some (.int .i64 A.b) := cell_at HQ.out 2
  have qQ3 : W6.cell? ⟨Q, 3, none⟩ = some (.int .i64 0) := cell_at HQ.out 3
  have qQ4 : W6.cell? ⟨Q, 4, none⟩ = some (.int .i64 0) := cell_at HQ.out 4
  have qQz : ∀ j, W6.frozen? ⟨Q, j, none⟩ = false := fun j => free_at HQ.out j
  have qQl : Q < W6.heap.size := HQ.out.lt
  go_wp2_with fail
  go_at_call 23
  go_fit (HC1.out _ HL.out)
  rintro e W7 ⟨rfl, hB⟩
  clear qP0 qP1 qP2 qP3 qP4 qPz qPl qQ0 qQ1 qQ2 qQ3 qQ4 qQz qQl
  replace HB := Lib.hid (HB.out.trans (hB.mono HB.out.size))
  replace HT := Lib.hid (HT0.out.below HB.out)
  replace HL := Lib.hid (HL0.out.below HB.out)
  replace HK := Lib.hid (HK.out.step hB)
  replace HV1 := Lib.hid (HV1.out.below hB)
  replace HP := Lib.hid (HP.out.step hB)
  replace HV2 := Lib.hid (HV2.out.below hB)
  replace HQ := Lib.hid (HQ.out.step hB)
  clear hB
  go_wp2_with fail
  go_at_call 24
  go_fit (HC2.out _ HL.out)
  rintro e W8 ⟨rfl, hB⟩
  replace HB := Lib.hid (HB.out.trans (hB.mono HB.out.size))
  replace HT := Lib.hid (HT0.out.below HB.out)
  replace HL := Lib.hid (HL0.out.below HB.out)
  replace HK := Lib.hid (HK.out.step hB)
  replace HV1 := Lib.hid (HV1.out.below hB)
  replace HP := Lib.hid (HP.out.step hB)
  replace HV2 := Lib.hid (HV2.out.below hB)
  replace HQ := Lib.hid (HQ.out.step hB)
  clear hB
  go_wp2_with fail
  go_at_call 19
  go_fit (HWK.out _)
  rintro e W9 ⟨rfl, hB⟩
  replace HB := Lib.hid (HB.out.trans (hB.mono HB.out.size))
  replace HT := Lib.hid (HT0.out.below HB.out)
  replace HL := Lib.hid (HL0.out.below HB.out)
  replace HK := Lib.hid (HK.out.step hB)
  replace HV1 := Lib.hid (HV1.out.below hB)
  replace HP := Lib.hid (HP.out.step hB)
  replace HV2 := Lib.hid (HV2.out.below hB)
  replace HQ := Lib.hid (HQ.out.step hB)
  clear hB
  go_wp2_with fail
  go_ret
  exact ⟨rfl, HB.out⟩
theorem historyDoes_dt (x : Dt) (a : Option Addr) (n c : Nat) (xs : List Dt) (a2 : Option Addr) (n2 c2 : Nat) (xs2 : List Dt) (w : World) (hx : Fits Try.prog w 51 x) (h : SliceFits Try.prog w 87 a n c xs) (h2 : SliceFits Try.prog w 67 a2 n2 c2 xs2) : Calls Try.prog 4 #[.slice a n c, .agg x.cells.toArray, .slice a2 n2 c2] w fun e w' => e = .returned (.bool true) ∧ Below w.heap.size w w' := by
  obtain ⟨cc, e⟩ := cmd_ca hx
  obtain ⟨T, _, hT⟩ := fcv_cells w h
  obtain ⟨L, _, hL⟩ := cav_cells w h2
  rw [e]
  exact historyDoes_walk _ _ cc T L w hT hL
end Go.Proofs.Ythmjlomlceljkaa
