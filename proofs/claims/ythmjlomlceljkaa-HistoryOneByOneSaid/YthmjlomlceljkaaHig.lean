/-
  A call of the wakes.
-/
import Derived.Test.YthmjlomlceljkaaHif
import Derived.Deep.DeepFit
import Derived.Lib.AppendZeros
import Derived.Deep.RegionLaw
import Derived.Deep.RegionWith
import Derived.Lib.EndianBits
import Derived.Deep.MidRow
namespace Go.Proofs.Ythmjlomlceljkaa
open Go.RowKit
set_option linter.unusedSimpArgs false
set_option linter.unusedVariables false

/-- the wakes' calls -/
def cPut (a b : Int) : CaE := ⟨1, 0, 0, 1, 5, 6, 0, 0, 0, 0, 0, false, none, 0, 0, a, b, 0, 5, 6, 0, 0⟩
def cGet (a b : Int) : CaE := ⟨2, 0, 0, 1, 0, 0, 0, 0, 0, 0, 0, false, none, 0, 0, a, b, 161, 0, 0, 0, 0⟩
theorem there_blk {W : World} {b : Nat} {cs : Array Value} {t : TypeId} (h : Blk W b cs t) : W.there b 0 cs.size := fun j hj => by
  refine ⟨?_, free_at h _⟩
  rw [cell_at h, Nat.zero_add, Array.getElem?_eq_getElem hj]
  rfl
theorem results_cell {P : Program} {fn : Func} {t : Tmp} {ty : TypeId} (h : fn.results = #[.cell t ty]) (tmps : Array Value) (w : World) (p : Addr) (v : Value) (ht : tmps[t]? = some (.pointer (some p))) (hl : (loadVar ty p).run P w = .ok v w) : (results fn tmps).run P w = .ok v w := by
  unfold results
  rw [h]
  have ht2 : tmps[t]?.getD undef = .pointer (some p) := by rw [ht]; rfl
  simp [ht2, hl, Sem.run_bind, Sem.run_pure, Result.andThen, asAddr]
theorem ca_load {W : World} {b : Nat} {vs : List Value} (h : Blk W b vs.toArray 67) (hl : vs.length = 20) : (loadVar 67 ⟨b, 0, none⟩).run Try.prog W = .ok (.agg vs.toArray) W :=
  run_loadVar_mid W b 0 67 vs _ (fun j v hv => by rw [cell_at h, Nat.zero_add, List.getElem?_toArray]; exact hv) Try.underlying67 rfl (by rw [hl]; kernel_rfl)
set_option maxRecDepth 100000 in
set_option maxHeartbeats 4000000 in
theorem call_put (a b : Int) (w : World) : Calls Try.prog 39 #[.bool true, .int .i64 a, .int .i64 b] w fun e w' => e = .returned (.agg #[.int .i8 1, .int .i64 0, .int .i64 0, .int .i64 1, .int .i64 5, .int .i64 6, .int .i64 0, .int .i64 0, .int .i64 0, .int .i64 0, .int .i64 0, .bool false, .slice none 0 0, .int .i64 a, .int .i64 b, .int .i64 0, .int .i64 5, .int .i64 6, .int .i64 0, .int .i64 0]) ∧ Below w.heap.size w w' := by
  have HB : Hid (Below w.heap.size w w) := Lib.hid (Below.refl _ _)
  go_enter Try.func39, Try.ntmps39
  go_upto_region 1 with fail
  obtain ⟨N, hN⟩ : ∃ n0, n0 = w.heap.size := ⟨_, rfl⟩
  have HLON : Hid (w.heap.size ≤ N) := Lib.hid (by have := HB.out.size; omega)
  obtain ⟨W1, hA0⟩ : ∃ W0, W0 = w.alloc (.cells #[.int .i8 0, .int .i64 0, .int .i64 0, .int .i64 0, .int .i64 0, .int .i64 0, .int .i64 0, .int .i64 0, .int .i64 0, .int .i64 0, .int .i64 0, .bool false, .slice none 0 0, .int .i64 0, .int .i64 0, .int .i64 0, .int .i64 0, .int .i64 0, .int .i64 0, .int .i64 0] 67) := ⟨_, rfl⟩
  have hB : Below w.heap.size w W1 := by rw [hA0]; exact (Below.refl _ _).alloc (Nat.le_refl _) _
  have hS0 : W1.heap.size = N + 1 := by rw [hA0]; simp [← hN]
  have HK := Lib.hid (show Blk W1 N #[.int .i8 0, .int .i64 0, .int .i64 0, .int .i64 0, .int .i64 0, .int .i64 0, .int .i64 0, .int .i64 0, .int .i64 0, .int .i64 0, .int .i64 0, .bool false, .slice none 0 0, .int .i64 0, .int .i64 0, .int .i64 0, .int .i64 0, .int .i64 0, .int .i64 0, .int .i64 0] 67 by rw [hA0, hN]; exact blk_new _ _ _)
  replace HB := Lib.hid (HB.out.trans (hB.mono HB.out.size))
  clear hB
  have HSN := Lib.hid hS0
  rw [← hN, ← hA0]
  clear hA0 hN hS0
  obtain ⟨W2, hW2⟩ : ∃ X, X = W1.setCells N 0 [.int .i8 1, .int .i64 0, .int .i64 0, .int .i64 1, .int .i64 5, .int .i64 6, .int .i64 0, .int .i64 0, .int .i64 0, .int .i64 0, .int .i64 0, .bool false, .slice none 0 0, .int .i64 a, .int .i64 b, .int .i64 0, .int .i64 5, .int .i64 6, .int .i64 0, .int .i64 0] := ⟨_, rfl⟩
  have hk2 : Blk W2 N #[.int .i8 1, .int .i64 0, .int .i64 0, .int .i64 1, .int .i64 5, .int .i64 6, .int .i64 0, .int .i64 0, .int .i64 0, .int .i64 0, .int .i64 0, .bool false, .slice none 0 0, .int .i64 a, .int .i64 b, .int .i64 0, .int .i64 5, .int .i64 6, .int .i64 0, .int .i64 0] 67 := by rw [hW2]; exact stC_blk HK.out [.int .i8 1, .int .i64 0, .int .i64 0, .int .i64 1, .int .i64 5, .int .i64 6, .int .i64 0, .int .i64 0, .int .i64 0, .int .i64 0, .int .i64 0, .bool false, .slice none 0 0, .int .i64 a, .int .i64 b, .int .i64 0, .int .i64 5, .int .i64 6, .int .i64 0, .int .i64 0] rfl
  have hf2 : Fr [N] W1 W2 := by rw [hW2]; exact stC_fr _ _ _ _
  have hB2 := HB.out.trans (hf2.below HB.out.size (by simp; exact HLON.out))
  have HTH := Lib.hid (there_blk HK.out)
  have HLD := Lib.hid (ca_load (vs := [.int .i8 1, .int .i64 0, .int .i64 0, .int .i64 1, .int .i64 5, .int .i64 6, .int .i64 0, .int .i64 0, .int .i64 0, .int .i64 0, .int .i64 0, .bool false, .slice none 0 0, .int .i64 a, .int .i64 b, .int .i64 0, .int .i64 5, .int .i64 6, .int .i64 0, .int .i64 0]) hk2 rfl)
  have HB2 := Lib.hid hB2
  clear hk2 hf2 hB2 HK
  go_wp2_with (refine wpList_store_mid rfl 67 (.tmp 6) (.tmp 12) rfl N 0 #[.int .i8 1, .int .i64 0, .int .i64 0, .int .i64 1, .int .i64 5, .int .i64 6, .int .i64 0, .int .i64 0, .int .i64 0, .int .i64 0, .int .i64 0, .bool false, .slice none 0 0, .int .i64 a, .int .i64 b, .int .i64 0, .int .i64 5, .int .i64 6, .int .i64 0, .int .i64 0] rfl rfl (by exact HTH.out) (by kernel_rfl) (by kernel_rfl) ?_; rw [show (W1.setCells N 0 (#[.int .i8 1, .int .i64 0, .int .i64 0, .int .i64 1, .int .i64 5, .int .i64 6, .int .i64 0, .int .i64 0, .int .i64 0, .int .i64 0, .int .i64 0, .bool false, .slice none 0 0, .int .i64 a, .int .i64 b, .int .i64 0, .int .i64 5, .int .i64 6, .int .i64 0, .int .i64 0] : Array Value).toList) = W2 from hW2.symm]; clear hW2)
  exact bodyPost_ret (v := .agg #[.int .i8 1, .int .i64 0, .int .i64 0, .int .i64 1, .int .i64 5, .int .i64 6, .int .i64 0, .int .i64 0, .int .i64 0, .int .i64 0, .int .i64 0, .bool false, .slice none 0 0, .int .i64 a, .int .i64 b, .int .i64 0, .int .i64 5, .int .i64 6, .int .i64 0, .int .i64 0]) (results_cell Try.results39 _ _ ⟨N, 0, none⟩ _ rfl HLD.out) rfl ⟨rfl, HB2.out⟩
set_option maxRecDepth 100000 in
set_option maxHeartbeats 4000000 in
theorem call_get (a b : Int) (w : World) : Calls Try.prog 39 #[.bool false, .int .i64 a, .int .i64 b] w fun e w' => e = .returned (.agg #[.int .i8 2, .int .i64 0, .int .i64 0, .int .i64 1, .int .i64 0, .int .i64 0, .int .i64 0, .int .i64 0, .int .i64 0, .int .i64 0, .int .i64 0, .bool false, .slice none 0 0, .int .i64 a, .int .i64 b, .int .i64 161, .int .i64 0, .int .i64 0, .int .i64 0, .int .i64 0]) ∧ Below w.heap.size w w' := by
  have HB : Hid (Below w.heap.size w w) := Lib.hid (Below.refl _ _)
  go_enter Try.func39, Try.ntmps39
  go_upto_region 1 with fail
  obtain ⟨N, hN⟩ : ∃ n0, n0 = w.heap.size := ⟨_, rfl⟩
  have HLON : Hid (w.heap.size ≤ N) := Lib.hid (by have := HB.out.size; omega)
  obtain ⟨W1, hA0⟩ : ∃ W0, W0 = w.alloc (.cells #[.int .i8 0, .int .i64 0, .int .i64 0, .int .i64 0, .int .i64 0, .int .i64 0, .int .i64 0, .int .i64 0, .int .i64 0, .int .i64 0, .int .i64 0, .bool false, .slice none 0 0, .int .i64 0, .int .i64 0, .int .i64 0, .int .i64 0, .int .i64 0, .int .i64 0, .int .i64 0] 67) := ⟨_, rfl⟩
  have hB : Below w.heap.size w W1 := by rw [hA0]; exact (Below.refl _ _).alloc (Nat.le_refl _) _
  have hS0 : W1.heap.size = N + 1 := by rw [hA0]; simp [← hN]
  have HK := Lib.hid (show Blk W1 N #[.int .i8 0, .int .i64 0, .int .i64 0, .int .i64 0, .int .i64 0, .int .i64 0, .int .i64 0, .int .i64 0, .int .i64 0, .int .i64 0, .int .i64 0, .bool false, .slice none 0 0, .int .i64 0, .int .i64 0, .int .i64 0, .int .i64 0, .int .i64 0, .int .i64 0, .int .i64 0] 67 by rw [hA0, hN]; exact blk_new _ _ _)
  replace HB := Lib.hid (HB.out.trans (hB.mono HB.out.size))
  clear hB
  have HSN := Lib.hid hS0
  rw [← hN, ← hA0]
  clear hA0 hN hS0
  obtain ⟨W2, hW2⟩ : ∃ X, X = W1.setCells N 0 [.int .i8 2, .int .i64 0, .int .i64 0, .int .i64 1, .int .i64 0, .int .i64 0, .int .i64 0, .int .i64 0, .int .i64 0, .int .i64 0, .int .i64 0, .bool false, .slice none 0 0, .int .i64 a, .int .i64 b, .int .i64 161, .int .i64 0, .int .i64 0, .int .i64 0, .int .i64 0] := ⟨_, rfl⟩
  have hk2 : Blk W2 N #[.int .i8 2, .int .i64 0, .int .i64 0, .int .i64 1, .int .i64 0, .int .i64 0, .int .i64 0, .int .i64 0, .int .i64 0, .int .i64 0, .int .i64 0, .bool false, .slice none 0 0, .int .i64 a, .int .i64 b, .int .i64 161, .int .i64 0, .int .i64 0, .int .i64 0, .int .i64 0] 67 := by rw [hW2]; exact stC_blk HK.out [.int .i8 2, .int .i64 0, .int .i64 0, .int .i64 1, .int .i64 0, .int .i64 0, .int .i64 0, .int .i64 0, .int .i64 0, .int .i64 0, .int .i64 0, .bool false, .slice none 0 0, .int .i64 a, .int .i64 b, .int .i64 161, .int .i64 0, .int .i64 0, .int .i64 0, .int .i64 0] rfl
  have hf2 : Fr [N] W1 W2 := by rw [hW2]; exact stC_fr _ _ _ _
  have hB2 := HB.out.trans (hf2.below HB.out.size (by simp; exact HLON.out))
  have HTH := Lib.hid (there_blk HK.out)
  have HLD := Lib.hid (ca_load (vs := [.int .i8 2, .int .i64 0, .int .i64 0, .int .i64 1, .int .i64 0, .int .i64 0, .int .i64 0, .int .i64 0, .int .i64 0, .int .i64 0, .int .i64 0, .bool false, .slice none 0 0, .int .i64 a, .int .i64 b, .int .i64 161, .int .i64 0, .int .i64 0, .int .i64 0, .int .i64 0]) hk2 rfl)
  have HB2 := Lib.hid hB2
  clear hk2 hf2 hB2 HK
  go_wp2_with (refine wpList_store_mid rfl 67 (.tmp 6) (.tmp 17) rfl N 0 #[.int .i8 2, .int .i64 0, .int .i64 0, .int .i64 1, .int .i64 0, .int .i64 0, .int .i64 0, .int .i64 0, .int .i64 0, .int .i64 0, .int .i64 0, .bool false, .slice none 0 0, .int .i64 a, .int .i64 b, .int .i64 161, .int .i64 0, .int .i64 0, .int .i64 0, .int .i64 0] rfl rfl (by exact HTH.out) (by kernel_rfl) (by kernel_rfl) ?_; rw [show (W1.setCells N 0 (#[.int .i8 2, .int .i64 0, .int .i64 0, .int .i64 1, .int .i64 0, .int .i64 0, .int .i64 0, .int .i64 0, .int .i64 0, .int .i64 0, .int .i64 0, .bool false, .slice none 0 0, .int .i64 a, .int .i64 b, .int .i64 161, .int .i64 0, .int .i64 0, .int .i64 0, .int .i64 0] : Array Value).toList) = W2 from hW2.symm]; clear hW2)
  exact bodyPost_ret (v := .agg #[.int .i8 2, .int .i64 0, .int .i64 0, .int .i64 1, .int .i64 0, .int .i64 0, .int .i64 0, .int .i64 0, .int .i64 0, .int .i64 0, .int .i64 0, .bool false, .slice none 0 0, .int .i64 a, .int .i64 b, .int .i64 161, .int .i64 0, .int .i64 0, .int .i64 0, .int .i64 0]) (results_cell Try.results39 _ _ ⟨N, 0, none⟩ _ rfl HLD.out) rfl ⟨rfl, HB2.out⟩
end Go.Proofs.Ythmjlomlceljkaa
