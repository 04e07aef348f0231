/-
  The wakes of the history.
-/
import Derived.Test.YthmjlomlceljkaaHig
import Derived.Deep.DeepFit
import Derived.Lib.AppendZeros
import Derived.Deep.RegionLaw
import Derived.Deep.RegionWith
import Derived.Lib.EndianBits
import Derived.Deep.MidRow
namespace Go.Proofs.Ythmjlomlceljkaa
open Go.RowKit
set_option linter.unusedSimpArgs false
set_option linter.unusedVariables false

theorem ca_two {W : World} {b : Nat} {x y : CaE} (h : Blk W b (x.cells ++ y.cells).toArray 67) (hx : x.ok) (hy : y.ok) : CaV W (.slice (some ⟨b, 0, none⟩) 2 2) [x, y] := by
  have hat : ∀ j u, (x.cells ++ y.cells)[j]? = some u → W.cell? ⟨b, j, none⟩ = some u := fun j u hu => by rw [cell_at h, List.getElem?_toArray]; exact hu
  have hr : Row W (.slice (some ⟨b, 0, none⟩) 2 2) (some b) 67 20 2 (llCa [x, y]) := Row.mk (cur := (x.cells ++ y.cells).toArray) h (Nat.le_refl _) (by unfold maxLen; omega) (by simp [CaE.cells]) (by
    rw [List.take_of_length_le (by simp [CaE.cells])]
    simp [llCa])
  exact cav_row hr (fun z hz => by
    simp at hz
    rcases hz with rfl | rfl
    · exact hx
    · exact hy)
theorem wk1 : fitsB [cPut 1 2, cGet 3 4] = false ∧ fitsE [cPut 1 2, cGet 3 4] = 0 := by decide +kernel
theorem wk2 : fitsB [cPut 1 4, cGet 2 3] = true ∧ fitsE [cPut 1 4, cGet 2 3] = 0 ∧ fitsO [cPut 1 4, cGet 2 3] = [1, 0] := by decide +kernel
theorem cput_ok (a b : Int) (h : 0 ≤ a ∧ a ≤ 9 ∧ 0 ≤ b ∧ b ≤ 9) : (cPut a b).ok := by
  unfold cPut CaE.ok
  simp only [maxLen]
  repeat' apply And.intro
  all_goals first | omega | trivial | decide
theorem cget_ok (a b : Int) (h : 0 ≤ a ∧ a ≤ 9 ∧ 0 ≤ b ∧ b ≤ 9) : (cGet a b).ok := by
  unfold cGet CaE.ok
  simp only [maxLen]
  repeat' apply And.intro
  all_goals first | omega | trivial | decide
set_option maxRecDepth 100000 in
set_option maxHeartbeats 16000000 in
theorem hwakes_any (w : World) : Calls Try.prog 19 #[] w fun e w' => e = .returned (.bool true) ∧ Below w.heap.size w w' := by
  have HB : Hid (Below w.heap.size w w) := Lib.hid (Below.refl _ _)
  go_enter Try.func19, Try.ntmps19
  go_wp2_with fail
  go_at_call 39
  go_fit (call_put 1 2 _)
  rintro e W1 ⟨rfl, hB⟩
  replace HB := Lib.hid (HB.out.trans (hB.mono HB.out.size))
  clear hB
  go_wp2_with fail
  go_at_call 39
  go_fit (call_get 3 4 _)
  rintro e W2 ⟨rfl, hB⟩
  replace HB := Lib.hid (HB.out.trans (hB.mono HB.out.size))
  clear hB
  go_wp2_with fail
  go_at_call 27
  obtain ⟨N0, hN0⟩ : ∃ n0, n0 = W2.heap.size := ⟨_, rfl⟩
  have HLON0 : Hid (w.heap.size ≤ N0) := Lib.hid (by have := HB.out.size; omega)
  obtain ⟨W3, hA0⟩ : ∃ W0, W0 = W2.alloc (.cells #[.int .i8 1, .int .i64 0, .int .i64 0, .int .i64 1, .int .i64 5, .int .i64 6, .int .i64 0, .int .i64 0, .int .i64 0, .int .i64 0, .int .i64 0, .bool false, .slice none 0 0, .int .i64 1, .int .i64 2, .int .i64 0, .int .i64 5, .int .i64 6, .int .i64 0, .int .i64 0, .int .i8 2, .int .i64 0, .int .i64 0, .int .i64 1, .int .i64 0, .int .i64 0, .int .i64 0, .int .i64 0, .int .i64 0, .int .i64 0, .int .i64 0, .bool false, .slice none 0 0, .int .i64 3, .int .i64 4, .int .i64 161, .int .i64 0, .int .i64 0, .int .i64 0, .int .i64 0] 67) := ⟨_, rfl⟩
  have hB : Below W2.heap.size W2 W3 := by rw [hA0]; exact (Below.refl _ _).alloc (Nat.le_refl _) _
  have hS0 : W3.heap.size = N0 + 1 := by rw [hA0]; simp [← hN0]
  have HK0 := Lib.hid (show Blk W3 N0 #[.int .i8 1, .int .i64 0, .int .i64 0, .int .i64 1, .int .i64 5, .int .i64 6, .int .i64 0, .int .i64 0, .int .i64 0, .int .i64 0, .int .i64 0, .bool false, .slice none 0 0, .int .i64 1, .int .i64 2, .int .i64 0, .int .i64 5, .int .i64 6, .int .i64 0, .int .i64 0, .int .i8 2, .int .i64 0, .int .i64 0, .int .i64 1, .int .i64 0, .int .i64 0, .int .i64 0, .int .i64 0, .int .i64 0, .int .i64 0, .int .i64 0, .bool false, .slice none 0 0, .int .i64 3, .int .i64 4, .int .i64 161, .int .i64 0, .int .i64 0, .int .i64 0, .int .i64 0] 67 by rw [hA0, hN0]; exact blk_new _ _ _)
  replace HB := Lib.hid (HB.out.trans (hB.mono HB.out.size))
  clear hB
  have HSN0 := Lib.hid hS0
  rw [← hN0, ← hA0]
  clear hA0 hN0 hS0
  have hv0 := fits_any _ _ _ (ca_two (x := cPut 1 2) (y := cGet 3 4) (b := N0) HK0.out (cput_ok _ _ (by omega)) (cget_ok _ _ (by omega)))
  rw [wk1.1, wk1.2] at hv0
  go_fit hv0
  rintro e W4 ⟨vo0, ob0, rfl, ho0, hB⟩
  clear hv0 HK0
  replace HB := Lib.hid (HB.out.trans (hB.mono HB.out.size))
  clear hB
  clear ho0
  go_wp2_with fail
  go_at_call 39
  go_fit (call_put 1 4 _)
  rintro e W5 ⟨rfl, hB⟩
  replace HB := Lib.hid (HB.out.trans (hB.mono HB.out.size))
  clear hB
  go_wp2_with fail
  go_at_call 39
  go_fit (call_get 2 3 _)
  rintro e W6 ⟨rfl, hB⟩
  replace HB := Lib.hid (HB.out.trans (hB.mono HB.out.size))
  clear hB
  go_wp2_with fail
  go_at_call 27
  obtain ⟨N1, hN1⟩ : ∃ n0, n0 = W6.heap.size := ⟨_, rfl⟩
  have HLON1 : Hid (w.heap.size ≤ N1) := Lib.hid (by have := HB.out.size; omega)
  obtain ⟨W7, hA0⟩ : ∃ W0, W0 = W6.alloc (.cells #[.int .i8 1, .int .i64 0, .int .i64 0, .int .i64 1, .int .i64 5, .int .i64 6, .int .i64 0, .int .i64 0, .int .i64 0, .int .i64 0, .int .i64 0, .bool false, .slice none 0 0, .int .i64 1, .int .i64 4, .int .i64 0, .int .i64 5, .int .i64 6, .int .i64 0, .int .i64 0, .int .i8 2, .int .i64 0, .int .i64 0, .int .i64 1, .int .i64 0, .int .i64 0, .int .i64 0, .int .i64 0, .int .i64 0, .int .i64 0, .int .i64 0, .bool false, .slice none 0 0, .int .i64 2, .int .i64 3, .int .i64 161, .int .i64 0, .int .i64 0, .int .i64 0, .int .i64 0] 67) := ⟨_, rfl⟩
  have hB : Below W6.heap.size W6 W7 := by rw [hA0]; exact (Below.refl _ _).alloc (Nat.le_refl _) _
  have hS0 : W7.heap.size = N1 + 1 := by rw [hA0]; simp [← hN1]
  have HK1 := Lib.hid (show Blk W7 N1 #[.int .i8 1, .int .i64 0, .int .i64 0, .int .i64 1, .int .i64 5, .int .i64 6, .int .i64 0, .int .i64 0, .int .i64 0, .int .i64 0, .int .i64 0, .bool false, .slice none 0 0, .int .i64 1, .int .i64 4, .int .i64 0, .int .i64 5, .int .i64 6, .int .i64 0, .int .i64 0, .int .i8 2, .int .i64 0, .int .i64 0, .int .i64 1, .int .i64 0, .int .i64 0, .int .i64 0, .int .i64 0, .int .i64 0, .int .i64 0, .int .i64 0, .bool false, .slice none 0 0, .int .i64 2, .int .i64 3, .int .i64 161, .int .i64 0, .int .i64 0, .int .i64 0, .int .i64 0] 67 by rw [hA0, hN1]; exact blk_new _ _ _)
  replace HB := Lib.hid (HB.out.trans (hB.mono HB.out.size))
  clear hB
  have HSN1 := Lib.hid hS0
  rw [← hN1, ← hA0]
  clear hA0 hN1 hS0
  have hv1 := fits_any _ _ _ (ca_two (x := cPut 1 4) (y := cGet 2 3) (b := N1) HK1.out (cput_ok _ _ (by omega)) (cget_ok _ _ (by omega)))
  rw [wk2.1, wk2.2.1, wk2.2.2] at hv1
  go_fit hv1
  rintro e W8 ⟨vo1, ob1, rfl, ho1, hB⟩
  clear hv1 HK1
  replace HB := Lib.hid (HB.out.trans (hB.mono HB.out.size))
  clear hB
  have hv := ho1.v
  have HB9 := HB
  obtain ⟨a, n, cap, rfl, hn, m1, m2⟩ := hv.sh
  obtain ⟨g, o, x, ea, gl, hx, c0⟩ := hv.at 0 (by rw [hn.out]; decide)
  obtain ⟨g', o', y, ea', gl', hy, c1⟩ := hv.at 1 (by rw [hn.out]; decide)
  subst ea
  obtain ⟨rfl, rfl⟩ : g = g' ∧ o = o' := by injection ea' with e; injection e with e1 e2; exact ⟨e1, e2⟩
  obtain rfl : x = 1 := by simpa using hx.symm
  obtain rfl : y = 0 := by simpa using hy.symm
  obtain rfl : n = 2 := hn.out
  simp only [Nat.add_zero] at c0
  clear hn hx hy ea' hv ho1
  go_wp2_with fail
  go_ret
  exact ⟨rfl, HB.out⟩
end Go.Proofs.Ythmjlomlceljkaa
