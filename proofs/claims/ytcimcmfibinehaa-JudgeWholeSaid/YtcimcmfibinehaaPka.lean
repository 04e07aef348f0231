/-
  packet.Build of what may be.
-/
import Derived.Test.YtcimcmfibinehaaPk9
namespace Go.Proofs.Ytcimcmfibinehaa
open Go.RowKit
set_option linter.unusedSimpArgs false
set_option linter.unusedVariables false

def headB (t c n : Nat) (j : Nat) : Nat := if j = 0 then 105 else if j = 1 then t else if j = 2 then c else if j = 4 then n / 256 else if j = 5 then n % 256 else 0

/-- the check laid in -/
def fixB (Z : Nat → Nat) (S : Nat) (j : Nat) : Nat := if j = 6 then S / 256 else if j = 7 then S % 256 else Z j
theorem row_set {W : World} {v : Value} {ob n : Nat} {Y : Nat → Nat} (h : Row W v (some ob) 5 1 n (rowV Y n)) (i : Nat) (hi : i < n) (x : Nat) :
    Row (W.setCell ⟨ob, i, none⟩ (.int .u8 (x : Nat))) v (some ob) 5 1 n (rowV (fun j => if j = i then x else Y j) n) := by
  rcases h.cases with ⟨_, h2, _, _⟩ | ⟨g, cap, cur, hob, rfl, hg, hnc, hcm, hcs, htake⟩
  · omega
  · obtain rfl := Option.some.inj hob
    refine Row.mk (heap_setCell_same hg i _) hnc hcm (by simp [hcs]) ?_
    rw [Array.toList_setIfInBounds, List.take_set, htake]
    refine List.ext_getElem? fun j => ?_
    rw [List.getElem?_set]
    by_cases hj : j < n
    · rw [rowV_at _ n j hj, rowV_len]
      by_cases e : i = j
      · subst e; rw [rowV_at _ n i hj]; simp [hj]
      · rw [if_neg e, rowV_at _ n j hj, if_neg (fun h => e h.symm)]
    · rw [List.getElem?_eq_none (l := rowV (fun j => if j = i then x else Y j) n) (by rw [rowV_len]; omega), if_neg (by omega), List.getElem?_eq_none (by rw [rowV_len]; omega)]

set_option maxRecDepth 100000 in
set_option maxHeartbeats 8000000 in
theorem build_any (num : Int) (t c : Nat) (a : Option Addr) (n ca b o : Nat) (X : Nat → Nat) (w : World) (h1 : ByIn w a n ca b o X) (ht : 1 ≤ t ∧ t ≤ 16) (hc : c ≤ 255) (hn : n ≤ 1492) :
    Calls Try.prog 27 #[.agg #[.int .i64 num, .int .i64 (t : Nat), .int .i64 (c : Nat), .slice a n ca]] w fun e w' => ∃ v ob, e = .returned (.tuple #[v, .int .i64 0]) ∧ Row w' v (some ob) 5 1 (8 + n) (rowV (fixB (putB (headB t c n) 8 X) (65535 - sumN16 (putB (headB t c n) 8 X) (8 + n))) (8 + n)) ∧ w.heap.size ≤ ob ∧ Below w.heap.size w w' := by
  obtain ⟨t1, t2⟩ := ht
  have d1 : decide ((t : Int) < 1) = false := by simp; omega
  have d2 : decide ((16 : Int) < t) = false := by simp; omega
  have d3 : decide ((c : Int) < 0) = false := by simp
  have d4 : decide ((255 : Int) < c) = false := by simp; omega
  have d5 : decide ((1492 : Int) < n) = false := by simp; omega
  have hm := h1.max
  have hl := h1.le
  unfold maxLen at hm
  have HA := Lib.hid h1
  clear h1
  go_enter Try.func27, Try.ntmps27
  go_wp2_with fail
  obtain ⟨N, hN⟩ : ∃ N, N = w.heap.size := ⟨_, rfl⟩
  rw [← hN]
  obtain ⟨W0, hW0⟩ : ∃ W0, W0 = ((w.alloc (.cells #[.int .i64 num, .int .i64 (t : Nat), .int .i64 (c : Nat), .slice a n ca] 29)).alloc (.cells #[.int .u8 105, .int .u8 (t : Nat), .int .u8 (c : Nat), .int .u8 0, .int .u8 ((n : Int) / 256), .int .u8 ((n : Int) % 256), .int .u8 0, .int .u8 0] 5)).alloc (.cells #[.slice (some ⟨N + 1, 0, none⟩) 8 8, .slice a n ca] 26) := ⟨_, rfl⟩
  have hs0 : W0.heap.size = N + 3 := by rw [hW0, hN]; simp
  have bH : Blk W0 (N + 1) #[.int .u8 105, .int .u8 (t : Nat), .int .u8 (c : Nat), .int .u8 0, .int .u8 ((n : Int) / 256), .int .u8 ((n : Int) % 256), .int .u8 0, .int .u8 0] 5 := by
    rw [hW0, hN]
    show _ = _
    rw [Below.heap_alloc _ _ _ (by simp; try omega), ← World.size_alloc w (.cells #[.int .i64 num, .int .i64 (t : Nat), .int .i64 (c : Nat), .slice a n ca] 29)]
    exact heap_alloc_new _ _
  have bS : Blk W0 (N + 2) #[.slice (some ⟨N + 1, 0, none⟩) 8 8, .slice a n ca] 26 := by
    rw [hW0, hN]
    show _ = _
    rw [show w.heap.size + 2 = ((w.alloc (.cells #[.int .i64 num, .int .i64 (t : Nat), .int .i64 (c : Nat), .slice a n ca] 29)).alloc (.cells #[.int .u8 105, .int .u8 (t : Nat), .int .u8 (c : Nat), .int .u8 0, .int .u8 ((n : Int) / 256), .int .u8 ((n : Int) % 256), .int .u8 0, .int .u8 0] 5)).heap.size by simp]
    exact heap_alloc_new _ _
  have bP : Blk W0 N #[.int .i64 num, .int .i64 (t : Nat), .int .i64 (c : Nat), .slice a n ca] 29 := by
    rw [hW0, hN]
    show _ = _
    rw [Below.heap_alloc _ _ _ (by simp; try omega), Below.heap_alloc _ _ _ (by simp; try omega)]
    exact heap_alloc_new w _
  have hB0 : Below N w W0 := by rw [hW0, hN]; exact (((Below.refl _ _).alloc (Nat.le_refl _) _).alloc (by simp) _).alloc (by simp; omega) _
  have hH : ByIn W0 (some ⟨N + 1, 0, none⟩) 8 8 (N + 1) 0 (headB t c n) := by
    refine ⟨Nat.le_refl _, by unfold maxLen; omega, fun _ => ⟨rfl, by omega⟩, fun k hk => ?_, fun k => ?_⟩
    · rw [Nat.zero_add, cell_at bH k]
      have hk8 : k = 0 ∨ k = 1 ∨ k = 2 ∨ k = 3 ∨ k = 4 ∨ k = 5 ∨ k = 6 ∨ k = 7 := by omega
      rcases hk8 with rfl | rfl | rfl | rfl | rfl | rfl | rfl | rfl <;> simp [headB]
    · unfold headB
      repeat' split
      all_goals omega
  rw [← hW0]
  have HC := Lib.hid (concat2_any (N + 2) 2 (some ⟨N + 1, 0, none⟩) 8 8 (N + 1) 0 (headB t c n) a n ca b o X W0 (by omega) (by omega) (by omega) (cell_at bS 0) (cell_at bS 1) hH (HA.out.below (by rw [← hN]; exact hB0)) (by omega) (by omega))
  refine HC.out.mono ?_
  rintro e W1 ⟨v, ob, rfl, hr, hob, hB1⟩
  have hZ : ∀ j, putB (headB t c n) 8 X j < 256 := fun j => by unfold putB; split; exact hH.bd j; exact HA.out.bd _
  obtain ⟨Z, hZe⟩ : ∃ Z, Z = putB (headB t c n) 8 X := ⟨_, rfl⟩
  rw [← hZe] at hr hZ
  obtain ⟨av, cv, rfl, hby⟩ := row_by hr hZ
  have HR := Lib.hid hr
  have HBY := Lib.hid hby
  have HOB : Hid (N ≤ ob) := Lib.hid (by omega)
  have HB1 : Hid (Below N w W1) := Lib.hid (hB0.trans (hB1.mono (by omega)))
  have HN := Lib.hid hN
  have HZE := Lib.hid hZe
  have hcv1 := hby.le
  have hcv2 := hby.max
  unfold maxLen at hcv2
  have HS := Lib.hid (sumN16_le Z hZ (8 + n))
  clear hr hby hob hB1 hN hZe hW0 bH bS bP hB0 hH HC hs0
  go_wp2_with fail
  go_at_call 32
  refine (pcheck_any _ _ _ _ _ Z _ HBY.out).mono ?_
  rintro e W2 ⟨rfl, hB2⟩
  have hsz := HR.out.lt
  have HR2 := Lib.hid (HR.out.congr (w' := W2) fun g hg => by obtain rfl := Option.some.inj hg; exact hB2.block _ hsz)
  have HB3 : Hid (Below N w W2) := Lib.hid (HB1.out.trans (hB2.mono (by have := HB1.out.size; have := HN.out; omega)))
  obtain ⟨S, hS⟩ : ∃ S : Nat, (65535 : Int) - (sumN16 Z (8 + n) : Nat) = (S : Nat) := ⟨65535 - sumN16 Z (8 + n), by have := HS.out; omega⟩
  rw [hS]
  have hS9 : S ≤ 65535 := by omega
  obtain ⟨e0, _⟩ := HBY.out.at_ (by omega)
  simp only [Option.getD_some] at e0
  have HSS := Lib.hid hS
  subst e0
  obtain ⟨q6, hq6, hc6, hf6⟩ := HR2.out.cell 6 (by omega)
  obtain rfl := Option.some.inj hq6
  obtain ⟨q7, hq7, hc7, hf7⟩ := HR2.out.cell 7 (by omega)
  obtain rfl := Option.some.inj hq7
  rw [rowV_at Z (8 + n) 6 (by omega)] at hc6
  rw [rowV_at Z (8 + n) 7 (by omega)] at hc7
  clear hS hq6 hq7 hB2
  go_wp2_with fail
  go_ret2
  refine ⟨_, ob, rfl, ?_, Nat.le_trans (by have := HN.out; omega) HOB.out, ?_⟩
  · have hr := row_set (row_set HR2.out 6 (by omega) (S / 256)) 7 (by omega) (S % 256)
    have e : rowV (fun j => if j = 7 then S % 256 else if j = 6 then S / 256 else Z j) (8 + n) = rowV (fixB Z (65535 - sumN16 Z (8 + n))) (8 + n) := by
      have e2 : S = 65535 - sumN16 Z (8 + n) := by have := HSS.out; have := HS.out; omega
      rw [← e2]
      congr 1
      funext j
      unfold fixB
      by_cases h6 : j = 6
      · subst h6; simp
      · simp [h6]
    rw [← HZE.out, ← e]
    exact hr
  · rw [← HN.out]
    have := HOB.out
    exact (HB3.out.setCell (p := ⟨ob, 6, none⟩) (by simp only; omega) _).setCell (p := ⟨ob, 7, none⟩) (by simp only; omega) _
end Go.Proofs.Ytcimcmfibinehaa
