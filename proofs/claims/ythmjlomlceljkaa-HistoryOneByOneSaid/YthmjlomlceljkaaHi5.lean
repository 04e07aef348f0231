/-
  All answered calls in the row; may a call stand.
-/
import Derived.Test.YthmjlomlceljkaaHi4
import Derived.Deep.DeepFit
import Derived.Lib.AppendZeros
import Derived.Deep.RegionLaw
import Derived.Deep.RegionWith
import Derived.Lib.EndianBits
import Derived.Deep.MidRow
namespace Go.Proofs.Ythmjlomlceljkaa
open Go.RowKit
set_option linter.unusedSimpArgs false
set_option linter.unusedVariables false

set_option maxRecDepth 100000 in
set_option maxHeartbeats 8000000 in
theorem isAll_any (D : Nat) (v : Value) (L : List CaE) (w : World) (h : CaV w v L) (hD : D < 4096) (hL : L.length ≤ 12) : Calls Try.prog 54 #[v, .int .u64 (D : Nat)] w fun e w' => e = .returned (.bool (alB D 0 L)) ∧ Below w.heap.size w w' := by
  obtain ⟨a, n, cap, rfl, HN, m1, m2⟩ := h.sh
  have H1 := Lib.hid h
  clear h
  have hn12 : n ≤ 12 := by have := HN.out; omega
  go_enter Try.func54, Try.ntmps54
  go_wp2_with fail
  go_loopw [5, 6, 9] (fun _ _ i wr => ∃ k : Nat, k ≤ n ∧ i = .int .i64 k ∧ alB D k (L.drop k) = alB D 0 L ∧ Below w.heap.size w wr) (fun _ _ i _ => n - (intOf i).toNat)
  case atStart => exact ⟨0, Nat.zero_le _, rfl, rfl, Below.refl _ _⟩
  case round =>
    obtain ⟨k, hk, rfl, hc, hB⟩ := hrel
    have HB := Lib.hid hB
    have HC := Lib.hid hc
    clear hB hc
    by_cases hlt : k < n
    · obtain ⟨g, o, x, ea, g1, hx, hld, hrg⟩ := (H1.out.below HB.out).ld k hlt
      have HRG := Lib.hid hrg
      clear hrg
      subst ea
      have hxe : gCa L k = x := gCa_of hx
      have HST : Hid (alB D 0 L = (!(decide (0 < x.til) && !D.testBit k) && alB D (k + 1) (L.drop (k + 1)))) := Lib.hid (by rw [← HC.out, ← hxe]; exact alB_step _ (by rw [← HN.out]; exact hlt))
      clear hx hxe HC
      have ww5 : IntKind.i64.wrap ((k : Int) + 1) = (k : Int) + 1 := IntWalk.i64_in _ (by omega)
      have HH := Lib.hid (fun W => has_any D k W hD (by omega))
      obtain ⟨bt, hbt⟩ : ∃ b, b = D.testBit k := ⟨_, rfl⟩
      rw [← hbt] at HH HST
      clear hbt
      go_upto_region 4 with (first | (refine wpList_load_mid rfl 67 (.tmp 12) rfl g (o + k * 20) rfl [.int .i8 x.kind, .int .i64 x.client, .int .i64 x.number, .int .i64 x.tenant, .int .i64 x.crate, .int .i64 x.cburst, .int .i64 x.shaper, .int .i64 x.epoch, .int .i64 x.clease, .int .i64 x.csize, .int .i64 x.spent, .bool x.closed, .slice x.lsa x.lsn x.lsc, .int .i64 x.fr, .int .i64 x.til, .int .i64 x.e, .int .i64 x.rate, .int .i64 x.burst, .int .i64 x.lease, .int .i64 x.size] _ (by exact HRG.out) Try.underlying67 rfl (by kernel_rfl) ?_) | (refine wpList_store_mid rfl 67 (.tmp 6) (.tmp 13) rfl wr.heap.size 0 #[.int .i8 x.kind, .int .i64 x.client, .int .i64 x.number, .int .i64 x.tenant, .int .i64 x.crate, .int .i64 x.cburst, .int .i64 x.shaper, .int .i64 x.epoch, .int .i64 x.clease, .int .i64 x.csize, .int .i64 x.spent, .bool x.closed, .slice x.lsa x.lsn x.lsc, .int .i64 x.fr, .int .i64 x.til, .int .i64 x.e, .int .i64 x.rate, .int .i64 x.burst, .int .i64 x.lease, .int .i64 x.size] rfl rfl (there_new _ #[.int .i8 0, .int .i64 0, .int .i64 0, .int .i64 0, .int .i64 0, .int .i64 0, .int .i64 0, .int .i64 0, .int .i64 0, .int .i64 0, .int .i64 0, .bool false, .slice none 0 0, .int .i64 0, .int .i64 0, .int .i64 0, .int .i64 0, .int .i64 0, .int .i64 0, .int .i64 0] _) (by kernel_rfl) (by kernel_rfl) ?_; obtain ⟨W1, hA0⟩ : ∃ W0, W0 = (wr.alloc (.cells #[.int .i8 0, .int .i64 0, .int .i64 0, .int .i64 0, .int .i64 0, .int .i64 0, .int .i64 0, .int .i64 0, .int .i64 0, .int .i64 0, .int .i64 0, .bool false, .slice none 0 0, .int .i64 0, .int .i64 0, .int .i64 0, .int .i64 0, .int .i64 0, .int .i64 0, .int .i64 0] 67)).setCells wr.heap.size 0 (#[.int .i8 x.kind, .int .i64 x.client, .int .i64 x.number, .int .i64 x.tenant, .int .i64 x.crate, .int .i64 x.cburst, .int .i64 x.shaper, .int .i64 x.epoch, .int .i64 x.clease, .int .i64 x.csize, .int .i64 x.spent, .bool x.closed, .slice x.lsa x.lsn x.lsc, .int .i64 x.fr, .int .i64 x.til, .int .i64 x.e, .int .i64 x.rate, .int .i64 x.burst, .int .i64 x.lease, .int .i64 x.size] : Array Value).toList := ⟨_, rfl⟩; rw [← hA0]))
      obtain ⟨hB, hbk, hlt9⟩ := newS hA0 rfl
      clear hA0
      try simp only [Act.put]
      obtain ⟨N, hN⟩ : ∃ n0, n0 = wr.heap.size := ⟨_, rfl⟩
      have HLON : Hid (w.heap.size ≤ N) := Lib.hid (by have := HB.out.size; omega)
      rw [← hN]
      rw [← hN] at hbk
      have HK := Lib.hid (show Blk W1 N #[.int .i8 x.kind, .int .i64 x.client, .int .i64 x.number, .int .i64 x.tenant, .int .i64 x.crate, .int .i64 x.cburst, .int .i64 x.shaper, .int .i64 x.epoch, .int .i64 x.clease, .int .i64 x.csize, .int .i64 x.spent, .bool x.closed, .slice x.lsa x.lsn x.lsc, .int .i64 x.fr, .int .i64 x.til, .int .i64 x.e, .int .i64 x.rate, .int .i64 x.burst, .int .i64 x.lease, .int .i64 x.size] 67 from hbk)
      clear hbk
      replace HB := Lib.hid (HB.out.trans (hB.mono HB.out.size))
      clear hB hlt9 hN
      clear hld
      have qK0 : W1.cell? ⟨N, 0, none⟩ = some (.int .i8 x.kind) := cell_at HK.out 0
      have qK1 : W1.cell? ⟨N, 1, none⟩ = some (.int .i64 x.client) := cell_at HK.out 1
      have qK2 : W1.cell? ⟨N, 2, none⟩ = some (.int .i64 x.number) := cell_at HK.out 2
      have qK3 : W1.cell? ⟨N, 3, none⟩ = some (.int .i64 x.tenant) := cell_at HK.out 3
      have qK4 : W1.cell? ⟨N, 4, none⟩ = some (.int .i64 x.crate) := cell_at HK.out 4
      have qK5 : W1.cell? ⟨N, 5, none⟩ = some (.int .i64 x.cburst) := cell_at HK.out 5
      have qK6 : W1.cell? ⟨N, 6, none⟩ = some (.int .i64 x.shaper) := cell_at HK.out 6
      have qK7 : W1.cell? ⟨N, 7, none⟩ = some (.int .i64 x.epoch) := cell_at HK.out 7
      have qK8 : W1.cell? ⟨N, 8, none⟩ = some (.int .i64 x.clease) := cell_at HK.out 8
      have qK9 : W1.cell? ⟨N, 9, none⟩ = some (.int .i64 x.csize) := cell_at HK.out 9
      have qK10 : W1.cell? ⟨N, 10, none⟩ = some (.int .i64 x.spent) := cell_at HK.out 10
      have qK11 : W1.cell? ⟨N, 11, none⟩ = some (.bool x.closed) := cell_at HK.out 11
      have qK12 : W1.cell? ⟨N, 12, none⟩ = some (.slice x.lsa x.lsn x.lsc) := cell_at HK.out 12
      have qK13 : W1.cell? ⟨N, 13, none⟩ = some (.int .i64 x.fr) := cell_at HK.out 13
      have qK14 : W1.cell? ⟨N, 14, none⟩ = some (.int .i64 x.til) := cell_at HK.out 14
      have qK15 : W1.cell? ⟨N, 15, none⟩ = some (.int .i64 x.e) := cell_at HK.out 15
      have qK16 : W1.cell? ⟨N, 16, none⟩ = some (.int .i64 x.rate) := cell_at HK.out 16
      have qK17 : W1.cell? ⟨N, 17, none⟩ = some (.int .i64 x.burst) := cell_at HK.out 17
      have qK18 : W1.cell? ⟨N, 18, none⟩ = some (.int .i64 x.lease) := cell_at HK.out 18
      have qK19 : W1.cell? ⟨N, 19, none⟩ = some (.int .i64 x.size) := cell_at HK.out 19
      have qKz : ∀ j, W1.frozen? ⟨N, j, none⟩ = false := fun j => free_at HK.out j
      have qKl : N < W1.heap.size := HK.out.lt
      by_cases t1 : 0 < x.til
      rotate_left
      · have T1 := Lib.hid t1
        have q1 : decide (0 < x.til) = false := decide_eq_false t1
        clear t1
        go_wp2_with (go_at_call 52; refine Calls.mono (HH.out _) ?_; rintro e w' ⟨rfl, rfl⟩)
        go_roundw
        case rel => exact ⟨k + 1, by omega, by go_num, by rw [HST.out, show decide (0 < x.til) = false from decide_eq_false (by have := T1.out; omega)]; simp, HB.out⟩
        case measure => first | (simp [intOf]; done) | (simp [intOf]; omega)
      have T1 := Lib.hid t1
      have q1 : decide (0 < x.til) = true := decide_eq_true t1
      clear t1
      cases bt
      · go_wp2_with (go_at_call 52; refine Calls.mono (HH.out _) ?_; rintro e w' ⟨rfl, rfl⟩)
        go_ret
        exact ⟨ret_bool (by rw [HST.out, decide_eq_true T1.out]; simp), HB.out⟩
      · go_wp2_with (go_at_call 52; refine Calls.mono (HH.out _) ?_; rintro e w' ⟨rfl, rfl⟩)
        go_roundw
        case rel => exact ⟨k + 1, by omega, by go_num, by rw [HST.out]; simp, HB.out⟩
        case measure => first | (simp [intOf]; done) | (simp [intOf]; omega)
    · obtain rfl : k = n := by omega
      have hE : alB D 0 L = true := by rw [← HC.out, HN.out]; exact alB_end _ _ _
      go_wp2_with fail
      go_ret
      exact ⟨ret_bool hE.symm, HB.out⟩
set_option maxRecDepth 100000 in
set_option maxHeartbeats 8000000 in
theorem mayStand_any (D m : Nat) (v : Value) (L : List CaE) (w : World) (h : CaV w v L) (hD : D < 4096) (hL : L.length ≤ 12) (hm : m < L.length) : Calls Try.prog 53 #[v, .int .u64 (D : Nat), .int .i64 (m : Nat)] w fun e w' => e = .returned (.bool (stB D (gCa L m).fr 0 L)) ∧ Below w.heap.size w w' := by
  obtain ⟨a, n, cap, rfl, HN, m1, m2⟩ := h.sh
  have H1 := Lib.hid h
  clear h
  have hn12 : n ≤ 12 := by have := HN.out; omega
  have hmn : m < n := by have := HN.out; omega
  obtain ⟨fr, hfr⟩ : ∃ y, y = (gCa L m).fr := ⟨_, rfl⟩
  have HFE := Lib.hid hfr
  rw [← hfr]
  clear hfr hm hL
  go_enter Try.func53, Try.ntmps53
  go_wp2_with fail
  go_loopw [7, 8, 11] (fun _ _ i wr => ∃ k : Nat, k ≤ n ∧ i = .int .i64 k ∧ stB D fr k (L.drop k) = stB D fr 0 L ∧ Below w.heap.size w wr) (fun _ _ i _ => n - (intOf i).toNat)
  case atStart => exact ⟨0, Nat.zero_le _, rfl, rfl, Below.refl _ _⟩
  case round =>
    obtain ⟨k, hk, rfl, hc, hB⟩ := hrel
    have HB := Lib.hid hB
    have HC := Lib.hid hc
    clear hB hc
    by_cases hlt : k < n
    · obtain ⟨g, o, x, ea, g1, hx, hld, hrg⟩ := (H1.out.below HB.out).ld k hlt
      have HRG := Lib.hid hrg
      clear hrg
      subst ea
      have hxe : gCa L k = x := gCa_of hx
      have HST : Hid (stB D fr 0 L = (!(decide (0 < x.til) && !D.testBit k && decide (x.til < fr)) && stB D fr (k + 1) (L.drop (k + 1)))) := Lib.hid (by rw [← HC.out, ← hxe]; exact stB_step _ _ (by rw [← HN.out]; exact hlt))
      clear hx hxe HC
      have ww5 : IntKind.i64.wrap ((k : Int) + 1) = (k : Int) + 1 := IntWalk.i64_in _ (by omega)
      have HH := Lib.hid (fun W => has_any D k W hD (by omega))
      obtain ⟨bt, hbt⟩ : ∃ b, b = D.testBit k := ⟨_, rfl⟩
      rw [← hbt] at HH HST
      clear hbt
      go_upto_region 4 with (first | (refine wpList_load_mid rfl 67 (.tmp 14) rfl g (o + k * 20) rfl [.int .i8 x.kind, .int .i64 x.client, .int .i64 x.number, .int .i64 x.tenant, .int .i64 x.crate, .int .i64 x.cburst, .int .i64 x.shaper, .int .i64 x.epoch, .int .i64 x.clease, .int .i64 x.csize, .int .i64 x.spent, .bool x.closed, .slice x.lsa x.lsn x.lsc, .int .i64 x.fr, .int .i64 x.til, .int .i64 x.e, .int .i64 x.rate, .int .i64 x.burst, .int .i64 x.lease, .int .i64 x.size] _ (by exact HRG.out) Try.underlying67 rfl (by kernel_rfl) ?_) | (refine wpList_store_mid rfl 67 (.tmp 8) (.tmp 15) rfl wr.heap.size 0 #[.int .i8 x.kind, .int .i64 x.client, .int .i64 x.number, .int .i64 x.tenant, .int .i64 x.crate, .int .i64 x.cburst, .int .i64 x.shaper, .int .i64 x.epoch, .int .i64 x.clease, .int .i64 x.csize, .int .i64 x.spent, .bool x.closed, .slice x.lsa x.lsn x.lsc, .int .i64 x.fr, .int .i64 x.til, .int .i64 x.e, .int .i64 x.rate, .int .i64 x.burst, .int .i64 x.lease, .int .i64 x.size] rfl rfl (there_new _ #[.int .i8 0, .int .i64 0, .int .i64 0, .int .i64 0, .int .i64 0, .int .i64 0, .int .i64 0, .int .i64 0, .int .i64 0, .int .i64 0, .int .i64 0, .bool false, .slice none 0 0, .int .i64 0, .int .i64 0, .int .i64 0, .int .i64 0, .int .i64 0, .int .i64 0, .int .i64 0] _) (by kernel_rfl) (by kernel_rfl) ?_; obtain ⟨W1, hA0⟩ : ∃ W0, W0 = (wr.alloc (.cells #[.int .i8 0, .int .i64 0, .int .i64 0, .int .i64 0, .int .i64 0, .int .i64 0, .int .i64 0, .int .i64 0, .int .i64 0, .int .i64 0, .int .i64 0, .bool false, .slice none 0 0, .int .i64 0, .int .i64 0, .int .i64 0, .int .i64 0, .int .i64 0, .int .i64 0, .int .i64 0] 67)).setCells wr.heap.size 0 (#[.int .i8 x.kind, .int .i64 x.client, .int .i64 x.number, .int .i64 x.tenant, .int .i64 x.crate, .int .i64 x.cburst, .int .i64 x.shaper, .int .i64 x.epoch, .int .i64 x.clease, .int .i64 x.csize, .int .i64 x.spent, .bool x.closed, .slice x.lsa x.lsn x.lsc, .int .i64 x.fr, .int .i64 x.til, .int .i64 x.e, .int .i64 x.rate, .int .i64 x.burst, .int .i64 x.lease, .int .i64 x.size] : Array Value).toList := ⟨_, rfl⟩; rw [← hA0]))
      obtain ⟨hB, hbk, hlt9⟩ := newS hA0 rfl
      clear hA0
      try simp only [Act.put]
      obtain ⟨N, hN⟩ : ∃ n0, n0 = wr.heap.size := ⟨_, rfl⟩
      have HLON : Hid (w.heap.size ≤ N) := Lib.hid (by have := HB.out.size; omega)
      rw [← hN]
      rw [← hN] at hbk
      have HK := Lib.hid (show Blk W1 N #[.int .i8 x.kind, .int .i64 x.client, .int .i64 x.number, .int .i64 x.tenant, .int .i64 x.crate, .int .i64 x.cburst, .int .i64 x.shaper, .int .i64 x.epoch, .int .i64 x.clease, .int .i64 x.csize, .int .i64 x.spent, .bool x.closed, .slice x.lsa x.lsn x.lsc, .int .i64 x.fr, .int .i64 x.til, .int .i64 x.e, .int .i64 x.rate, .int .i64 x.burst, .int .i64 x.lease, .int .i64 x.size] 67 from hbk)
      clear hbk
      have HB0 := Lib.hid hB
      replace HB := Lib.hid (HB.out.trans (hB.mono HB.out.size))
      clear hB hlt9 hN
      clear hld
      have qK0 : W1.cell? ⟨N, 0, none⟩ = some (.int .i8 x.kind) := cell_at HK.out 0
      have qK1 : W1.cell? ⟨N, 1, none⟩ = some (.int .i64 x.client) := cell_at HK.out 1
      have qK2 : W1.cell? ⟨N, 2, none⟩ = some (.int .i64 x.number) := cell_at HK.out 2
      have qK3 : W1.cell? ⟨N, 3, none⟩ = some (.int .i64 x.tenant) := cell_at HK.out 3
      have qK4 : W1.cell? ⟨N, 4, none⟩ = some (.int .i64 x.crate) := cell_at HK.out 4
      have qK5 : W1.cell? ⟨N, 5, none⟩ = some (.int .i64 x.cburst) := cell_at HK.out 5
      have qK6 : W1.cell? ⟨N, 6, none⟩ = some (.int .i64 x.shaper) := cell_at HK.out 6
      have qK7 : W1.cell? ⟨N, 7, none⟩ = some (.int .i64 x.epoch) := cell_at HK.out 7
      have qK8 : W1.cell? ⟨N, 8, none⟩ = some (.int .i64 x.clease) := cell_at HK.out 8
      have qK9 : W1.cell? ⟨N, 9, none⟩ = some (.int .i64 x.csize) := cell_at HK.out 9
      have qK10 : W1.cell? ⟨N, 10, none⟩ = some (.int .i64 x.spent) := cell_at HK.out 10
      have qK11 : W1.cell? ⟨N, 11, none⟩ = some (.bool x.closed) := cell_at HK.out 11
      have qK12 : W1.cell? ⟨N, 12, none⟩ = some (.slice x.lsa x.lsn x.lsc) := cell_at HK.out 12
      have qK13 : W1.cell? ⟨N, 13, none⟩ = some (.int .i64 x.fr) := cell_at HK.out 13
      have qK14 : W1.cell? ⟨N, 14, none⟩ = some (.int .i64 x.til) := cell_at HK.out 14
      have qK15 : W1.cell? ⟨N, 15, none⟩ = some (.int .i64 x.e) := cell_at HK.out 15
      have qK16 : W1.cell? ⟨N, 16, none⟩ = some (.int .i64 x.rate) := cell_at HK.out 16
      have qK17 : W1.cell? ⟨N, 17, none⟩ = some (.int .i64 x.burst) := cell_at HK.out 17
      have qK18 : W1.cell? ⟨N, 18, none⟩ = some (.int .i64 x.lease) := cell_at HK.out 18
      have qK19 : W1.cell? ⟨N, 19, none⟩ = some (.int .i64 x.size) := cell_at HK.out 19
      have qKz : ∀ j, W1.frozen? ⟨N, j, none⟩ = false := fun j => free_at HK.out j
      have qKl : N < W1.heap.size := HK.out.lt
      have fc : W1.cell? ⟨g, o + m * 20 + 13, none⟩ = some (.int .i64 fr) := by
        obtain ⟨g', o', z, ea', g1', hz, _, hrz⟩ := (H1.out.below HB.out).ld m hmn
        obtain ⟨rfl, rfl⟩ : g' = g ∧ o' = o := by injection ea' with e; injection e with e1 e2; exact ⟨e1.symm, e2.symm⟩
        rw [HFE.out, gCa_of hz]
        exact hrz 13 _ rfl
      have bm : ((m : Int) < (n : Int)) = True := eq_true (by omega)
      have bm2 : (m < n) = True := eq_true (by omega)
      have hgz : g < W1.heap.size := Nat.lt_of_lt_of_le g1 ((Below.size HB0.out))
      by_cases t1 : 0 < x.til
      rotate_left
      · have T1 := Lib.hid t1
        have q1 : decide (0 < x.til) = false := decide_eq_false t1
        clear t1
        go_wp2_with fail
        (refine wp_region_quiet_lit (by kernel_rfl) (by kernel_rfl) ?_; (repeat (first | go_big_quiet_step ((go_at_call 52; exact quiet_left (HH.out _))) | (refine BigFrame.wpQuiet_skip (by rfl) ?_; try simp only [Act.put, List.setIfInBounds_toArray, List.set_cons_zero, List.set_cons_succ]))); refine wpQuiet_nil ?_; intro _ hw9; obtain ⟨nq, hw8⟩ := hw9; subst hw8)
        go_wp2_with fail
        go_roundw
        case rel => exact ⟨k + 1, by omega, by go_num, by rw [HST.out, show decide (0 < x.til) = false from decide_eq_false (by have := T1.out; omega)]; simp, HB.out.trans ((dN _ _).mono HB.out.size)⟩
        case measure => first | (simp [intOf]; done) | (simp [intOf]; omega)
      have T1 := Lib.hid t1
      have q1 : decide (0 < x.til) = true := decide_eq_true t1
      clear t1
      cases bt
      rotate_left
      · go_wp2_with fail
        (refine wp_region_quiet_lit (by kernel_rfl) (by kernel_rfl) ?_; (repeat (first | go_big_quiet_step ((go_at_call 52; exact quiet_left (HH.out _))) | (refine BigFrame.wpQuiet_skip (by rfl) ?_; try simp only [Act.put, List.setIfInBounds_toArray, List.set_cons_zero, List.set_cons_succ]))); refine wpQuiet_nil ?_; intro _ hw9; obtain ⟨nq, hw8⟩ := hw9; subst hw8)
        go_wp2_with fail
        go_roundw
        case rel => exact ⟨k + 1, by omega, by go_num, by rw [HST.out]; simp, HB.out.trans ((dN _ _).mono HB.out.size)⟩
        case measure => first | (simp [intOf]; done) | (simp [intOf]; omega)
      by_cases t2 : x.til < fr
      · have T2 := Lib.hid t2
        have q2 : decide (x.til < fr) = true := decide_eq_true t2
        clear t2
        go_wp2_with fail
        (refine wp_region_quiet_lit (by kernel_rfl) (by kernel_rfl) ?_; (repeat (first | go_big_quiet_step ((go_at_call 52; exact quiet_left (HH.out _))) | (refine BigFrame.wpQuiet_skip (by rfl) ?_; try simp only [Act.put, List.setIfInBounds_toArray, List.set_cons_zero, List.set_cons_succ]))); refine wpQuiet_nil ?_; intro _ hw9; obtain ⟨nq, hw8⟩ := hw9; subst hw8)
        go_wp2_with fail
        go_ret
        exact ⟨ret_bool (by rw [HST.out, decide_eq_true T1.out, decide_eq_true T2.out]; simp), HB.out.trans ((dN _ _).mono HB.out.size)⟩
      · have T2 := Lib.hid t2
        have q2 : decide (x.til < fr) = false := decide_eq_false t2
        clear t2
        go_wp2_with fail
        (refine wp_region_quiet_lit (by kernel_rfl) (by kernel_rfl) ?_; (repeat (first | go_big_quiet_step ((go_at_call 52; exact quiet_left (HH.out _))) | (refine BigFrame.wpQuiet_skip (by rfl) ?_; try simp only [Act.put, List.setIfInBounds_toArray, List.set_cons_zero, List.set_cons_succ]))); refine wpQuiet_nil ?_; intro _ hw9; obtain ⟨nq, hw8⟩ := hw9; subst hw8)
        go_wp2_with fail
        go_roundw
        case rel => exact ⟨k + 1, by omega, by go_num, by rw [HST.out, show decide (x.til < fr) = false from decide_eq_false (by have := T2.out; omega)]; simp, HB.out.trans ((dN _ _).mono HB.out.size)⟩
        case measure => first | (simp [intOf]; done) | (simp [intOf]; omega)
    · obtain rfl : k = n := by omega
      have hE : stB D fr 0 L = true := by rw [← HC.out, HN.out]; exact stB_end _ _ _ _
      go_wp2_with fail
      go_ret
      exact ⟨ret_bool hE.symm, HB.out⟩
end Go.Proofs.Ythmjlomlceljkaa
