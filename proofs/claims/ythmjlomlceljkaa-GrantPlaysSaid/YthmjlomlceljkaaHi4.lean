/-
  May calls be: both.
-/
import Derived.Test.YthmjlomlceljkaaHi3
import Derived.Deep.DeepFit
import Derived.Lib.AppendZeros
import Derived.Deep.RegionLaw
import Derived.Deep.RegionWith
import Derived.Lib.EndianBits
import Derived.Deep.MidRow
namespace Go.Proofs.Ythmjlomlceljkaa
open Go.RowKit
set_option linter.unusedSimpArgs false
set_option linter.unusedVariables false

theorem allC_step {L : List CaE} {k : Nat} (h : k < L.length) : allC (L.drop k) = (mayC (gCa L k) && allC (L.drop (k + 1))) := by
  rw [List.drop_eq_getElem_cons h]
  rw [show gCa L k = L[k] from gCa_of (List.getElem?_eq_getElem h)]
  rfl
theorem allC_end (L : List CaE) : allC (L.drop L.length) = true := by rw [List.drop_length]; rfl
theorem alB_step {L : List CaE} {k : Nat} (D : Nat) (h : k < L.length) : alB D k (L.drop k) = (!(decide (0 < (gCa L k).til) && !D.testBit k) && alB D (k + 1) (L.drop (k + 1))) := by
  rw [List.drop_eq_getElem_cons h]
  rw [show gCa L k = L[k] from gCa_of (List.getElem?_eq_getElem h)]
  rfl
theorem alB_end (L : List CaE) (D k : Nat) : alB D k (L.drop L.length) = true := by rw [List.drop_length]; rfl
theorem stB_step {L : List CaE} {k : Nat} (D : Nat) (fr : Int) (h : k < L.length) : stB D fr k (L.drop k) = (!(decide (0 < (gCa L k).til) && !D.testBit k && decide ((gCa L k).til < fr)) && stB D fr (k + 1) (L.drop (k + 1))) := by
  rw [List.drop_eq_getElem_cons h]
  rw [show gCa L k = L[k] from gCa_of (List.getElem?_eq_getElem h)]
  rfl
theorem stB_end (L : List CaE) (D k : Nat) (fr : Int) : stB D fr k (L.drop L.length) = true := by rw [List.drop_length]; rfl
theorem ca_range {W : World} {a : Option Addr} {n c b o : Nat} {E : Nat → CaE} (h : CaIn W a n c b o E) (k : Nat) (hk : k < n) : W.rangeAt b (o + k * 20) (E k).cells := by
  intro j v hv
  obtain ⟨c0, c1, c2, c3, c4, c5, c6, c7, c8, c9, c10, c11, c12, c13, c14, c15, c16, c17, c18, c19⟩ := h.cell k hk
  have hj : j < 20 := (List.getElem?_eq_some_iff.1 hv).1
  match j, hj with
  | 0, _ => obtain rfl := Option.some.inj hv; exact c0
  | 1, _ => obtain rfl := Option.some.inj hv; exact c1
  | 2, _ => obtain rfl := Option.some.inj hv; exact c2
  | 3, _ => obtain rfl := Option.some.inj hv; exact c3
  | 4, _ => obtain rfl := Option.some.inj hv; exact c4
  | 5, _ => obtain rfl := Option.some.inj hv; exact c5
  | 6, _ => obtain rfl := Option.some.inj hv; exact c6
  | 7, _ => obtain rfl := Option.some.inj hv; exact c7
  | 8, _ => obtain rfl := Option.some.inj hv; exact c8
  | 9, _ => obtain rfl := Option.some.inj hv; exact c9
  | 10, _ => obtain rfl := Option.some.inj hv; exact c10
  | 11, _ => obtain rfl := Option.some.inj hv; exact c11
  | 12, _ => obtain rfl := Option.some.inj hv; exact c12
  | 13, _ => obtain rfl := Option.some.inj hv; exact c13
  | 14, _ => obtain rfl := Option.some.inj hv; exact c14
  | 15, _ => obtain rfl := Option.some.inj hv; exact c15
  | 16, _ => obtain rfl := Option.some.inj hv; exact c16
  | 17, _ => obtain rfl := Option.some.inj hv; exact c17
  | 18, _ => obtain rfl := Option.some.inj hv; exact c18
  | 19, _ => obtain rfl := Option.some.inj hv; exact c19
theorem CaV.ld {W : World} {a : Option Addr} {n c : Nat} {L : List CaE} (h : CaV W (.slice a n c) L) (k : Nat) (hk : k < n) : ∃ (g o : Nat) (e : CaE), a = some ⟨g, o, none⟩ ∧ g < W.heap.size ∧ L[k]? = some e ∧ (loadVar 67 ⟨g, o + k * 20, none⟩).run Try.prog W = .ok (.agg #[.int .i8 e.kind, .int .i64 e.client, .int .i64 e.number, .int .i64 e.tenant, .int .i64 e.crate, .int .i64 e.cburst, .int .i64 e.shaper, .int .i64 e.epoch, .int .i64 e.clease, .int .i64 e.csize, .int .i64 e.spent, .bool e.closed, .slice e.lsa e.lsn e.lsc, .int .i64 e.fr, .int .i64 e.til, .int .i64 e.e, .int .i64 e.rate, .int .i64 e.burst, .int .i64 e.lease, .int .i64 e.size]) W ∧ W.rangeAt g (o + k * 20) e.cells := by
  obtain ⟨a', b, o, c', ee, h⟩ := h
  injection ee with e1 e2 e3
  subst e1 e2 e3
  have h1 := h.at_ (by omega)
  have hr := ca_range h k hk
  exact ⟨b, o, gCa L k, h1.1, h1.2, gCa_lt hk, run_loadVar_mid W b (o + k * 20) 67 (gCa L k).cells _ hr Try.underlying67 rfl (by kernel_rfl), hr⟩
theorem there_new (w : World) (c : Array Value) (t : TypeId) : (w.alloc (.cells c t)).there w.heap.size 0 c.size := fun j hj => by
  have h := blk_new w c t
  refine ⟨?_, free_at h _⟩
  rw [cell_at h, Nat.zero_add, Array.getElem?_eq_getElem hj]
  rfl
theorem newS {w W : World} {zs : Array Value} {vs : List Value} {t : TypeId} (h : W = (w.alloc (.cells zs t)).setCells w.heap.size 0 vs) (hl : vs.length = zs.size) : Below w.heap.size w W ∧ Blk W w.heap.size vs.toArray t ∧ w.heap.size < W.heap.size := by
  have h1 : Blk W w.heap.size vs.toArray t := by rw [h]; exact stC_blk (blk_new w zs t) vs hl
  have h2 : Fr [w.heap.size] (w.alloc (.cells zs t)) W := by rw [h]; exact stC_fr _ _ _ _
  have h3 : Below w.heap.size w (w.alloc (.cells zs t)) := (Below.refl _ _).alloc (Nat.le_refl _) _
  exact ⟨h3.trans (h2.below (by simp) (by simp)), h1, h1.lt⟩
set_option maxRecDepth 100000 in
set_option maxHeartbeats 8000000 in
theorem check_any (v : Value) (L : List CaE) (w : World) (h : CaV w v L) : Calls Try.prog 23 #[v] w fun e w' => e = .returned (.bool (ckB L)) ∧ Below w.heap.size w w' := by
  obtain ⟨a, n, cap, rfl, HN, m1, m2⟩ := h.sh
  have H1 := Lib.hid h
  clear h
  by_cases hbig : 12 < n
  · have d1 : decide ((12 : Int) < (n : Int)) = true := decide_eq_true (by omega)
    go_enter Try.func23, Try.ntmps23
    go_wp2_with fail
    go_ret
    exact ⟨ret_bool (by unfold ckB; rw [decide_eq_false (by have := HN.out; omega)]; rfl), Below.refl _ _⟩
  have d1 : decide ((12 : Int) < (n : Int)) = false := decide_eq_false (by omega)
  have HCK : Hid (ckB L = allC L) := Lib.hid (by unfold ckB; rw [decide_eq_true (by have := HN.out; omega)]; rfl)
  go_enter Try.func23, Try.ntmps23
  go_wp2_with fail
  go_loopw [4, 10] (fun _ i wr => ∃ k : Nat, k ≤ n ∧ i = .int .i64 k ∧ allC L = allC (L.drop k) ∧ Below w.heap.size w wr) (fun _ i _ => n - (intOf i).toNat)
  case atStart => exact ⟨0, Nat.zero_le _, rfl, rfl, Below.refl _ _⟩
  case round =>
    obtain ⟨k, hk, rfl, hc, hB⟩ := hrel
    have HB := Lib.hid hB
    have HC := Lib.hid hc
    clear hB hc
    by_cases hlt : k < n
    · obtain ⟨g, o, x, ea, g1, hx, hld, hrg⟩ := (H1.out.below HB.out).ld k hlt
      have HRG := Lib.hid hrg
      clear hrg
      subst ea
      have hxe : gCa L k = x := gCa_of hx
      have HST : Hid (allC L = (mayC x && allC (L.drop (k + 1)))) := Lib.hid (by rw [HC.out, ← hxe]; exact allC_step (by rw [← HN.out]; exact hlt))
      clear hx hxe HC
      have ww5 : IntKind.i64.wrap ((k : Int) + 1) = (k : Int) + 1 := IntWalk.i64_in _ (by omega)
      have HM := Lib.hid (fun W => mayAsk_any x W)
      go_upto_region 6 with (first | (refine wpList_load_mid rfl 67 (.tmp 12) rfl g (o + k * 20) rfl [.int .i8 x.kind, .int .i64 x.client, .int .i64 x.number, .int .i64 x.tenant, .int .i64 x.crate, .int .i64 x.cburst, .int .i64 x.shaper, .int .i64 x.epoch, .int .i64 x.clease, .int .i64 x.csize, .int .i64 x.spent, .bool x.closed, .slice x.lsa x.lsn x.lsc, .int .i64 x.fr, .int .i64 x.til, .int .i64 x.e, .int .i64 x.rate, .int .i64 x.burst, .int .i64 x.lease, .int .i64 x.size] _ (by exact HRG.out) Try.underlying67 rfl (by kernel_rfl) ?_) | (refine wpList_store_mid rfl 67 (.tmp 4) (.tmp 13) rfl wr.heap.size 0 #[.int .i8 x.kind, .int .i64 x.client, .int .i64 x.number, .int .i64 x.tenant, .int .i64 x.crate, .int .i64 x.cburst, .int .i64 x.shaper, .int .i64 x.epoch, .int .i64 x.clease, .int .i64 x.csize, .int .i64 x.spent, .bool x.closed, .slice x.lsa x.lsn x.lsc, .int .i64 x.fr, .int .i64 x.til, .int .i64 x.e, .int .i64 x.rate, .int .i64 x.burst, .int .i64 x.lease, .int .i64 x.size] rfl rfl (there_new _ #[.int .i8 0, .int .i64 0, .int .i64 0, .int .i64 0, .int .i64 0, .int .i64 0, .int .i64 0, .int .i64 0, .int .i64 0, .int .i64 0, .int .i64 0, .bool false, .slice none 0 0, .int .i64 0, .int .i64 0, .int .i64 0, .int .i64 0, .int .i64 0, .int .i64 0, .int .i64 0] _) (by kernel_rfl) (by kernel_rfl) ?_; obtain ⟨W1, hA0⟩ : ∃ W0, W0 = (wr.alloc (.cells #[.int .i8 0, .int .i64 0, .int .i64 0, .int .i64 0, .int .i64 0, .int .i64 0, .int .i64 0, .int .i64 0, .int .i64 0, .int .i64 0, .int .i64 0, .bool false, .slice none 0 0, .int .i64 0, .int .i64 0, .int .i64 0, .int .i64 0, .int .i64 0, .int .i64 0, .int .i64 0] 67)).setCells wr.heap.size 0 (#[.int .i8 x.kind, .int .i64 x.client, .int .i64 x.number, .int .i64 x.tenant, .int .i64 x.crate, .int .i64 x.cburst, .int .i64 x.shaper, .int .i64 x.epoch, .int .i64 x.clease, .int .i64 x.csize, .int .i64 x.spent, .bool x.closed, .slice x.lsa x.lsn x.lsc, .int .i64 x.fr, .int .i64 x.til, .int .i64 x.e, .int .i64 x.rate, .int .i64 x.burst, .int .i64 x.lease, .int .i64 x.size] : Array Value).toList := ⟨_, rfl⟩; rw [← hA0]))
      obtain ⟨hB, hbk, hlt9⟩ := newS hA0 rfl
      clear hA0
      try simp only [Act.put]
      obtain ⟨N, hN⟩ : ∃ n0, n0 = wr.heap.size := ⟨_, rfl⟩
      have HLON : Hid (w.heap.size ≤ N) := Lib.hid (by have := HB.out.size; omega)
      rw [← hN]
      rw [← hN] at hbk
      have HK := Lib.hid (show Blk W1 N #[.int .i8 x.kind, .int .i64 x.client, .int .i64 x.number, .int .i64 x.tenant, .int .i64 x.crate, .int .i64 x.cburst, .int .i64 x.shaper, .int .i64 x.epoch, .int .i64 x.clease, .int .i64 x.csize, .int .i64 x.spent, .bool x.closed, .slice x.lsa x.lsn x.lsc, .int .i64 x.fr, .int .i64 x.til, .int .i64 x.e, .int .i64 x.rate, .int .i64 x.burst, .int .i64 x.lease, .int .i64 x.size] 67 from hbk)
      clear hbk
      replace HB := Lib.hid (HB.out.trans (hB.mono HB.out.size))
      clear hB hlt9 hN
      clear hld
      have qK0 : W1.cell? ⟨N, 0, none⟩ = some (.int .i8 x.kind) := cell_at HK.out 0
      have qK1 : W1.cell? ⟨N, 1, none⟩ = some (.int .i64 x.client) := cell_at HK.out 1
      have qK2 : W1.cell? ⟨N, 2, none⟩ = some (.int .i64 x.number) := cell_at HK.out 2
      have qK3 : W1.cell? ⟨N, 3, none⟩ = some (.int .i64 x.tenant) := cell_at HK.out 3
      have qK4 : W1.cell? ⟨N, 4, none⟩ = some (.int .i64 x.crate) := cell_at HK.out 4
      have qK5 : W1.cell? ⟨N, 5, none⟩ = some (.int .i64 x.cburst) := cell_at HK.out 5
      have qK6 : W1.cell? ⟨N, 6, none⟩ = some (.int .i64 x.shaper) := cell_at HK.out 6
      have qK7 : W1.cell? ⟨N, 7, none⟩ = some (.int .i64 x.epoch) := cell_at HK.out 7
      have qK8 : W1.cell? ⟨N, 8, none⟩ = some (.int .i64 x.clease) := cell_at HK.out 8
      have qK9 : W1.cell? ⟨N, 9, none⟩ = some (.int .i64 x.csize) := cell_at HK.out 9
      have qK10 : W1.cell? ⟨N, 10, none⟩ = some (.int .i64 x.spent) := cell_at HK.out 10
      have qK11 : W1.cell? ⟨N, 11, none⟩ = some (.bool x.closed) := cell_at HK.out 11
      have qK12 : W1.cell? ⟨N, 12, none⟩ = some (.slice x.lsa x.lsn x.lsc) := cell_at HK.out 12
      have qK13 : W1.cell? ⟨N, 13, none⟩ = some (.int .i64 x.fr) := cell_at HK.out 13
      have qK14 : W1.cell? ⟨N, 14, none⟩ = some (.int .i64 x.til) := cell_at HK.out 14
      have qK15 : W1.cell? ⟨N, 15, none⟩ = some (.int .i64 x.e) := cell_at HK.out 15
      have qK16 : W1.cell? ⟨N, 16, none⟩ = some (.int .i64 x.rate) := cell_at HK.out 16
      have qK17 : W1.cell? ⟨N, 17, none⟩ = some (.int .i64 x.burst) := cell_at HK.out 17
      have qK18 : W1.cell? ⟨N, 18, none⟩ = some (.int .i64 x.lease) := cell_at HK.out 18
      have qK19 : W1.cell? ⟨N, 19, none⟩ = some (.int .i64 x.size) := cell_at HK.out 19
      have qKz : ∀ j, W1.frozen? ⟨N, j, none⟩ = false := fun j => free_at HK.out j
      have qKl : N < W1.heap.size := HK.out.lt
      obtain ⟨C1, hC1⟩ : ∃ C, C = cmdB x.kind x.tenant := ⟨_, rfl⟩
      rw [← hC1] at HM
      have HMC : Hid (mayC x = (C1 && decide (1 ≤ x.fr) && (decide (x.til = 0) || decide (x.fr < x.til)))) := Lib.hid (by unfold mayC; rw [hC1])
      clear hC1
      cases C1
      · go_wp2_with (go_at_call 42; refine Calls.mono (HM.out _) ?_; rintro e w' ⟨rfl, hB⟩; replace HB := Lib.hid (HB.out.trans (hB.mono HB.out.size)); replace HK := Lib.hid (HK.out.step hB); have z13 := cell_at HK.out 13; have z14 := cell_at HK.out 14; clear hB qK13 qK14)
        go_ret
        exact ⟨ret_bool (by rw [HCK.out, HST.out, HMC.out]; simp), HB.out⟩
      by_cases t1 : 1 ≤ x.fr
      rotate_left
      · go_wp2_with (go_at_call 42; refine Calls.mono (HM.out _) ?_; rintro e w' ⟨rfl, hB⟩; replace HB := Lib.hid (HB.out.trans (hB.mono HB.out.size)); replace HK := Lib.hid (HK.out.step hB); have z13 := cell_at HK.out 13; have z14 := cell_at HK.out 14; clear hB qK13 qK14)
        go_ret
        exact ⟨ret_bool (by rw [HCK.out, HST.out, HMC.out, show decide (1 ≤ x.fr) = false from decide_eq_false (by omega)]; simp), HB.out⟩
      have T1 := Lib.hid t1
      have q1 : decide (x.fr < 1) = false := decide_eq_false (by omega)
      clear t1
      by_cases t2 : x.til = 0
      · have T2 := Lib.hid t2
        have q2 : (x.til != 0) = false := by rw [t2]; rfl
        clear t2
        go_wp2_with (go_at_call 42; refine Calls.mono (HM.out _) ?_; rintro e w' ⟨rfl, hB⟩; replace HB := Lib.hid (HB.out.trans (hB.mono HB.out.size)); replace HK := Lib.hid (HK.out.step hB); have z13 := cell_at HK.out 13; have z14 := cell_at HK.out 14; clear hB qK13 qK14)
        go_roundw
        case rel => exact ⟨k + 1, by omega, by go_num, by rw [HST.out, HMC.out, decide_eq_true T1.out, decide_eq_true T2.out]; simp, HB.out⟩
        case measure => first | (simp [intOf]; done) | (simp [intOf]; omega)
      have T2 := Lib.hid t2
      have q2 : (x.til != 0) = true := by simpa using t2
      clear t2
      by_cases t3 : x.fr < x.til
      rotate_left
      · have q3 : decide (x.til ≤ x.fr) = true := decide_eq_true (by omega)
        have T3 := Lib.hid t3
        clear t3
        go_wp2_with (go_at_call 42; refine Calls.mono (HM.out _) ?_; rintro e w' ⟨rfl, hB⟩; replace HB := Lib.hid (HB.out.trans (hB.mono HB.out.size)); replace HK := Lib.hid (HK.out.step hB); have z13 := cell_at HK.out 13; have z14 := cell_at HK.out 14; clear hB qK13 qK14)
        go_ret
        exact ⟨ret_bool (by rw [HCK.out, HST.out, HMC.out, decide_eq_false T2.out, show decide (x.fr < x.til) = false from decide_eq_false (by have := T3.out; omega)]; simp), HB.out⟩
      · have q3 : decide (x.til ≤ x.fr) = false := decide_eq_false (by omega)
        have T3 := Lib.hid t3
        clear t3
        go_wp2_with (go_at_call 42; refine Calls.mono (HM.out _) ?_; rintro e w' ⟨rfl, hB⟩; replace HB := Lib.hid (HB.out.trans (hB.mono HB.out.size)); replace HK := Lib.hid (HK.out.step hB); have z13 := cell_at HK.out 13; have z14 := cell_at HK.out 14; clear hB qK13 qK14)
        go_roundw
        case rel => exact ⟨k + 1, by omega, by go_num, by rw [HST.out, HMC.out, decide_eq_true T1.out, decide_eq_false T2.out, decide_eq_true T3.out]; simp, HB.out⟩
        case measure => first | (simp [intOf]; done) | (simp [intOf]; omega)
    · obtain rfl : k = n := by omega
      have hE : allC L = true := by rw [HC.out, HN.out]; exact allC_end _
      go_wp2_with fail
      go_ret
      exact ⟨ret_bool (by rw [HCK.out, hE]), HB.out⟩
set_option maxRecDepth 100000 in
set_option maxHeartbeats 8000000 in
theorem rcheck_any (v : Value) (L : List CaE) (w : World) (h : CaV w v L) : Calls Try.prog 24 #[v] w fun e w' => e = .returned (.bool (ckB L)) ∧ Below w.heap.size w w' := by
  obtain ⟨a, n, cap, rfl, HN, m1, m2⟩ := h.sh
  have H1 := Lib.hid h
  clear h
  by_cases hbig : 12 < n
  · have d1 : decide ((12 : Int) < (n : Int)) = true := decide_eq_true (by omega)
    go_enter Try.func24, Try.ntmps24
    go_wp2_with fail
    go_ret
    exact ⟨ret_bool (by unfold ckB; rw [decide_eq_false (by have := HN.out; omega)]; rfl), Below.refl _ _⟩
  have d1 : decide ((12 : Int) < (n : Int)) = false := decide_eq_false (by omega)
  have HCK : Hid (ckB L = allC L) := Lib.hid (by unfold ckB; rw [decide_eq_true (by have := HN.out; omega)]; rfl)
  go_enter Try.func24, Try.ntmps24
  go_wp2_with fail
  go_loopw [3, 4] (fun i _ wr => ∃ k : Nat, k ≤ n ∧ i = .int .i64 k ∧ allC L = allC (L.drop k) ∧ Below w.heap.size w wr) (fun i _ _ => n - (intOf i).toNat)
  case atStart => exact ⟨0, Nat.zero_le _, rfl, rfl, Below.refl _ _⟩
  case round =>
    obtain ⟨k, hk, rfl, hc, hB⟩ := hrel
    have HB := Lib.hid hB
    have HC := Lib.hid hc
    clear hB hc
    by_cases hlt : k < n
    · obtain ⟨g, o, x, ea, g1, hx, hld, hrg⟩ := (H1.out.below HB.out).ld k hlt
      have HRG := Lib.hid hrg
      clear hrg
      subst ea
      have hxe : gCa L k = x := gCa_of hx
      have HST : Hid (allC L = (mayC x && allC (L.drop (k + 1)))) := Lib.hid (by rw [HC.out, ← hxe]; exact allC_step (by rw [← HN.out]; exact hlt))
      clear hx hxe HC
      have ww5 : IntKind.i64.wrap ((k : Int) + 1) = (k : Int) + 1 := IntWalk.i64_in _ (by omega)
      have HM := Lib.hid (fun W => rcmd_any x W)
      go_upto_region 7 with (first | (refine wpList_load_mid rfl 67 (.tmp 16) rfl g (o + k * 20) rfl [.int .i8 x.kind, .int .i64 x.client, .int .i64 x.number, .int .i64 x.tenant, .int .i64 x.crate, .int .i64 x.cburst, .int .i64 x.shaper, .int .i64 x.epoch, .int .i64 x.clease, .int .i64 x.csize, .int .i64 x.spent, .bool x.closed, .slice x.lsa x.lsn x.lsc, .int .i64 x.fr, .int .i64 x.til, .int .i64 x.e, .int .i64 x.rate, .int .i64 x.burst, .int .i64 x.lease, .int .i64 x.size] _ (by exact HRG.out) Try.underlying67 rfl (by kernel_rfl) ?_) | (refine wpList_store_mid rfl 67 (.tmp 4) (.tmp 17) rfl wr.heap.size 0 #[.int .i8 x.kind, .int .i64 x.client, .int .i64 x.number, .int .i64 x.tenant, .int .i64 x.crate, .int .i64 x.cburst, .int .i64 x.shaper, .int .i64 x.epoch, .int .i64 x.clease, .int .i64 x.csize, .int .i64 x.spent, .bool x.closed, .slice x.lsa x.lsn x.lsc, .int .i64 x.fr, .int .i64 x.til, .int .i64 x.e, .int .i64 x.rate, .int .i64 x.burst, .int .i64 x.lease, .int .i64 x.size] rfl rfl (there_new _ #[.int .i8 0, .int .i64 0, .int .i64 0, .int .i64 0, .int .i64 0, .int .i64 0, .int .i64 0, .int .i64 0, .int .i64 0, .int .i64 0, .int .i64 0, .bool false, .slice none 0 0, .int .i64 0, .int .i64 0, .int .i64 0, .int .i64 0, .int .i64 0, .int .i64 0, .int .i64 0] _) (by kernel_rfl) (by kernel_rfl) ?_; obtain ⟨W1, hA0⟩ : ∃ W0, W0 = (wr.alloc (.cells #[.int .i8 0, .int .i64 0, .int .i64 0, .int .i64 0, .int .i64 0, .int .i64 0, .int .i64 0, .int .i64 0, .int .i64 0, .int .i64 0, .int .i64 0, .bool false, .slice none 0 0, .int .i64 0, .int .i64 0, .int .i64 0, .int .i64 0, .int .i64 0, .int .i64 0, .int .i64 0] 67)).setCells wr.heap.size 0 (#[.int .i8 x.kind, .int .i64 x.client, .int .i64 x.number, .int .i64 x.tenant, .int .i64 x.crate, .int .i64 x.cburst, .int .i64 x.shaper, .int .i64 x.epoch, .int .i64 x.clease, .int .i64 x.csize, .int .i64 x.spent, .bool x.closed, .slice x.lsa x.lsn x.lsc, .int .i64 x.fr, .int .i64 x.til, .int .i64 x.e, .int .i64 x.rate, .int .i64 x.burst, .int .i64 x.lease, .int .i64 x.size] : Array Value).toList := ⟨_, rfl⟩; rw [← hA0]))
      obtain ⟨hB, hbk, hlt9⟩ := newS hA0 rfl
      clear hA0
      try simp only [Act.put]
      obtain ⟨N, hN⟩ : ∃ n0, n0 = wr.heap.size := ⟨_, rfl⟩
      have HLON : Hid (w.heap.size ≤ N) := Lib.hid (by have := HB.out.size; omega)
      rw [← hN]
      rw [← hN] at hbk
      have HK := Lib.hid (show Blk W1 N #[.int .i8 x.kind, .int .i64 x.client, .int .i64 x.number, .int .i64 x.tenant, .int .i64 x.crate, .int .i64 x.cburst, .int .i64 x.shaper, .int .i64 x.epoch, .int .i64 x.clease, .int .i64 x.csize, .int .i64 x.spent, .bool x.closed, .slice x.lsa x.lsn x.lsc, .int .i64 x.fr, .int .i64 x.til, .int .i64 x.e, .int .i64 x.rate, .int .i64 x.burst, .int .i64 x.lease, .int .i64 x.size] 67 from hbk)
      clear hbk
      replace HB := Lib.hid (HB.out.trans (hB.mono HB.out.size))
      clear hB hlt9 hN
      clear hld
      have qK0 : W1.cell? ⟨N, 0, none⟩ = some (.int .i8 x.kind) := cell_at HK.out 0
      have qK1 : W1.cell? ⟨N, 1, none⟩ = some (.int .i64 x.client) := cell_at HK.out 1
      have qK2 : W1.cell? ⟨N, 2, none⟩ = some (.int .i64 x.number) := cell_at HK.out 2
      have qK3 : W1.cell? ⟨N, 3, none⟩ = some (.int .i64 x.tenant) := cell_at HK.out 3
      have qK4 : W1.cell? ⟨N, 4, none⟩ = some (.int .i64 x.crate) := cell_at HK.out 4
      have qK5 : W1.cell? ⟨N, 5, none⟩ = some (.int .i64 x.cburst) := cell_at HK.out 5
      have qK6 : W1.cell? ⟨N, 6, none⟩ = some (.int .i64 x.shaper) := cell_at HK.out 6
      have qK7 : W1.cell? ⟨N, 7, none⟩ = some (.int .i64 x.epoch) := cell_at HK.out 7
      have qK8 : W1.cell? ⟨N, 8, none⟩ = some (.int .i64 x.clease) := cell_at HK.out 8
      have qK9 : W1.cell? ⟨N, 9, none⟩ = some (.int .i64 x.csize) := cell_at HK.out 9
      have qK10 : W1.cell? ⟨N, 10, none⟩ = some (.int .i64 x.spent) := cell_at HK.out 10
      have qK11 : W1.cell? ⟨N, 11, none⟩ = some (.bool x.closed) := cell_at HK.out 11
      have qK12 : W1.cell? ⟨N, 12, none⟩ = some (.slice x.lsa x.lsn x.lsc) := cell_at HK.out 12
      have qK13 : W1.cell? ⟨N, 13, none⟩ = some (.int .i64 x.fr) := cell_at HK.out 13
      have qK14 : W1.cell? ⟨N, 14, none⟩ = some (.int .i64 x.til) := cell_at HK.out 14
      have qK15 : W1.cell? ⟨N, 15, none⟩ = some (.int .i64 x.e) := cell_at HK.out 15
      have qK16 : W1.cell? ⟨N, 16, none⟩ = some (.int .i64 x.rate) := cell_at HK.out 16
      have qK17 : W1.cell? ⟨N, 17, none⟩ = some (.int .i64 x.burst) := cell_at HK.out 17
      have qK18 : W1.cell? ⟨N, 18, none⟩ = some (.int .i64 x.lease) := cell_at HK.out 18
      have qK19 : W1.cell? ⟨N, 19, none⟩ = some (.int .i64 x.size) := cell_at HK.out 19
      have qKz : ∀ j, W1.frozen? ⟨N, j, none⟩ = false := fun j => free_at HK.out j
      have qKl : N < W1.heap.size := HK.out.lt
      obtain ⟨C1, hC1⟩ : ∃ C, C = cmdB x.kind x.tenant := ⟨_, rfl⟩
      rw [← hC1] at HM
      have HMC : Hid (mayC x = (C1 && decide (1 ≤ x.fr) && (decide (x.til = 0) || decide (x.fr < x.til)))) := Lib.hid (by unfold mayC; rw [hC1])
      clear hC1
      cases C1
      · go_wp2_with (go_at_call 49; refine Calls.mono (HM.out _) ?_; rintro e w' ⟨rfl, hB⟩; replace HB := Lib.hid (HB.out.trans (hB.mono HB.out.size)); replace HK := Lib.hid (HK.out.step hB); have z13 := cell_at HK.out 13; have z14 := cell_at HK.out 14; clear hB qK13 qK14)
        go_ret
        exact ⟨ret_bool (by rw [HCK.out, HST.out, HMC.out]; simp), HB.out⟩
      by_cases t1 : 1 ≤ x.fr
      rotate_left
      · go_wp2_with (go_at_call 49; refine Calls.mono (HM.out _) ?_; rintro e w' ⟨rfl, hB⟩; replace HB := Lib.hid (HB.out.trans (hB.mono HB.out.size)); replace HK := Lib.hid (HK.out.step hB); have z13 := cell_at HK.out 13; have z14 := cell_at HK.out 14; clear hB qK13 qK14)
        go_ret
        exact ⟨ret_bool (by rw [HCK.out, HST.out, HMC.out, show decide (1 ≤ x.fr) = false from decide_eq_false (by omega)]; simp), HB.out⟩
      have T1 := Lib.hid t1
      have q1 : decide (x.fr < 1) = false := decide_eq_false (by omega)
      clear t1
      by_cases t2 : x.til = 0
      · have T2 := Lib.hid t2
        have q2 : (x.til != 0) = false := by rw [t2]; rfl
        clear t2
        go_wp2_with (go_at_call 49; refine Calls.mono (HM.out _) ?_; rintro e w' ⟨rfl, hB⟩; replace HB := Lib.hid (HB.out.trans (hB.mono HB.out.size)); replace HK := Lib.hid (HK.out.step hB); have z13 := cell_at HK.out 13; have z14 := cell_at HK.out 14; clear hB qK13 qK14)
        go_roundw
        case rel => exact ⟨k + 1, by omega, by go_num, by rw [HST.out, HMC.out, decide_eq_true T1.out, decide_eq_true T2.out]; simp, HB.out⟩
        case measure => first | (simp [intOf]; done) | (simp [intOf]; omega)
      have T2 := Lib.hid t2
      have q2 : (x.til != 0) = true := by simpa using t2
      clear t2
      by_cases t3 : x.fr < x.til
      rotate_left
      · have q3 : decide (x.til ≤ x.fr) = true := decide_eq_true (by omega)
        have T3 := Lib.hid t3
        clear t3
        go_wp2_with (go_at_call 49; refine Calls.mono (HM.out _) ?_; rintro e w' ⟨rfl, hB⟩; replace HB := Lib.hid (HB.out.trans (hB.mono HB.out.size)); replace HK := Lib.hid (HK.out.step hB); have z13 := cell_at HK.out 13; have z14 := cell_at HK.out 14; clear hB qK13 qK14)
        go_ret
        exact ⟨ret_bool (by rw [HCK.out, HST.out, HMC.out, decide_eq_false T2.out, show decide (x.fr < x.til) = false from decide_eq_false (by have := T3.out; omega)]; simp), HB.out⟩
      · have q3 : decide (x.til ≤ x.fr) = false := decide_eq_false (by omega)
        have T3 := Lib.hid t3
        clear t3
        go_wp2_with (go_at_call 49; refine Calls.mono (HM.out _) ?_; rintro e w' ⟨rfl, hB⟩; replace HB := Lib.hid (HB.out.trans (hB.mono HB.out.size)); replace HK := Lib.hid (HK.out.step hB); have z13 := cell_at HK.out 13; have z14 := cell_at HK.out 14; clear hB qK13 qK14)
        go_roundw
        case rel => exact ⟨k + 1, by omega, by go_num, by rw [HST.out, HMC.out, decide_eq_true T1.out, decide_eq_false T2.out, decide_eq_true T3.out]; simp, HB.out⟩
        case measure => first | (simp [intOf]; done) | (simp [intOf]; omega)
    · obtain rfl : k = n := by omega
      have hE : allC L = true := by rw [HC.out, HN.out]; exact allC_end _
      go_wp2_with fail
      go_ret
      exact ⟨ret_bool (by rw [HCK.out, hE]), HB.out⟩
end Go.Proofs.Ythmjlomlceljkaa
