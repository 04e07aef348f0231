/-
  Those that are gone swept: the program.
-/
import Derived.Test.YtpgpcgpecpimlaaPoo
import Derived.Test.YtpgpcgpecpimlaaPo2
import Derived.Deep.RegionLaw
namespace Go.Proofs.Ytpgpcgpecpimlaa
open Go.RowKit
set_option linter.unusedSimpArgs false
set_option linter.unusedVariables false

structure IntsIn (W : World) (a : Option Addr) (len cap : Nat) (b o : Nat) (T : Nat → Int) : Prop where
  le : len ≤ cap
  max : cap ≤ maxLen
  at_ : 0 < len → a = some ⟨b, o, none⟩ ∧ b < W.heap.size
  cell : ∀ k, k < len → W.cell? ⟨b, o + k, none⟩ = some (.int .i64 (T k))
  bd : ∀ k, k < len → -9223372036854775808 ≤ T k ∧ T k ≤ 9223372036854775807

theorem ints_cells (W : World) {a : Option Addr} {len cap : Nat} {xs : List Dt} (h : SliceFits Try.prog W 3 a len cap xs) : ∃ (b o : Nat) (T : Nat → Int), IntsIn W a len cap b o T := by
  have hc : Try.prog.cellsOf 3 = 1 := by kernel_rfl
  obtain ⟨b, o, h1, h2⟩ := h.spot (by rw [hc]; omega)
  have hex : ∀ k, ∃ q : Int, k < len → W.cell? ⟨b, o + k, none⟩ = some (.int .i64 q) ∧ -9223372036854775808 ≤ q ∧ q ≤ 9223372036854775807 := fun k => by
    by_cases hk : k < len
    · have hl := h.length
      have hx := List.getElem?_eq_getElem (l := xs) (i := k) (by omega)
      obtain ⟨n0, e0, g0⟩ := (h.each k _ hx).1.int_inv Try.underlying3
      have hcell := h2 k _ hx
      rw [e0, hc] at hcell
      exact ⟨n0, fun _ => ⟨by have := hcell 0 _ rfl; rwa [Nat.mul_one] at this, g0.1, g0.2⟩⟩
    · exact ⟨0, fun h => absurd h hk⟩
  have hg := fun k => Classical.choose_spec (hex k)
  exact ⟨b, o, fun k => Classical.choose (hex k), h.le, h.max, h1, fun k hk => (hg k hk).1, fun k hk => (hg k hk).2⟩

theorem IntsIn.below {W W' : World} {a : Option Addr} {len cap b o : Nat} {T : Nat → Int} (h : IntsIn W a len cap b o T) (hB : Below W.heap.size W W') : IntsIn W' a len cap b o T :=
  ⟨h.le, h.max, fun hk => ⟨(h.at_ hk).1, by have := (h.at_ hk).2; have := hB.size; omega⟩, fun k hk => (hB.cell (p := ⟨b, _, none⟩) (h.at_ (by omega)).2).trans (h.cell k hk), h.bd⟩

def outN (on : Nat) (T : Nat → Int) (x : TnE) : Int := if x.id - 1 < on then T (x.id - 1).toNat else 0
def swB (on : Nat) (T : Nat → Int) (x : TnE) : Bool := x.gone && decide (outN on T x ≤ 0)
def swL (on : Nat) (T : Nat → Int) (L : List TnE) : List TnE := if chk L then L.filter fun x => !swB on T x else L
theorem chk_id {L : List TnE} (h : chk L = true) {x : TnE} (hx : x ∈ L) : 0 < x.id := chkF_gt L 0 h x hx
theorem ent_sw1 : EntK 91 := fun _ _ => by kernel_rfl
set_option maxRecDepth 100000 in
set_option maxHeartbeats 4000000 in
theorem sw1_any (x : TnE) (N0 : Nat) (oa : Option Addr) (on oc ob oo : Nat) (T : Nat → Int) (w : World) (h : w.cell? ⟨N0, 0, none⟩ = some (.slice oa on oc)) (hl : N0 < w.heap.size) (hI : IntsIn w oa on oc ob oo T) (hx : 0 < x.id) (hx2 : x.id ≤ 9223372036854775807) : Calls Try.prog 91 #[.agg #[.int .i64 x.id, .int .i64 x.rate, .int .i64 x.burst, .int .i64 x.bkt, .bool x.gone], .pointer (some ⟨N0, 0, none⟩)] w fun e w' => e = .returned (.bool (swB on T x)) ∧ Below w.heap.size w w' := by
  obtain ⟨N, hN⟩ : ∃ N, N = w.heap.size := ⟨_, rfl⟩
  obtain ⟨W1, hW1⟩ : ∃ W1, W1 = w.alloc (.cells #[.int .i64 x.id, .int .i64 x.rate, .int .i64 x.burst, .int .i64 x.bkt, .bool x.gone] 72) := ⟨_, rfl⟩
  have hB1 : Below w.heap.size w W1 := by rw [hW1]; exact (Below.refl _ _).alloc (Nat.le_refl _) _
  have hk : Blk W1 N #[.int .i64 x.id, .int .i64 x.rate, .int .i64 x.burst, .int .i64 x.bkt, .bool x.gone] 72 := by rw [hW1, hN]; exact blk_new _ _ _
  obtain ⟨R, hR⟩ : ∃ R, R = swB on T x := ⟨_, rfl⟩
  rw [← hR]
  have HR := Lib.hid hR
  obtain ⟨id, rate, burst, bkt, gone⟩ := x
  simp only at hx hx2 hk hW1 ⊢
  obtain ⟨k, rfl⟩ : ∃ k : Nat, id = (k : Int) + 1 := ⟨(id - 1).toNat, by omega⟩
  have c0 : W1.cell? ⟨N, 0, none⟩ = some (.int .i64 ((k : Int) + 1)) := cell_at hk 0
  have c4 : W1.cell? ⟨N, 4, none⟩ = some (.bool gone) := cell_at hk 4
  have i0 : W1.cell? ⟨N0, 0, none⟩ = some (.slice oa on oc) := (hB1.cell (p := ⟨N0, _, none⟩) hl).trans h
  have hl1 : N0 < W1.heap.size := by have := hB1.size; omega
  have hN1 : N < W1.heap.size := hk.lt
  have HB1 := Lib.hid hB1
  have hI1 := hI.below hB1
  have m1 := hI.le
  have m2 := hI.max
  unfold maxLen at m2
  have HO : Hid (outN on T ⟨(k : Int) + 1, rate, burst, bkt, gone⟩ = if k < on then T k else 0) := Lib.hid (by unfold outN; simp only [Int.add_sub_cancel, Int.toNat_natCast]; by_cases hh : k < on <;> simp [hh])
  have hw : IntKind.i64.wrap (k : Int) = (k : Int) := IntWalk.i64_in _ (by omega)
  have HI1 := Lib.hid hI1
  clear hB1 hk h hl hI hI1 hR
  have hcs : gone = false ∨ (gone = true ∧ on ≤ k) ∨ (gone = true ∧ k < on) := by cases gone <;> simp <;> omega
  rcases hcs with rfl | ⟨rfl, g1⟩ | ⟨rfl, g1⟩
  · have hRx : R = false := by rw [HR.out]; rfl
    subst hRx
    go_enter Try.func91, Try.ntmps91
    go_upto_region 1 with fail
    rw [← hN, ← hW1]
    clear hN hW1
    go_wp2_with fail
    go_ret
    exact ⟨rfl, HB1.out⟩
  · have hRx : R = true := by rw [HR.out]; unfold swB; rw [HO.out, if_neg (by omega)]; rfl
    subst hRx
    have d1 : decide (on < k + 1) = true := decide_eq_true (by omega)
    have d2 : decide (on ≤ k) = true := decide_eq_true g1
    have d3 : decide ((on : Int) < (k : Int) + 1) = true := decide_eq_true (by omega)
    go_enter Try.func91, Try.ntmps91
    go_upto_region 1 with fail
    rw [← hN, ← hW1]
    clear hN hW1
    go_wp2_with fail
    go_ret
    exact ⟨rfl, HB1.out⟩
  · have hRx : R = decide (T k ≤ 0) := by rw [HR.out]; unfold swB; rw [HO.out, if_pos g1]; rfl
    subst hRx
    obtain ⟨e0, e1⟩ := HI1.out.at_ (by omega)
    subst e0
    have o0 := HI1.out.cell k g1
    obtain ⟨t, ht⟩ : ∃ t, t = T k := ⟨_, rfl⟩
    rw [← ht] at o0 ⊢
    have d1 : decide (on < k + 1) = false := decide_eq_false (by omega)
    have d2 : decide (on ≤ k) = false := decide_eq_false (by omega)
    have d3 : decide ((on : Int) < (k : Int) + 1) = false := decide_eq_false (by omega)
    clear ht HI1 HO HR
    go_enter Try.func91, Try.ntmps91
    go_upto_region 1 with fail
    rw [← hN, ← hW1]
    clear hN hW1
    go_wp2_with fail
    all_goals
      go_ret
      exact ⟨ret_bool (by first | rfl | (simp; omega) | simp [*]), HB1.out⟩
set_option maxRecDepth 100000 in
set_option maxHeartbeats 8000000 in
theorem psweep_any (v : Value) (L : List TnE) (oa : Option Addr) (on oc ob oo : Nat) (T : Nat → Int) (w : World) (h : TV w v L) (hI : IntsIn w oa on oc ob oo T) (hn5 : L.length ≤ 200) : Calls Try.prog 55 #[v, .slice oa on oc] w fun e w' => ∃ v', e = .returned v' ∧ TV w' v' (swL on T L) ∧ Below w.heap.size w w' := by
  have HVW := Lib.hid h
  obtain ⟨N, hN⟩ : ∃ N, N = w.heap.size := ⟨_, rfl⟩
  obtain ⟨W1, hW1⟩ : ∃ W1, W1 = w.alloc (.cells #[.slice oa on oc] 73) := ⟨_, rfl⟩
  have hB1 : Below w.heap.size w W1 := by rw [hW1]; exact (Below.refl _ _).alloc (Nat.le_refl _) _
  have HK1 : Hid (Blk W1 N #[.slice oa on oc] 73) := Lib.hid (by rw [hW1, hN]; exact blk_new _ _ _)
  have HV1 := Lib.hid (h.below hB1)
  have HB1 := Lib.hid hB1
  have HII := Lib.hid hI
  obtain ⟨C, hC⟩ : ∃ C, C = chk L := ⟨_, rfl⟩
  have HC := Lib.hid hC
  obtain ⟨Y, hY⟩ : ∃ Y, Y = swL on T L := ⟨_, rfl⟩
  rw [← hY]
  have HY := Lib.hid hY
  have HCK := Lib.hid (pcheck_any v L W1 HV1.out)
  rw [← hC] at HCK
  clear hC hY hB1 h hI
  go_enter Try.func55, Try.ntmps55
  go_upto_region 1 with fail
  rw [← hN, ← hW1]
  clear hN hW1
  cases C
  · have hYx : Y = L := by rw [HY.out]; unfold swL; rw [← HC.out]; rfl
    have HYX := Lib.hid hYx
    clear hYx
    go_wp2_with fail
    go_at_call 45
    refine Calls.mono HCK.out ?_
    rintro e W2 ⟨rfl, hB⟩
    have HK2 := Lib.hid (HK1.out.step hB)
    have HB2 := Lib.hid (HB1.out.trans (hB.mono HB1.out.size))
    have HCL := Lib.hid (clone_tv2 v L W2 (HVW.out.below HB2.out) hn5)
    clear hB
    go_wp2_with fail
    go_at_call 90
    refine Calls.mono HCL.out ?_
    rintro e W9 ⟨v9, rfl, hv9, hB⟩
    have HV9 := Lib.hid hv9
    have HB9 := Lib.hid (HB2.out.trans (hB.mono HB2.out.size))
    clear hv9 hB
    go_wp2_with fail
    go_ret
    exact ⟨_, rfl, by rw [HYX.out]; exact HV9.out, HB9.out⟩
  · have hYx : Y = L.filter fun x => !swB on T x := by rw [HY.out]; unfold swL; rw [← HC.out]; rfl
    have HYX := Lib.hid hYx
    clear hYx
    go_wp2_with fail
    go_at_call 45
    refine Calls.mono HCK.out ?_
    rintro e W2 ⟨rfl, hB⟩
    have HK2 := Lib.hid (HK1.out.step hB)
    have HB2 := Lib.hid (HB1.out.trans (hB.mono HB1.out.size))
    have hCT : ClT 91 #[.pointer (some ⟨N, 0, none⟩)] (swB on T) L W2 := fun x W hxL hB9 => by
      have hk9 := HK2.out.step hB9
      have hb := HB2.out.trans (hB9.mono HB2.out.size)
      exact sw1_any x N oa on oc ob oo T W (cell_at hk9 0) hk9.lt (HII.out.below hb) (chk_id HC.out.symm hxL) (HVW.out.ok x hxL).1.2
    have HWO := Lib.hid (without_any 91 #[.pointer (some ⟨N, 0, none⟩)] (swB on T) v L W2 (HVW.out.below HB2.out) hn5 ent_sw1 hCT)
    rw [← HYX.out] at HWO
    clear hB hCT
    go_wp2_with fail
    go_at_call 87
    refine Calls.mono HWO.out ?_
    rintro e W9 ⟨v9, rfl, hv9, hB⟩
    have HV9 := Lib.hid hv9.tv
    have HB9 := Lib.hid (HB2.out.trans (hB.mono HB2.out.size))
    clear hv9 hB
    go_wp2_with fail
    go_ret
    exact ⟨_, rfl, HV9.out, HB9.out⟩
end Go.Proofs.Ytpgpcgpecpimlaa
