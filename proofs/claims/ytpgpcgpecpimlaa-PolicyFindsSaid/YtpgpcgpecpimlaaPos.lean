/-
  PolicyFinds, walked.
-/
import Derived.Test.YtpgpcgpecpimlaaPor
import Derived.Test.YtpgpcgpecpimlaaPoh
import Derived.Test.YtpgpcgpecpimlaaPo2
import Derived.Deep.RegionLaw
namespace Go.Proofs.Ytpgpcgpecpimlaa
open Go.RowKit
set_option linter.unusedSimpArgs false
set_option linter.unusedVariables false

set_option maxRecDepth 100000 in
set_option maxHeartbeats 16000000 in
theorem policyFinds_walk (v : Value) (L : List TnE) (x : TnE) (oa : Option Addr) (on oc ob oo : Nat) (T : Nat → Int) (w : World) (h : TV w v L) (hx : x.ok) (hI : IntsIn w oa on oc ob oo T) : Calls Try.prog 12 #[v, .agg #[.int .i64 x.id, .int .i64 x.rate, .int .i64 x.burst, .int .i64 x.bkt, .bool x.gone], .slice oa on oc] w fun e w' => e = .returned (.bool true) ∧ Below w.heap.size w w' := by
  obtain ⟨N, hN⟩ : ∃ N, N = w.heap.size := ⟨_, rfl⟩
  obtain ⟨W1, hW1⟩ : ∃ W1, W1 = w.alloc (.cells #[.int .i64 x.id, .int .i64 x.rate, .int .i64 x.burst, .int .i64 x.bkt, .bool x.gone] 72) := ⟨_, rfl⟩
  have hB1 : Below w.heap.size w W1 := by rw [hW1]; exact (Below.refl _ _).alloc (Nat.le_refl _) _
  have HK1 : Hid (Blk W1 N #[.int .i64 x.id, .int .i64 x.rate, .int .i64 x.burst, .int .i64 x.bkt, .bool x.gone] 72) := Lib.hid (by rw [hW1, hN]; exact blk_new _ _ _)
  have HV1 := Lib.hid (h.below hB1)
  have HB1 := Lib.hid hB1
  have HNB : Hid (w.heap.size ≤ N) := Lib.hid (by rw [hN]; exact Nat.le_refl _)
  have HGT : Hid (∀ W, Calls Try.prog 40 #[v] W fun e w' => e = .returned (.bool (decide (60 < L.length))) ∧ W = w') := Lib.hid (fun W => by
    obtain ⟨a, b, o, c, rfl, h2⟩ := h
    have q1 := h2.le
    have q2 := h2.max
    unfold maxLen at q2
    exact great_any a L.length c W (by omega))
  have HWK := Lib.hid pwakes_any
  have HXO := Lib.hid hx
  have HII := Lib.hid (hI.below hB1)
  have om1 := hI.le
  have om2 := hI.max
  unfold maxLen at om2
  obtain ⟨y, hy⟩ : ∃ y, y = (fndC x.id L).getD z0 := ⟨_, rfl⟩
  obtain ⟨b9, hb9⟩ : ∃ b9, b9 = (fndC x.id L).isSome := ⟨_, rfl⟩
  obtain ⟨sE, hsE⟩ : ∃ sE, sE = setE L x := ⟨_, rfl⟩
  obtain ⟨sY, hsY⟩ : ∃ sY, sY = setL L x := ⟨_, rfl⟩
  obtain ⟨wY, hwY⟩ : ∃ wY, wY = swL on T L := ⟨_, rfl⟩
  have KY := Lib.hid hy
  have KB := Lib.hid hb9
  have KE := Lib.hid hsE
  have KS := Lib.hid hsY
  have KW := Lib.hid hwY
  clear hy hb9 hsE hsY hwY
  have HV := HV1
  have HX := HK1
  have HB := HB1
  clear hB1 h hI hx HV1 HK1 HB1
  go_enter Try.func12, Try.ntmps12
  go_upto_region 1 with fail
  rw [← hN, ← hW1]
  clear hN hW1
  by_cases h60 : 60 < L.length ∨ 60 < on
  · have hcs : (decide (60 < L.length) = true) ∨ (decide (60 < L.length) = false ∧ decide ((60 : Int) < (on : Int)) = true) := by
      by_cases h6 : 60 < L.length
      · exact .inl (decide_eq_true h6)
      · exact .inr ⟨decide_eq_false h6, decide_eq_true (by omega)⟩
    clear h60
    rcases hcs with d60 | ⟨d60, d61⟩
    all_goals
      rw [d60] at HGT
      clear d60
      go_wp2_with fail
      go_at_call 40
      refine Calls.mono (HGT.out _) ?_
      rintro e w' ⟨rfl, rfl⟩
      go_wp2_with fail
      go_at_call 41
      refine Calls.mono (HWK.out _) ?_
      rintro e W2 ⟨rfl, hB⟩
      have HB := Lib.hid (HB.out.trans (hB.mono HB.out.size))
      clear hB
      go_wp2_with fail
      go_ret
      exact ⟨rfl, HB.out⟩
  · have d60 : decide (60 < L.length) = false := decide_eq_false (by omega)
    have d61 : decide ((60 : Int) < (on : Int)) = false := decide_eq_false (by omega)
    have x0 : W1.cell? ⟨N, 0, none⟩ = some (.int .i64 x.id) := cell_at HX.out 0
    have xl : N < W1.heap.size := HX.out.lt
    have hn5 : L.length ≤ 200 := by omega
    rw [d60] at HGT
    clear d60 h60
    go_wp2_with fail
    go_at_call 40
    refine Calls.mono (HGT.out _) ?_
    rintro e w' ⟨rfl, rfl⟩
    have P1 := Lib.hid (pFind_any v L x.id W1 HV.out)
    rw [← KY.out, ← KB.out] at P1
    unfold TnE.agg at P1
    go_wp2_with fail
    go_at_call 51
    refine Calls.mono P1.out ?_
    rintro e W2 ⟨rfl, hB⟩
    have HV := Lib.hid (HV.out.below hB)
    have HX := Lib.hid (HX.out.step hB)
    have HII := Lib.hid (HII.out.below hB)
    have HB := Lib.hid (HB.out.trans (hB.mono HB.out.size))
    clear hB
    clear P1 x0 xl
    go_upto_region 4 with fail
    obtain ⟨A1, hA1⟩ : ∃ A1, A1 = W2.heap.size := ⟨_, rfl⟩
    obtain ⟨W3, hW⟩ : ∃ W0, W0 = W2.alloc (.cells #[.int .i64 y.id, .int .i64 y.rate, .int .i64 y.burst, .int .i64 y.bkt, .bool y.gone] 72) := ⟨_, rfl⟩
    have hB : Below W2.heap.size W2 W3 := by rw [hW]; exact (Below.refl _ _).alloc (Nat.le_refl _) _
    have HA1 := Lib.hid (show Blk W3 A1 #[.int .i64 y.id, .int .i64 y.rate, .int .i64 y.burst, .int .i64 y.bkt, .bool y.gone] 72 by rw [hW, hA1]; exact blk_new _ _ _)
    have HV := Lib.hid (HV.out.below hB)
    have HX := Lib.hid (HX.out.step hB)
    have HII := Lib.hid (HII.out.below hB)
    have HB := Lib.hid (HB.out.trans (hB.mono HB.out.size))
    rw [← hA1, ← hW]
    clear hW hA1 hB
    have P2 := Lib.hid (rfind_any v L x.id W3 HV.out)
    rw [← KY.out, ← KB.out] at P2
    unfold TnE.agg at P2
    have x0 : W3.cell? ⟨N, 0, none⟩ = some (.int .i64 x.id) := cell_at HX.out 0
    have xl : N < W3.heap.size := HX.out.lt
    go_wp2_with fail
    go_at_call 52
    refine Calls.mono P2.out ?_
    rintro e W4 ⟨rfl, hB⟩
    have HV := Lib.hid (HV.out.below hB)
    have HX := Lib.hid (HX.out.step hB)
    have HII := Lib.hid (HII.out.below hB)
    have HA1 := Lib.hid (HA1.out.step hB)
    have HB := Lib.hid (HB.out.trans (hB.mono HB.out.size))
    clear hB
    clear P2 x0 xl
    go_upto_region 5 with fail
    obtain ⟨A2, hA2⟩ : ∃ A2, A2 = W4.heap.size := ⟨_, rfl⟩
    obtain ⟨W5, hW⟩ : ∃ W0, W0 = W4.alloc (.cells #[.int .i64 y.id, .int .i64 y.rate, .int .i64 y.burst, .int .i64 y.bkt, .bool y.gone] 72) := ⟨_, rfl⟩
    have hB : Below W4.heap.size W4 W5 := by rw [hW]; exact (Below.refl _ _).alloc (Nat.le_refl _) _
    have HA2 := Lib.hid (show Blk W5 A2 #[.int .i64 y.id, .int .i64 y.rate, .int .i64 y.burst, .int .i64 y.bkt, .bool y.gone] 72 by rw [hW, hA2]; exact blk_new _ _ _)
    have HV := Lib.hid (HV.out.below hB)
    have HX := Lib.hid (HX.out.step hB)
    have HII := Lib.hid (HII.out.below hB)
    have HA1 := Lib.hid (HA1.out.step hB)
    have HB := Lib.hid (HB.out.trans (hB.mono HB.out.size))
    rw [← hA2, ← hW]
    clear hW hA2 hB
    have P3 := Lib.hid (pset_any v L x W5 HV.out hn5 HXO.out)
    rw [← KE.out, ← KS.out] at P3
    have x0 : W5.cell? ⟨N, 0, none⟩ = some (.int .i64 x.id) := cell_at HX.out 0
    have x1 : W5.cell? ⟨N, 1, none⟩ = some (.int .i64 x.rate) := cell_at HX.out 1
    have x2 : W5.cell? ⟨N, 2, none⟩ = some (.int .i64 x.burst) := cell_at HX.out 2
    have x3 : W5.cell? ⟨N, 3, none⟩ = some (.int .i64 x.bkt) := cell_at HX.out 3
    have x4 : W5.cell? ⟨N, 4, none⟩ = some (.bool x.gone) := cell_at HX.out 4
    have xl : N < W5.heap.size := HX.out.lt
    go_wp2_with fail
    go_at_call 53
    refine Calls.mono P3.out ?_
    rintro e W6 ⟨v3, rfl, hv3, hB⟩
    have HV := Lib.hid (HV.out.below hB)
    have HX := Lib.hid (HX.out.step hB)
    have HII := Lib.hid (HII.out.below hB)
    have HA1 := Lib.hid (HA1.out.step hB)
    have HA2 := Lib.hid (HA2.out.step hB)
    have HB := Lib.hid (HB.out.trans (hB.mono HB.out.size))
    clear hB
    clear P3 x0 x1 x2 x3 x4 xl
    have HV3 := Lib.hid hv3
    clear hv3
    have P4 := Lib.hid (rset_any v L x W6 HV.out hn5 HXO.out)
    rw [← KE.out, ← KS.out] at P4
    have x0 : W6.cell? ⟨N, 0, none⟩ = some (.int .i64 x.id) := cell_at HX.out 0
    have x1 : W6.cell? ⟨N, 1, none⟩ = some (.int .i64 x.rate) := cell_at HX.out 1
    have x2 : W6.cell? ⟨N, 2, none⟩ = some (.int .i64 x.burst) := cell_at HX.out 2
    have x3 : W6.cell? ⟨N, 3, none⟩ = some (.int .i64 x.bkt) := cell_at HX.out 3
    have x4 : W6.cell? ⟨N, 4, none⟩ = some (.bool x.gone) := cell_at HX.out 4
    have xl : N < W6.heap.size := HX.out.lt
    go_wp2_with fail
    go_at_call 54
    refine Calls.mono P4.out ?_
    rintro e W7 ⟨v4, rfl, hv4, hB⟩
    have HV := Lib.hid (HV.out.below hB)
    have HX := Lib.hid (HX.out.step hB)
    have HII := Lib.hid (HII.out.below hB)
    have HA1 := Lib.hid (HA1.out.step hB)
    have HA2 := Lib.hid (HA2.out.step hB)
    have HV3 := Lib.hid (HV3.out.below hB)
    have HB := Lib.hid (HB.out.trans (hB.mono HB.out.size))
    clear hB
    clear P4 x0 x1 x2 x3 x4 xl
    have HV4 := Lib.hid hv4
    clear hv4
    have P5 := Lib.hid (same_tv v3 v4 sY W7 HV3.out HV4.out)
    have heq := tn_eql y
    have g0 : W7.cell? ⟨A1, 0, none⟩ = some (.int .i64 y.id) := cell_at HA1.out 0
    have g1 : W7.cell? ⟨A1, 1, none⟩ = some (.int .i64 y.rate) := cell_at HA1.out 1
    have g2 : W7.cell? ⟨A1, 2, none⟩ = some (.int .i64 y.burst) := cell_at HA1.out 2
    have g3 : W7.cell? ⟨A1, 3, none⟩ = some (.int .i64 y.bkt) := cell_at HA1.out 3
    have g4 : W7.cell? ⟨A1, 4, none⟩ = some (.bool y.gone) := cell_at HA1.out 4
    have g9 : A1 < W7.heap.size := HA1.out.lt
    have k0 : W7.cell? ⟨A2, 0, none⟩ = some (.int .i64 y.id) := cell_at HA2.out 0
    have k1 : W7.cell? ⟨A2, 1, none⟩ = some (.int .i64 y.rate) := cell_at HA2.out 1
    have k2 : W7.cell? ⟨A2, 2, none⟩ = some (.int .i64 y.burst) := cell_at HA2.out 2
    have k3 : W7.cell? ⟨A2, 3, none⟩ = some (.int .i64 y.bkt) := cell_at HA2.out 3
    have k4 : W7.cell? ⟨A2, 4, none⟩ = some (.bool y.gone) := cell_at HA2.out 4
    have k9 : A2 < W7.heap.size := HA2.out.lt
    go_wp2_with fail
    go_at_call 44
    refine Calls.mono P5.out ?_
    rintro e W8 ⟨rfl, hB⟩
    have HV := Lib.hid (HV.out.below hB)
    have HX := Lib.hid (HX.out.step hB)
    have HII := Lib.hid (HII.out.below hB)
    have HA1 := Lib.hid (HA1.out.step hB)
    have HA2 := Lib.hid (HA2.out.step hB)
    have HV3 := Lib.hid (HV3.out.below hB)
    have HV4 := Lib.hid (HV4.out.below hB)
    have HB := Lib.hid (HB.out.trans (hB.mono HB.out.size))
    clear hB
    clear P5 g0 g1 g2 g3 g4 g9 k0 k1 k2 k3 k4 k9 heq
    have P6 := Lib.hid (psweep_any v L oa on oc ob oo T W8 HV.out HII.out hn5)
    rw [← KW.out] at P6
    go_wp2_with fail
    go_at_call 55
    refine Calls.mono P6.out ?_
    rintro e W9 ⟨v5, rfl, hv5, hB⟩
    have HV := Lib.hid (HV.out.below hB)
    have HX := Lib.hid (HX.out.step hB)
    have HII := Lib.hid (HII.out.below hB)
    have HA1 := Lib.hid (HA1.out.step hB)
    have HA2 := Lib.hid (HA2.out.step hB)
    have HV3 := Lib.hid (HV3.out.below hB)
    have HV4 := Lib.hid (HV4.out.below hB)
    have HB := Lib.hid (HB.out.trans (hB.mono HB.out.size))
    clear hB
    clear P6
    have HV5 := Lib.hid hv5
    clear hv5
    have P7 := Lib.hid (rsweep_any v L oa on oc ob oo T W9 HV.out HII.out hn5)
    rw [← KW.out] at P7
    go_wp2_with fail
    go_at_call 56
    refine Calls.mono P7.out ?_
    rintro e W10 ⟨v6, rfl, hv6, hB⟩
    have HV := Lib.hid (HV.out.below hB)
    have HX := Lib.hid (HX.out.step hB)
    have HII := Lib.hid (HII.out.below hB)
    have HA1 := Lib.hid (HA1.out.step hB)
    have HA2 := Lib.hid (HA2.out.step hB)
    have HV3 := Lib.hid (HV3.out.below hB)
    have HV4 := Lib.hid (HV4.out.below hB)
    have HV5 := Lib.hid (HV5.out.below hB)
    have HB := Lib.hid (HB.out.trans (hB.mono HB.out.size))
    clear hB
    clear P7
    have HV6 := Lib.hid hv6
    clear hv6
    have P8 := Lib.hid (same_tv v5 v6 wY W10 HV5.out HV6.out)
    go_wp2_with fail
    go_at_call 44
    refine Calls.mono P8.out ?_
    rintro e W11 ⟨rfl, hB⟩
    have HV := Lib.hid (HV.out.below hB)
    have HX := Lib.hid (HX.out.step hB)
    have HII := Lib.hid (HII.out.below hB)
    have HA1 := Lib.hid (HA1.out.step hB)
    have HA2 := Lib.hid (HA2.out.step hB)
    have HV3 := Lib.hid (HV3.out.below hB)
    have HV4 := Lib.hid (HV4.out.below hB)
    have HV5 := Lib.hid (HV5.out.below hB)
    have HV6 := Lib.hid (HV6.out.below hB)
    have HB := Lib.hid (HB.out.trans (hB.mono HB.out.size))
    clear hB
    clear P8
    have P9 := Lib.hid (HWK.out W11)
    go_wp2_with fail
    go_at_call 41
    refine Calls.mono P9.out ?_
    rintro e W12 ⟨rfl, hB⟩
    have HB := Lib.hid (HB.out.trans (hB.mono HB.out.size))
    clear hB
    go_wp2_with fail
    go_ret
    exact ⟨rfl, HB.out⟩
theorem tnt_inv {W : World} {x : Dt} (h : Fits Try.prog W 72 x) : ∃ (v0_0 : Int) (v0_1 : Int) (v0_2 : Int) (v0_3 : Int) (v0_4 : Bool), x.cells = [.int .i64 v0_0, .int .i64 v0_1, .int .i64 v0_2, .int .i64 v0_3, .bool v0_4] ∧ (-9223372036854775808 ≤ v0_0 ∧ v0_0 ≤ 9223372036854775807) ∧ (-9223372036854775808 ≤ v0_1 ∧ v0_1 ≤ 9223372036854775807) ∧ (-9223372036854775808 ≤ v0_2 ∧ v0_2 ≤ 9223372036854775807) ∧ (-9223372036854775808 ≤ v0_3 ∧ v0_3 ≤ 9223372036854775807) := by
  obtain ⟨l0, rfl, hl0, hf0⟩ := h.agg_inv Try.underlying72
  obtain ⟨y0_0, e0_0, f0_0⟩ := hf0 0 _ rfl
  obtain ⟨y0_1, e0_1, f0_1⟩ := hf0 1 _ rfl
  obtain ⟨y0_2, e0_2, f0_2⟩ := hf0 2 _ rfl
  obtain ⟨y0_3, e0_3, f0_3⟩ := hf0 3 _ rfl
  obtain ⟨y0_4, e0_4, f0_4⟩ := hf0 4 _ rfl
  obtain ⟨v0_0, rfl, gv0_0⟩ := f0_0.int_inv Try.underlying3
  obtain ⟨v0_1, rfl, gv0_1⟩ := f0_1.int_inv Try.underlying3
  obtain ⟨v0_2, rfl, gv0_2⟩ := f0_2.int_inv Try.underlying3
  obtain ⟨v0_3, rfl, gv0_3⟩ := f0_3.int_inv Try.underlying3
  obtain ⟨v0_4, rfl⟩ := f0_4.bool_inv Try.underlying4
  match l0, hl0 with
  | [z0_0, z0_1, z0_2, z0_3, z0_4], _ =>
    obtain rfl : z0_0 = _ := by simpa using e0_0
    obtain rfl : z0_1 = _ := by simpa using e0_1
    obtain rfl : z0_2 = _ := by simpa using e0_2
    obtain rfl : z0_3 = _ := by simpa using e0_3
    obtain rfl : z0_4 = _ := by simpa using e0_4
    exact ⟨v0_0, v0_1, v0_2, v0_3, v0_4, rfl, gv0_0, gv0_1, gv0_2, gv0_3⟩

theorem policyFinds_dt (a : Option Addr) (len cap : Nat) (xs : List Dt) (x : Dt) (oa : Option Addr) (on oc : Nat) (os : List Dt) (w : World) (h : SliceFits Try.prog w 72 a len cap xs) (hx : Fits Try.prog w 72 x) (hI : SliceFits Try.prog w 3 oa on oc os) :
    Calls Try.prog 12 #[.slice a len cap, .agg x.cells.toArray, .slice oa on oc] w fun e w' => e = .returned (.bool true) ∧ Below w.heap.size w w' := by
  obtain ⟨L, _, hL⟩ := tv_cells w h
  obtain ⟨v0, v1, v2, v3, v4, e, h0, h1, h2, h3⟩ := tnt_inv hx
  obtain ⟨ob, oo, T, hT⟩ := ints_cells w hI
  rw [e]
  exact policyFinds_walk _ L ⟨v0, v1, v2, v3, v4⟩ oa on oc ob oo T w hL ⟨h0, h1, h2, h3, trivial⟩ hT
end Go.Proofs.Ytpgpcgpecpimlaa
