/-
  A tenant put in its place, of both.
-/
import Derived.Test.YtpgpcgpecpimlaaPok
import Derived.Test.YtpgpcgpecpimlaaPof
import Derived.Test.YtpgpcgpecpimlaaPoc
import Derived.Test.YtpgpcgpecpimlaaPo2
import Derived.Deep.RegionLaw
namespace Go.Proofs.Ytpgpcgpecpimlaa
open Go.RowKit
set_option linter.unusedSimpArgs false
set_option linter.unusedVariables false

theorem may_id {x : TnE} : (decide (0 < x.id) && mayT x) = mayT x := by
  unfold mayT idB
  by_cases h : 1 ≤ x.id
  · rw [show decide (0 < x.id) = true by simp; omega]; rfl
  · simp [h]
def setB (L : List TnE) (x : TnE) : Bool := chk L && mayT x
def setL (L : List TnE) (x : TnE) : List TnE := if setB L x then layR x L else L
def setE (L : List TnE) (x : TnE) : Int := if setB L x then 0 else 2
theorem clone_tv2 (v : Value) (L : List TnE) (w : World) (h : TV w v L) (hn : L.length ≤ 200) : Calls Try.prog 90 #[v] w fun e w' => ∃ v', e = .returned v' ∧ TV w' v' L ∧ Below w.heap.size w w' :=
  (clone_tv v L w h hn).mono fun _ _ ⟨v', e, h2, hB⟩ => ⟨v', e, h2.tv, hB⟩
set_option maxRecDepth 100000 in
set_option maxHeartbeats 8000000 in
theorem pset_any (v : Value) (L : List TnE) (x : TnE) (w : World) (h : TV w v L) (hn5 : L.length ≤ 200) (hx : x.ok) : Calls Try.prog 53 #[v, .agg #[.int .i64 x.id, .int .i64 x.rate, .int .i64 x.burst, .int .i64 x.bkt, .bool x.gone]] w fun e w' => ∃ v', e = .returned (.tuple #[v', .int .i64 (setE L x)]) ∧ TV w' v' (setL L x) ∧ Below w.heap.size w w' := by
  have HVW := Lib.hid h
  obtain ⟨N, hN⟩ : ∃ N, N = w.heap.size := ⟨_, rfl⟩
  obtain ⟨W1, hW1⟩ : ∃ W1, W1 = w.alloc (.cells #[.int .i64 x.id, .int .i64 x.rate, .int .i64 x.burst, .int .i64 x.bkt, .bool x.gone] 72) := ⟨_, rfl⟩
  have hB1 : Below w.heap.size w W1 := by rw [hW1]; exact (Below.refl _ _).alloc (Nat.le_refl _) _
  have HK1 : Hid (Blk W1 N #[.int .i64 x.id, .int .i64 x.rate, .int .i64 x.burst, .int .i64 x.bkt, .bool x.gone] 72) := Lib.hid (by rw [hW1, hN]; exact blk_new _ _ _)
  have HV1 := Lib.hid (h.below hB1)
  have HB1 := Lib.hid hB1
  have HNB : Hid (w.heap.size ≤ N) := Lib.hid (by rw [hN]; exact Nat.le_refl _)
  clear hB1 h
  obtain ⟨Y, hY⟩ : ∃ Y, Y = setL L x := ⟨_, rfl⟩
  obtain ⟨E, hE⟩ : ∃ E, E = setE L x := ⟨_, rfl⟩
  rw [← hY, ← hE]
  have HY := Lib.hid hY
  have HE := Lib.hid hE
  obtain ⟨C, hC⟩ : ∃ C, C = chk L := ⟨_, rfl⟩
  have HC := Lib.hid hC
  have HXO := Lib.hid hx
  have HCK := Lib.hid (pcheck_any v L W1 HV1.out)
  rw [← hC] at HCK
  obtain ⟨M, hM⟩ : ∃ M, M = mayT x := ⟨_, rfl⟩
  have HM := Lib.hid hM
  have HMY := Lib.hid (fun W => mayT_any x W)
  unfold TnE.agg at HMY
  rw [← hM] at HMY
  clear hY hE hC hM hx
  go_enter Try.func53, Try.ntmps53
  go_upto_region 1 with fail
  rw [← hN, ← hW1]
  clear hN hW1
  cases C
  · have hsb : setB L x = false := by unfold setB; rw [← HC.out]; rfl
    have hYx : Y = L := by rw [HY.out]; unfold setL; rw [hsb]; rfl
    have hEx : E = 2 := by rw [HE.out]; unfold setE; rw [hsb]; rfl
    have HYX := Lib.hid hYx
    subst hEx
    clear hYx hsb
    go_wp2_with fail
    go_at_call 45
    refine Calls.mono HCK.out ?_
    rintro e W2 ⟨rfl, hB⟩
    have HK2 := Lib.hid (HK1.out.step hB)
    have HB2 := Lib.hid (HB1.out.trans (hB.mono HB1.out.size))
    have HCL := Lib.hid (clone_tv2 v L W2 (HVW.out.below HB2.out) hn5)
    clear hB
    go_wp2_with fail
    go_at_call 90
    refine Calls.mono HCL.out ?_
    rintro e W9 ⟨v9, rfl, hv9, hB⟩
    have HV9 := Lib.hid hv9
    have HB9 := Lib.hid (HB2.out.trans (hB.mono HB2.out.size))
    clear hv9 hB
    go_wp2_with fail
    exact bodyPost_ret (v := .tuple #[v9, .int .i64 2]) (by simp [results, Try.results53, go_sem]) rfl ⟨_, rfl, by rw [HYX.out]; exact HV9.out, HB9.out⟩
  · go_wp2_with fail
    go_at_call 45
    refine Calls.mono HCK.out ?_
    rintro e W2 ⟨rfl, hB⟩
    have HK2 := Lib.hid (HK1.out.step hB)
    have HB2 := Lib.hid (HB1.out.trans (hB.mono HB1.out.size))
    clear hB
    have q0 : W2.cell? ⟨N, 0, none⟩ = some (.int .i64 x.id) := cell_at HK2.out 0
    have q1 : W2.cell? ⟨N, 1, none⟩ = some (.int .i64 x.rate) := cell_at HK2.out 1
    have q2 : W2.cell? ⟨N, 2, none⟩ = some (.int .i64 x.burst) := cell_at HK2.out 2
    have q3 : W2.cell? ⟨N, 3, none⟩ = some (.int .i64 x.bkt) := cell_at HK2.out 3
    have q4 : W2.cell? ⟨N, 4, none⟩ = some (.bool x.gone) := cell_at HK2.out 4
    have zq : ∀ j, W2.frozen? ⟨N, j, none⟩ = false := fun j => free_at HK2.out j
    have lq : N < W2.heap.size := HK2.out.lt
    cases M
    · have hsb : setB L x = false := by unfold setB; rw [← HC.out, ← HM.out]; rfl
      have hYx : Y = L := by rw [HY.out]; unfold setL; rw [hsb]; rfl
      have hEx : E = 2 := by rw [HE.out]; unfold setE; rw [hsb]; rfl
      have HYX := Lib.hid hYx
      subst hEx
      clear hYx hsb
      go_wp2_with fail
      go_at_call 86
      refine Calls.mono (HMY.out _) ?_
      rintro e W3 ⟨rfl, hB⟩
      have HB3 := Lib.hid (HB2.out.trans (hB.mono HB2.out.size))
      have HCL := Lib.hid (clone_tv2 v L W3 (HVW.out.below HB3.out) hn5)
      clear hB q0 q1 q2 q3 q4 zq lq
      go_wp2_with fail
      go_at_call 90
      refine Calls.mono HCL.out ?_
      rintro e W9 ⟨v9, rfl, hv9, hB⟩
      have HV9 := Lib.hid hv9
      have HB9 := Lib.hid (HB3.out.trans (hB.mono HB3.out.size))
      clear hv9 hB
      go_wp2_with fail
      exact bodyPost_ret (v := .tuple #[v9, .int .i64 2]) (by simp [results, Try.results53, go_sem]) rfl ⟨_, rfl, by rw [HYX.out]; exact HV9.out, HB9.out⟩
    · have hsb : setB L x = true := by unfold setB; rw [← HC.out, ← HM.out]; rfl
      have hYx : Y = layR x L := by rw [HY.out]; unfold setL; rw [hsb]; rfl
      have hEx : E = 0 := by rw [HE.out]; unfold setE; rw [hsb]; rfl
      have HYX := Lib.hid hYx
      subst hEx
      clear hYx hsb
      go_wp2_with fail
      go_at_call 86
      refine Calls.mono (HMY.out _) ?_
      rintro e W3 ⟨rfl, hB⟩
      have HK3 := Lib.hid (HK2.out.step hB)
      have HB3 := Lib.hid (HB2.out.trans (hB.mono HB2.out.size))
      clear hB q0 q1 q2 q3 q4 zq lq
      have HLY := Lib.hid (lay_any v L x W3 (HVW.out.below HB3.out) hn5 HXO.out)
      unfold TnE.agg at HLY
      rw [layL_eq, ← HYX.out] at HLY
      have q0 : W3.cell? ⟨N, 0, none⟩ = some (.int .i64 x.id) := cell_at HK3.out 0
      have q1 : W3.cell? ⟨N, 1, none⟩ = some (.int .i64 x.rate) := cell_at HK3.out 1
      have q2 : W3.cell? ⟨N, 2, none⟩ = some (.int .i64 x.burst) := cell_at HK3.out 2
      have q3 : W3.cell? ⟨N, 3, none⟩ = some (.int .i64 x.bkt) := cell_at HK3.out 3
      have q4 : W3.cell? ⟨N, 4, none⟩ = some (.bool x.gone) := cell_at HK3.out 4
      have zq : ∀ j, W3.frozen? ⟨N, j, none⟩ = false := fun j => free_at HK3.out j
      have lq : N < W3.heap.size := HK3.out.lt
      go_wp2_with fail
      go_at_call 80
      refine Calls.mono HLY.out ?_
      rintro e W4 ⟨v4, rfl, hv4, hB⟩
      have HV4 := Lib.hid hv4.tv
      have HB4 := Lib.hid (HB3.out.trans (hB.mono HB3.out.size))
      clear hv4 hB
      go_wp2_with fail
      exact bodyPost_ret (v := .tuple #[v4, .int .i64 0]) (by simp [results, Try.results53, go_sem]) rfl ⟨_, rfl, HV4.out, HB4.out⟩
set_option maxRecDepth 100000 in
set_option maxHeartbeats 8000000 in
theorem rset_any (v : Value) (L : List TnE) (x : TnE) (w : World) (h : TV w v L) (hn5 : L.length ≤ 200) (hx : x.ok) : Calls Try.prog 54 #[v, .agg #[.int .i64 x.id, .int .i64 x.rate, .int .i64 x.burst, .int .i64 x.bkt, .bool x.gone]] w fun e w' => ∃ v', e = .returned (.tuple #[v', .int .i64 (setE L x)]) ∧ TV w' v' (setL L x) ∧ Below w.heap.size w w' := by
  have HVW := Lib.hid h
  obtain ⟨N, hN⟩ : ∃ N, N = w.heap.size := ⟨_, rfl⟩
  obtain ⟨W1, hW1⟩ : ∃ W1, W1 = w.alloc (.cells #[.int .i64 x.id, .int .i64 x.rate, .int .i64 x.burst, .int .i64 x.bkt, .bool x.gone] 72) := ⟨_, rfl⟩
  have hB1 : Below w.heap.size w W1 := by rw [hW1]; exact (Below.refl _ _).alloc (Nat.le_refl _) _
  have HK1 : Hid (Blk W1 N #[.int .i64 x.id, .int .i64 x.rate, .int .i64 x.burst, .int .i64 x.bkt, .bool x.gone] 72) := Lib.hid (by rw [hW1, hN]; exact blk_new _ _ _)
  have HV1 := Lib.hid (h.below hB1)
  have HB1 := Lib.hid hB1
  have HNB : Hid (w.heap.size ≤ N) := Lib.hid (by rw [hN]; exact Nat.le_refl _)
  clear hB1 h
  obtain ⟨Y, hY⟩ : ∃ Y, Y = setL L x := ⟨_, rfl⟩
  obtain ⟨E, hE⟩ : ∃ E, E = setE L x := ⟨_, rfl⟩
  rw [← hY, ← hE]
  have HY := Lib.hid hY
  have HE := Lib.hid hE
  obtain ⟨C, hC⟩ : ∃ C, C = chk L := ⟨_, rfl⟩
  have HC := Lib.hid hC
  have HXO := Lib.hid hx
  have HCK := Lib.hid (rcheck_any v L W1 HV1.out)
  rw [← hC] at HCK
  obtain ⟨M, hM⟩ : ∃ M, M = mayT x := ⟨_, rfl⟩
  have HM := Lib.hid hM
  clear hY hE hC hM hx
  go_enter Try.func54, Try.ntmps54
  go_upto_region 1 with fail
  rw [← hN, ← hW1]
  clear hN hW1
  cases C
  · have hsb : setB L x = false := by unfold setB; rw [← HC.out]; rfl
    have hYx : Y = L := by rw [HY.out]; unfold setL; rw [hsb]; rfl
    have hEx : E = 2 := by rw [HE.out]; unfold setE; rw [hsb]; rfl
    have HYX := Lib.hid hYx
    subst hEx
    clear hYx hsb
    go_wp2_with fail
    go_at_call 46
    refine Calls.mono HCK.out ?_
    rintro e W2 ⟨rfl, hB⟩
    have HK2 := Lib.hid (HK1.out.step hB)
    have HB2 := Lib.hid (HB1.out.trans (hB.mono HB1.out.size))
    clear hB
    go_wp2_with fail
    exact bodyPost_ret (v := .tuple #[v, .int .i64 2]) (by simp [results, Try.results54, go_sem]) rfl ⟨_, rfl, by rw [HYX.out]; exact HVW.out.below HB2.out, HB2.out⟩
  · go_wp2_with fail
    go_at_call 46
    refine Calls.mono HCK.out ?_
    rintro e W2 ⟨rfl, hB⟩
    have HK2 := Lib.hid (HK1.out.step hB)
    have HB2 := Lib.hid (HB1.out.trans (hB.mono HB1.out.size))
    clear hB
    have HWI := Lib.hid (with_any v L x W2 (HVW.out.below HB2.out) hn5 HXO.out)
    unfold TnE.agg at HWI
    rw [withF_lay _ L 0 HC.out.symm] at HWI
    have HCL : Hid (chk (layR x L) = mayT x) := Lib.hid ((chk_lay x L 0 HC.out.symm).trans may_id)
    have q0 : W2.cell? ⟨N, 0, none⟩ = some (.int .i64 x.id) := cell_at HK2.out 0
    have q1 : W2.cell? ⟨N, 1, none⟩ = some (.int .i64 x.rate) := cell_at HK2.out 1
    have q2 : W2.cell? ⟨N, 2, none⟩ = some (.int .i64 x.burst) := cell_at HK2.out 2
    have q3 : W2.cell? ⟨N, 3, none⟩ = some (.int .i64 x.bkt) := cell_at HK2.out 3
    have q4 : W2.cell? ⟨N, 4, none⟩ = some (.bool x.gone) := cell_at HK2.out 4
    have zq : ∀ j, W2.frozen? ⟨N, j, none⟩ = false := fun j => free_at HK2.out j
    have lq : N < W2.heap.size := HK2.out.lt
    go_wp2_with fail
    go_at_call 85
    refine Calls.mono HWI.out ?_
    rintro e W3 ⟨v3, rfl, hv3, hB⟩
    have HV3 := Lib.hid hv3.tv
    have HB3 := Lib.hid (HB2.out.trans (hB.mono HB2.out.size))
    have HC2 := Lib.hid (rcheck_any v3 (layR x L) W3 HV3.out)
    rw [HCL.out, ← HM.out] at HC2
    clear hv3 hB q0 q1 q2 q3 q4 zq lq
    cases M
    · have hsb : setB L x = false := by unfold setB; rw [← HC.out, ← HM.out]; rfl
      have hYx : Y = L := by rw [HY.out]; unfold setL; rw [hsb]; rfl
      have hEx : E = 2 := by rw [HE.out]; unfold setE; rw [hsb]; rfl
      have HYX := Lib.hid hYx
      subst hEx
      clear hYx hsb
      go_wp2_with fail
      go_at_call 46
      refine Calls.mono HC2.out ?_
      rintro e W4 ⟨rfl, hB⟩
      have HB4 := Lib.hid (HB3.out.trans (hB.mono HB3.out.size))
      clear hB
      go_wp2_with fail
      exact bodyPost_ret (v := .tuple #[v, .int .i64 2]) (by simp [results, Try.results54, go_sem]) rfl ⟨_, rfl, by rw [HYX.out]; exact HVW.out.below HB4.out, HB4.out⟩
    · have hsb : setB L x = true := by unfold setB; rw [← HC.out, ← HM.out]; rfl
      have hYx : Y = layR x L := by rw [HY.out]; unfold setL; rw [hsb]; rfl
      have hEx : E = 0 := by rw [HE.out]; unfold setE; rw [hsb]; rfl
      have HYX := Lib.hid hYx
      subst hEx
      clear hYx hsb
      go_wp2_with fail
      go_at_call 46
      refine Calls.mono HC2.out ?_
      rintro e W4 ⟨rfl, hB⟩
      have HB4 := Lib.hid (HB3.out.trans (hB.mono HB3.out.size))
      have HV4 := Lib.hid (HV3.out.below hB)
      clear hB
      go_wp2_with fail
      exact bodyPost_ret (v := .tuple #[v3, .int .i64 0]) (by simp [results, Try.results54, go_sem]) rfl ⟨_, rfl, by rw [HYX.out]; exact HV4.out, HB4.out⟩
end Go.Proofs.Ytpgpcgpecpimlaa
