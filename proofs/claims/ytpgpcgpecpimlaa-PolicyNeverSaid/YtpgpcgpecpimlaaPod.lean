/-
  A policy put: the program.
-/
import Derived.Test.YtpgpcgpecpimlaaPob
import Derived.Test.YtpgpcgpecpimlaaPo9
import Derived.Test.YtpgpcgpecpimlaaPo2
import Derived.Deep.RegionLaw
namespace Go.Proofs.Ytpgpcgpecpimlaa
open Go.RowKit
set_option linter.unusedSimpArgs false
set_option linter.unusedVariables false

theorem cut_max (b burst out : Int) : cut b burst (max out 0) = cut b burst out := by unfold cut room within; omega
def putE (L : List TnE) (id rate burst : Int) : Int := if chk L then (if idB id then (if mayB rate burst then 0 else 160) else 161) else 2
def putX (L : List TnE) (id rate burst out : Int) : TnE := ⟨id, rate, burst, cut ((fnd id L).getD z0).bkt burst out, false⟩
def putL (L : List TnE) (id rate burst out : Int) : List TnE := if putE L id rate burst = 0 then layR (putX L id rate burst out) L else L
def putA (L : List TnE) (id rate burst : Int) : Value := if putE L id rate burst = 0 then ansV 0 rate burst else ansV (putE L id rate burst) 0 0
theorem putE_chk {L : List TnE} {id rate burst : Int} (h : chk L = false) : putE L id rate burst = 2 := by unfold putE; rw [h]; rfl
theorem putE_id {L : List TnE} {id rate burst : Int} (h : chk L = true) (h1 : idB id = false) : putE L id rate burst = 161 := by unfold putE; rw [h, h1]; rfl
theorem putE_may {L : List TnE} {id rate burst : Int} (h : chk L = true) (h1 : idB id = true) (h2 : mayB rate burst = false) : putE L id rate burst = 160 := by unfold putE; rw [h, h1, h2]; rfl
theorem putE_ok {L : List TnE} {id rate burst : Int} (h : chk L = true) (h1 : idB id = true) (h2 : mayB rate burst = true) : putE L id rate burst = 0 := by unfold putE; rw [h, h1, h2]; rfl
theorem putX_ok {L : List TnE} {id rate burst out : Int} (h1 : idB id = true) (h2 : mayB rate burst = true) : (putX L id rate burst out).ok := by
  have a : 1 ≤ id ∧ id ≤ 16 := by simpa [idB] using h1
  have b : 0 ≤ rate ∧ rate ≤ 1000000 ∧ 0 ≤ burst ∧ burst ≤ 1000000 := by simpa [mayB] using h2
  have c := room_bd burst out
  have d := within_bd ((fnd id L).getD z0).bkt (room burst out) c.1
  unfold TnE.ok putX cut
  simp only
  refine ⟨?_, ?_, ?_, ?_, ?_⟩ <;> first | omega | trivial
theorem below_set {B : Nat} {w X : World} (h : Below B w X) (p : Addr) (hp : B ≤ p.block) (hw : B ≤ w.heap.size) (u : Value) : Below B w (X.setCell p u) :=
  ⟨h.os, h.tape, h.output, by simpa using h.size, fun k hk => (heap_setCell_ne X p u k (by omega)).trans (h.block k hk)⟩
set_option maxRecDepth 100000 in
set_option maxHeartbeats 8000000 in
theorem pput_any (v : Value) (L : List TnE) (id rate burst out : Int) (w : World) (h : TV w v L) (hn5 : L.length ≤ 200) (ho : out ≤ 9223372036854775807) : Calls Try.prog 42 #[v, .int .i64 id, .int .i64 rate, .int .i64 burst, .int .i64 out] w fun e w' => ∃ v', e = .returned (.tuple #[v', putA L id rate burst]) ∧ TV w' v' (putL L id rate burst out) ∧ Below w.heap.size w w' := by
  have HVW := Lib.hid h
  obtain ⟨N, hN⟩ : ∃ N, N = w.heap.size := ⟨_, rfl⟩
  obtain ⟨W1, hW1⟩ : ∃ W1, W1 = w.alloc (.cells #[.int .i64 0, .int .i64 0, .int .i64 0, .int .i64 0, .int .i64 0] 63) := ⟨_, rfl⟩
  have hB1 : Below w.heap.size w W1 := by rw [hW1]; exact (Below.refl _ _).alloc (Nat.le_refl _) _
  have HK1 : Hid (Blk W1 N #[.int .i64 0, .int .i64 0, .int .i64 0, .int .i64 0, .int .i64 0] 63) := Lib.hid (by rw [hW1, hN]; exact blk_new _ _ _)
  have HV1 := Lib.hid (h.below hB1)
  have HB1 := Lib.hid hB1
  have HNB : Hid (w.heap.size ≤ N) := Lib.hid (by rw [hN]; exact Nat.le_refl _)
  clear hB1 h
  obtain ⟨Y, hY⟩ : ∃ Y, Y = putL L id rate burst out := ⟨_, rfl⟩
  obtain ⟨R, hR⟩ : ∃ R, R = putA L id rate burst := ⟨_, rfl⟩
  rw [← hY, ← hR]
  have HY := Lib.hid hY
  have HR := Lib.hid hR
  obtain ⟨C, hC⟩ : ∃ C, C = chk L := ⟨_, rfl⟩
  have HC := Lib.hid hC
  obtain ⟨I, hI⟩ : ∃ I, I = idB id := ⟨_, rfl⟩
  have HI := Lib.hid hI
  obtain ⟨M, hM⟩ : ∃ M, M = mayB rate burst := ⟨_, rfl⟩
  have HM := Lib.hid hM
  have HCK := Lib.hid (pcheck_any v L W1 HV1.out)
  rw [← hC] at HCK
  have HID := Lib.hid (fun W => isId_any id W)
  rw [← hI] at HID
  have HMY := Lib.hid (fun W => may_any rate burst W)
  rw [← hM] at HMY
  clear hY hR hC hI hM
  go_enter Try.func42, Try.ntmps42
  go_upto_region 1 with fail
  rw [← hN, ← hW1]
  clear hN hW1
  cases C
  · go_wp2_with fail
    go_at_call 45
    refine Calls.mono HCK.out ?_
    rintro e W2 ⟨rfl, hB⟩
    have HK2 := Lib.hid (HK1.out.step hB)
    have HB2 := Lib.hid (HB1.out.trans (hB.mono HB1.out.size))
    clear hB
    have hE := putE_chk (id := id) (rate := rate) (burst := burst) HC.out.symm
    have hRx : R = ansV 2 0 0 := by rw [HR.out]; unfold putA; rw [hE]; rfl
    have hYx : Y = L := by rw [HY.out]; unfold putL; rw [hE]; rfl
    have HYX := Lib.hid hYx
    unfold ansV at hRx
    subst hRx
    clear hE hYx
    have HRF := Lib.hid (refuse_any v L 2 W2 (HVW.out.below HB2.out) hn5)
    unfold ansV at HRF
    go_wp2_with fail
    go_at_call 75
    refine Calls.mono HRF.out ?_
    rintro e W9 ⟨v9, rfl, hv9, hB⟩
    have HK9 := Lib.hid (HK2.out.step hB)
    have HB9 := Lib.hid (HB2.out.trans (hB.mono HB2.out.size))
    have HV9 := Lib.hid hv9
    have hN9 : N < W2.heap.size := HK2.out.lt
    have HN9 := Lib.hid hN9
    clear hv9 hB hN9
    have q0 : W9.cell? ⟨N, 0, none⟩ = some (.int .i64 0) := cell_at HK9.out 0
    have q1 : W9.cell? ⟨N, 1, none⟩ = some (.int .i64 0) := cell_at HK9.out 1
    have q2 : W9.cell? ⟨N, 2, none⟩ = some (.int .i64 0) := cell_at HK9.out 2
    have q3 : W9.cell? ⟨N, 3, none⟩ = some (.int .i64 0) := cell_at HK9.out 3
    have q4 : W9.cell? ⟨N, 4, none⟩ = some (.int .i64 0) := cell_at HK9.out 4
    have zq : ∀ j, W9.frozen? ⟨N, j, none⟩ = false := fun j => free_at HK9.out j
    have lq : N < W9.heap.size := HK9.out.lt
    go_wp2_with fail
    clear q0 q1 q2 q3 q4
    obtain ⟨LS, hLS⟩ : ∃ L : List Value, L = [.int .i64 2, .int .i64 0, .int .i64 0, .int .i64 0, .int .i64 0] := ⟨_, rfl⟩
    obtain ⟨WS, hWS⟩ : ∃ WS, WS = W9.setCells (N) 0 LS := ⟨_, rfl⟩
    have hchS := hWS
    rw [hLS] at hchS
    simp only [World.setCells, Nat.zero_add, Nat.reduceAdd] at hchS
    rw [← hchS]
    clear hchS
    have hkS := stC_blk HK9.out LS (by rw [hLS]; rfl)
    have hfrS := stC_fr (N) LS 0 W9
    rw [← hWS] at hkS hfrS
    rw [hLS] at hkS
    have r0 : WS.cell? ⟨N, 0, none⟩ = some (.int .i64 2) := cell_at hkS 0
    have r1 : WS.cell? ⟨N, 1, none⟩ = some (.int .i64 0) := cell_at hkS 1
    have r2 : WS.cell? ⟨N, 2, none⟩ = some (.int .i64 0) := cell_at hkS 2
    have r3 : WS.cell? ⟨N, 3, none⟩ = some (.int .i64 0) := cell_at hkS 3
    have r4 : WS.cell? ⟨N, 4, none⟩ = some (.int .i64 0) := cell_at hkS 4
    clear hWS hLS
    have hBS := HB9.out.trans (hfrS.below HB9.out.size (by have := HNB.out; simp; omega))
    exact bodyPost_ret (v := .tuple #[v9, .agg #[.int .i64 2, .int .i64 0, .int .i64 0, .int .i64 0, .int .i64 0]]) (by simp [results, Try.results42, go_sem, r0, r1, r2, r3, r4]) rfl ⟨_, rfl, by rw [HYX.out]; exact (HV9.out.fr hfrS HN9.out).tv, hBS⟩
  · go_wp2_with fail
    go_at_call 45
    refine Calls.mono HCK.out ?_
    rintro e W2 ⟨rfl, hB⟩
    have HK2 := Lib.hid (HK1.out.step hB)
    have HB2 := Lib.hid (HB1.out.trans (hB.mono HB1.out.size))
    clear hB
    cases I
    · go_wp2_with fail
      go_at_call 76
      refine Calls.mono (HID.out _) ?_
      rintro e w' ⟨rfl, rfl⟩
      have hE := putE_id (rate := rate) (burst := burst) HC.out.symm HI.out.symm
      have hRx : R = ansV 161 0 0 := by rw [HR.out]; unfold putA; rw [hE]; rfl
      have hYx : Y = L := by rw [HY.out]; unfold putL; rw [hE]; rfl
      have HYX := Lib.hid hYx
      unfold ansV at hRx
      subst hRx
      clear hE hYx
      have HRF := Lib.hid (refuse_any v L 161 W2 (HVW.out.below HB2.out) hn5)
      unfold ansV at HRF
      go_wp2_with fail
      go_at_call 75
      refine Calls.mono HRF.out ?_
      rintro e W9 ⟨v9, rfl, hv9, hB⟩
      have HK9 := Lib.hid (HK2.out.step hB)
      have HB9 := Lib.hid (HB2.out.trans (hB.mono HB2.out.size))
      have HV9 := Lib.hid hv9
      have hN9 : N < W2.heap.size := HK2.out.lt
      have HN9 := Lib.hid hN9
      clear hv9 hB hN9
      have q0 : W9.cell? ⟨N, 0, none⟩ = some (.int .i64 0) := cell_at HK9.out 0
      have q1 : W9.cell? ⟨N, 1, none⟩ = some (.int .i64 0) := cell_at HK9.out 1
      have q2 : W9.cell? ⟨N, 2, none⟩ = some (.int .i64 0) := cell_at HK9.out 2
      have q3 : W9.cell? ⟨N, 3, none⟩ = some (.int .i64 0) := cell_at HK9.out 3
      have q4 : W9.cell? ⟨N, 4, none⟩ = some (.int .i64 0) := cell_at HK9.out 4
      have zq : ∀ j, W9.frozen? ⟨N, j, none⟩ = false := fun j => free_at HK9.out j
      have lq : N < W9.heap.size := HK9.out.lt
      go_wp2_with fail
      clear q0 q1 q2 q3 q4
      obtain ⟨LS, hLS⟩ : ∃ L : List Value, L = [.int .i64 161, .int .i64 0, .int .i64 0, .int .i64 0, .int .i64 0] := ⟨_, rfl⟩
      obtain ⟨WS, hWS⟩ : ∃ WS, WS = W9.setCells (N) 0 LS := ⟨_, rfl⟩
      have hchS := hWS
      rw [hLS] at hchS
      simp only [World.setCells, Nat.zero_add, Nat.reduceAdd] at hchS
      rw [← hchS]
      clear hchS
      have hkS := stC_blk HK9.out LS (by rw [hLS]; rfl)
      have hfrS := stC_fr (N) LS 0 W9
      rw [← hWS] at hkS hfrS
      rw [hLS] at hkS
      have r0 : WS.cell? ⟨N, 0, none⟩ = some (.int .i64 161) := cell_at hkS 0
      have r1 : WS.cell? ⟨N, 1, none⟩ = some (.int .i64 0) := cell_at hkS 1
      have r2 : WS.cell? ⟨N, 2, none⟩ = some (.int .i64 0) := cell_at hkS 2
      have r3 : WS.cell? ⟨N, 3, none⟩ = some (.int .i64 0) := cell_at hkS 3
      have r4 : WS.cell? ⟨N, 4, none⟩ = some (.int .i64 0) := cell_at hkS 4
      clear hWS hLS
      have hBS := HB9.out.trans (hfrS.below HB9.out.size (by have := HNB.out; simp; omega))
      exact bodyPost_ret (v := .tuple #[v9, .agg #[.int .i64 161, .int .i64 0, .int .i64 0, .int .i64 0, .int .i64 0]]) (by simp [results, Try.results42, go_sem, r0, r1, r2, r3, r4]) rfl ⟨_, rfl, by rw [HYX.out]; exact (HV9.out.fr hfrS HN9.out).tv, hBS⟩
    · go_wp2_with fail
      go_at_call 76
      refine Calls.mono (HID.out _) ?_
      rintro e w' ⟨rfl, rfl⟩
      cases M
      · go_wp2_with fail
        go_at_call 77
        refine Calls.mono (HMY.out _) ?_
        rintro e w' ⟨rfl, rfl⟩
        have hE := putE_may HC.out.symm HI.out.symm HM.out.symm
        have hRx : R = ansV 160 0 0 := by rw [HR.out]; unfold putA; rw [hE]; rfl
        have hYx : Y = L := by rw [HY.out]; unfold putL; rw [hE]; rfl
        have HYX := Lib.hid hYx
        unfold ansV at hRx
        subst hRx
        clear hE hYx
        have HRF := Lib.hid (refuse_any v L 160 W2 (HVW.out.below HB2.out) hn5)
        unfold ansV at HRF
        go_wp2_with fail
        go_at_call 75
        refine Calls.mono HRF.out ?_
        rintro e W9 ⟨v9, rfl, hv9, hB⟩
        have HK9 := Lib.hid (HK2.out.step hB)
        have HB9 := Lib.hid (HB2.out.trans (hB.mono HB2.out.size))
        have HV9 := Lib.hid hv9
        have hN9 : N < W2.heap.size := HK2.out.lt
        have HN9 := Lib.hid hN9
        clear hv9 hB hN9
        have q0 : W9.cell? ⟨N, 0, none⟩ = some (.int .i64 0) := cell_at HK9.out 0
        have q1 : W9.cell? ⟨N, 1, none⟩ = some (.int .i64 0) := cell_at HK9.out 1
        have q2 : W9.cell? ⟨N, 2, none⟩ = some (.int .i64 0) := cell_at HK9.out 2
        have q3 : W9.cell? ⟨N, 3, none⟩ = some (.int .i64 0) := cell_at HK9.out 3
        have q4 : W9.cell? ⟨N, 4, none⟩ = some (.int .i64 0) := cell_at HK9.out 4
        have zq : ∀ j, W9.frozen? ⟨N, j, none⟩ = false := fun j => free_at HK9.out j
        have lq : N < W9.heap.size := HK9.out.lt
        go_wp2_with fail
        clear q0 q1 q2 q3 q4
        obtain ⟨LS, hLS⟩ : ∃ L : List Value, L = [.int .i64 160, .int .i64 0, .int .i64 0, .int .i64 0, .int .i64 0] := ⟨_, rfl⟩
        obtain ⟨WS, hWS⟩ : ∃ WS, WS = W9.setCells (N) 0 LS := ⟨_, rfl⟩
        have hchS := hWS
        rw [hLS] at hchS
        simp only [World.setCells, Nat.zero_add, Nat.reduceAdd] at hchS
        rw [← hchS]
        clear hchS
        have hkS := stC_blk HK9.out LS (by rw [hLS]; rfl)
        have hfrS := stC_fr (N) LS 0 W9
        rw [← hWS] at hkS hfrS
        rw [hLS] at hkS
        have r0 : WS.cell? ⟨N, 0, none⟩ = some (.int .i64 160) := cell_at hkS 0
        have r1 : WS.cell? ⟨N, 1, none⟩ = some (.int .i64 0) := cell_at hkS 1
        have r2 : WS.cell? ⟨N, 2, none⟩ = some (.int .i64 0) := cell_at hkS 2
        have r3 : WS.cell? ⟨N, 3, none⟩ = some (.int .i64 0) := cell_at hkS 3
        have r4 : WS.cell? ⟨N, 4, none⟩ = some (.int .i64 0) := cell_at hkS 4
        clear hWS hLS
        have hBS := HB9.out.trans (hfrS.below HB9.out.size (by have := HNB.out; simp; omega))
        exact bodyPost_ret (v := .tuple #[v9, .agg #[.int .i64 160, .int .i64 0, .int .i64 0, .int .i64 0, .int .i64 0]]) (by simp [results, Try.results42, go_sem, r0, r1, r2, r3, r4]) rfl ⟨_, rfl, by rw [HYX.out]; exact (HV9.out.fr hfrS HN9.out).tv, hBS⟩
      · have hE := putE_ok HC.out.symm HI.out.symm HM.out.symm
        have hRx : R = ansV 0 rate burst := by rw [HR.out]; unfold putA; rw [hE]; rfl
        have hYx : Y = layR (putX L id rate burst out) L := by rw [HY.out]; unfold putL; rw [hE]; rfl
        have HYX := Lib.hid hYx
        have HXO := Lib.hid (putX_ok (L := L) (out := out) HI.out.symm HM.out.symm)
        unfold ansV at hRx
        subst hRx
        clear hE hYx
        have HX : Hid (putX L id rate burst out = ⟨id, rate, burst, cut ((fnd id L).getD z0).bkt burst out, false⟩) := Lib.hid rfl
        obtain ⟨x, hx⟩ : ∃ x, x = putX L id rate burst out := ⟨_, rfl⟩
        rw [← hx] at HYX HXO HX
        go_wp2_with fail
        go_at_call 77
        refine Calls.mono (HMY.out _) ?_
        rintro e w' ⟨rfl, rfl⟩
        have hFD := pfind_ok v L id W2 (HVW.out.below HB2.out) HC.out.symm
        obtain ⟨y, hy⟩ : ∃ y, y = (fnd id L).getD z0 := ⟨_, rfl⟩
        rw [← hy] at hFD HX
        obtain ⟨b9, hb9⟩ : ∃ b9, b9 = (fnd id L).isSome := ⟨_, rfl⟩
        rw [← hb9] at hFD
        have HFD := Lib.hid hFD
        unfold TnE.agg at HFD
        clear hFD hy hb9 hx
        go_wp2_with fail
        go_at_call 78
        refine Calls.mono HFD.out ?_
        rintro e W3 ⟨rfl, hB⟩
        have HK3 := Lib.hid (HK2.out.step hB)
        have HB3 := Lib.hid (HB2.out.trans (hB.mono HB2.out.size))
        clear hB
        go_upto_region 8 with fail
        obtain ⟨K, hK⟩ : ∃ K, K = W3.heap.size := ⟨_, rfl⟩
        obtain ⟨WX, hWX⟩ : ∃ W0, W0 = W3.alloc (.cells #[.int .i64 y.id, .int .i64 y.rate, .int .i64 y.burst, .int .i64 y.bkt, .bool y.gone] 72) := ⟨_, rfl⟩
        have HBX : Hid (Below w.heap.size w WX) := Lib.hid (by rw [hWX]; exact HB3.out.alloc HB3.out.size _)
        have HXX := Lib.hid (show Below W3.heap.size W3 WX by rw [hWX]; exact (Below.refl _ _).alloc (Nat.le_refl _) _)
        have hkX : Blk WX K #[.int .i64 y.id, .int .i64 y.rate, .int .i64 y.burst, .int .i64 y.bkt, .bool y.gone] 72 := by rw [hWX, hK]; exact blk_new _ _ _
        have hKl : w.heap.size ≤ K := by rw [hK]; exact HB3.out.size
        rw [← hK, ← hWX]
        clear hWX hK
        have r0 : WX.cell? ⟨K, 0, none⟩ = some (.int .i64 y.id) := cell_at hkX 0
        have r1 : WX.cell? ⟨K, 1, none⟩ = some (.int .i64 y.rate) := cell_at hkX 1
        have r2 : WX.cell? ⟨K, 2, none⟩ = some (.int .i64 y.burst) := cell_at hkX 2
        have r3 : WX.cell? ⟨K, 3, none⟩ = some (.int .i64 y.bkt) := cell_at hkX 3
        have r4 : WX.cell? ⟨K, 4, none⟩ = some (.bool y.gone) := cell_at hkX 4
        have HKX := Lib.hid hkX
        have hlX : K < WX.heap.size := hkX.lt
        clear hkX
        have HKN := Lib.hid (HK3.out.step HXX.out)
        have HCU := Lib.hid (fun W => cut_any y.bkt burst out ho W)
        go_wp2_with fail
        go_at_call 79
        refine Calls.mono (HCU.out _) ?_
        rintro e w' ⟨rfl, rfl⟩
        clear r0 r1 r2 r3 r4
        obtain ⟨bk, hbk⟩ : ∃ bk, bk = cut y.bkt burst out := ⟨_, rfl⟩
        rw [← hbk] at HX
        rw [← hbk]
        clear hbk
        go_upto_region 9 with fail
        obtain ⟨K2, hK2⟩ : ∃ K2, K2 = WX.heap.size := ⟨_, rfl⟩
        obtain ⟨WZ, hWZ⟩ : ∃ W0, W0 = WX.alloc (.cells #[.int .i64 id, .int .i64 rate, .int .i64 burst, .int .i64 bk, .bool false] 72) := ⟨_, rfl⟩
        have HBZ : Hid (Below w.heap.size w WZ) := Lib.hid (by rw [hWZ]; exact HBX.out.alloc HBX.out.size _)
        have HXXZ := Lib.hid (show Below WX.heap.size WX WZ by rw [hWZ]; exact (Below.refl _ _).alloc (Nat.le_refl _) _)
        have hkZ : Blk WZ K2 #[.int .i64 id, .int .i64 rate, .int .i64 burst, .int .i64 bk, .bool false] 72 := by rw [hWZ, hK2]; exact blk_new _ _ _
        have hK2l : w.heap.size ≤ K2 := by rw [hK2]; exact HBX.out.size
        rw [← hK2, ← hWZ]
        clear hWZ hK2
        have r0 : WZ.cell? ⟨K2, 0, none⟩ = some (.int .i64 id) := cell_at hkZ 0
        have r1 : WZ.cell? ⟨K2, 1, none⟩ = some (.int .i64 rate) := cell_at hkZ 1
        have r2 : WZ.cell? ⟨K2, 2, none⟩ = some (.int .i64 burst) := cell_at hkZ 2
        have r3 : WZ.cell? ⟨K2, 3, none⟩ = some (.int .i64 bk) := cell_at hkZ 3
        have r4 : WZ.cell? ⟨K2, 4, none⟩ = some (.bool false) := cell_at hkZ 4
        have HKZ := Lib.hid hkZ
        have hlZ : K2 < WZ.heap.size := hkZ.lt
        clear hkZ
        have HKZN := Lib.hid (HKN.out.step HXXZ.out)
        have HLY := Lib.hid (fun W (hB : Below w.heap.size w W) => lay_any v L x W (HVW.out.below hB) hn5 HXO.out)
        rw [HX.out] at HLY
        unfold TnE.agg at HLY
        simp only at HLY
        rw [layL_eq, ← HX.out, ← HYX.out] at HLY
        have HTD := Lib.hid (fun W => told_any ⟨id, rate, burst, bk, false⟩ W)
        unfold TnE.agg ansV at HTD
        simp only at HTD
        have HNZ : Hid (K2 ≠ N) := Lib.hid (fun e => by subst e; have h9 := HKZN.out.symm.trans HKZ.out; simp at h9)
        have HNW : Hid (N < WZ.heap.size) := Lib.hid HKZN.out.lt
        clear HX HFD HCU HXX HXXZ HKX HKN HB3 HBX HK3 HB2 HK2 HB1 HK1
        have HKZd := Lib.hid (HKZ.out.step ((Below.refl WZ.heap.size WZ).drew))
        have HKNd := Lib.hid (HKZN.out.step ((Below.refl WZ.heap.size WZ).drew))
        have HBZd := Lib.hid (HBZ.out.drew)
        clear r0 r1 r2 r3 r4
        refine wp_region_held_drew (S := fun X => X.cell? ⟨K2, 0, none⟩ = some (.int .i64 id) ∧ X.cell? ⟨K2, 1, none⟩ = some (.int .i64 rate) ∧ X.cell? ⟨K2, 2, none⟩ = some (.int .i64 burst) ∧ X.cell? ⟨K2, 3, none⟩ = some (.int .i64 bk) ∧ X.cell? ⟨K2, 4, none⟩ = some (.bool false) ∧ K2 < X.heap.size) (by kernel_rfl) ⟨cell_at HKZd.out 0, cell_at HKZd.out 1, cell_at HKZd.out 2, cell_at HKZd.out 3, cell_at HKZd.out 4, HKZd.out.lt⟩ (fun hHeld => ?_)
        ((refine wpAnyH_take (i := 0) (v := ?_) (by (simp only [List.getElem?_toArray, List.getElem?_cons_succ, List.getElem?_cons_zero]); rfl) (by kernel_rfl) (by kernel_rfl) (by kernel_rfl) (by exact fun _ _ _ h => h) (Or.inl ⟨by rfl, ?_⟩) (by assumption) ?_); rotate_left; focus (intro wS hSw; (try dsimp only at hSw); go_simp; first | done | with_reducible rfl); try simp only [Act.put, List.setIfInBounds_toArray, List.set_cons_zero, List.set_cons_succ])
        ((refine wpAnyH_take (i := 1) (v := ?_) (by (simp only [List.getElem?_toArray, List.getElem?_cons_succ, List.getElem?_cons_zero]); rfl) (by kernel_rfl) (by kernel_rfl) (by kernel_rfl) (by exact fun _ _ _ h => h) (Or.inl ⟨by rfl, ?_⟩) (by assumption) ?_); rotate_left; focus (intro wS hSw; (try dsimp only at hSw); go_simp; first | done | with_reducible rfl); try simp only [Act.put, List.setIfInBounds_toArray, List.set_cons_zero, List.set_cons_succ])
        ((refine wpAnyH_take (i := 3) (v := ?_) (by (simp only [List.getElem?_toArray, List.getElem?_cons_succ, List.getElem?_cons_zero]); rfl) (by kernel_rfl) (by kernel_rfl) (by kernel_rfl) (by exact fun _ _ _ h => h) (Or.inl ⟨by rfl, ?_⟩) (by assumption) ?_); rotate_left; focus (intro wS hSw; (try dsimp only at hSw); go_simp; first | done | with_reducible rfl); try simp only [Act.put, List.setIfInBounds_toArray, List.set_cons_zero, List.set_cons_succ])
        refine wpAnyH_ready (rs := [2]) (by kernel_rfl) (by simp) ?_
        refine AllReadyH.cons (by (simp only [List.getElem?_toArray, List.getElem?_cons_succ, List.getElem?_cons_zero]); rfl) (fun K hK => ?_) AllReadyH.nil
        go_simp
        go_at_call 80
        refine Calls.mono (HLY.out _ HBZd.out) ?_
        rintro e W5 ⟨v5, rfl, hv5, hB5⟩
        have HV5 := Lib.hid hv5
        have HK5 := Lib.hid (HKZd.out.step hB5)
        have HN5 := Lib.hid (HKNd.out.step hB5)
        have HB5 := Lib.hid (HBZd.out.trans (hB5.mono HBZd.out.size))
        clear hv5 hB5
        go_wp2_with fail
        refine hK.out _ _ ⟨cell_at HK5.out 0, cell_at HK5.out 1, cell_at HK5.out 2, cell_at HK5.out 3, cell_at HK5.out 4, HK5.out.lt⟩ (fun hHeld => ?_)
        clear hK K
        try simp only [Act.put, List.setIfInBounds_toArray, List.set_cons_zero, List.set_cons_succ]
        refine wpAnyH_ready (rs := [4]) (by kernel_rfl) (by simp) ?_
        refine AllReadyH.cons (by (simp only [List.getElem?_toArray, List.getElem?_cons_succ, List.getElem?_cons_zero]); rfl) (fun K hK => ?_) AllReadyH.nil
        go_simp
        go_at_call 81
        refine Calls.mono (HTD.out _) ?_
        rintro e W6 ⟨rfl, hB6⟩
        have HV6 := Lib.hid (HV5.out.below hB6)
        have HK6 := Lib.hid (HK5.out.step hB6)
        have HN6 := Lib.hid (HN5.out.step hB6)
        have HB6 := Lib.hid (HB5.out.trans (hB6.mono HB5.out.size))
        clear hB6
        go_wp2_with fail
        refine hK.out _ _ ⟨cell_at HK6.out 0, cell_at HK6.out 1, cell_at HK6.out 2, cell_at HK6.out 3, cell_at HK6.out 4, HK6.out.lt⟩ (fun hHeld => ?_)
        clear hK K
        try simp only [Act.put, List.setIfInBounds_toArray, List.set_cons_zero, List.set_cons_succ]
        ((refine wpAnyH_take (i := 5) (v := ?_) (by (simp only [List.getElem?_toArray, List.getElem?_cons_succ, List.getElem?_cons_zero]); rfl) (by kernel_rfl) (by kernel_rfl) (by kernel_rfl) (by exact fun _ _ _ h => h) (Or.inl ⟨by rfl, ?_⟩) (by assumption) ?_); rotate_left; focus (intro wS hSw; (try dsimp only at hSw); go_simp; first | done | with_reducible rfl); try simp only [Act.put, List.setIfInBounds_toArray, List.set_cons_zero, List.set_cons_succ])
        refine wpAnyH_ready (rs := [6]) (by kernel_rfl) (by simp) ?_
        refine AllReadyH.cons (by (simp only [List.getElem?_toArray, List.getElem?_cons_succ, List.getElem?_cons_zero]); rfl) (fun K hK => ?_) AllReadyH.nil
        have q0 : W6.cell? ⟨N, 0, none⟩ = some (.int .i64 0) := cell_at HN6.out 0
        have q1 : W6.cell? ⟨N, 1, none⟩ = some (.int .i64 0) := cell_at HN6.out 1
        have q2 : W6.cell? ⟨N, 2, none⟩ = some (.int .i64 0) := cell_at HN6.out 2
        have q3 : W6.cell? ⟨N, 3, none⟩ = some (.int .i64 0) := cell_at HN6.out 3
        have q4 : W6.cell? ⟨N, 4, none⟩ = some (.int .i64 0) := cell_at HN6.out 4
        have zq : ∀ j, W6.frozen? ⟨N, j, none⟩ = false := fun j => free_at HN6.out j
        have lq : N < W6.heap.size := HN6.out.lt
        go_simp
        clear q0 q1 q2 q3 q4
        obtain ⟨LS, hLS⟩ : ∃ L : List Value, L = [.int .i64 0, .int .i64 rate, .int .i64 burst, .int .i64 0, .int .i64 0] := ⟨_, rfl⟩
        obtain ⟨WS, hWS⟩ : ∃ WS, WS = W6.setCells (N) 0 LS := ⟨_, rfl⟩
        have hchS := hWS
        rw [hLS] at hchS
        simp only [World.setCells, Nat.zero_add, Nat.reduceAdd] at hchS
        rw [← hchS]
        clear hchS
        have hkS := stC_blk HN6.out LS (by rw [hLS]; rfl)
        have hfrS := stC_fr (N) LS 0 W6
        rw [← hWS] at hkS hfrS
        rw [hLS] at hkS
        have r0 : WS.cell? ⟨N, 0, none⟩ = some (.int .i64 0) := cell_at hkS 0
        have r1 : WS.cell? ⟨N, 1, none⟩ = some (.int .i64 rate) := cell_at hkS 1
        have r2 : WS.cell? ⟨N, 2, none⟩ = some (.int .i64 burst) := cell_at hkS 2
        have r3 : WS.cell? ⟨N, 3, none⟩ = some (.int .i64 0) := cell_at hkS 3
        have r4 : WS.cell? ⟨N, 4, none⟩ = some (.int .i64 0) := cell_at hkS 4
        clear hWS hLS
        have HK7 := Lib.hid (show Blk WS K2 #[.int .i64 id, .int .i64 rate, .int .i64 burst, .int .i64 bk, .bool false] 72 from (hfrS.block K2 HK6.out.lt (by simp; exact HNZ.out)).trans HK6.out)
        have hBS := HB6.out.trans (hfrS.below HB6.out.size (by have := HNB.out; simp; omega))
        have HVS := Lib.hid ((HV6.out.fr hfrS HNW.out).tv)
        have HBS := Lib.hid hBS
        clear hBS hfrS hkS
        refine hK.out _ _ ⟨cell_at HK7.out 0, cell_at HK7.out 1, cell_at HK7.out 2, cell_at HK7.out 3, cell_at HK7.out 4, HK7.out.lt⟩ (fun hHeld => ?_)
        clear hK K
        try simp only [Act.put, List.setIfInBounds_toArray, List.set_cons_zero, List.set_cons_succ]
        refine wpAnyH_done (by kernel_rfl) ?_ _
        go_wp2_with fail
        exact bodyPost_ret (v := .tuple #[v5, .agg #[.int .i64 0, .int .i64 rate, .int .i64 burst, .int .i64 0, .int .i64 0]]) (by simp [results, Try.results42, go_sem, r0, r1, r2, r3, r4]) rfl ⟨_, rfl, HVS.out, HBS.out⟩
end Go.Proofs.Ytpgpcgpecpimlaa
