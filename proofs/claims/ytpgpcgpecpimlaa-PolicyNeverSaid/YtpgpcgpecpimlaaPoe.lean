/-
  A policy put: the document.
-/
import Derived.Test.YtpgpcgpecpimlaaPod
import Derived.Test.YtpgpcgpecpimlaaPoc
import Derived.Test.YtpgpcgpecpimlaaPo2
import Derived.Deep.RegionLaw
namespace Go.Proofs.Ytpgpcgpecpimlaa
open Go.RowKit
set_option linter.unusedSimpArgs false
set_option linter.unusedVariables false

set_option maxRecDepth 100000 in
set_option maxHeartbeats 8000000 in
theorem rput_any (v : Value) (L : List TnE) (id rate burst out : Int) (w : World) (h : TV w v L) (hn5 : L.length ≤ 200) (ho : out ≤ 9223372036854775807) : Calls Try.prog 43 #[v, .int .i64 id, .int .i64 rate, .int .i64 burst, .int .i64 out] w fun e w' => ∃ v', e = .returned (.tuple #[v', putA L id rate burst]) ∧ TV w' v' (putL L id rate burst out) ∧ Below w.heap.size w w' := by
  have HVW := Lib.hid h
  obtain ⟨N, hN⟩ : ∃ N, N = w.heap.size := ⟨_, rfl⟩
  obtain ⟨W1, hW1⟩ : ∃ W1, W1 = w.alloc (.cells #[.int .i64 0, .int .i64 0, .int .i64 0, .int .i64 0, .int .i64 0] 63) := ⟨_, rfl⟩
  have hB1 : Below w.heap.size w W1 := by rw [hW1]; exact (Below.refl _ _).alloc (Nat.le_refl _) _
  have HK1 : Hid (Blk W1 N #[.int .i64 0, .int .i64 0, .int .i64 0, .int .i64 0, .int .i64 0] 63) := Lib.hid (by rw [hW1, hN]; exact blk_new _ _ _)
  have HV1 := Lib.hid (h.below hB1)
  have HB1 := Lib.hid hB1
  have HNB : Hid (w.heap.size ≤ N) := Lib.hid (by rw [hN]; exact Nat.le_refl _)
  clear hB1 h
  obtain ⟨Y, hY⟩ : ∃ Y, Y = putL L id rate burst out := ⟨_, rfl⟩
  obtain ⟨R, hR⟩ : ∃ R, R = putA L id rate burst := ⟨_, rfl⟩
  rw [← hY, ← hR]
  have HY := Lib.hid hY
  have HR := Lib.hid hR
  obtain ⟨C, hC⟩ : ∃ C, C = chk L := ⟨_, rfl⟩
  have HC := Lib.hid hC
  obtain ⟨I, hI⟩ : ∃ I, I = idB id := ⟨_, rfl⟩
  have HI := Lib.hid hI
  obtain ⟨M, hM⟩ : ∃ M, M = mayB rate burst := ⟨_, rfl⟩
  have HM := Lib.hid hM
  have HCK := Lib.hid (rcheck_any v L W1 HV1.out)
  rw [← hC] at HCK
  have HID := Lib.hid (fun W => rid_any id W)
  rw [← hI] at HID
  have HMY := Lib.hid (fun W => rmay16_any rate burst W)
  rw [← hM] at HMY
  clear hY hR hC hI hM
  go_enter Try.func43, Try.ntmps43
  go_upto_region 1 with fail
  rw [← hN, ← hW1]
  clear hN hW1
  cases C
  · go_wp2_with fail
    go_at_call 46
    refine Calls.mono HCK.out ?_
    rintro e W2 ⟨rfl, hB⟩
    have HK2 := Lib.hid (HK1.out.step hB)
    have HB2 := Lib.hid (HB1.out.trans (hB.mono HB1.out.size))
    clear hB
    have hE := putE_chk (id := id) (rate := rate) (burst := burst) HC.out.symm
    have hRx : R = ansV 2 0 0 := by rw [HR.out]; unfold putA; rw [hE]; rfl
    have hYx : Y = L := by rw [HY.out]; unfold putL; rw [hE]; rfl
    have HYX := Lib.hid hYx
    unfold ansV at hRx
    subst hRx
    clear hE hYx
    have q0 : W2.cell? ⟨N, 0, none⟩ = some (.int .i64 0) := cell_at HK2.out 0
    have q1 : W2.cell? ⟨N, 1, none⟩ = some (.int .i64 0) := cell_at HK2.out 1
    have q2 : W2.cell? ⟨N, 2, none⟩ = some (.int .i64 0) := cell_at HK2.out 2
    have q3 : W2.cell? ⟨N, 3, none⟩ = some (.int .i64 0) := cell_at HK2.out 3
    have q4 : W2.cell? ⟨N, 4, none⟩ = some (.int .i64 0) := cell_at HK2.out 4
    have zq : ∀ j, W2.frozen? ⟨N, j, none⟩ = false := fun j => free_at HK2.out j
    have lq : N < W2.heap.size := HK2.out.lt
    go_wp2_with fail
    clear q0 q1 q2 q3 q4
    obtain ⟨LS, hLS⟩ : ∃ L : List Value, L = [.int .i64 2, .int .i64 0, .int .i64 0, .int .i64 0, .int .i64 0] := ⟨_, rfl⟩
    obtain ⟨WS, hWS⟩ : ∃ WS, WS = W2.setCells (N) 0 LS := ⟨_, rfl⟩
    have hchS := hWS
    rw [hLS] at hchS
    simp only [World.setCells, Nat.zero_add, Nat.reduceAdd] at hchS
    rw [← hchS]
    clear hchS
    have hkS := stC_blk HK2.out LS (by rw [hLS]; rfl)
    have hfrS := stC_fr (N) LS 0 W2
    rw [← hWS] at hkS hfrS
    rw [hLS] at hkS
    have r0 : WS.cell? ⟨N, 0, none⟩ = some (.int .i64 2) := cell_at hkS 0
    have r1 : WS.cell? ⟨N, 1, none⟩ = some (.int .i64 0) := cell_at hkS 1
    have r2 : WS.cell? ⟨N, 2, none⟩ = some (.int .i64 0) := cell_at hkS 2
    have r3 : WS.cell? ⟨N, 3, none⟩ = some (.int .i64 0) := cell_at hkS 3
    have r4 : WS.cell? ⟨N, 4, none⟩ = some (.int .i64 0) := cell_at hkS 4
    clear hWS hLS
    have hBS := HB2.out.trans (hfrS.below HB2.out.size (by have := HNB.out; simp; omega))
    exact bodyPost_ret (v := .tuple #[v, .agg #[.int .i64 2, .int .i64 0, .int .i64 0, .int .i64 0, .int .i64 0]]) (by simp [results, Try.results43, go_sem, r0, r1, r2, r3, r4]) rfl ⟨_, rfl, by rw [HYX.out]; exact HVW.out.below hBS, hBS⟩
  · go_wp2_with fail
    go_at_call 46
    refine Calls.mono HCK.out ?_
    rintro e W2 ⟨rfl, hB⟩
    have HK2 := Lib.hid (HK1.out.step hB)
    have HB2 := Lib.hid (HB1.out.trans (hB.mono HB1.out.size))
    clear hB
    cases I
    · go_wp2_with fail
      go_at_call 82
      refine Calls.mono (HID.out _) ?_
      rintro e w' ⟨rfl, rfl⟩
      have hE := putE_id (rate := rate) (burst := burst) HC.out.symm HI.out.symm
      have hRx : R = ansV 161 0 0 := by rw [HR.out]; unfold putA; rw [hE]; rfl
      have hYx : Y = L := by rw [HY.out]; unfold putL; rw [hE]; rfl
      have HYX := Lib.hid hYx
      unfold ansV at hRx
      subst hRx
      clear hE hYx
      have q0 : W2.cell? ⟨N, 0, none⟩ = some (.int .i64 0) := cell_at HK2.out 0
      have q1 : W2.cell? ⟨N, 1, none⟩ = some (.int .i64 0) := cell_at HK2.out 1
      have q2 : W2.cell? ⟨N, 2, none⟩ = some (.int .i64 0) := cell_at HK2.out 2
      have q3 : W2.cell? ⟨N, 3, none⟩ = some (.int .i64 0) := cell_at HK2.out 3
      have q4 : W2.cell? ⟨N, 4, none⟩ = some (.int .i64 0) := cell_at HK2.out 4
      have zq : ∀ j, W2.frozen? ⟨N, j, none⟩ = false := fun j => free_at HK2.out j
      have lq : N < W2.heap.size := HK2.out.lt
      go_wp2_with fail
      clear q0 q1 q2 q3 q4
      obtain ⟨LS, hLS⟩ : ∃ L : List Value, L = [.int .i64 161, .int .i64 0, .int .i64 0, .int .i64 0, .int .i64 0] := ⟨_, rfl⟩
      obtain ⟨WS, hWS⟩ : ∃ WS, WS = W2.setCells (N) 0 LS := ⟨_, rfl⟩
      have hchS := hWS
      rw [hLS] at hchS
      simp only [World.setCells, Nat.zero_add, Nat.reduceAdd] at hchS
      rw [← hchS]
      clear hchS
      have hkS := stC_blk HK2.out LS (by rw [hLS]; rfl)
      have hfrS := stC_fr (N) LS 0 W2
      rw [← hWS] at hkS hfrS
      rw [hLS] at hkS
      have r0 : WS.cell? ⟨N, 0, none⟩ = some (.int .i64 161) := cell_at hkS 0
      have r1 : WS.cell? ⟨N, 1, none⟩ = some (.int .i64 0) := cell_at hkS 1
      have r2 : WS.cell? ⟨N, 2, none⟩ = some (.int .i64 0) := cell_at hkS 2
      have r3 : WS.cell? ⟨N, 3, none⟩ = some (.int .i64 0) := cell_at hkS 3
      have r4 : WS.cell? ⟨N, 4, none⟩ = some (.int .i64 0) := cell_at hkS 4
      clear hWS hLS
      have hBS := HB2.out.trans (hfrS.below HB2.out.size (by have := HNB.out; simp; omega))
      exact bodyPost_ret (v := .tuple #[v, .agg #[.int .i64 161, .int .i64 0, .int .i64 0, .int .i64 0, .int .i64 0]]) (by simp [results, Try.results43, go_sem, r0, r1, r2, r3, r4]) rfl ⟨_, rfl, by rw [HYX.out]; exact HVW.out.below hBS, hBS⟩
    · go_wp2_with fail
      go_at_call 82
      refine Calls.mono (HID.out _) ?_
      rintro e w' ⟨rfl, rfl⟩
      cases M
      · go_wp2_with fail
        go_at_call 83
        refine Calls.mono (HMY.out _) ?_
        rintro e w' ⟨rfl, rfl⟩
        have hE := putE_may HC.out.symm HI.out.symm HM.out.symm
        have hRx : R = ansV 160 0 0 := by rw [HR.out]; unfold putA; rw [hE]; rfl
        have hYx : Y = L := by rw [HY.out]; unfold putL; rw [hE]; rfl
        have HYX := Lib.hid hYx
        unfold ansV at hRx
        subst hRx
        clear hE hYx
        have q0 : W2.cell? ⟨N, 0, none⟩ = some (.int .i64 0) := cell_at HK2.out 0
        have q1 : W2.cell? ⟨N, 1, none⟩ = some (.int .i64 0) := cell_at HK2.out 1
        have q2 : W2.cell? ⟨N, 2, none⟩ = some (.int .i64 0) := cell_at HK2.out 2
        have q3 : W2.cell? ⟨N, 3, none⟩ = some (.int .i64 0) := cell_at HK2.out 3
        have q4 : W2.cell? ⟨N, 4, none⟩ = some (.int .i64 0) := cell_at HK2.out 4
        have zq : ∀ j, W2.frozen? ⟨N, j, none⟩ = false := fun j => free_at HK2.out j
        have lq : N < W2.heap.size := HK2.out.lt
        go_wp2_with fail
        clear q0 q1 q2 q3 q4
        obtain ⟨LS, hLS⟩ : ∃ L : List Value, L = [.int .i64 160, .int .i64 0, .int .i64 0, .int .i64 0, .int .i64 0] := ⟨_, rfl⟩
        obtain ⟨WS, hWS⟩ : ∃ WS, WS = W2.setCells (N) 0 LS := ⟨_, rfl⟩
        have hchS := hWS
        rw [hLS] at hchS
        simp only [World.setCells, Nat.zero_add, Nat.reduceAdd] at hchS
        rw [← hchS]
        clear hchS
        have hkS := stC_blk HK2.out LS (by rw [hLS]; rfl)
        have hfrS := stC_fr (N) LS 0 W2
        rw [← hWS] at hkS hfrS
        rw [hLS] at hkS
        have r0 : WS.cell? ⟨N, 0, none⟩ = some (.int .i64 160) := cell_at hkS 0
        have r1 : WS.cell? ⟨N, 1, none⟩ = some (.int .i64 0) := cell_at hkS 1
        have r2 : WS.cell? ⟨N, 2, none⟩ = some (.int .i64 0) := cell_at hkS 2
        have r3 : WS.cell? ⟨N, 3, none⟩ = some (.int .i64 0) := cell_at hkS 3
        have r4 : WS.cell? ⟨N, 4, none⟩ = some (.int .i64 0) := cell_at hkS 4
        clear hWS hLS
        have hBS := HB2.out.trans (hfrS.below HB2.out.size (by have := HNB.out; simp; omega))
        exact bodyPost_ret (v := .tuple #[v, .agg #[.int .i64 160, .int .i64 0, .int .i64 0, .int .i64 0, .int .i64 0]]) (by simp [results, Try.results43, go_sem, r0, r1, r2, r3, r4]) rfl ⟨_, rfl, by rw [HYX.out]; exact HVW.out.below hBS, hBS⟩
      · have hE := putE_ok HC.out.symm HI.out.symm HM.out.symm
        have hRx : R = ansV 0 rate burst := by rw [HR.out]; unfold putA; rw [hE]; rfl
        have hYx : Y = layR (putX L id rate burst out) L := by rw [HY.out]; unfold putL; rw [hE]; rfl
        have HYX := Lib.hid hYx
        have HXO := Lib.hid (putX_ok (L := L) (out := out) HI.out.symm HM.out.symm)
        unfold ansV at hRx
        subst hRx
        clear hE hYx
        have HX : Hid (putX L id rate burst out = ⟨id, rate, burst, cut ((fnd id L).getD z0).bkt burst out, false⟩) := Lib.hid rfl
        obtain ⟨x, hx⟩ : ∃ x, x = putX L id rate burst out := ⟨_, rfl⟩
        rw [← hx] at HYX HXO HX
        go_wp2_with fail
        go_at_call 83
        refine Calls.mono (HMY.out _) ?_
        rintro e w' ⟨rfl, rfl⟩
        have hFD := rfind_any v L id W2 (HVW.out.below HB2.out)
        rw [show fndC id L = fnd id L by unfold fndC; rw [← HC.out]; rfl] at hFD
        obtain ⟨y, hy⟩ : ∃ y, y = (fnd id L).getD z0 := ⟨_, rfl⟩
        rw [← hy] at hFD HX
        obtain ⟨b9, hb9⟩ : ∃ b9, b9 = (fnd id L).isSome := ⟨_, rfl⟩
        rw [← hb9] at hFD
        have HFD := Lib.hid hFD
        unfold TnE.agg at HFD
        clear hFD hy hb9 hx
        go_wp2_with fail
        go_at_call 52
        refine Calls.mono HFD.out ?_
        rintro e W3 ⟨rfl, hB⟩
        have HK3 := Lib.hid (HK2.out.step hB)
        have HB3 := Lib.hid (HB2.out.trans (hB.mono HB2.out.size))
        clear hB
        go_upto_region 8 with fail
        obtain ⟨K, hK⟩ : ∃ K, K = W3.heap.size := ⟨_, rfl⟩
        obtain ⟨WX, hWX⟩ : ∃ W0, W0 = W3.alloc (.cells #[.int .i64 y.id, .int .i64 y.rate, .int .i64 y.burst, .int .i64 y.bkt, .bool y.gone] 72) := ⟨_, rfl⟩
        have HBX : Hid (Below w.heap.size w WX) := Lib.hid (by rw [hWX]; exact HB3.out.alloc HB3.out.size _)
        have HXX := Lib.hid (show Below W3.heap.size W3 WX by rw [hWX]; exact (Below.refl _ _).alloc (Nat.le_refl _) _)
        have hkX : Blk WX K #[.int .i64 y.id, .int .i64 y.rate, .int .i64 y.burst, .int .i64 y.bkt, .bool y.gone] 72 := by rw [hWX, hK]; exact blk_new _ _ _
        have hKl : w.heap.size ≤ K := by rw [hK]; exact HB3.out.size
        rw [← hK, ← hWX]
        clear hWX hK
        have r0 : WX.cell? ⟨K, 0, none⟩ = some (.int .i64 y.id) := cell_at hkX 0
        have r1 : WX.cell? ⟨K, 1, none⟩ = some (.int .i64 y.rate) := cell_at hkX 1
        have r2 : WX.cell? ⟨K, 2, none⟩ = some (.int .i64 y.burst) := cell_at hkX 2
        have r3 : WX.cell? ⟨K, 3, none⟩ = some (.int .i64 y.bkt) := cell_at hkX 3
        have r4 : WX.cell? ⟨K, 4, none⟩ = some (.bool y.gone) := cell_at hkX 4
        have HKX := Lib.hid hkX
        have hlX : K < WX.heap.size := hkX.lt
        clear hkX
        have HKN := Lib.hid (HK3.out.step HXX.out)
        have hNK : K ≠ N := fun e => by subst e; have h9 := HKN.out.symm.trans HKX.out; simp at h9
        have HNK := Lib.hid hNK
        have zr : ∀ j, WX.frozen? ⟨K, j, none⟩ = false := fun j => free_at HKX.out j
        obtain ⟨bk, hbk⟩ : ∃ bk, bk = cut y.bkt burst out := ⟨_, rfl⟩
        rw [← hbk] at HX
        have HBK := Lib.hid hbk
        have HWI := Lib.hid (fun W (hB : Below w.heap.size w W) => with_any v L x W (HVW.out.below hB) hn5 HXO.out)
        rw [HX.out] at HWI
        unfold TnE.agg at HWI
        simp only at HWI
        rw [withF_lay _ L 0 HC.out.symm, ← HX.out, ← HYX.out] at HWI
        clear hbk hNK HX HFD HXX HB3 HK3 HB2 HK2 HB1 HK1
        go_wp2_with fail
        case inl h9 =>
          have HCU := Lib.hid (fun W => rcut_any y.bkt burst 0 (by omega) W)
          rw [show cut y.bkt burst 0 = bk by rw [HBK.out]; unfold cut room within; omega] at HCU
          go_at_call 84
          refine Calls.mono (HCU.out _) ?_
          rintro e w' ⟨rfl, rfl⟩
          go_upto_region 13 with fail
          obtain ⟨WZ, hWZ⟩ : ∃ WZ, WZ = ((((WX.setCell ⟨K, 3, none⟩ (.int .i64 bk)).setCell ⟨K, 0, none⟩ (.int .i64 id)).setCell ⟨K, 1, none⟩ (.int .i64 rate)).setCell ⟨K, 2, none⟩ (.int .i64 burst)).setCell ⟨K, 4, none⟩ (.bool false) := ⟨_, rfl⟩
          rw [← hWZ]
          have hkz : Blk WZ K #[.int .i64 id, .int .i64 rate, .int .i64 burst, .int .i64 bk, .bool false] 72 := by rw [hWZ]; exact ((((HKX.out.set 3 _).set 0 _).set 1 _).set 2 _).set 4 _
          have hfz : Fr [K] WX WZ := by rw [hWZ]; exact (((((Fr.refl [K] WX).setCell ⟨K, 3, none⟩ (.inl (by simp)) _).setCell ⟨K, 0, none⟩ (.inl (by simp)) _).setCell ⟨K, 1, none⟩ (.inl (by simp)) _).setCell ⟨K, 2, none⟩ (.inl (by simp)) _).setCell ⟨K, 4, none⟩ (.inl (by simp)) _
          have HBZ := Lib.hid (HBX.out.trans (hfz.below HBX.out.size (by simp; omega)))
          have HNZ := Lib.hid (show Blk WZ N #[.int .i64 0, .int .i64 0, .int .i64 0, .int .i64 0, .int .i64 0] 63 from (hfz.block N HKN.out.lt (by simp; exact fun e => HNK.out e.symm)).trans HKN.out)
          clear hWZ hfz r0 r1 r2 r3 r4 zr hlX
          have s0 : WZ.cell? ⟨K, 0, none⟩ = some (.int .i64 id) := cell_at hkz 0
          have s1 : WZ.cell? ⟨K, 1, none⟩ = some (.int .i64 rate) := cell_at hkz 1
          have s2 : WZ.cell? ⟨K, 2, none⟩ = some (.int .i64 burst) := cell_at hkz 2
          have s3 : WZ.cell? ⟨K, 3, none⟩ = some (.int .i64 bk) := cell_at hkz 3
          have s4 : WZ.cell? ⟨K, 4, none⟩ = some (.bool false) := cell_at hkz 4
          have ls : K < WZ.heap.size := hkz.lt
          clear hkz
          go_wp2_with fail
          go_at_call 85
          refine Calls.mono (HWI.out _ HBZ.out) ?_
          rintro e W5 ⟨v5, rfl, hv5, hB5⟩
          have HV5 := Lib.hid hv5
          have HNW : Hid (N < WZ.heap.size) := Lib.hid HNZ.out.lt
          have HN5 := Lib.hid (HNZ.out.step hB5)
          have HB5 := Lib.hid (HBZ.out.trans (hB5.mono HBZ.out.size))
          clear hv5 hB5 s0 s1 s2 s3 s4 ls
          have q0 : W5.cell? ⟨N, 0, none⟩ = some (.int .i64 0) := cell_at HN5.out 0
          have q1 : W5.cell? ⟨N, 1, none⟩ = some (.int .i64 0) := cell_at HN5.out 1
          have q2 : W5.cell? ⟨N, 2, none⟩ = some (.int .i64 0) := cell_at HN5.out 2
          have q3 : W5.cell? ⟨N, 3, none⟩ = some (.int .i64 0) := cell_at HN5.out 3
          have q4 : W5.cell? ⟨N, 4, none⟩ = some (.int .i64 0) := cell_at HN5.out 4
          have zq : ∀ j, W5.frozen? ⟨N, j, none⟩ = false := fun j => free_at HN5.out j
          have lq : N < W5.heap.size := HN5.out.lt
          go_wp2_with fail
          clear q0 q1 q2 q3 q4
          obtain ⟨LS, hLS⟩ : ∃ L : List Value, L = [.int .i64 0, .int .i64 rate, .int .i64 burst, .int .i64 0, .int .i64 0] := ⟨_, rfl⟩
          obtain ⟨WS, hWS⟩ : ∃ WS, WS = W5.setCells (N) 0 LS := ⟨_, rfl⟩
          have hchS := hWS
          rw [hLS] at hchS
          simp only [World.setCells, Nat.zero_add, Nat.reduceAdd] at hchS
          rw [← hchS]
          clear hchS
          have hkS := stC_blk HN5.out LS (by rw [hLS]; rfl)
          have hfrS := stC_fr (N) LS 0 W5
          rw [← hWS] at hkS hfrS
          rw [hLS] at hkS
          have r0 : WS.cell? ⟨N, 0, none⟩ = some (.int .i64 0) := cell_at hkS 0
          have r1 : WS.cell? ⟨N, 1, none⟩ = some (.int .i64 rate) := cell_at hkS 1
          have r2 : WS.cell? ⟨N, 2, none⟩ = some (.int .i64 burst) := cell_at hkS 2
          have r3 : WS.cell? ⟨N, 3, none⟩ = some (.int .i64 0) := cell_at hkS 3
          have r4 : WS.cell? ⟨N, 4, none⟩ = some (.int .i64 0) := cell_at hkS 4
          clear hWS hLS
          have hBS := HB5.out.trans (hfrS.below HB5.out.size (by have := HNB.out; simp; omega))
          exact bodyPost_ret (v := .tuple #[v5, .agg #[.int .i64 0, .int .i64 rate, .int .i64 burst, .int .i64 0, .int .i64 0]]) (by simp [results, Try.results43, go_sem, r0, r1, r2, r3, r4]) rfl ⟨_, rfl, (HV5.out.fr hfrS HNW.out).tv, hBS⟩
        case inr h9 =>
          have HCU := Lib.hid (fun W => rcut_any y.bkt burst out (by omega) W)
          rw [show cut y.bkt burst out = bk by exact HBK.out.symm] at HCU
          go_at_call 84
          refine Calls.mono (HCU.out _) ?_
          rintro e w' ⟨rfl, rfl⟩
          go_upto_region 13 with fail
          obtain ⟨WZ, hWZ⟩ : ∃ WZ, WZ = ((((WX.setCell ⟨K, 3, none⟩ (.int .i64 bk)).setCell ⟨K, 0, none⟩ (.int .i64 id)).setCell ⟨K, 1, none⟩ (.int .i64 rate)).setCell ⟨K, 2, none⟩ (.int .i64 burst)).setCell ⟨K, 4, none⟩ (.bool false) := ⟨_, rfl⟩
          rw [← hWZ]
          have hkz : Blk WZ K #[.int .i64 id, .int .i64 rate, .int .i64 burst, .int .i64 bk, .bool false] 72 := by rw [hWZ]; exact ((((HKX.out.set 3 _).set 0 _).set 1 _).set 2 _).set 4 _
          have hfz : Fr [K] WX WZ := by rw [hWZ]; exact (((((Fr.refl [K] WX).setCell ⟨K, 3, none⟩ (.inl (by simp)) _).setCell ⟨K, 0, none⟩ (.inl (by simp)) _).setCell ⟨K, 1, none⟩ (.inl (by simp)) _).setCell ⟨K, 2, none⟩ (.inl (by simp)) _).setCell ⟨K, 4, none⟩ (.inl (by simp)) _
          have HBZ := Lib.hid (HBX.out.trans (hfz.below HBX.out.size (by simp; omega)))
          have HNZ := Lib.hid (show Blk WZ N #[.int .i64 0, .int .i64 0, .int .i64 0, .int .i64 0, .int .i64 0] 63 from (hfz.block N HKN.out.lt (by simp; exact fun e => HNK.out e.symm)).trans HKN.out)
          clear hWZ hfz r0 r1 r2 r3 r4 zr hlX
          have s0 : WZ.cell? ⟨K, 0, none⟩ = some (.int .i64 id) := cell_at hkz 0
          have s1 : WZ.cell? ⟨K, 1, none⟩ = some (.int .i64 rate) := cell_at hkz 1
          have s2 : WZ.cell? ⟨K, 2, none⟩ = some (.int .i64 burst) := cell_at hkz 2
          have s3 : WZ.cell? ⟨K, 3, none⟩ = some (.int .i64 bk) := cell_at hkz 3
          have s4 : WZ.cell? ⟨K, 4, none⟩ = some (.bool false) := cell_at hkz 4
          have ls : K < WZ.heap.size := hkz.lt
          clear hkz
          go_wp2_with fail
          go_at_call 85
          refine Calls.mono (HWI.out _ HBZ.out) ?_
          rintro e W5 ⟨v5, rfl, hv5, hB5⟩
          have HV5 := Lib.hid hv5
          have HNW : Hid (N < WZ.heap.size) := Lib.hid HNZ.out.lt
          have HN5 := Lib.hid (HNZ.out.step hB5)
          have HB5 := Lib.hid (HBZ.out.trans (hB5.mono HBZ.out.size))
          clear hv5 hB5 s0 s1 s2 s3 s4 ls
          have q0 : W5.cell? ⟨N, 0, none⟩ = some (.int .i64 0) := cell_at HN5.out 0
          have q1 : W5.cell? ⟨N, 1, none⟩ = some (.int .i64 0) := cell_at HN5.out 1
          have q2 : W5.cell? ⟨N, 2, none⟩ = some (.int .i64 0) := cell_at HN5.out 2
          have q3 : W5.cell? ⟨N, 3, none⟩ = some (.int .i64 0) := cell_at HN5.out 3
          have q4 : W5.cell? ⟨N, 4, none⟩ = some (.int .i64 0) := cell_at HN5.out 4
          have zq : ∀ j, W5.frozen? ⟨N, j, none⟩ = false := fun j => free_at HN5.out j
          have lq : N < W5.heap.size := HN5.out.lt
          go_wp2_with fail
          clear q0 q1 q2 q3 q4
          obtain ⟨LS, hLS⟩ : ∃ L : List Value, L = [.int .i64 0, .int .i64 rate, .int .i64 burst, .int .i64 0, .int .i64 0] := ⟨_, rfl⟩
          obtain ⟨WS, hWS⟩ : ∃ WS, WS = W5.setCells (N) 0 LS := ⟨_, rfl⟩
          have hchS := hWS
          rw [hLS] at hchS
          simp only [World.setCells, Nat.zero_add, Nat.reduceAdd] at hchS
          rw [← hchS]
          clear hchS
          have hkS := stC_blk HN5.out LS (by rw [hLS]; rfl)
          have hfrS := stC_fr (N) LS 0 W5
          rw [← hWS] at hkS hfrS
          rw [hLS] at hkS
          have r0 : WS.cell? ⟨N, 0, none⟩ = some (.int .i64 0) := cell_at hkS 0
          have r1 : WS.cell? ⟨N, 1, none⟩ = some (.int .i64 rate) := cell_at hkS 1
          have r2 : WS.cell? ⟨N, 2, none⟩ = some (.int .i64 burst) := cell_at hkS 2
          have r3 : WS.cell? ⟨N, 3, none⟩ = some (.int .i64 0) := cell_at hkS 3
          have r4 : WS.cell? ⟨N, 4, none⟩ = some (.int .i64 0) := cell_at hkS 4
          clear hWS hLS
          have hBS := HB5.out.trans (hfrS.below HB5.out.size (by have := HNB.out; simp; omega))
          exact bodyPost_ret (v := .tuple #[v5, .agg #[.int .i64 0, .int .i64 rate, .int .i64 burst, .int .i64 0, .int .i64 0]]) (by simp [results, Try.results43, go_sem, r0, r1, r2, r3, r4]) rfl ⟨_, rfl, (HV5.out.fr hfrS HNW.out).tv, hBS⟩
end Go.Proofs.Ytpgpcgpecpimlaa
