/-
  A tenant deleted with nothing left: the program.
-/
import Derived.Test.YtpgpcgpecpimlaaPok
import Derived.Test.YtpgpcgpecpimlaaPof
import Derived.Test.YtpgpcgpecpimlaaPo2
import Derived.Deep.RegionLaw
namespace Go.Proofs.Ytpgpcgpecpimlaa
open Go.RowKit
set_option linter.unusedSimpArgs false
set_option linter.unusedVariables false

set_option maxRecDepth 100000 in
set_option maxHeartbeats 8000000 in
theorem pdelete_neg (v : Value) (L : List TnE) (id out : Int) (w : World) (h : TV w v L) (hn5 : L.length ≤ 200) (hid : -9223372036854775808 ≤ id ∧ id ≤ 9223372036854775807) (hout : ¬ 0 < out) : Calls Try.prog 47 #[v, .int .i64 id, .int .i64 out] w fun e w' => ∃ v', e = .returned (.tuple #[v', delA L id]) ∧ TV w' v' (delL L id out) ∧ Below w.heap.size w w' := by
  have HVW := Lib.hid h
  obtain ⟨N0, hN0⟩ : ∃ N0, N0 = w.heap.size := ⟨_, rfl⟩
  obtain ⟨W0, hW0⟩ : ∃ W0, W0 = w.alloc (.cells #[.int .i64 id] 3) := ⟨_, rfl⟩
  have hB0 : Below w.heap.size w W0 := by rw [hW0]; exact (Below.refl _ _).alloc (Nat.le_refl _) _
  have hk0 : Blk W0 N0 #[.int .i64 id] 3 := by rw [hW0, hN0]; exact blk_new _ _ _
  have hs0 : W0.heap.size = N0 + 1 := by rw [hW0, hN0]; simp
  obtain ⟨W1, hW1⟩ : ∃ W1, W1 = W0.alloc (.cells #[.int .i64 0, .int .i64 0, .int .i64 0, .int .i64 0, .int .i64 0] 63) := ⟨_, rfl⟩
  have hB1 : Below w.heap.size w W1 := by rw [hW1]; exact hB0.alloc hB0.size _
  obtain ⟨N, hN⟩ : ∃ N, N = N0 + 1 := ⟨_, rfl⟩
  have HK1 : Hid (Blk W1 N #[.int .i64 0, .int .i64 0, .int .i64 0, .int .i64 0, .int .i64 0] 63) := Lib.hid (by rw [hW1, hN, ← hs0]; exact blk_new _ _ _)
  have HI1 : Hid (Blk W1 N0 #[.int .i64 id] 3) := Lib.hid (by rw [hW1]; exact hk0.alloc _)
  have HV1 := Lib.hid (h.below hB1)
  have HB1 := Lib.hid hB1
  have HNB : Hid (w.heap.size ≤ N) := Lib.hid (by omega)
  clear hB1 hB0 hk0 hs0 h
  obtain ⟨Y, hY⟩ : ∃ Y, Y = delL L id out := ⟨_, rfl⟩
  obtain ⟨R, hR⟩ : ∃ R, R = delA L id := ⟨_, rfl⟩
  rw [← hY, ← hR]
  have HY := Lib.hid hY
  have HR := Lib.hid hR
  obtain ⟨g, hg⟩ : ∃ g, g = getE id L := ⟨_, rfl⟩
  obtain ⟨gr, hgr⟩ : ∃ gr, gr = (getX id L).rate := ⟨_, rfl⟩
  obtain ⟨gb, hgb⟩ : ∃ gb, gb = (getX id L).burst := ⟨_, rfl⟩
  have HG := Lib.hid hg
  have HGT := Lib.hid (pget_any v L id W1 HV1.out)
  unfold getV at HGT
  rw [← hg, ← hgr, ← hgb] at HGT
  unfold ansV at HGT
  have hRx : R = .agg #[.int .i64 g, .int .i64 0, .int .i64 0, .int .i64 0, .int .i64 0] := by rw [hR, hg]; rfl
  subst hRx
  clear hY hR hg hgr hgb
  go_enter Try.func47, Try.ntmps47
  go_upto_region 1 with fail
  rw [← hN0, ← hW0, ← hW1, ← hN]
  clear hN0 hN hW0 hW1
  have i0 : W1.cell? ⟨N0, 0, none⟩ = some (.int .i64 id) := cell_at HI1.out 0
  have il : N0 < W1.heap.size := HI1.out.lt
  go_wp2_with fail
  go_at_call 49
  refine Calls.mono HGT.out ?_
  rintro e W2 ⟨rfl, hB⟩
  have HK2 := Lib.hid (HK1.out.step hB)
  have HB2 := Lib.hid (HB1.out.trans (hB.mono HB1.out.size))
  have HI2 := Lib.hid (HI1.out.step hB)
  clear i0 il
  have i0 : W2.cell? ⟨N0, 0, none⟩ = some (.int .i64 id) := cell_at HI2.out 0
  clear hB
  go_upto_region 2 with fail
  obtain ⟨K, hK⟩ : ∃ K, K = W2.heap.size := ⟨_, rfl⟩
  obtain ⟨WX, hWX⟩ : ∃ W0, W0 = W2.alloc (.cells #[.int .i64 g, .int .i64 gr, .int .i64 gb, .int .i64 0, .int .i64 0] 63) := ⟨_, rfl⟩
  have HBX : Hid (Below w.heap.size w WX) := Lib.hid (by rw [hWX]; exact HB2.out.alloc HB2.out.size _)
  have HXX := Lib.hid (show Below W2.heap.size W2 WX by rw [hWX]; exact (Below.refl _ _).alloc (Nat.le_refl _) _)
  have hkX : Blk WX K #[.int .i64 g, .int .i64 gr, .int .i64 gb, .int .i64 0, .int .i64 0] 63 := by rw [hWX, hK]; exact blk_new _ _ _
  have hKl : w.heap.size ≤ K := by rw [hK]; exact HB2.out.size
  rw [← hK, ← hWX]
  clear hWX hK
  have r0 : WX.cell? ⟨K, 0, none⟩ = some (.int .i64 g) := cell_at hkX 0
  have r1 : WX.cell? ⟨K, 1, none⟩ = some (.int .i64 gr) := cell_at hkX 1
  have r2 : WX.cell? ⟨K, 2, none⟩ = some (.int .i64 gb) := cell_at hkX 2
  have r3 : WX.cell? ⟨K, 3, none⟩ = some (.int .i64 0) := cell_at hkX 3
  have r4 : WX.cell? ⟨K, 4, none⟩ = some (.int .i64 0) := cell_at hkX 4
  have HKX := Lib.hid hkX
  have hlX : K < WX.heap.size := hkX.lt
  clear hkX
  have HKN := Lib.hid (HK2.out.step HXX.out)
  have HIX := Lib.hid (HI2.out.step HXX.out)
  clear i0
  have i0 : WX.cell? ⟨N0, 0, none⟩ = some (.int .i64 id) := cell_at HIX.out 0
  have il : N0 < WX.heap.size := HIX.out.lt
  by_cases h0 : g = 0
  · have hYx : Y = L.filter fun y => !decide (y.id = id) := by rw [HY.out]; unfold delL; rw [← HG.out, if_pos h0, if_neg (show ¬ 0 < out by omega)]
    have HYX := Lib.hid hYx
    subst h0
    clear hYx
    have HCT : ClT 88 #[.pointer (some ⟨N0, 0, none⟩)] (fun y => decide (y.id = id)) L WX := fun x W _ hB9 => del1_any x id N0 W ((hB9.cell (p := ⟨N0, _, none⟩) il).trans i0) (by have := hB9.size; omega)
    have HWO := Lib.hid (without_any 88 #[.pointer (some ⟨N0, 0, none⟩)] (fun y => decide (y.id = id)) v L WX (HVW.out.below HBX.out) hn5 ent_del1 HCT)
    rw [← HYX.out] at HWO
    clear HCT
    go_wp2_with fail
    go_at_call 87
    refine Calls.mono HWO.out ?_
    rintro e W5 ⟨v5, rfl, hv5, hB⟩
    have HK5 := Lib.hid (HKN.out.step hB)
    have HB5 := Lib.hid (HBX.out.trans (hB.mono HBX.out.size))
    have HV5 := Lib.hid hv5
    have HNW : Hid (N < WX.heap.size) := Lib.hid HKN.out.lt
    clear hv5 hB r0 r1 r2 r3 r4 i0 il
    have q0 : W5.cell? ⟨N, 0, none⟩ = some (.int .i64 0) := cell_at HK5.out 0
    have q1 : W5.cell? ⟨N, 1, none⟩ = some (.int .i64 0) := cell_at HK5.out 1
    have q2 : W5.cell? ⟨N, 2, none⟩ = some (.int .i64 0) := cell_at HK5.out 2
    have q3 : W5.cell? ⟨N, 3, none⟩ = some (.int .i64 0) := cell_at HK5.out 3
    have q4 : W5.cell? ⟨N, 4, none⟩ = some (.int .i64 0) := cell_at HK5.out 4
    have zq : ∀ j, W5.frozen? ⟨N, j, none⟩ = false := fun j => free_at HK5.out j
    have lq : N < W5.heap.size := HK5.out.lt
    go_wp2_with fail
    clear q0 q1 q2 q3 q4
    obtain ⟨LS, hLS⟩ : ∃ L : List Value, L = [.int .i64 0, .int .i64 0, .int .i64 0, .int .i64 0, .int .i64 0] := ⟨_, rfl⟩
    obtain ⟨WS, hWS⟩ : ∃ WS, WS = W5.setCells (N) 0 LS := ⟨_, rfl⟩
    have hchS := hWS
    rw [hLS] at hchS
    simp only [World.setCells, Nat.zero_add, Nat.reduceAdd] at hchS
    rw [← hchS]
    clear hchS
    have hkS := stC_blk HK5.out LS (by rw [hLS]; rfl)
    have hfrS := stC_fr (N) LS 0 W5
    rw [← hWS] at hkS hfrS
    rw [hLS] at hkS
    have r0 : WS.cell? ⟨N, 0, none⟩ = some (.int .i64 0) := cell_at hkS 0
    have r1 : WS.cell? ⟨N, 1, none⟩ = some (.int .i64 0) := cell_at hkS 1
    have r2 : WS.cell? ⟨N, 2, none⟩ = some (.int .i64 0) := cell_at hkS 2
    have r3 : WS.cell? ⟨N, 3, none⟩ = some (.int .i64 0) := cell_at hkS 3
    have r4 : WS.cell? ⟨N, 4, none⟩ = some (.int .i64 0) := cell_at hkS 4
    clear hWS hLS
    have hBS := HB5.out.trans (hfrS.below HB5.out.size (by have := HNB.out; simp; omega))
    exact bodyPost_ret (v := .tuple #[v5, .agg #[.int .i64 0, .int .i64 0, .int .i64 0, .int .i64 0, .int .i64 0]]) (by simp [results, Try.results47, go_sem, r0, r1, r2, r3, r4]) rfl ⟨_, rfl, (HV5.out.fr hfrS HNW.out).tv, hBS⟩
  · have hYx : Y = L := by rw [HY.out]; unfold delL; rw [← HG.out, if_neg h0]
    have HYX := Lib.hid hYx
    have n1 : (g != 0) = true := bne_iff_ne.2 h0
    have n2 : (g = 0) = False := eq_false h0
    clear hYx h0
    have HRF := Lib.hid (refuse_any v L g WX (HVW.out.below HBX.out) hn5)
    unfold ansV at HRF
    go_wp2_with fail
    go_at_call 75
    refine Calls.mono HRF.out ?_
    rintro e W9 ⟨v9, rfl, hv9, hB⟩
    have HK9 := Lib.hid (HKN.out.step hB)
    have HB9 := Lib.hid (HBX.out.trans (hB.mono HBX.out.size))
    have HV9 := Lib.hid hv9
    have HN9 : Hid (N < WX.heap.size) := Lib.hid HKN.out.lt
    clear hv9 hB r0 r1 r2 r3 r4 i0 il
    have q0 : W9.cell? ⟨N, 0, none⟩ = some (.int .i64 0) := cell_at HK9.out 0
    have q1 : W9.cell? ⟨N, 1, none⟩ = some (.int .i64 0) := cell_at HK9.out 1
    have q2 : W9.cell? ⟨N, 2, none⟩ = some (.int .i64 0) := cell_at HK9.out 2
    have q3 : W9.cell? ⟨N, 3, none⟩ = some (.int .i64 0) := cell_at HK9.out 3
    have q4 : W9.cell? ⟨N, 4, none⟩ = some (.int .i64 0) := cell_at HK9.out 4
    have zq : ∀ j, W9.frozen? ⟨N, j, none⟩ = false := fun j => free_at HK9.out j
    have lq : N < W9.heap.size := HK9.out.lt
    go_wp2_with fail
    clear q0 q1 q2 q3 q4
    obtain ⟨LS, hLS⟩ : ∃ L : List Value, L = [.int .i64 g, .int .i64 0, .int .i64 0, .int .i64 0, .int .i64 0] := ⟨_, rfl⟩
    obtain ⟨WS, hWS⟩ : ∃ WS, WS = W9.setCells (N) 0 LS := ⟨_, rfl⟩
    have hchS := hWS
    rw [hLS] at hchS
    simp only [World.setCells, Nat.zero_add, Nat.reduceAdd] at hchS
    rw [← hchS]
    clear hchS
    have hkS := stC_blk HK9.out LS (by rw [hLS]; rfl)
    have hfrS := stC_fr (N) LS 0 W9
    rw [← hWS] at hkS hfrS
    rw [hLS] at hkS
    have r0 : WS.cell? ⟨N, 0, none⟩ = some (.int .i64 g) := cell_at hkS 0
    have r1 : WS.cell? ⟨N, 1, none⟩ = some (.int .i64 0) := cell_at hkS 1
    have r2 : WS.cell? ⟨N, 2, none⟩ = some (.int .i64 0) := cell_at hkS 2
    have r3 : WS.cell? ⟨N, 3, none⟩ = some (.int .i64 0) := cell_at hkS 3
    have r4 : WS.cell? ⟨N, 4, none⟩ = some (.int .i64 0) := cell_at hkS 4
    clear hWS hLS
    have hBS := HB9.out.trans (hfrS.below HB9.out.size (by have := HNB.out; simp; omega))
    exact bodyPost_ret (v := .tuple #[v9, .agg #[.int .i64 g, .int .i64 0, .int .i64 0, .int .i64 0, .int .i64 0]]) (by simp [results, Try.results47, go_sem, r0, r1, r2, r3, r4]) rfl ⟨_, rfl, by rw [HYX.out]; exact (HV9.out.fr hfrS HN9.out).tv, hBS⟩
end Go.Proofs.Ytpgpcgpecpimlaa
