/-
  A tenant deleted: the document.
-/
import Derived.Test.YtpgpcgpecpimlaaPok
import Derived.Test.YtpgpcgpecpimlaaPof
import Derived.Test.YtpgpcgpecpimlaaPoc
import Derived.Test.YtpgpcgpecpimlaaPo2
import Derived.Deep.RegionLaw
namespace Go.Proofs.Ytpgpcgpecpimlaa
open Go.RowKit
set_option linter.unusedSimpArgs false
set_option linter.unusedVariables false

set_option maxRecDepth 100000 in
set_option maxHeartbeats 8000000 in
theorem rdelete_pos (v : Value) (L : List TnE) (id out : Int) (w : World) (h : TV w v L) (hn5 : L.length ≤ 200) (hid : -9223372036854775808 ≤ id ∧ id ≤ 9223372036854775807) (hout : 0 < out) : Calls Try.prog 48 #[v, .int .i64 id, .int .i64 out] w fun e w' => ∃ v', e = .returned (.tuple #[v', delA L id]) ∧ TV w' v' (delL L id out) ∧ Below w.heap.size w w' := by
  have HVW := Lib.hid h
  obtain ⟨N, hN⟩ : ∃ N, N = w.heap.size := ⟨_, rfl⟩
  obtain ⟨W1, hW1⟩ : ∃ W1, W1 = w.alloc (.cells #[.int .i64 0, .int .i64 0, .int .i64 0, .int .i64 0, .int .i64 0] 63) := ⟨_, rfl⟩
  have hB1 : Below w.heap.size w W1 := by rw [hW1]; exact (Below.refl _ _).alloc (Nat.le_refl _) _
  have HK1 : Hid (Blk W1 N #[.int .i64 0, .int .i64 0, .int .i64 0, .int .i64 0, .int .i64 0] 63) := Lib.hid (by rw [hW1, hN]; exact blk_new _ _ _)
  have HV1 := Lib.hid (h.below hB1)
  have HB1 := Lib.hid hB1
  have HNB : Hid (w.heap.size ≤ N) := Lib.hid (by rw [hN]; exact Nat.le_refl _)
  clear hB1 h
  obtain ⟨Y, hY⟩ : ∃ Y, Y = delL L id out := ⟨_, rfl⟩
  obtain ⟨R, hR⟩ : ∃ R, R = delA L id := ⟨_, rfl⟩
  rw [← hY, ← hR]
  have HY := Lib.hid hY
  have HR := Lib.hid hR
  obtain ⟨g, hg⟩ : ∃ g, g = getE id L := ⟨_, rfl⟩
  obtain ⟨gr, hgr⟩ : ∃ gr, gr = (getX id L).rate := ⟨_, rfl⟩
  obtain ⟨gb, hgb⟩ : ∃ gb, gb = (getX id L).burst := ⟨_, rfl⟩
  have HG := Lib.hid hg
  have HGT := Lib.hid (rget_any v L id W1 HV1.out)
  unfold getV at HGT
  rw [← hg, ← hgr, ← hgb] at HGT
  unfold ansV at HGT
  have hRx : R = .agg #[.int .i64 g, .int .i64 0, .int .i64 0, .int .i64 0, .int .i64 0] := by rw [hR, hg]; rfl
  subst hRx
  clear hY hR hg hgr hgb
  go_enter Try.func48, Try.ntmps48
  go_upto_region 1 with fail
  rw [← hN, ← hW1]
  clear hN hW1
  go_wp2_with fail
  go_at_call 50
  refine Calls.mono HGT.out ?_
  rintro e W2 ⟨rfl, hB⟩
  have HK2 := Lib.hid (HK1.out.step hB)
  have HB2 := Lib.hid (HB1.out.trans (hB.mono HB1.out.size))
  clear hB
  go_upto_region 2 with fail
  obtain ⟨K, hK⟩ : ∃ K, K = W2.heap.size := ⟨_, rfl⟩
  obtain ⟨WX, hWX⟩ : ∃ W0, W0 = W2.alloc (.cells #[.int .i64 g, .int .i64 gr, .int .i64 gb, .int .i64 0, .int .i64 0] 63) := ⟨_, rfl⟩
  have HBX : Hid (Below w.heap.size w WX) := Lib.hid (by rw [hWX]; exact HB2.out.alloc HB2.out.size _)
  have HXX := Lib.hid (show Below W2.heap.size W2 WX by rw [hWX]; exact (Below.refl _ _).alloc (Nat.le_refl _) _)
  have hkX : Blk WX K #[.int .i64 g, .int .i64 gr, .int .i64 gb, .int .i64 0, .int .i64 0] 63 := by rw [hWX, hK]; exact blk_new _ _ _
  have hKl : w.heap.size ≤ K := by rw [hK]; exact HB2.out.size
  rw [← hK, ← hWX]
  clear hWX hK
  have r0 : WX.cell? ⟨K, 0, none⟩ = some (.int .i64 g) := cell_at hkX 0
  have r1 : WX.cell? ⟨K, 1, none⟩ = some (.int .i64 gr) := cell_at hkX 1
  have r2 : WX.cell? ⟨K, 2, none⟩ = some (.int .i64 gb) := cell_at hkX 2
  have r3 : WX.cell? ⟨K, 3, none⟩ = some (.int .i64 0) := cell_at hkX 3
  have r4 : WX.cell? ⟨K, 4, none⟩ = some (.int .i64 0) := cell_at hkX 4
  have HKX := Lib.hid hkX
  have hlX : K < WX.heap.size := hkX.lt
  clear hkX
  have HKN := Lib.hid (HK2.out.step HXX.out)
  by_cases h0 : g = 0
  · have hYx : Y = layR (delX id) L := by rw [HY.out]; unfold delL; rw [← HG.out, if_pos h0, if_pos (show 0 < out by omega)]
    have HYX := Lib.hid hYx
    subst h0
    clear hYx
    have hchk : chk L = true := by
      cases hc : chk L
      · exact absurd HG.out (by unfold getE; rw [hc]; simp)
      · rfl
    have HWI := Lib.hid (with_any v L (delX id) WX (HVW.out.below HBX.out) hn5 (by unfold TnE.ok delX; simp only; refine ⟨?_, ?_, ?_, ?_, ?_⟩ <;> first | omega | trivial))
    rw [withF_lay _ L 0 hchk, ← HYX.out] at HWI
    clear hchk
    unfold TnE.agg delX at HWI
    simp only at HWI
    go_wp2_with fail
    go_at_call 85
    refine Calls.mono HWI.out ?_
    rintro e W5 ⟨v5, rfl, hv5, hB⟩
    have HK5 := Lib.hid (HKN.out.step hB)
    have HB5 := Lib.hid (HBX.out.trans (hB.mono HBX.out.size))
    have HV5 := Lib.hid hv5
    have HNW : Hid (N < WX.heap.size) := Lib.hid HKN.out.lt
    clear hv5 hB r0 r1 r2 r3 r4
    have q0 : W5.cell? ⟨N, 0, none⟩ = some (.int .i64 0) := cell_at HK5.out 0
    have q1 : W5.cell? ⟨N, 1, none⟩ = some (.int .i64 0) := cell_at HK5.out 1
    have q2 : W5.cell? ⟨N, 2, none⟩ = some (.int .i64 0) := cell_at HK5.out 2
    have q3 : W5.cell? ⟨N, 3, none⟩ = some (.int .i64 0) := cell_at HK5.out 3
    have q4 : W5.cell? ⟨N, 4, none⟩ = some (.int .i64 0) := cell_at HK5.out 4
    have zq : ∀ j, W5.frozen? ⟨N, j, none⟩ = false := fun j => free_at HK5.out j
    have lq : N < W5.heap.size := HK5.out.lt
    go_wp2_with fail
    clear q0 q1 q2 q3 q4
    obtain ⟨LS, hLS⟩ : ∃ L : List Value, L = [.int .i64 0, .int .i64 0, .int .i64 0, .int .i64 0, .int .i64 0] := ⟨_, rfl⟩
    obtain ⟨WS, hWS⟩ : ∃ WS, WS = W5.setCells (N) 0 LS := ⟨_, rfl⟩
    have hchS := hWS
    rw [hLS] at hchS
    simp only [World.setCells, Nat.zero_add, Nat.reduceAdd] at hchS
    rw [← hchS]
    clear hchS
    have hkS := stC_blk HK5.out LS (by rw [hLS]; rfl)
    have hfrS := stC_fr (N) LS 0 W5
    rw [← hWS] at hkS hfrS
    rw [hLS] at hkS
    have r0 : WS.cell? ⟨N, 0, none⟩ = some (.int .i64 0) := cell_at hkS 0
    have r1 : WS.cell? ⟨N, 1, none⟩ = some (.int .i64 0) := cell_at hkS 1
    have r2 : WS.cell? ⟨N, 2, none⟩ = some (.int .i64 0) := cell_at hkS 2
    have r3 : WS.cell? ⟨N, 3, none⟩ = some (.int .i64 0) := cell_at hkS 3
    have r4 : WS.cell? ⟨N, 4, none⟩ = some (.int .i64 0) := cell_at hkS 4
    clear hWS hLS
    have hBS := HB5.out.trans (hfrS.below HB5.out.size (by have := HNB.out; simp; omega))
    exact bodyPost_ret (v := .tuple #[v5, .agg #[.int .i64 0, .int .i64 0, .int .i64 0, .int .i64 0, .int .i64 0]]) (by simp [results, Try.results48, go_sem, r0, r1, r2, r3, r4]) rfl ⟨_, rfl, (HV5.out.fr hfrS HNW.out).tv, hBS⟩
  · have hYx : Y = L := by rw [HY.out]; unfold delL; rw [← HG.out, if_neg h0]
    have HYX := Lib.hid hYx
    have n1 : (g != 0) = true := bne_iff_ne.2 h0
    have n2 : (g = 0) = False := eq_false h0
    have h0' := h0
    clear hYx h0
    clear r0 r1 r2 r3 r4
    have r0 : WX.cell? ⟨K, 0, none⟩ = some (.int .i64 g) := cell_at HKX.out 0
    go_upto_region 3 with fail
    refine wp_region_held_drew (S := fun X => X.cell? ⟨K, 0, none⟩ = some (.int .i64 g) ∧ K < X.heap.size) (by kernel_rfl) ⟨cell_at (HKX.out.step ((Below.refl WX.heap.size WX).drew)) 0, hlX⟩ (fun hHeld => ?_)
    obtain ⟨Wd, hWd⟩ : ∃ Wd, Wd = WX.drew := ⟨_, rfl⟩
    have hbd : Below WX.heap.size WX Wd := by rw [hWd]; exact (Below.refl _ _).drew
    have HKd := Lib.hid (HKX.out.step hbd)
    have HNd := Lib.hid (HKN.out.step hbd)
    have HBd := Lib.hid (HBX.out.trans (hbd.mono HBX.out.size))
    have HNK : Hid (K ≠ N) := Lib.hid (fun e => by
      have h9 := HKN.out
      subst e
      have h8 := HKX.out.symm.trans h9
      simp at h8
      exact h0' h8.1)
    rw [← hWd] at hHeld ⊢
    clear hWd hbd r0 hlX
    ((refine wpAnyH_take (i := 0) (v := ?_) (by (simp only [List.getElem?_toArray, List.getElem?_cons_succ, List.getElem?_cons_zero]); rfl) (by kernel_rfl) (by kernel_rfl) (by kernel_rfl) (by exact fun _ _ _ h => h) (Or.inl ⟨by rfl, ?_⟩) (by assumption) ?_); rotate_left; focus (intro wS hSw; (try dsimp only at hSw); go_simp; first | done | with_reducible rfl); try simp only [Act.put, List.setIfInBounds_toArray, List.set_cons_zero, List.set_cons_succ])
    ((refine wpAnyH_take (i := 1) (v := ?_) (by (simp only [List.getElem?_toArray, List.getElem?_cons_succ, List.getElem?_cons_zero]); rfl) (by kernel_rfl) (by kernel_rfl) (by kernel_rfl) (by exact fun _ _ _ h => h) (Or.inl ⟨by rfl, ?_⟩) (by assumption) ?_); rotate_left; focus (intro wS hSw; (try dsimp only at hSw); go_simp; first | done | with_reducible rfl); try simp only [Act.put, List.setIfInBounds_toArray, List.set_cons_zero, List.set_cons_succ])
    ((refine wpAnyH_take (i := 2) (v := ?_) (by (simp only [List.getElem?_toArray, List.getElem?_cons_succ, List.getElem?_cons_zero]); rfl) (by kernel_rfl) (by kernel_rfl) (by kernel_rfl) (by exact fun _ _ _ h => h) (Or.inl ⟨by rfl, ?_⟩) (by assumption) ?_); rotate_left; focus (intro wS hSw; (try dsimp only at hSw); go_simp; first | done | with_reducible rfl); try simp only [Act.put, List.setIfInBounds_toArray, List.set_cons_zero, List.set_cons_succ])
    ((refine wpAnyH_take (i := 3) (v := ?_) (by (simp only [List.getElem?_toArray, List.getElem?_cons_succ, List.getElem?_cons_zero]); rfl) (by kernel_rfl) (by kernel_rfl) (by kernel_rfl) (by exact fun _ _ _ h => h) (Or.inl ⟨by rfl, ?_⟩) (by assumption) ?_); rotate_left; focus (intro wS hSw; (try dsimp only at hSw); go_simp; first | done | with_reducible rfl); try simp only [Act.put, List.setIfInBounds_toArray, List.set_cons_zero, List.set_cons_succ])
    ((refine wpAnyH_take (i := 4) (v := ?_) (by (simp only [List.getElem?_toArray, List.getElem?_cons_succ, List.getElem?_cons_zero]); rfl) (by kernel_rfl) (by kernel_rfl) (by kernel_rfl) (by exact fun _ _ _ h => h) (Or.inl ⟨by rfl, ?_⟩) (by assumption) ?_); rotate_left; focus (intro wS hSw; (try dsimp only at hSw); go_simp; first | done | with_reducible rfl); try simp only [Act.put, List.setIfInBounds_toArray, List.set_cons_zero, List.set_cons_succ])
    refine wpAnyH_ready (rs := [5]) (by kernel_rfl) (by simp) ?_
    refine AllReadyH.cons (by (simp only [List.getElem?_toArray, List.getElem?_cons_succ, List.getElem?_cons_zero]); rfl) (fun K9 hK => ?_) AllReadyH.nil
    have q0 : Wd.cell? ⟨N, 0, none⟩ = some (.int .i64 0) := cell_at HNd.out 0
    have q1 : Wd.cell? ⟨N, 1, none⟩ = some (.int .i64 0) := cell_at HNd.out 1
    have q2 : Wd.cell? ⟨N, 2, none⟩ = some (.int .i64 0) := cell_at HNd.out 2
    have q3 : Wd.cell? ⟨N, 3, none⟩ = some (.int .i64 0) := cell_at HNd.out 3
    have q4 : Wd.cell? ⟨N, 4, none⟩ = some (.int .i64 0) := cell_at HNd.out 4
    have zq : ∀ j, Wd.frozen? ⟨N, j, none⟩ = false := fun j => free_at HNd.out j
    have lq : N < Wd.heap.size := HNd.out.lt
    go_simp
    clear q0 q1 q2 q3 q4
    obtain ⟨LS, hLS⟩ : ∃ L : List Value, L = [.int .i64 g, .int .i64 0, .int .i64 0, .int .i64 0, .int .i64 0] := ⟨_, rfl⟩
    obtain ⟨WS, hWS⟩ : ∃ WS, WS = Wd.setCells (N) 0 LS := ⟨_, rfl⟩
    have hchS := hWS
    rw [hLS] at hchS
    simp only [World.setCells, Nat.zero_add, Nat.reduceAdd] at hchS
    rw [← hchS]
    clear hchS
    have hkS := stC_blk HNd.out LS (by rw [hLS]; rfl)
    have hfrS := stC_fr (N) LS 0 Wd
    rw [← hWS] at hkS hfrS
    rw [hLS] at hkS
    have r0 : WS.cell? ⟨N, 0, none⟩ = some (.int .i64 g) := cell_at hkS 0
    have r1 : WS.cell? ⟨N, 1, none⟩ = some (.int .i64 0) := cell_at hkS 1
    have r2 : WS.cell? ⟨N, 2, none⟩ = some (.int .i64 0) := cell_at hkS 2
    have r3 : WS.cell? ⟨N, 3, none⟩ = some (.int .i64 0) := cell_at hkS 3
    have r4 : WS.cell? ⟨N, 4, none⟩ = some (.int .i64 0) := cell_at hkS 4
    clear hWS hLS
    have HKs := Lib.hid (show Blk WS K #[.int .i64 g, .int .i64 gr, .int .i64 gb, .int .i64 0, .int .i64 0] 63 from (hfrS.block K HKd.out.lt (by simp; exact HNK.out)).trans HKd.out)
    have hBS := HBd.out.trans (hfrS.below HBd.out.size (by have := HNB.out; simp; omega))
    refine hK.out _ _ ⟨cell_at HKs.out 0, HKs.out.lt⟩ (fun hHeld => ?_)
    clear hK K9
    try simp only [Act.put, List.setIfInBounds_toArray, List.set_cons_zero, List.set_cons_succ]
    refine wpAnyH_done (by kernel_rfl) ?_ _
    go_wp2_with fail
    exact bodyPost_ret (v := .tuple #[v, .agg #[.int .i64 g, .int .i64 0, .int .i64 0, .int .i64 0, .int .i64 0]]) (by simp [results, Try.results48, go_sem, r0, r1, r2, r3, r4]) rfl ⟨_, rfl, by rw [HYX.out]; exact HVW.out.below hBS, hBS⟩
set_option maxRecDepth 100000 in
set_option maxHeartbeats 8000000 in
theorem rdelete_neg (v : Value) (L : List TnE) (id out : Int) (w : World) (h : TV w v L) (hn5 : L.length ≤ 200) (hid : -9223372036854775808 ≤ id ∧ id ≤ 9223372036854775807) (hout : ¬ 0 < out) : Calls Try.prog 48 #[v, .int .i64 id, .int .i64 out] w fun e w' => ∃ v', e = .returned (.tuple #[v', delA L id]) ∧ TV w' v' (delL L id out) ∧ Below w.heap.size w w' := by
  have HVW := Lib.hid h
  obtain ⟨N, hN⟩ : ∃ N, N = w.heap.size := ⟨_, rfl⟩
  obtain ⟨W1, hW1⟩ : ∃ W1, W1 = w.alloc (.cells #[.int .i64 0, .int .i64 0, .int .i64 0, .int .i64 0, .int .i64 0] 63) := ⟨_, rfl⟩
  have hB1 : Below w.heap.size w W1 := by rw [hW1]; exact (Below.refl _ _).alloc (Nat.le_refl _) _
  have HK1 : Hid (Blk W1 N #[.int .i64 0, .int .i64 0, .int .i64 0, .int .i64 0, .int .i64 0] 63) := Lib.hid (by rw [hW1, hN]; exact blk_new _ _ _)
  have HV1 := Lib.hid (h.below hB1)
  have HB1 := Lib.hid hB1
  have HNB : Hid (w.heap.size ≤ N) := Lib.hid (by rw [hN]; exact Nat.le_refl _)
  clear hB1 h
  obtain ⟨Y, hY⟩ : ∃ Y, Y = delL L id out := ⟨_, rfl⟩
  obtain ⟨R, hR⟩ : ∃ R, R = delA L id := ⟨_, rfl⟩
  rw [← hY, ← hR]
  have HY := Lib.hid hY
  have HR := Lib.hid hR
  obtain ⟨g, hg⟩ : ∃ g, g = getE id L := ⟨_, rfl⟩
  obtain ⟨gr, hgr⟩ : ∃ gr, gr = (getX id L).rate := ⟨_, rfl⟩
  obtain ⟨gb, hgb⟩ : ∃ gb, gb = (getX id L).burst := ⟨_, rfl⟩
  have HG := Lib.hid hg
  have HGT := Lib.hid (rget_any v L id W1 HV1.out)
  unfold getV at HGT
  rw [← hg, ← hgr, ← hgb] at HGT
  unfold ansV at HGT
  have hRx : R = .agg #[.int .i64 g, .int .i64 0, .int .i64 0, .int .i64 0, .int .i64 0] := by rw [hR, hg]; rfl
  subst hRx
  clear hY hR hg hgr hgb
  go_enter Try.func48, Try.ntmps48
  go_upto_region 1 with fail
  rw [← hN, ← hW1]
  clear hN hW1
  go_wp2_with fail
  go_at_call 50
  refine Calls.mono HGT.out ?_
  rintro e W2 ⟨rfl, hB⟩
  have HK2 := Lib.hid (HK1.out.step hB)
  have HB2 := Lib.hid (HB1.out.trans (hB.mono HB1.out.size))
  clear hB
  go_upto_region 2 with fail
  obtain ⟨K, hK⟩ : ∃ K, K = W2.heap.size := ⟨_, rfl⟩
  obtain ⟨WX, hWX⟩ : ∃ W0, W0 = W2.alloc (.cells #[.int .i64 g, .int .i64 gr, .int .i64 gb, .int .i64 0, .int .i64 0] 63) := ⟨_, rfl⟩
  have HBX : Hid (Below w.heap.size w WX) := Lib.hid (by rw [hWX]; exact HB2.out.alloc HB2.out.size _)
  have HXX := Lib.hid (show Below W2.heap.size W2 WX by rw [hWX]; exact (Below.refl _ _).alloc (Nat.le_refl _) _)
  have hkX : Blk WX K #[.int .i64 g, .int .i64 gr, .int .i64 gb, .int .i64 0, .int .i64 0] 63 := by rw [hWX, hK]; exact blk_new _ _ _
  have hKl : w.heap.size ≤ K := by rw [hK]; exact HB2.out.size
  rw [← hK, ← hWX]
  clear hWX hK
  have r0 : WX.cell? ⟨K, 0, none⟩ = some (.int .i64 g) := cell_at hkX 0
  have r1 : WX.cell? ⟨K, 1, none⟩ = some (.int .i64 gr) := cell_at hkX 1
  have r2 : WX.cell? ⟨K, 2, none⟩ = some (.int .i64 gb) := cell_at hkX 2
  have r3 : WX.cell? ⟨K, 3, none⟩ = some (.int .i64 0) := cell_at hkX 3
  have r4 : WX.cell? ⟨K, 4, none⟩ = some (.int .i64 0) := cell_at hkX 4
  have HKX := Lib.hid hkX
  have hlX : K < WX.heap.size := hkX.lt
  clear hkX
  have HKN := Lib.hid (HK2.out.step HXX.out)
  by_cases h0 : g = 0
  · have hYx : Y = L.filter fun y => !decide (y.id = id) := by rw [HY.out]; unfold delL; rw [← HG.out, if_pos h0, if_neg (show ¬ 0 < out by omega)]
    have HYX := Lib.hid hYx
    subst h0
    clear hYx
    have HWO := Lib.hid (rwithout_any v L id WX (HVW.out.below HBX.out) hn5)
    rw [← HYX.out] at HWO
    go_wp2_with fail
    go_at_call 89
    refine Calls.mono HWO.out ?_
    rintro e W5 ⟨v5, rfl, hv5, hB⟩
    have HK5 := Lib.hid (HKN.out.step hB)
    have HB5 := Lib.hid (HBX.out.trans (hB.mono HBX.out.size))
    have HV5 := Lib.hid hv5
    have HNW : Hid (N < WX.heap.size) := Lib.hid HKN.out.lt
    clear hv5 hB r0 r1 r2 r3 r4
    have q0 : W5.cell? ⟨N, 0, none⟩ = some (.int .i64 0) := cell_at HK5.out 0
    have q1 : W5.cell? ⟨N, 1, none⟩ = some (.int .i64 0) := cell_at HK5.out 1
    have q2 : W5.cell? ⟨N, 2, none⟩ = some (.int .i64 0) := cell_at HK5.out 2
    have q3 : W5.cell? ⟨N, 3, none⟩ = some (.int .i64 0) := cell_at HK5.out 3
    have q4 : W5.cell? ⟨N, 4, none⟩ = some (.int .i64 0) := cell_at HK5.out 4
    have zq : ∀ j, W5.frozen? ⟨N, j, none⟩ = false := fun j => free_at HK5.out j
    have lq : N < W5.heap.size := HK5.out.lt
    go_wp2_with fail
    clear q0 q1 q2 q3 q4
    obtain ⟨LS, hLS⟩ : ∃ L : List Value, L = [.int .i64 0, .int .i64 0, .int .i64 0, .int .i64 0, .int .i64 0] := ⟨_, rfl⟩
    obtain ⟨WS, hWS⟩ : ∃ WS, WS = W5.setCells (N) 0 LS := ⟨_, rfl⟩
    have hchS := hWS
    rw [hLS] at hchS
    simp only [World.setCells, Nat.zero_add, Nat.reduceAdd] at hchS
    rw [← hchS]
    clear hchS
    have hkS := stC_blk HK5.out LS (by rw [hLS]; rfl)
    have hfrS := stC_fr (N) LS 0 W5
    rw [← hWS] at hkS hfrS
    rw [hLS] at hkS
    have r0 : WS.cell? ⟨N, 0, none⟩ = some (.int .i64 0) := cell_at hkS 0
    have r1 : WS.cell? ⟨N, 1, none⟩ = some (.int .i64 0) := cell_at hkS 1
    have r2 : WS.cell? ⟨N, 2, none⟩ = some (.int .i64 0) := cell_at hkS 2
    have r3 : WS.cell? ⟨N, 3, none⟩ = some (.int .i64 0) := cell_at hkS 3
    have r4 : WS.cell? ⟨N, 4, none⟩ = some (.int .i64 0) := cell_at hkS 4
    clear hWS hLS
    have hBS := HB5.out.trans (hfrS.below HB5.out.size (by have := HNB.out; simp; omega))
    exact bodyPost_ret (v := .tuple #[v5, .agg #[.int .i64 0, .int .i64 0, .int .i64 0, .int .i64 0, .int .i64 0]]) (by simp [results, Try.results48, go_sem, r0, r1, r2, r3, r4]) rfl ⟨_, rfl, (HV5.out.fr hfrS HNW.out).tv, hBS⟩
  · have hYx : Y = L := by rw [HY.out]; unfold delL; rw [← HG.out, if_neg h0]
    have HYX := Lib.hid hYx
    have n1 : (g != 0) = true := bne_iff_ne.2 h0
    have n2 : (g = 0) = False := eq_false h0
    have h0' := h0
    clear hYx h0
    clear r0 r1 r2 r3 r4
    have r0 : WX.cell? ⟨K, 0, none⟩ = some (.int .i64 g) := cell_at HKX.out 0
    go_upto_region 3 with fail
    refine wp_region_held_drew (S := fun X => X.cell? ⟨K, 0, none⟩ = some (.int .i64 g) ∧ K < X.heap.size) (by kernel_rfl) ⟨cell_at (HKX.out.step ((Below.refl WX.heap.size WX).drew)) 0, hlX⟩ (fun hHeld => ?_)
    obtain ⟨Wd, hWd⟩ : ∃ Wd, Wd = WX.drew := ⟨_, rfl⟩
    have hbd : Below WX.heap.size WX Wd := by rw [hWd]; exact (Below.refl _ _).drew
    have HKd := Lib.hid (HKX.out.step hbd)
    have HNd := Lib.hid (HKN.out.step hbd)
    have HBd := Lib.hid (HBX.out.trans (hbd.mono HBX.out.size))
    have HNK : Hid (K ≠ N) := Lib.hid (fun e => by
      have h9 := HKN.out
      subst e
      have h8 := HKX.out.symm.trans h9
      simp at h8
      exact h0' h8.1)
    rw [← hWd] at hHeld ⊢
    clear hWd hbd r0 hlX
    ((refine wpAnyH_take (i := 0) (v := ?_) (by (simp only [List.getElem?_toArray, List.getElem?_cons_succ, List.getElem?_cons_zero]); rfl) (by kernel_rfl) (by kernel_rfl) (by kernel_rfl) (by exact fun _ _ _ h => h) (Or.inl ⟨by rfl, ?_⟩) (by assumption) ?_); rotate_left; focus (intro wS hSw; (try dsimp only at hSw); go_simp; first | done | with_reducible rfl); try simp only [Act.put, List.setIfInBounds_toArray, List.set_cons_zero, List.set_cons_succ])
    ((refine wpAnyH_take (i := 1) (v := ?_) (by (simp only [List.getElem?_toArray, List.getElem?_cons_succ, List.getElem?_cons_zero]); rfl) (by kernel_rfl) (by kernel_rfl) (by kernel_rfl) (by exact fun _ _ _ h => h) (Or.inl ⟨by rfl, ?_⟩) (by assumption) ?_); rotate_left; focus (intro wS hSw; (try dsimp only at hSw); go_simp; first | done | with_reducible rfl); try simp only [Act.put, List.setIfInBounds_toArray, List.set_cons_zero, List.set_cons_succ])
    ((refine wpAnyH_take (i := 2) (v := ?_) (by (simp only [List.getElem?_toArray, List.getElem?_cons_succ, List.getElem?_cons_zero]); rfl) (by kernel_rfl) (by kernel_rfl) (by kernel_rfl) (by exact fun _ _ _ h => h) (Or.inl ⟨by rfl, ?_⟩) (by assumption) ?_); rotate_left; focus (intro wS hSw; (try dsimp only at hSw); go_simp; first | done | with_reducible rfl); try simp only [Act.put, List.setIfInBounds_toArray, List.set_cons_zero, List.set_cons_succ])
    ((refine wpAnyH_take (i := 3) (v := ?_) (by (simp only [List.getElem?_toArray, List.getElem?_cons_succ, List.getElem?_cons_zero]); rfl) (by kernel_rfl) (by kernel_rfl) (by kernel_rfl) (by exact fun _ _ _ h => h) (Or.inl ⟨by rfl, ?_⟩) (by assumption) ?_); rotate_left; focus (intro wS hSw; (try dsimp only at hSw); go_simp; first | done | with_reducible rfl); try simp only [Act.put, List.setIfInBounds_toArray, List.set_cons_zero, List.set_cons_succ])
    ((refine wpAnyH_take (i := 4) (v := ?_) (by (simp only [List.getElem?_toArray, List.getElem?_cons_succ, List.getElem?_cons_zero]); rfl) (by kernel_rfl) (by kernel_rfl) (by kernel_rfl) (by exact fun _ _ _ h => h) (Or.inl ⟨by rfl, ?_⟩) (by assumption) ?_); rotate_left; focus (intro wS hSw; (try dsimp only at hSw); go_simp; first | done | with_reducible rfl); try simp only [Act.put, List.setIfInBounds_toArray, List.set_cons_zero, List.set_cons_succ])
    refine wpAnyH_ready (rs := [5]) (by kernel_rfl) (by simp) ?_
    refine AllReadyH.cons (by (simp only [List.getElem?_toArray, List.getElem?_cons_succ, List.getElem?_cons_zero]); rfl) (fun K9 hK => ?_) AllReadyH.nil
    have q0 : Wd.cell? ⟨N, 0, none⟩ = some (.int .i64 0) := cell_at HNd.out 0
    have q1 : Wd.cell? ⟨N, 1, none⟩ = some (.int .i64 0) := cell_at HNd.out 1
    have q2 : Wd.cell? ⟨N, 2, none⟩ = some (.int .i64 0) := cell_at HNd.out 2
    have q3 : Wd.cell? ⟨N, 3, none⟩ = some (.int .i64 0) := cell_at HNd.out 3
    have q4 : Wd.cell? ⟨N, 4, none⟩ = some (.int .i64 0) := cell_at HNd.out 4
    have zq : ∀ j, Wd.frozen? ⟨N, j, none⟩ = false := fun j => free_at HNd.out j
    have lq : N < Wd.heap.size := HNd.out.lt
    go_simp
    clear q0 q1 q2 q3 q4
    obtain ⟨LS, hLS⟩ : ∃ L : List Value, L = [.int .i64 g, .int .i64 0, .int .i64 0, .int .i64 0, .int .i64 0] := ⟨_, rfl⟩
    obtain ⟨WS, hWS⟩ : ∃ WS, WS = Wd.setCells (N) 0 LS := ⟨_, rfl⟩
    have hchS := hWS
    rw [hLS] at hchS
    simp only [World.setCells, Nat.zero_add, Nat.reduceAdd] at hchS
    rw [← hchS]
    clear hchS
    have hkS := stC_blk HNd.out LS (by rw [hLS]; rfl)
    have hfrS := stC_fr (N) LS 0 Wd
    rw [← hWS] at hkS hfrS
    rw [hLS] at hkS
    have r0 : WS.cell? ⟨N, 0, none⟩ = some (.int .i64 g) := cell_at hkS 0
    have r1 : WS.cell? ⟨N, 1, none⟩ = some (.int .i64 0) := cell_at hkS 1
    have r2 : WS.cell? ⟨N, 2, none⟩ = some (.int .i64 0) := cell_at hkS 2
    have r3 : WS.cell? ⟨N, 3, none⟩ = some (.int .i64 0) := cell_at hkS 3
    have r4 : WS.cell? ⟨N, 4, none⟩ = some (.int .i64 0) := cell_at hkS 4
    clear hWS hLS
    have HKs := Lib.hid (show Blk WS K #[.int .i64 g, .int .i64 gr, .int .i64 gb, .int .i64 0, .int .i64 0] 63 from (hfrS.block K HKd.out.lt (by simp; exact HNK.out)).trans HKd.out)
    have hBS := HBd.out.trans (hfrS.below HBd.out.size (by have := HNB.out; simp; omega))
    refine hK.out _ _ ⟨cell_at HKs.out 0, HKs.out.lt⟩ (fun hHeld => ?_)
    clear hK K9
    try simp only [Act.put, List.setIfInBounds_toArray, List.set_cons_zero, List.set_cons_succ]
    refine wpAnyH_done (by kernel_rfl) ?_ _
    go_wp2_with fail
    exact bodyPost_ret (v := .tuple #[v, .agg #[.int .i64 g, .int .i64 0, .int .i64 0, .int .i64 0, .int .i64 0]]) (by simp [results, Try.results48, go_sem, r0, r1, r2, r3, r4]) rfl ⟨_, rfl, by rw [HYX.out]; exact HVW.out.below hBS, hBS⟩
end Go.Proofs.Ytpgpcgpecpimlaa
