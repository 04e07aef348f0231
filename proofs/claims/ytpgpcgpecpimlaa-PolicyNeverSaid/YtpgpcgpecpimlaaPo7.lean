/-
  A tenant found: the program.
-/
import Derived.Test.YtpgpcgpecpimlaaPo6
import Derived.Test.YtpgpcgpecpimlaaPo2
import Derived.Deep.RegionLaw
namespace Go.Proofs.Ytpgpcgpecpimlaa
open Go.RowKit
set_option linter.unusedSimpArgs false
set_option linter.unusedVariables false

set_option maxRecDepth 100000 in
set_option maxHeartbeats 4000000 in
theorem pfind_any (v : Value) (L : List TnE) (key : Int) (w : World) (h : TV w v L) : Calls Try.prog 78 #[v, .int .i64 key] w fun e w' => e = .returned (.tuple #[((if isAt key L then some (gt L (plc key L)) else none).getD z0).agg, .bool (isAt key L)]) ∧ Below w.heap.size w w' := by
  obtain ⟨N, hN⟩ : ∃ N, N = w.heap.size := ⟨_, rfl⟩
  obtain ⟨W1, hW1⟩ : ∃ W1, W1 = w.alloc (.cells #[.int .i64 0, .int .i64 0, .int .i64 0, .int .i64 0, .bool false] 72) := ⟨_, rfl⟩
  have hB1 : Below w.heap.size w W1 := by rw [hW1]; exact (Below.refl _ _).alloc (Nat.le_refl _) _
  have HK1 : Hid (Blk W1 N #[.int .i64 0, .int .i64 0, .int .i64 0, .int .i64 0, .bool false] 72) := Lib.hid (by rw [hW1, hN]; exact blk_new _ _ _)
  have HPL := Lib.hid (place_any v L key W1 (h.below hB1))
  have HB1 := Lib.hid hB1
  have HNB : Hid (w.heap.size ≤ N) := Lib.hid (by rw [hN]; exact Nat.le_refl _)
  obtain ⟨p, hp⟩ : ∃ p, p = plc key L := ⟨_, rfl⟩
  have HA := Lib.hid (isAt_eq key L)
  rw [← hp] at HPL HA ⊢
  clear hp hB1
  obtain ⟨a, b, o, cap, rfl, h⟩ := h
  have m1 := h.le
  have m2 := h.max
  unfold maxLen at m2
  have H1 := Lib.hid h
  clear h
  obtain ⟨n, hn⟩ : ∃ n, n = L.length := ⟨_, rfl⟩
  have HN := Lib.hid hn
  rw [← hn] at m1 H1 ⊢
  clear hn
  rw [← HN.out] at HA HPL
  obtain ⟨C, hC⟩ : ∃ C, C = isAt key L := ⟨_, rfl⟩
  rw [← hC] at HA HPL ⊢
  obtain ⟨R, hR⟩ : ∃ R, R = ((if C then some (gt L p) else none).getD z0).agg := ⟨_, rfl⟩
  rw [← hR]
  have HR := Lib.hid hR
  have HC := Lib.hid hC
  clear hC hR
  go_enter Try.func78, Try.ntmps78
  go_upto_region 1 with fail
  rw [← hN, ← hW1]
  clear hN hW1
  go_wp2_with fail
  go_at_call 96
  refine Calls.mono HPL.out ?_
  rintro e W2 ⟨rfl, hB2⟩
  have HK2 := Lib.hid (HK1.out.step hB2)
  have HB2 := Lib.hid (HB1.out.trans (hB2.mono HB1.out.size))
  clear HK1 HB1 hB2
  have z2 : ∀ j, W2.frozen? ⟨N, j, none⟩ = false := fun j => free_at HK2.out j
  have l2 : N < W2.heap.size := HK2.out.lt
  cases C
  · have q0 : W2.cell? ⟨N, 0, none⟩ = some (.int .i64 0) := cell_at HK2.out 0
    have q1 : W2.cell? ⟨N, 1, none⟩ = some (.int .i64 0) := cell_at HK2.out 1
    have q2 : W2.cell? ⟨N, 2, none⟩ = some (.int .i64 0) := cell_at HK2.out 2
    have q3 : W2.cell? ⟨N, 3, none⟩ = some (.int .i64 0) := cell_at HK2.out 3
    have q4 : W2.cell? ⟨N, 4, none⟩ = some (.bool false) := cell_at HK2.out 4
    go_wp2_with fail
    obtain ⟨LS, hLS⟩ : ∃ L : List Value, L = [.int .i64 0, .int .i64 0, .int .i64 0, .int .i64 0, .bool false] := ⟨_, rfl⟩
    obtain ⟨WS, hWS⟩ : ∃ WS, WS = W2.setCells (N) 0 LS := ⟨_, rfl⟩
    have hchS := hWS
    rw [hLS] at hchS
    simp only [World.setCells, Nat.zero_add, Nat.reduceAdd] at hchS
    rw [← hchS]
    clear hchS
    have hkS := stC_blk HK2.out LS (by rw [hLS]; rfl)
    have hfrS := stC_fr (N) LS 0 W2
    rw [← hWS] at hkS hfrS
    rw [hLS] at hkS
    have r0 : WS.cell? ⟨N, 0, none⟩ = some (.int .i64 0) := cell_at hkS 0
    have r1 : WS.cell? ⟨N, 1, none⟩ = some (.int .i64 0) := cell_at hkS 1
    have r2 : WS.cell? ⟨N, 2, none⟩ = some (.int .i64 0) := cell_at hkS 2
    have r3 : WS.cell? ⟨N, 3, none⟩ = some (.int .i64 0) := cell_at hkS 3
    have r4 : WS.cell? ⟨N, 4, none⟩ = some (.bool false) := cell_at hkS 4
    clear hWS hLS
    have hBS := HB2.out.trans (hfrS.below HB2.out.size (by have := HNB.out; simp; omega))
    exact bodyPost_ret (v := .tuple #[.agg #[.int .i64 0, .int .i64 0, .int .i64 0, .int .i64 0, .bool false], .bool false]) (by simp [results, Try.results78, go_sem, r0, r1, r2, r3, r4]) rfl ⟨by rw [HR.out]; rfl, hBS⟩
  · have hpn : p < n := by have := HA.out; simp at this; exact this.1
    have hs1 := H1.out.below HB2.out
    obtain ⟨e0, e1⟩ := hs1.at_ (by omega)
    subst e0
    obtain ⟨c0, c1, c2, c3, c4⟩ := hs1.cell p hpn
    obtain ⟨x, hx⟩ : ∃ x, x = gt L p := ⟨_, rfl⟩
    rw [← hx] at c0 c1 c2 c3 c4
    have HX := Lib.hid hx
    clear hs1 hx
    have q0 : W2.cell? ⟨N, 0, none⟩ = some (.int .i64 0) := cell_at HK2.out 0
    have q1 : W2.cell? ⟨N, 1, none⟩ = some (.int .i64 0) := cell_at HK2.out 1
    have q2 : W2.cell? ⟨N, 2, none⟩ = some (.int .i64 0) := cell_at HK2.out 2
    have q3 : W2.cell? ⟨N, 3, none⟩ = some (.int .i64 0) := cell_at HK2.out 3
    have q4 : W2.cell? ⟨N, 4, none⟩ = some (.bool false) := cell_at HK2.out 4
    go_wp2_with fail
    have hRx : R = .agg #[.int .i64 x.id, .int .i64 x.rate, .int .i64 x.burst, .int .i64 x.bkt, .bool x.gone] := by rw [HR.out, HX.out]; rfl
    subst hRx
    clear q0 q1 q2 q3 q4 c0 c1 c2 c3 c4
    obtain ⟨LS, hLS⟩ : ∃ L : List Value, L = [.int .i64 x.id, .int .i64 x.rate, .int .i64 x.burst, .int .i64 x.bkt, .bool x.gone] := ⟨_, rfl⟩
    obtain ⟨WS, hWS⟩ : ∃ WS, WS = W2.setCells (N) 0 LS := ⟨_, rfl⟩
    have hchS := hWS
    rw [hLS] at hchS
    simp only [World.setCells, Nat.zero_add, Nat.reduceAdd] at hchS
    rw [← hchS]
    clear hchS
    have hkS := stC_blk HK2.out LS (by rw [hLS]; rfl)
    have hfrS := stC_fr (N) LS 0 W2
    rw [← hWS] at hkS hfrS
    rw [hLS] at hkS
    have r0 : WS.cell? ⟨N, 0, none⟩ = some (.int .i64 x.id) := cell_at hkS 0
    have r1 : WS.cell? ⟨N, 1, none⟩ = some (.int .i64 x.rate) := cell_at hkS 1
    have r2 : WS.cell? ⟨N, 2, none⟩ = some (.int .i64 x.burst) := cell_at hkS 2
    have r3 : WS.cell? ⟨N, 3, none⟩ = some (.int .i64 x.bkt) := cell_at hkS 3
    have r4 : WS.cell? ⟨N, 4, none⟩ = some (.bool x.gone) := cell_at hkS 4
    clear hWS hLS
    have hBS := HB2.out.trans (hfrS.below HB2.out.size (by have := HNB.out; simp; omega))
    exact bodyPost_ret (v := .tuple #[.agg #[.int .i64 x.id, .int .i64 x.rate, .int .i64 x.burst, .int .i64 x.bkt, .bool x.gone], .bool true]) (by simp [results, Try.results78, go_sem, r0, r1, r2, r3, r4]) rfl ⟨rfl, hBS⟩
end Go.Proofs.Ytpgpcgpecpimlaa
