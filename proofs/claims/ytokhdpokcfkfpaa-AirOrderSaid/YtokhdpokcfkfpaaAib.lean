/-
  A message looked at.
-/
import Derived.Test.YtokhdpokcfkfpaaAi4
namespace Go.Proofs.Ytokhdpokcfkfpaa
open Go.RowKit
set_option linter.unusedSimpArgs false
set_option linter.unusedVariables false

set_option maxRecDepth 100000 in
set_option maxHeartbeats 8000000 in
theorem look_ok (g b : Nat) (ob : Option Nat) (v : Value) (L : List MsE) (M : Int × Int → Option Value) (k : Nat) (m : MsE) (w : World) (h : AirAt w g b ob v L M) (hk : L[k]? = some m) :
    Calls Try.prog 18 #[.pointer (some ⟨g, 0, none⟩), .int .i64 (k : Int)] w fun e w' => e = .returned (.tuple #[.agg #[.int .i8 0, .int .i64 m.f, .int .i64 m.t, .int .i64 m.te, .int .i64 m.ix, .int .i64 0, .int .i64 0, .bool false, .slice none 0 0, .int .i64 0, .int .i64 0, .int .u8 0, .slice none 0 0, .slice none 0 0], .int .i64 0]) ∧ Below w.heap.size w w' := by
  have hkl : k < L.length := by have := (List.getElem?_eq_some_iff.1 hk).1; exact this
  obtain ⟨N, hN⟩ : ∃ N, N = w.heap.size := ⟨_, rfl⟩
  obtain ⟨W1, hW1⟩ : ∃ W1, W1 = w.alloc (.cells #[.int .i8 0, .int .i64 0, .int .i64 0, .int .i64 0, .int .i64 0, .int .i64 0, .int .i64 0, .bool false, .slice none 0 0, .int .i64 0, .int .i64 0, .int .u8 0, .slice none 0 0, .slice none 0 0] 39) := ⟨_, rfl⟩
  have hB1 : Below w.heap.size w W1 := by rw [hW1]; exact (Below.refl _ _).alloc (Nat.le_refl _) _
  have HR1 : Hid (Blk W1 N #[.int .i8 0, .int .i64 0, .int .i64 0, .int .i64 0, .int .i64 0, .int .i64 0, .int .i64 0, .bool false, .slice none 0 0, .int .i64 0, .int .i64 0, .int .u8 0, .slice none 0 0, .slice none 0 0] 39) := Lib.hid (by rw [hW1, hN]; exact blk_new _ _ _)
  have h1 := h.below hB1
  have LK := Lib.hid (lacks_ok g b ob v L M k W1 h1 hkl)
  have HTW := Lib.hid (twin_any m W1)
  have HB1 := Lib.hid hB1
  have HN := Lib.hid hN
  have HNW1 : Hid (w.heap.size ≤ W1.heap.size) := Lib.hid hB1.size
  obtain ⟨a, c, rfl, n1, n2, ha⟩ := h1.n_le
  unfold maxLen at n2
  obtain ⟨r, er, hq1, hq2⟩ := h1.row.cell (k * 14) (by omega)
  clear hq1 hq2
  have ec : ∀ j, j < 14 → W1.cell? ⟨r, k * 14 + j, none⟩ = m.cells[j]? := fun j hj => by
    obtain ⟨r', er', q, _⟩ := h1.row.cell (k * 14 + j) (by omega)
    rw [er] at er'
    obtain rfl := Option.some.inj er'
    rw [q]
    exact msL_at L k j m hk hj
  subst er
  obtain rfl : a = some ⟨r, 0, none⟩ := ha
  have c0 : W1.cell? ⟨g, 0, none⟩ = some (.slice (some ⟨r, 0, none⟩) L.length c) := cell_at h1.blk 0
  have x0 : W1.cell? ⟨r, k * 14, none⟩ = some (.int .i8 0) := ec 0 (by omega)
  have x1 : W1.cell? ⟨r, k * 14 + 1, none⟩ = some (.int .i64 m.f) := ec 1 (by omega)
  have x2 : W1.cell? ⟨r, k * 14 + 2, none⟩ = some (.int .i64 m.t) := ec 2 (by omega)
  have x3 : W1.cell? ⟨r, k * 14 + 3, none⟩ = some (.int .i64 m.te) := ec 3 (by omega)
  have x4 : W1.cell? ⟨r, k * 14 + 4, none⟩ = some (.int .i64 m.ix) := ec 4 (by omega)
  have x5 : W1.cell? ⟨r, k * 14 + 5, none⟩ = some (.int .i64 0) := ec 5 (by omega)
  have x6 : W1.cell? ⟨r, k * 14 + 6, none⟩ = some (.int .i64 0) := ec 6 (by omega)
  have x7 : W1.cell? ⟨r, k * 14 + 7, none⟩ = some (.bool false) := ec 7 (by omega)
  have x8 : W1.cell? ⟨r, k * 14 + 8, none⟩ = some (.slice none 0 0) := ec 8 (by omega)
  have x9 : W1.cell? ⟨r, k * 14 + 9, none⟩ = some (.int .i64 0) := ec 9 (by omega)
  have x10 : W1.cell? ⟨r, k * 14 + 10, none⟩ = some (.int .i64 0) := ec 10 (by omega)
  have x11 : W1.cell? ⟨r, k * 14 + 11, none⟩ = some (.int .u8 0) := ec 11 (by omega)
  have x12 : W1.cell? ⟨r, k * 14 + 12, none⟩ = some (.slice none 0 0) := ec 12 (by omega)
  have x13 : W1.cell? ⟨r, k * 14 + 13, none⟩ = some (.slice none 0 0) := ec 13 (by omega)
  obtain ⟨n, hnn⟩ : ∃ n, n = L.length := ⟨_, rfl⟩
  rw [← hnn] at c0 n1 hkl
  clear h h1 hB1 hk hnn ec
  go_enter Try.func18, Try.ntmps18
  go_upto_region 1 with fail
  rw [← hN, ← hW1]
  clear hN hW1
  go_wp2_with fail
  go_at_call 33
  refine Calls.mono LK.out ?_
  rintro e w' ⟨rfl, rfl⟩
  go_wp2_with fail
  go_at_call 35
  refine Calls.mono HTW.out ?_
  rintro e W2 ⟨rfl, hf2⟩
  have HR2 : Hid (Blk W2 N #[.int .i8 0, .int .i64 0, .int .i64 0, .int .i64 0, .int .i64 0, .int .i64 0, .int .i64 0, .bool false, .slice none 0 0, .int .i64 0, .int .i64 0, .int .u8 0, .slice none 0 0, .slice none 0 0] 39) := Lib.hid ((hf2.block N HR1.out.lt).trans HR1.out)
  have HB2 := Lib.hid (HB1.out.trans (hf2.mono HNW1.out))
  have d0 : W2.cell? ⟨N, 0, none⟩ = some (.int .i8 0) := cell_at HR2.out 0
  have d1 : W2.cell? ⟨N, 1, none⟩ = some (.int .i64 0) := cell_at HR2.out 1
  have d2 : W2.cell? ⟨N, 2, none⟩ = some (.int .i64 0) := cell_at HR2.out 2
  have d3 : W2.cell? ⟨N, 3, none⟩ = some (.int .i64 0) := cell_at HR2.out 3
  have d4 : W2.cell? ⟨N, 4, none⟩ = some (.int .i64 0) := cell_at HR2.out 4
  have d5 : W2.cell? ⟨N, 5, none⟩ = some (.int .i64 0) := cell_at HR2.out 5
  have d6 : W2.cell? ⟨N, 6, none⟩ = some (.int .i64 0) := cell_at HR2.out 6
  have d7 : W2.cell? ⟨N, 7, none⟩ = some (.bool false) := cell_at HR2.out 7
  have d8 : W2.cell? ⟨N, 8, none⟩ = some (.slice none 0 0) := cell_at HR2.out 8
  have d9 : W2.cell? ⟨N, 9, none⟩ = some (.int .i64 0) := cell_at HR2.out 9
  have d10 : W2.cell? ⟨N, 10, none⟩ = some (.int .i64 0) := cell_at HR2.out 10
  have d11 : W2.cell? ⟨N, 11, none⟩ = some (.int .u8 0) := cell_at HR2.out 11
  have d12 : W2.cell? ⟨N, 12, none⟩ = some (.slice none 0 0) := cell_at HR2.out 12
  have d13 : W2.cell? ⟨N, 13, none⟩ = some (.slice none 0 0) := cell_at HR2.out 13
  have z2 : ∀ j, W2.frozen? ⟨N, j, none⟩ = false := fun j => free_at HR2.out j
  have hN2 : N < W2.heap.size := HR2.out.lt
  clear hf2 HR1 LK HTW c0 x0 x1 x2 x3 x4 x5 x6 x7 x8 x9 x10 x11 x12 x13
  go_wp2_with fail
  obtain ⟨LS, hLS⟩ : ∃ L : List Value, L = [.int .i8 0, .int .i64 m.f, .int .i64 m.t, .int .i64 m.te, .int .i64 m.ix, .int .i64 0, .int .i64 0, .bool false, .slice none 0 0, .int .i64 0, .int .i64 0, .int .u8 0, .slice none 0 0, .slice none 0 0] := ⟨_, rfl⟩
  obtain ⟨WS, hWS⟩ : ∃ WS, WS = W2.setCells (N) 0 LS := ⟨_, rfl⟩
  have hchS := hWS
  rw [hLS] at hchS
  simp only [World.setCells, Nat.zero_add, Nat.reduceAdd] at hchS
  rw [← hchS]
  clear hchS
  have hkS := stC_blk HR2.out LS (by rw [hLS]; rfl)
  have hfrS := stC_fr (N) LS 0 W2
  rw [← hWS] at hkS hfrS
  rw [hLS] at hkS
  have r0 : WS.cell? ⟨N, 0, none⟩ = some (.int .i8 0) := cell_at hkS 0
  have r1 : WS.cell? ⟨N, 1, none⟩ = some (.int .i64 m.f) := cell_at hkS 1
  have r2 : WS.cell? ⟨N, 2, none⟩ = some (.int .i64 m.t) := cell_at hkS 2
  have r3 : WS.cell? ⟨N, 3, none⟩ = some (.int .i64 m.te) := cell_at hkS 3
  have r4 : WS.cell? ⟨N, 4, none⟩ = some (.int .i64 m.ix) := cell_at hkS 4
  have r5 : WS.cell? ⟨N, 5, none⟩ = some (.int .i64 0) := cell_at hkS 5
  have r6 : WS.cell? ⟨N, 6, none⟩ = some (.int .i64 0) := cell_at hkS 6
  have r7 : WS.cell? ⟨N, 7, none⟩ = some (.bool false) := cell_at hkS 7
  have r8 : WS.cell? ⟨N, 8, none⟩ = some (.slice none 0 0) := cell_at hkS 8
  have r9 : WS.cell? ⟨N, 9, none⟩ = some (.int .i64 0) := cell_at hkS 9
  have r10 : WS.cell? ⟨N, 10, none⟩ = some (.int .i64 0) := cell_at hkS 10
  have r11 : WS.cell? ⟨N, 11, none⟩ = some (.int .u8 0) := cell_at hkS 11
  have r12 : WS.cell? ⟨N, 12, none⟩ = some (.slice none 0 0) := cell_at hkS 12
  have r13 : WS.cell? ⟨N, 13, none⟩ = some (.slice none 0 0) := cell_at hkS 13
  clear hWS hLS
  refine bodyPost_ret (v := .tuple #[.agg #[.int .i8 0, .int .i64 m.f, .int .i64 m.t, .int .i64 m.te, .int .i64 m.ix, .int .i64 0, .int .i64 0, .bool false, .slice none 0 0, .int .i64 0, .int .i64 0, .int .u8 0, .slice none 0 0, .slice none 0 0], .int .i64 0]) (by simp [results, Try.results18, go_sem, r0, r1, r2, r3, r4, r5, r6, r7, r8, r9, r10, r11, r12, r13]) rfl ⟨rfl, ?_⟩
  exact HB2.out.trans (hfrS.below HB2.out.size (by have := HN.out; simp; omega))
end Go.Proofs.Ytokhdpokcfkfpaa
