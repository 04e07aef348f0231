/-
  A message taken, delivered.
-/
import Derived.Test.YtokhdpokcfkfpaaAi5
namespace Go.Proofs.Ytokhdpokcfkfpaa
open Go.RowKit
set_option linter.unusedSimpArgs false
set_option linter.unusedVariables false

set_option maxRecDepth 100000 in
set_option maxHeartbeats 8000000 in
theorem take_ok (g b : Nat) (ob : Option Nat) (v : Value) (L : List MsE) (M : Int × Int → Option Value) (k : Nat) (m : MsE) (w : World) (h : AirAt w g b ob v L M) (hk : L[k]? = some m) :
    Calls Try.prog 34 #[.pointer (some ⟨g, 0, none⟩), .int .i64 (k : Int)] w fun e w' => e = .returned (.agg #[.int .i8 m.kd, .int .i64 m.f, .int .i64 m.t, .int .i64 m.te, .int .i64 m.ix, .int .i64 m.la, .int .i64 m.co, .bool m.ok, .slice none 0 0, .int .i64 m.si, .int .i64 m.st, .int .u8 m.sc, .slice none 0 0, .slice none 0 0]) ∧ ∃ v', AirAt w' g b ob v' (L.eraseIdx k) M ∧ Fr (g :: ob.toList) w w' := by
  have hkl : k < L.length := by have := (List.getElem?_eq_some_iff.1 hk).1; exact this
  obtain ⟨mm, hmm⟩ : ∃ mm, L.length = k + mm + 1 := ⟨L.length - k - 1, by omega⟩
  obtain ⟨N, hN⟩ : ∃ N, N = w.heap.size := ⟨_, rfl⟩
  obtain ⟨W1, hW1⟩ : ∃ W1, W1 = (w.alloc (.cells #[.int .i8 0, .int .i64 0, .int .i64 0, .int .i64 0, .int .i64 0, .int .i64 0, .int .i64 0, .bool false, .slice none 0 0, .int .i64 0, .int .i64 0, .int .u8 0, .slice none 0 0, .slice none 0 0] 39)).alloc (.cells #[.int .i8 m.kd, .int .i64 m.f, .int .i64 m.t, .int .i64 m.te, .int .i64 m.ix, .int .i64 m.la, .int .i64 m.co, .bool m.ok, .slice none 0 0, .int .i64 m.si, .int .i64 m.st, .int .u8 m.sc, .slice none 0 0, .slice none 0 0] 39) := ⟨_, rfl⟩
  have hB1 : Below w.heap.size w W1 := by rw [hW1]; exact ((Below.refl _ _).alloc (Nat.le_refl _) _).alloc (by simp) _
  have HR1 : Hid (Blk W1 N #[.int .i8 0, .int .i64 0, .int .i64 0, .int .i64 0, .int .i64 0, .int .i64 0, .int .i64 0, .bool false, .slice none 0 0, .int .i64 0, .int .i64 0, .int .u8 0, .slice none 0 0, .slice none 0 0] 39) := Lib.hid (by rw [hW1, hN]; exact (blk_new _ _ _).alloc _)
  have HK1 : Hid (Blk W1 (N + 1) #[.int .i8 m.kd, .int .i64 m.f, .int .i64 m.t, .int .i64 m.te, .int .i64 m.ix, .int .i64 m.la, .int .i64 m.co, .bool m.ok, .slice none 0 0, .int .i64 m.si, .int .i64 m.st, .int .u8 m.sc, .slice none 0 0, .slice none 0 0] 39) := Lib.hid (by
    have := blk_new (w.alloc (.cells #[.int .i8 0, .int .i64 0, .int .i64 0, .int .i64 0, .int .i64 0, .int .i64 0, .int .i64 0, .bool false, .slice none 0 0, .int .i64 0, .int .i64 0, .int .u8 0, .slice none 0 0, .slice none 0 0] 39)) #[.int .i8 m.kd, .int .i64 m.f, .int .i64 m.t, .int .i64 m.te, .int .i64 m.ix, .int .i64 m.la, .int .i64 m.co, .bool m.ok, .slice none 0 0, .int .i64 m.si, .int .i64 m.st, .int .u8 m.sc, .slice none 0 0, .slice none 0 0] 39
    rw [World.size_alloc] at this
    rw [hW1, hN]
    exact this)
  have h1 := h.below hB1
  obtain ⟨a, c, rfl, n1, n2, ha⟩ := h.n_le
  have HMX := Lib.hid n2
  unfold maxLen at n2
  obtain ⟨r, er, hq1, hq2⟩ := h.row.cell (k * 14) (by omega)
  clear hq1 hq2
  have ec : ∀ j, j < 14 → w.cell? ⟨r, k * 14 + j, none⟩ = m.cells[j]? := fun j hj => by
    obtain ⟨r', er', q, _⟩ := h.row.cell (k * 14 + j) (by omega)
    rw [er] at er'
    obtain rfl := Option.some.inj er'
    rw [q]
    exact msL_at L k j m hk hj
  subst er
  obtain rfl : a = some ⟨r, 0, none⟩ := ha
  have hrl : r < w.heap.size := h.row.lt
  have hgl : g < w.heap.size := h.blk.lt
  have c0 : ∀ o, (w.alloc o).cell? ⟨g, 0, none⟩ = some (.slice (some ⟨r, 0, none⟩) (k + mm + 1) c) := fun o => by rw [← hmm]; exact cell_at (h.blk.alloc o) 0
  have c1 : W1.cell? ⟨g, 0, none⟩ = some (.slice (some ⟨r, 0, none⟩) (k + mm + 1) c) := by rw [← hmm]; exact cell_at h1.blk 0
  have ea : ∀ j o, j < 14 → (w.alloc o).cell? ⟨r, k * 14 + j, none⟩ = m.cells[j]? := fun j o hj => (((Below.refl w.heap.size w).alloc (Nat.le_refl _) o).cell (p := ⟨r, _, none⟩) hrl).trans (ec j hj)
  have x0 : ∀ o, (w.alloc o).cell? ⟨r, k * 14, none⟩ = some (.int .i8 m.kd) := fun o => ea 0 o (by omega)
  have x1 : ∀ o, (w.alloc o).cell? ⟨r, k * 14 + 1, none⟩ = some (.int .i64 m.f) := fun o => ea 1 o (by omega)
  have x2 : ∀ o, (w.alloc o).cell? ⟨r, k * 14 + 2, none⟩ = some (.int .i64 m.t) := fun o => ea 2 o (by omega)
  have x3 : ∀ o, (w.alloc o).cell? ⟨r, k * 14 + 3, none⟩ = some (.int .i64 m.te) := fun o => ea 3 o (by omega)
  have x4 : ∀ o, (w.alloc o).cell? ⟨r, k * 14 + 4, none⟩ = some (.int .i64 m.ix) := fun o => ea 4 o (by omega)
  have x5 : ∀ o, (w.alloc o).cell? ⟨r, k * 14 + 5, none⟩ = some (.int .i64 m.la) := fun o => ea 5 o (by omega)
  have x6 : ∀ o, (w.alloc o).cell? ⟨r, k * 14 + 6, none⟩ = some (.int .i64 m.co) := fun o => ea 6 o (by omega)
  have x7 : ∀ o, (w.alloc o).cell? ⟨r, k * 14 + 7, none⟩ = some (.bool m.ok) := fun o => ea 7 o (by omega)
  have x8 : ∀ o, (w.alloc o).cell? ⟨r, k * 14 + 8, none⟩ = some (.slice none 0 0) := fun o => ea 8 o (by omega)
  have x9 : ∀ o, (w.alloc o).cell? ⟨r, k * 14 + 9, none⟩ = some (.int .i64 m.si) := fun o => ea 9 o (by omega)
  have x10 : ∀ o, (w.alloc o).cell? ⟨r, k * 14 + 10, none⟩ = some (.int .i64 m.st) := fun o => ea 10 o (by omega)
  have x11 : ∀ o, (w.alloc o).cell? ⟨r, k * 14 + 11, none⟩ = some (.int .u8 m.sc) := fun o => ea 11 o (by omega)
  have x12 : ∀ o, (w.alloc o).cell? ⟨r, k * 14 + 12, none⟩ = some (.slice none 0 0) := fun o => ea 12 o (by omega)
  have x13 : ∀ o, (w.alloc o).cell? ⟨r, k * 14 + 13, none⟩ = some (.slice none 0 0) := fun o => ea 13 o (by omega)
  have DL := Lib.hid (deleteM_any r c k mm L W1 (by have := h1.row; rw [hmm] at this; exact this) hmm)
  have H1 := Lib.hid h1
  have HF1 : Hid (Fr (g :: (some r).toList) w W1) := Lib.hid ((Fr.of_below hB1).mono (by simp))
  have HN := Lib.hid hN
  have HMM := Lib.hid hmm
  have HKL := Lib.hid hkl
  have hNl : N + 1 < W1.heap.size := HK1.out.lt
  have HGN : Hid (g < N ∧ r < N) := Lib.hid ⟨by omega, by omega⟩
  have n3 : k + mm + 1 ≤ c := by omega
  clear h h1 hB1 hk hkl hmm ec ea n1
  go_enter Try.func34, Try.ntmps34
  go_upto_region 2 with fail
  rw [← hN, ← hW1]
  clear hN hW1 c0 x0 x1 x2 x3 x4 x5 x6 x7 x8 x9 x10 x11 x12 x13
  go_wp2_with fail
  go_at_call 44
  refine Calls.mono DL.out ?_
  rintro e W2 ⟨rfl, hrow2, hf2⟩
  have hb2 : Blk W2 g #[.slice (some ⟨r, 0, none⟩) (k + mm + 1) c, .map (some b)] 61 := by
    have := (hf2.block g H1.out.blk.lt (by simp; exact fun e => H1.out.no (by rw [e]))).trans H1.out.blk
    rw [HMM.out] at this
    exact this
  have HR2 : Hid (Blk W2 N #[.int .i8 0, .int .i64 0, .int .i64 0, .int .i64 0, .int .i64 0, .int .i64 0, .int .i64 0, .bool false, .slice none 0 0, .int .i64 0, .int .i64 0, .int .u8 0, .slice none 0 0, .slice none 0 0] 39) := Lib.hid ((hf2.block N HR1.out.lt (by have := HGN.out; simp; omega)).trans HR1.out)
  have HK2 : Hid (Blk W2 (N + 1) #[.int .i8 m.kd, .int .i64 m.f, .int .i64 m.t, .int .i64 m.te, .int .i64 m.ix, .int .i64 m.la, .int .i64 m.co, .bool m.ok, .slice none 0 0, .int .i64 m.si, .int .i64 m.st, .int .u8 m.sc, .slice none 0 0, .slice none 0 0] 39) := Lib.hid ((hf2.block (N + 1) HK1.out.lt (by have := HGN.out; simp; omega)).trans HK1.out)
  have o0 : W2.cell? ⟨g, 0, none⟩ = some (.slice (some ⟨r, 0, none⟩) (k + mm + 1) c) := cell_at hb2 0
  have z0 := free_at hb2 0
  have hg2 : g < W2.heap.size := hb2.lt
  have HB2 := Lib.hid hb2
  have HRW2 := Lib.hid hrow2
  have HF2 := Lib.hid hf2
  clear hrow2 hf2 hb2 DL
  go_upto_region 3 with fail
  obtain ⟨W3, hW3⟩ : ∃ W3, W3 = W2.setCell ⟨g, 0, none⟩ (.slice (some ⟨r, 0, none⟩) (k + mm) c) := ⟨_, rfl⟩
  rw [← hW3]
  have hf3 : Fr [g] W2 W3 := by rw [hW3]; exact (Fr.refl [g] W2).setCell ⟨g, 0, none⟩ (.inl (by simp)) _
  have hA3 : AirAt W3 g b (some r) (.slice (some ⟨r, 0, none⟩) (k + mm) c) (L.eraseIdx k) M := by
    have hlen : (L.eraseIdx k).length = k + mm := by rw [List.length_eraseIdx, if_pos HKL.out, HMM.out]; omega
    refine ⟨by rw [hW3]; exact HB2.out.set 0 _, ?_, ?_, H1.out.ne, H1.out.no, H1.out.nb⟩
    · rw [hlen]
      exact HRW2.out.congr fun x hx => by
        obtain rfl := Option.some.inj hx
        exact hf3.block _ HRW2.out.lt (by simp; exact fun e => H1.out.no (by rw [e]))
    · refine H1.out.map.congr ((hf3.block b (by have := HF2.out.size; have := H1.out.map.lt; omega) (by simp; exact fun e => H1.out.ne e.symm)).trans (HF2.out.block b H1.out.map.lt (by simp; exact fun e => H1.out.nb (by rw [e]))))
  have HA3 := Lib.hid hA3
  have HF3 := Lib.hid ((HF1.out.trans HF2.out (fun x hx => .inl (by simp at hx; simp [hx]))).trans hf3 (fun x hx => .inl (by simp at hx; simp [hx])))
  have HR3 : Hid (Blk W3 N #[.int .i8 0, .int .i64 0, .int .i64 0, .int .i64 0, .int .i64 0, .int .i64 0, .int .i64 0, .bool false, .slice none 0 0, .int .i64 0, .int .i64 0, .int .u8 0, .slice none 0 0, .slice none 0 0] 39) := Lib.hid ((hf3.block N HR2.out.lt (by have := HGN.out; simp; omega)).trans HR2.out)
  have hk3 : Blk W3 (N + 1) #[.int .i8 m.kd, .int .i64 m.f, .int .i64 m.t, .int .i64 m.te, .int .i64 m.ix, .int .i64 m.la, .int .i64 m.co, .bool m.ok, .slice none 0 0, .int .i64 m.si, .int .i64 m.st, .int .u8 m.sc, .slice none 0 0, .slice none 0 0] 39 := (hf3.block (N + 1) HK2.out.lt (by have := HGN.out; simp; omega)).trans HK2.out
  have HK3 := Lib.hid hk3
  have m0 : W3.cell? ⟨N + 1, 0, none⟩ = some (.int .i8 m.kd) := cell_at HK3.out 0
  have m1 : W3.cell? ⟨N + 1, 1, none⟩ = some (.int .i64 m.f) := cell_at HK3.out 1
  have m2 : W3.cell? ⟨N + 1, 2, none⟩ = some (.int .i64 m.t) := cell_at HK3.out 2
  have m3 : W3.cell? ⟨N + 1, 3, none⟩ = some (.int .i64 m.te) := cell_at HK3.out 3
  have m4 : W3.cell? ⟨N + 1, 4, none⟩ = some (.int .i64 m.ix) := cell_at HK3.out 4
  have m5 : W3.cell? ⟨N + 1, 5, none⟩ = some (.int .i64 m.la) := cell_at HK3.out 5
  have m6 : W3.cell? ⟨N + 1, 6, none⟩ = some (.int .i64 m.co) := cell_at HK3.out 6
  have m7 : W3.cell? ⟨N + 1, 7, none⟩ = some (.bool m.ok) := cell_at HK3.out 7
  have m8 : W3.cell? ⟨N + 1, 8, none⟩ = some (.slice none 0 0) := cell_at HK3.out 8
  have m9 : W3.cell? ⟨N + 1, 9, none⟩ = some (.int .i64 m.si) := cell_at HK3.out 9
  have m10 : W3.cell? ⟨N + 1, 10, none⟩ = some (.int .i64 m.st) := cell_at HK3.out 10
  have m11 : W3.cell? ⟨N + 1, 11, none⟩ = some (.int .u8 m.sc) := cell_at HK3.out 11
  have m12 : W3.cell? ⟨N + 1, 12, none⟩ = some (.slice none 0 0) := cell_at HK3.out 12
  have m13 : W3.cell? ⟨N + 1, 13, none⟩ = some (.slice none 0 0) := cell_at HK3.out 13
  have d0 : W3.cell? ⟨N, 0, none⟩ = some (.int .i8 0) := cell_at HR3.out 0
  have d1 : W3.cell? ⟨N, 1, none⟩ = some (.int .i64 0) := cell_at HR3.out 1
  have d2 : W3.cell? ⟨N, 2, none⟩ = some (.int .i64 0) := cell_at HR3.out 2
  have d3 : W3.cell? ⟨N, 3, none⟩ = some (.int .i64 0) := cell_at HR3.out 3
  have d4 : W3.cell? ⟨N, 4, none⟩ = some (.int .i64 0) := cell_at HR3.out 4
  have d5 : W3.cell? ⟨N, 5, none⟩ = some (.int .i64 0) := cell_at HR3.out 5
  have d6 : W3.cell? ⟨N, 6, none⟩ = some (.int .i64 0) := cell_at HR3.out 6
  have d7 : W3.cell? ⟨N, 7, none⟩ = some (.bool false) := cell_at HR3.out 7
  have d8 : W3.cell? ⟨N, 8, none⟩ = some (.slice none 0 0) := cell_at HR3.out 8
  have d9 : W3.cell? ⟨N, 9, none⟩ = some (.int .i64 0) := cell_at HR3.out 9
  have d10 : W3.cell? ⟨N, 10, none⟩ = some (.int .i64 0) := cell_at HR3.out 10
  have d11 : W3.cell? ⟨N, 11, none⟩ = some (.int .u8 0) := cell_at HR3.out 11
  have d12 : W3.cell? ⟨N, 12, none⟩ = some (.slice none 0 0) := cell_at HR3.out 12
  have d13 : W3.cell? ⟨N, 13, none⟩ = some (.slice none 0 0) := cell_at HR3.out 13
  have z3 : ∀ j, W3.frozen? ⟨N, j, none⟩ = false := fun j => free_at HR3.out j
  have hN3 : N < W3.heap.size := HR3.out.lt
  have hN4 : N + 1 < W3.heap.size := hk3.lt
  clear hf3 hA3 hk3 hW3 o0 z0 hg2 HB2 HRW2 HF2 HF1 H1 HR1 HK1 HR2 HK2 c1 hNl
  go_wp2_with fail
  obtain ⟨LS, hLS⟩ : ∃ L : List Value, L = [.int .i8 m.kd, .int .i64 m.f, .int .i64 m.t, .int .i64 m.te, .int .i64 m.ix, .int .i64 m.la, .int .i64 m.co, .bool m.ok, .slice none 0 0, .int .i64 m.si, .int .i64 m.st, .int .u8 m.sc, .slice none 0 0, .slice none 0 0] := ⟨_, rfl⟩
  obtain ⟨WS, hWS⟩ : ∃ WS, WS = W3.setCells (N) 0 LS := ⟨_, rfl⟩
  have hchS := hWS
  rw [hLS] at hchS
  simp only [World.setCells, Nat.zero_add, Nat.reduceAdd] at hchS
  rw [← hchS]
  clear hchS
  have hkS := stC_blk HR3.out LS (by rw [hLS]; rfl)
  have hfrS := stC_fr (N) LS 0 W3
  rw [← hWS] at hkS hfrS
  rw [hLS] at hkS
  have r0 : WS.cell? ⟨N, 0, none⟩ = some (.int .i8 m.kd) := cell_at hkS 0
  have r1 : WS.cell? ⟨N, 1, none⟩ = some (.int .i64 m.f) := cell_at hkS 1
  have r2 : WS.cell? ⟨N, 2, none⟩ = some (.int .i64 m.t) := cell_at hkS 2
  have r3 : WS.cell? ⟨N, 3, none⟩ = some (.int .i64 m.te) := cell_at hkS 3
  have r4 : WS.cell? ⟨N, 4, none⟩ = some (.int .i64 m.ix) := cell_at hkS 4
  have r5 : WS.cell? ⟨N, 5, none⟩ = some (.int .i64 m.la) := cell_at hkS 5
  have r6 : WS.cell? ⟨N, 6, none⟩ = some (.int .i64 m.co) := cell_at hkS 6
  have r7 : WS.cell? ⟨N, 7, none⟩ = some (.bool m.ok) := cell_at hkS 7
  have r8 : WS.cell? ⟨N, 8, none⟩ = some (.slice none 0 0) := cell_at hkS 8
  have r9 : WS.cell? ⟨N, 9, none⟩ = some (.int .i64 m.si) := cell_at hkS 9
  have r10 : WS.cell? ⟨N, 10, none⟩ = some (.int .i64 m.st) := cell_at hkS 10
  have r11 : WS.cell? ⟨N, 11, none⟩ = some (.int .u8 m.sc) := cell_at hkS 11
  have r12 : WS.cell? ⟨N, 12, none⟩ = some (.slice none 0 0) := cell_at hkS 12
  have r13 : WS.cell? ⟨N, 13, none⟩ = some (.slice none 0 0) := cell_at hkS 13
  clear hWS hLS
  have hA9 := HA3.out.fr hfrS (by have := HGN.out; simp; omega) (by
    have := HA3.out.map.lt
    intro hm
    simp at hm
    have q := HA3.out.map
    obtain ⟨LL, cc, q1, _⟩ := q
    have q2 := HR3.out
    unfold Blk at q2
    rw [← hm, q1] at q2
    simp at q2) (fun x hx => by obtain rfl := Option.some.inj hx; have := HGN.out; simp; omega)
  have hF9 := HF3.out.trans hfrS (fun x hx => by simp at hx; subst hx; have := HN.out; exact .inr (by omega))
  have HA9 := Lib.hid hA9
  have HF9 := Lib.hid hF9
  clear hA9 hF9 hfrS hkS
  exact bodyPost_ret (v := .agg #[.int .i8 m.kd, .int .i64 m.f, .int .i64 m.t, .int .i64 m.te, .int .i64 m.ix, .int .i64 m.la, .int .i64 m.co, .bool m.ok, .slice none 0 0, .int .i64 m.si, .int .i64 m.st, .int .u8 m.sc, .slice none 0 0, .slice none 0 0]) (by simp [results, Try.results34, go_sem, r0, r1, r2, r3, r4, r5, r6, r7, r8, r9, r10, r11, r12, r13]) rfl ⟨rfl, _, HA9.out, HF9.out⟩
end Go.Proofs.Ytokhdpokcfkfpaa
