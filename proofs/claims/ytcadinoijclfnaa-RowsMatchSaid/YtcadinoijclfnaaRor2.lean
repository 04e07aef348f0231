/-
  An entry told: the document.
-/
import Derived.Test.YtcadinoijclfnaaRor1
import Derived.Test.YtcadinoijclfnaaRob
import Derived.Test.YtcadinoijclfnaaRor0
import Derived.Deep.DeepFit
namespace Go.Proofs.Ytcadinoijclfnaa
open Go.RowKit
set_option linter.unusedSimpArgs false
set_option linter.unusedVariables false

set_option maxRecDepth 100000 in
set_option maxHeartbeats 8000000 in
theorem rentry_in (base term idx : Int) (v : Value) (L : List EnD) (w : World) (h : RV w v L) (hk : okE base term L = 0) (hx : base < idx ∧ idx ≤ base + L.length) :
    Calls Try.prog 23 #[.agg #[.int .i64 base, .int .i64 term, v], .int .i64 idx] w fun e w' => ∃ x : DE, e = .returned (.tuple #[.agg #[.int .i64 x.t, .int .i8 x.k, .int .i64 x.s, .int .u8 x.st, .slice x.da x.dl x.dc], .bool true]) ∧ L[(idx - base - 1).toNat]? = some x.pure ∧ x.by_ w' ∧ Below w.heap.size w w' := by
  obtain ⟨a, ln, c, rfl, Hln, m1, m2, m3⟩ := h.sh
  have HV := Lib.hid h
  have HV0 := Lib.hid h
  have HCK := Lib.hid (fun W (h : RV W (.slice a ln c) L) => rcheckR_any base term _ L W h)
  rw [hk] at HCK
  have HLS := Lib.hid (fun W (h : RV W (.slice a ln c) L) => rlastR_any base term _ L W h hk)
  have HDL := Lib.hid (okE_dl hk)
  obtain ⟨b0, b1, b2, b3⟩ := okE_head hk
  rw [← Hln.out] at HLS b1 b2 hx
  obtain ⟨en, hen⟩ : ∃ en, en = base + (ln : Int) := ⟨_, rfl⟩
  rw [← hen] at HLS hx
  have HEN := Lib.hid hen
  obtain ⟨x0, x1⟩ := hx
  obtain ⟨j, hj⟩ := Int.eq_ofNat_of_zero_le (show 0 ≤ idx - base - 1 by omega)
  have hjl : j < ln := by omega
  rw [hj, Int.toNat_natCast]
  obtain ⟨y, hy⟩ : ∃ y, y = idx - base := ⟨_, rfl⟩
  have hyj : y = ((j + 1 : Nat) : Int) := by omega
  subst hyj
  have ww1 : IntKind.i64.wrap (idx - base) = ((j + 1 : Nat) : Int) := (IntWalk.i64_in _ (by omega)).trans hy.symm
  have ww2 : IntKind.i64.wrap (((j + 1 : Nat) : Int) - 1) = (j : Int) := (IntWalk.i64_in _ (by omega)).trans (by omega)
  obtain ⟨j1, hj1⟩ : ∃ j1, j1 = j + 1 := ⟨_, rfl⟩
  rw [← hj1] at ww1 ww2
  have ww3 : IntKind.i64.wrap (j : Int) = (j : Int) := IntWalk.i64_in _ (by omega)
  have ww4 : IntKind.i64.wrap (j1 : Int) = (j1 : Int) := IntWalk.i64_in _ (by omega)
  have d1 : decide (idx ≤ base) = false := decide_eq_false (by omega)
  have d2 : decide (en < idx) = false := decide_eq_false (by omega)
  have hs1 := fun W' : World => rv_lh (a := a) (ln := ln) (c := c) j j1 (by omega) (by omega) W'
  have hp1 := rv_mid HV0.out j j1 c (by omega) (by omega) (by omega) (Nat.le_refl _)
  simp only [show j1 - j = 1 by omega] at hs1 hp1
  obtain ⟨sa, hsa⟩ : ∃ sa, sa = midA a j c := ⟨_, rfl⟩
  obtain ⟨sc, hsc⟩ : ∃ sc, sc = c - j := ⟨_, rfl⟩
  rw [← hsa, ← hsc] at hs1 hp1
  have HP := Lib.hid hp1
  have HCP := Lib.hid (fun W (h : RV W (.slice sa 1 sc) ((L.drop j).take 1)) => copied1_any _ _ W h (by rw [List.length_take, List.length_drop, ← Hln.out]; omega) (fit_take (fit_drop HDL.out j) 1))
  have HLJ : Hid (((L.drop j).take 1)[0]? = L[j]?) := Lib.hid (by rw [List.getElem?_take, if_pos (by omega), List.getElem?_drop, Nat.add_zero])
  have hj2 : (j1 ≤ c) = True := eq_true (by omega)
  clear h hk hen hj hy hj1 hp1 hsa hsc x0 x1
  have HB : Hid (Below w.heap.size w w) := Lib.hid (Below.refl _ _)
  go_enter Try.func23, Try.ntmps23
  go_upto_region 1 with fail
  obtain ⟨N, hN⟩ : ∃ n0, n0 = w.heap.size := ⟨_, rfl⟩
  have HLON : Hid (w.heap.size ≤ N) := Lib.hid (by have := HB.out.size; omega)
  obtain ⟨W1, hA0⟩ : ∃ W0, W0 = w.alloc (.cells #[.int .i64 base, .int .i64 term, .slice a ln c] 24) := ⟨_, rfl⟩
  have hB : Below w.heap.size w W1 := by rw [hA0]; exact (Below.refl _ _).alloc (Nat.le_refl _) _
  have hS0 : W1.heap.size = N + 1 := by rw [hA0]; simp [← hN]
  have HR := Lib.hid (show Blk W1 N #[.int .i64 base, .int .i64 term, .slice a ln c] 24 by rw [hA0, hN]; exact blk_new _ _ _)
  replace HB := Lib.hid (HB.out.trans (hB.mono HB.out.size))
  replace HV := Lib.hid (HV.out.below hB)
  replace HP := Lib.hid (HP.out.below hB)
  clear hB
  obtain ⟨W2, hA1⟩ : ∃ W0, W0 = W1.alloc (.cells #[.int .i64 0, .int .i8 0, .int .i64 0, .int .u8 0, .slice none 0 0] 47) := ⟨_, rfl⟩
  have hB : Below W1.heap.size W1 W2 := by rw [hA1]; exact (Below.refl _ _).alloc (Nat.le_refl _) _
  have hS1 : W2.heap.size = N + 2 := by rw [hA1]; simp [hS0]
  have HK1 := Lib.hid (show Blk W2 (N + 1) #[.int .i64 0, .int .i8 0, .int .i64 0, .int .u8 0, .slice none 0 0] 47 by rw [hA1, ← hS0]; exact blk_new _ _ _)
  replace HB := Lib.hid (HB.out.trans (hB.mono HB.out.size))
  replace HV := Lib.hid (HV.out.below hB)
  replace HP := Lib.hid (HP.out.below hB)
  replace HR := Lib.hid (HR.out.step hB)
  clear hB
  have HSN := Lib.hid hS1
  rw [← hN, ← hA0, ← hA1]
  clear hA1 hA0 hN hS0 hS1
  have qR0 : W2.cell? ⟨N, 0, none⟩ = some (.int .i64 base) := cell_at HR.out 0
  have qR1 : W2.cell? ⟨N, 1, none⟩ = some (.int .i64 term) := cell_at HR.out 1
  have qR2 : W2.cell? ⟨N, 2, none⟩ = some (.slice a ln c) := cell_at HR.out 2
  have qRz : ∀ j, W2.frozen? ⟨N, j, none⟩ = false := fun j => free_at HR.out j
  have qRl : N < W2.heap.size := HR.out.lt
  obtain ⟨lt, HL9⟩ := HLS.out W2 HV.out
  have HL := Lib.hid HL9
  clear HL9
  go_wp2_with fail
  go_at_call 22
  go_fit HL.out
  rintro e W3 ⟨rfl, hB⟩
  clear qR0 qR1 qR2 qRz qRl
  replace HB := Lib.hid (HB.out.trans (hB.mono HB.out.size))
  replace HV := Lib.hid (HV.out.below hB)
  replace HP := Lib.hid (HP.out.below hB)
  replace HR := Lib.hid (HR.out.step hB)
  replace HK1 := Lib.hid (HK1.out.step hB)
  clear hB
  have qR0 : W3.cell? ⟨N, 0, none⟩ = some (.int .i64 base) := cell_at HR.out 0
  have qR1 : W3.cell? ⟨N, 1, none⟩ = some (.int .i64 term) := cell_at HR.out 1
  have qR2 : W3.cell? ⟨N, 2, none⟩ = some (.slice a ln c) := cell_at HR.out 2
  have qRz : ∀ j, W3.frozen? ⟨N, j, none⟩ = false := fun j => free_at HR.out j
  have qRl : N < W3.heap.size := HR.out.lt
  go_wp2_with fail
  go_at_call 21
  go_fit (HCK.out _ HV.out)
  rintro e W4 ⟨rfl, hB⟩
  clear qR0 qR1 qR2 qRz qRl
  replace HB := Lib.hid (HB.out.trans (hB.mono HB.out.size))
  replace HV := Lib.hid (HV.out.below hB)
  replace HP := Lib.hid (HP.out.below hB)
  replace HR := Lib.hid (HR.out.step hB)
  replace HK1 := Lib.hid (HK1.out.step hB)
  clear hB
  have qR0 : W4.cell? ⟨N, 0, none⟩ = some (.int .i64 base) := cell_at HR.out 0
  have qR1 : W4.cell? ⟨N, 1, none⟩ = some (.int .i64 term) := cell_at HR.out 1
  have qR2 : W4.cell? ⟨N, 2, none⟩ = some (.slice a ln c) := cell_at HR.out 2
  have qRz : ∀ j, W4.frozen? ⟨N, j, none⟩ = false := fun j => free_at HR.out j
  have qRl : N < W4.heap.size := HR.out.lt
  have hNW : (N + 1) < W4.heap.size := HK1.out.lt
  have HNW := Lib.hid hNW
  clear hNW
  go_wp2_with fail
  go_at_call 38
  go_fit (HCP.out _ HP.out)
  rintro e W5 ⟨a0, c5, g, o, x, rfl, c51, c52, g1, g2, g3, g4, ⟨k0, k1, k2, k3, k4⟩, hB⟩
  clear qR0 qR1 qR2 qRz qRl
  replace HB := Lib.hid (HB.out.trans (hB.mono HB.out.size))
  replace HV := Lib.hid (HV.out.below hB)
  replace HP := Lib.hid (HP.out.below hB)
  replace HR := Lib.hid (HR.out.step hB)
  replace HK1 := Lib.hid (HK1.out.step hB)
  clear hB
  rw [HLJ.out] at g2
  have HG2 := Lib.hid g2
  have HG3 := Lib.hid g3
  have HG4 : Hid (0 < x.dl → N + 1 < x.b) := Lib.hid (fun h => by have h1 := g4 h; have h2 := HNW.out; omega)
  clear g2 g3 g4
  have qK10 : W5.cell? ⟨(N + 1), 0, none⟩ = some (.int .i64 0) := cell_at HK1.out 0
  have qK11 : W5.cell? ⟨(N + 1), 1, none⟩ = some (.int .i8 0) := cell_at HK1.out 1
  have qK12 : W5.cell? ⟨(N + 1), 2, none⟩ = some (.int .i64 0) := cell_at HK1.out 2
  have qK13 : W5.cell? ⟨(N + 1), 3, none⟩ = some (.int .u8 0) := cell_at HK1.out 3
  have qK14 : W5.cell? ⟨(N + 1), 4, none⟩ = some (.slice none 0 0) := cell_at HK1.out 4
  have qK1z : ∀ j, W5.frozen? ⟨(N + 1), j, none⟩ = false := fun j => free_at HK1.out j
  have qK1l : (N + 1) < W5.heap.size := HK1.out.lt
  go_wp2_with fail
  clear k0 k1 k2 k3 k4
  have hfB : ∀ W9 : World, Fr [N + 1] W5 W9 → x.by_ W9 := fun W9 hf => by
    have hd := HG3.out
    unfold DE.by_ at hd ⊢
    refine ⟨hd.le, hd.max, fun hk => ⟨(hd.at_ hk).1, by have := (hd.at_ hk).2; have := hf.size; omega⟩, fun k hk => ?_, hd.bd⟩
    exact (cell_congr (hf.block x.b (hd.at_ (by omega)).2 (by have := HG4.out (by omega); simp; omega)) _).trans (hd.cell k hk)
  have HFB := Lib.hid hfB
  clear hfB
  clear qK10 qK11 qK12 qK13 qK14 qK1z qK1l
  obtain ⟨LS, hLS⟩ : ∃ L : List Value, L = [.int .i64 x.t, .int .i8 x.k, .int .i64 x.s, .int .u8 x.st, .slice x.da x.dl x.dc] := ⟨_, rfl⟩
  obtain ⟨W6, hWS⟩ : ∃ WS, WS = W5.setCells (N + 1) 0 LS := ⟨_, rfl⟩
  have hch := hWS
  rw [hLS] at hch
  simp only [World.setCells, Nat.zero_add, Nat.reduceAdd] at hch
  rw [← hch]
  clear hch
  have hkS := stC_blk HK1.out LS (by rw [hLS]; rfl)
  have hfS := stC_fr (N + 1) LS 0 W5
  rw [← hWS] at hkS hfS
  rw [hLS] at hkS
  replace HB := Lib.hid (HB.out.trans (hfS.below HB.out.size (by have := HLON.out; simp; try omega)))
  replace HR := Lib.hid (show Blk W6 N #[.int .i64 base, .int .i64 term, .slice a ln c] 24 from (hfS.block _ HR.out.lt (by simp; try omega)).trans HR.out)
  replace HK1 := Lib.hid (show Blk W6 (N + 1) #[.int .i64 x.t, .int .i8 x.k, .int .i64 x.s, .int .u8 x.st, .slice x.da x.dl x.dc] 47 from hkS)
  have hby := HFB.out _ hfS
  clear hWS hLS hkS hfS
  have qK10 : W6.cell? ⟨(N + 1), 0, none⟩ = some (.int .i64 x.t) := cell_at HK1.out 0
  have qK11 : W6.cell? ⟨(N + 1), 1, none⟩ = some (.int .i8 x.k) := cell_at HK1.out 1
  have qK12 : W6.cell? ⟨(N + 1), 2, none⟩ = some (.int .i64 x.s) := cell_at HK1.out 2
  have qK13 : W6.cell? ⟨(N + 1), 3, none⟩ = some (.int .u8 x.st) := cell_at HK1.out 3
  have qK14 : W6.cell? ⟨(N + 1), 4, none⟩ = some (.slice x.da x.dl x.dc) := cell_at HK1.out 4
  have qK1z : ∀ j, W6.frozen? ⟨(N + 1), j, none⟩ = false := fun j => free_at HK1.out j
  have qK1l : (N + 1) < W6.heap.size := HK1.out.lt
  exact bodyPost_ret (v := .tuple #[.agg #[.int .i64 x.t, .int .i8 x.k, .int .i64 x.s, .int .u8 x.st, .slice x.da x.dl x.dc], .bool true]) (by simp [results, Try.results23, go_sem, qK10, qK11, qK12, qK13, qK14]) rfl ⟨x, rfl, HG2.out, hby, HB.out⟩
set_option maxRecDepth 100000 in
set_option maxHeartbeats 8000000 in
theorem rentry_out (base term idx : Int) (v : Value) (L : List EnD) (w : World) (h : RV w v L) (hk : okE base term L = 0) (hx : base < idx ∧ base + L.length < idx) :
    Calls Try.prog 23 #[.agg #[.int .i64 base, .int .i64 term, v], .int .i64 idx] w fun e w' => e = .returned (.tuple #[.agg #[.int .i64 0, .int .i8 0, .int .i64 0, .int .u8 0, .slice none 0 0], .bool false]) ∧ Below w.heap.size w w' := by
  obtain ⟨a, ln, c, rfl, Hln, m1, m2, m3⟩ := h.sh
  have HV := Lib.hid h
  have HV0 := Lib.hid h
  have HCK := Lib.hid (fun W (h : RV W (.slice a ln c) L) => rcheckR_any base term _ L W h)
  rw [hk] at HCK
  have HLS := Lib.hid (fun W (h : RV W (.slice a ln c) L) => rlastR_any base term _ L W h hk)
  have HDL := Lib.hid (okE_dl hk)
  obtain ⟨b0, b1, b2, b3⟩ := okE_head hk
  rw [← Hln.out] at HLS b1 b2 hx
  obtain ⟨en, hen⟩ : ∃ en, en = base + (ln : Int) := ⟨_, rfl⟩
  rw [← hen] at HLS hx
  have HEN := Lib.hid hen
  obtain ⟨x0, x1⟩ := hx
  have d1 : decide (idx ≤ base) = false := decide_eq_false (by omega)
  have d2 : decide (en < idx) = true := decide_eq_true x1
  clear h hk hen x0 x1
  have HB : Hid (Below w.heap.size w w) := Lib.hid (Below.refl _ _)
  go_enter Try.func23, Try.ntmps23
  go_upto_region 1 with fail
  obtain ⟨N, hN⟩ : ∃ n0, n0 = w.heap.size := ⟨_, rfl⟩
  have HLON : Hid (w.heap.size ≤ N) := Lib.hid (by have := HB.out.size; omega)
  obtain ⟨W1, hA0⟩ : ∃ W0, W0 = w.alloc (.cells #[.int .i64 base, .int .i64 term, .slice a ln c] 24) := ⟨_, rfl⟩
  have hB : Below w.heap.size w W1 := by rw [hA0]; exact (Below.refl _ _).alloc (Nat.le_refl _) _
  have hS0 : W1.heap.size = N + 1 := by rw [hA0]; simp [← hN]
  have HR := Lib.hid (show Blk W1 N #[.int .i64 base, .int .i64 term, .slice a ln c] 24 by rw [hA0, hN]; exact blk_new _ _ _)
  replace HB := Lib.hid (HB.out.trans (hB.mono HB.out.size))
  replace HV := Lib.hid (HV.out.below hB)
  clear hB
  obtain ⟨W2, hA1⟩ : ∃ W0, W0 = W1.alloc (.cells #[.int .i64 0, .int .i8 0, .int .i64 0, .int .u8 0, .slice none 0 0] 47) := ⟨_, rfl⟩
  have hB : Below W1.heap.size W1 W2 := by rw [hA1]; exact (Below.refl _ _).alloc (Nat.le_refl _) _
  have hS1 : W2.heap.size = N + 2 := by rw [hA1]; simp [hS0]
  have HK1 := Lib.hid (show Blk W2 (N + 1) #[.int .i64 0, .int .i8 0, .int .i64 0, .int .u8 0, .slice none 0 0] 47 by rw [hA1, ← hS0]; exact blk_new _ _ _)
  replace HB := Lib.hid (HB.out.trans (hB.mono HB.out.size))
  replace HV := Lib.hid (HV.out.below hB)
  replace HR := Lib.hid (HR.out.step hB)
  clear hB
  have HSN := Lib.hid hS1
  rw [← hN, ← hA0, ← hA1]
  clear hA1 hA0 hN hS0 hS1
  have qR0 : W2.cell? ⟨N, 0, none⟩ = some (.int .i64 base) := cell_at HR.out 0
  have qR1 : W2.cell? ⟨N, 1, none⟩ = some (.int .i64 term) := cell_at HR.out 1
  have qR2 : W2.cell? ⟨N, 2, none⟩ = some (.slice a ln c) := cell_at HR.out 2
  have qRz : ∀ j, W2.frozen? ⟨N, j, none⟩ = false := fun j => free_at HR.out j
  have qRl : N < W2.heap.size := HR.out.lt
  obtain ⟨lt, HL9⟩ := HLS.out W2 HV.out
  have HL := Lib.hid HL9
  clear HL9
  go_wp2_with fail
  go_at_call 22
  go_fit HL.out
  rintro e W3 ⟨rfl, hB⟩
  clear qR0 qR1 qR2 qRz qRl
  replace HB := Lib.hid (HB.out.trans (hB.mono HB.out.size))
  replace HV := Lib.hid (HV.out.below hB)
  replace HR := Lib.hid (HR.out.step hB)
  replace HK1 := Lib.hid (HK1.out.step hB)
  clear hB
  have qR0 : W3.cell? ⟨N, 0, none⟩ = some (.int .i64 base) := cell_at HR.out 0
  have qR1 : W3.cell? ⟨N, 1, none⟩ = some (.int .i64 term) := cell_at HR.out 1
  have qR2 : W3.cell? ⟨N, 2, none⟩ = some (.slice a ln c) := cell_at HR.out 2
  have qRz : ∀ j, W3.frozen? ⟨N, j, none⟩ = false := fun j => free_at HR.out j
  have qRl : N < W3.heap.size := HR.out.lt
  go_wp2_with fail
  go_at_call 21
  go_fit (HCK.out _ HV.out)
  rintro e W4 ⟨rfl, hB⟩
  clear qR0 qR1 qR2 qRz qRl
  replace HB := Lib.hid (HB.out.trans (hB.mono HB.out.size))
  replace HV := Lib.hid (HV.out.below hB)
  replace HR := Lib.hid (HR.out.step hB)
  replace HK1 := Lib.hid (HK1.out.step hB)
  clear hB
  have qR0 : W4.cell? ⟨N, 0, none⟩ = some (.int .i64 base) := cell_at HR.out 0
  have qR1 : W4.cell? ⟨N, 1, none⟩ = some (.int .i64 term) := cell_at HR.out 1
  have qR2 : W4.cell? ⟨N, 2, none⟩ = some (.slice a ln c) := cell_at HR.out 2
  have qRz : ∀ j, W4.frozen? ⟨N, j, none⟩ = false := fun j => free_at HR.out j
  have qRl : N < W4.heap.size := HR.out.lt
  have qK10 : W4.cell? ⟨(N + 1), 0, none⟩ = some (.int .i64 0) := cell_at HK1.out 0
  have qK11 : W4.cell? ⟨(N + 1), 1, none⟩ = some (.int .i8 0) := cell_at HK1.out 1
  have qK12 : W4.cell? ⟨(N + 1), 2, none⟩ = some (.int .i64 0) := cell_at HK1.out 2
  have qK13 : W4.cell? ⟨(N + 1), 3, none⟩ = some (.int .u8 0) := cell_at HK1.out 3
  have qK14 : W4.cell? ⟨(N + 1), 4, none⟩ = some (.slice none 0 0) := cell_at HK1.out 4
  have qK1z : ∀ j, W4.frozen? ⟨(N + 1), j, none⟩ = false := fun j => free_at HK1.out j
  have qK1l : (N + 1) < W4.heap.size := HK1.out.lt
  go_wp2_with fail
  clear qR0 qR1 qR2 qRz qRl qK10 qK11 qK12 qK13 qK14 qK1z qK1l
  obtain ⟨LS, hLS⟩ : ∃ L : List Value, L = [.int .i64 0, .int .i8 0, .int .i64 0, .int .u8 0, .slice none 0 0] := ⟨_, rfl⟩
  obtain ⟨W5, hWS⟩ : ∃ WS, WS = W4.setCells (N + 1) 0 LS := ⟨_, rfl⟩
  have hch := hWS
  rw [hLS] at hch
  simp only [World.setCells, Nat.zero_add, Nat.reduceAdd] at hch
  rw [← hch]
  clear hch
  have hkS := stC_blk HK1.out LS (by rw [hLS]; rfl)
  have hfS := stC_fr (N + 1) LS 0 W4
  rw [← hWS] at hkS hfS
  rw [hLS] at hkS
  replace HB := Lib.hid (HB.out.trans (hfS.below HB.out.size (by have := HLON.out; simp; try omega)))
  replace HR := Lib.hid (show Blk W5 N #[.int .i64 base, .int .i64 term, .slice a ln c] 24 from (hfS.block _ HR.out.lt (by simp; try omega)).trans HR.out)
  replace HK1 := Lib.hid (show Blk W5 (N + 1) #[.int .i64 0, .int .i8 0, .int .i64 0, .int .u8 0, .slice none 0 0] 47 from hkS)
  clear hWS hLS hkS hfS
  have qK10 : W5.cell? ⟨(N + 1), 0, none⟩ = some (.int .i64 0) := cell_at HK1.out 0
  have qK11 : W5.cell? ⟨(N + 1), 1, none⟩ = some (.int .i8 0) := cell_at HK1.out 1
  have qK12 : W5.cell? ⟨(N + 1), 2, none⟩ = some (.int .i64 0) := cell_at HK1.out 2
  have qK13 : W5.cell? ⟨(N + 1), 3, none⟩ = some (.int .u8 0) := cell_at HK1.out 3
  have qK14 : W5.cell? ⟨(N + 1), 4, none⟩ = some (.slice none 0 0) := cell_at HK1.out 4
  have qK1z : ∀ j, W5.frozen? ⟨(N + 1), j, none⟩ = false := fun j => free_at HK1.out j
  have qK1l : (N + 1) < W5.heap.size := HK1.out.lt
  exact bodyPost_ret (v := .tuple #[.agg #[.int .i64 0, .int .i8 0, .int .i64 0, .int .u8 0, .slice none 0 0], .bool false]) (by simp [results, Try.results23, go_sem, qK10, qK11, qK12, qK13, qK14]) rfl ⟨rfl, HB.out⟩
end Go.Proofs.Ytcadinoijclfnaa
