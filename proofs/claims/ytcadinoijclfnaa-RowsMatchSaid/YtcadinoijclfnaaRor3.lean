/-
  The law RowsMatch: where nothing fits.
-/
import Derived.Test.YtcadinoijclfnaaRorP
import Derived.Test.YtcadinoijclfnaaRor2
import Derived.Test.YtcadinoijclfnaaRoj
import Derived.Test.YtcadinoijclfnaaRoh
import Derived.Test.YtcadinoijclfnaaRowL
import Derived.Deep.DeepFit
namespace Go.Proofs.Ytcadinoijclfnaa
open Go.RowKit
set_option linter.unusedSimpArgs false
set_option linter.unusedVariables false

set_option maxRecDepth 100000 in
set_option maxHeartbeats 16000000 in
theorem match_bad (base term idx first : Int) (v v2 : Value) (L l : List EnD) (w : World) (h : RV w v L) (h2 : RV w v2 l) (hb : bigB L) (hb2 : bigB l) (hx : -9223372036854775808 ≤ idx ∧ idx ≤ 9223372036854775807) (hk : okE base term L = 90) :
    Calls Try.prog 5 #[.agg #[.int .i64 base, .int .i64 term, v], .int .i64 idx, .int .i64 first, v2] w fun e w' => e = .returned (.bool true) ∧ Below w.heap.size w w' := by
  obtain ⟨a, ln, c, rfl, Hln, m1, m2, m3⟩ := h.sh
  obtain ⟨a2, l2, c2, rfl, Hl2, n1, n2, n3⟩ := h2.sh
  have HV := Lib.hid h
  have HV2 := Lib.hid h2
  have HGR := Lib.hid (fun W (h : RV W (.slice a ln c) L) => greatR_any base term _ L W h hb)
  have HLG := Lib.hid (fun W (h : RV W (.slice a2 l2 c2) l) => long_any _ l W h hb2)
  have HCK := Lib.hid (fun W (h : RV W (.slice a ln c) L) => rcheckR_any base term _ L W h)
  rw [hk] at HCK
  clear hk
  clear h h2 hb hb2
  have HB : Hid (Below w.heap.size w w) := Lib.hid (Below.refl _ _)
  go_enter Try.func5, Try.ntmps5
  go_upto_region 1 with fail
  obtain ⟨N, hN⟩ : ∃ n0, n0 = w.heap.size := ⟨_, rfl⟩
  have HLON : Hid (w.heap.size ≤ N) := Lib.hid (by have := HB.out.size; omega)
  obtain ⟨W1, hA0⟩ : ∃ W0, W0 = w.alloc (.cells #[.int .i64 base, .int .i64 term, .slice a ln c] 24) := ⟨_, rfl⟩
  have hB : Below w.heap.size w W1 := by rw [hA0]; exact (Below.refl _ _).alloc (Nat.le_refl _) _
  have hS0 : W1.heap.size = N + 1 := by rw [hA0]; simp [← hN]
  have HR := Lib.hid (show Blk W1 N #[.int .i64 base, .int .i64 term, .slice a ln c] 24 by rw [hA0, hN]; exact blk_new _ _ _)
  replace HB := Lib.hid (HB.out.trans (hB.mono HB.out.size))
  replace HV := Lib.hid (HV.out.below hB)
  replace HV2 := Lib.hid (HV2.out.below hB)
  clear hB
  have HSN := Lib.hid hS0
  rw [← hN, ← hA0]
  clear hA0 hN hS0
  have qR0 : W1.cell? ⟨N, 0, none⟩ = some (.int .i64 base) := cell_at HR.out 0
  have qR1 : W1.cell? ⟨N, 1, none⟩ = some (.int .i64 term) := cell_at HR.out 1
  have qR2 : W1.cell? ⟨N, 2, none⟩ = some (.slice a ln c) := cell_at HR.out 2
  have qRz : ∀ j, W1.frozen? ⟨N, j, none⟩ = false := fun j => free_at HR.out j
  have qRl : N < W1.heap.size := HR.out.lt
  go_wp2_with fail
  go_at_call 8
  go_fit (HGR.out _ HV.out)
  rintro e W2 ⟨q, rfl, hq, hB⟩
  clear qR0 qR1 qR2 qRz qRl
  replace HB := Lib.hid (HB.out.trans (hB.mono HB.out.size))
  replace HV := Lib.hid (HV.out.below hB)
  replace HV2 := Lib.hid (HV2.out.below hB)
  replace HR := Lib.hid (HR.out.step hB)
  clear hB
  cases q
  · skip
    have HS1 := Lib.hid (hq rfl)
    clear hq
    go_wp2_with fail
    go_at_call 9
    go_fit (HLG.out _ HV2.out)
    rintro e W3 ⟨q, rfl, hq, hB⟩
    replace HB := Lib.hid (HB.out.trans (hB.mono HB.out.size))
    replace HV := Lib.hid (HV.out.below hB)
    replace HV2 := Lib.hid (HV2.out.below hB)
    replace HR := Lib.hid (HR.out.step hB)
    clear hB
    cases q
    · skip
      have HS2 := Lib.hid (hq rfl)
      clear hq
      have qR0 : W3.cell? ⟨N, 0, none⟩ = some (.int .i64 base) := cell_at HR.out 0
      have qR1 : W3.cell? ⟨N, 1, none⟩ = some (.int .i64 term) := cell_at HR.out 1
      have qR2 : W3.cell? ⟨N, 2, none⟩ = some (.slice a ln c) := cell_at HR.out 2
      have qRz : ∀ j, W3.frozen? ⟨N, j, none⟩ = false := fun j => free_at HR.out j
      have qRl : N < W3.heap.size := HR.out.lt
      go_wp2_with fail
      go_at_call 21
      go_fit (HCK.out _ HV.out)
      rintro e W4 ⟨rfl, hB⟩
      clear qR0 qR1 qR2 qRz qRl
      replace HB := Lib.hid (HB.out.trans (hB.mono HB.out.size))
      replace HV := Lib.hid (HV.out.below hB)
      replace HV2 := Lib.hid (HV2.out.below hB)
      replace HR := Lib.hid (HR.out.step hB)
      clear hB
      go_wp2_with fail
      go_at_call 10
      go_fit (rwakes_any _)
      rintro e W5 ⟨rfl, hB⟩
      replace HB := Lib.hid (HB.out.trans (hB.mono HB.out.size))
      replace HV := Lib.hid (HV.out.below hB)
      replace HV2 := Lib.hid (HV2.out.below hB)
      replace HR := Lib.hid (HR.out.step hB)
      clear hB
      go_wp2_with fail
      go_ret
      exact ⟨rfl, HB.out⟩
    · skip
      go_wp2_with fail
      go_at_call 10
      go_fit (rwakes_any _)
      rintro e W4 ⟨rfl, hB⟩
      replace HB := Lib.hid (HB.out.trans (hB.mono HB.out.size))
      replace HV := Lib.hid (HV.out.below hB)
      replace HV2 := Lib.hid (HV2.out.below hB)
      replace HR := Lib.hid (HR.out.step hB)
      clear hB
      go_wp2_with fail
      go_ret
      exact ⟨rfl, HB.out⟩
  · skip
    go_wp2_with fail
    go_at_call 10
    go_fit (rwakes_any _)
    rintro e W3 ⟨rfl, hB⟩
    replace HB := Lib.hid (HB.out.trans (hB.mono HB.out.size))
    replace HV := Lib.hid (HV.out.below hB)
    replace HV2 := Lib.hid (HV2.out.below hB)
    replace HR := Lib.hid (HR.out.step hB)
    clear hB
    go_wp2_with fail
    go_ret
    exact ⟨rfl, HB.out⟩
set_option maxRecDepth 100000 in
set_option maxHeartbeats 16000000 in
theorem match_err (base term idx first : Int) (v v2 : Value) (L l : List EnD) (w : World) (h : RV w v L) (h2 : RV w v2 l) (hb : bigB L) (hb2 : bigB l) (hx : -9223372036854775808 ≤ idx ∧ idx ≤ 9223372036854775807) (hk : okE base term L = 0) (he : (putF base term L idx first l).e ≠ 0) :
    Calls Try.prog 5 #[.agg #[.int .i64 base, .int .i64 term, v], .int .i64 idx, .int .i64 first, v2] w fun e w' => e = .returned (.bool true) ∧ Below w.heap.size w w' := by
  obtain ⟨a, ln, c, rfl, Hln, m1, m2, m3⟩ := h.sh
  obtain ⟨a2, l2, c2, rfl, Hl2, n1, n2, n3⟩ := h2.sh
  have HV := Lib.hid h
  have HV2 := Lib.hid h2
  have HGR := Lib.hid (fun W (h : RV W (.slice a ln c) L) => greatR_any base term _ L W h hb)
  have HLG := Lib.hid (fun W (h : RV W (.slice a2 l2 c2) l) => long_any _ l W h hb2)
  have HCK := Lib.hid (fun W (h : RV W (.slice a ln c) L) => rcheckR_any base term _ L W h)
  rw [hk] at HCK
  have HP1 := Lib.hid (fun W (h : RV W (.slice a ln c) L) (h2 : RV W (.slice a2 l2 c2) l) hl => put_any base term idx first _ _ L l W h h2 hl)
  obtain ⟨P, hP⟩ : ∃ P, P = putF base term L idx first l := ⟨_, rfl⟩
  rw [← hP] at HP1 he
  clear hP hk
  obtain ⟨pb, pt, pl, ps, pk, pe⟩ := P
  unfold RwOut at HP1
  simp only at HP1 he
  have d1 : (pe != 0) = true := by rw [bne_iff_ne]; exact he
  have d2 : (pe = 0) = False := eq_false he
  clear he
  clear h h2 hb hb2
  have HB : Hid (Below w.heap.size w w) := Lib.hid (Below.refl _ _)
  go_enter Try.func5, Try.ntmps5
  go_upto_region 1 with fail
  obtain ⟨N, hN⟩ : ∃ n0, n0 = w.heap.size := ⟨_, rfl⟩
  have HLON : Hid (w.heap.size ≤ N) := Lib.hid (by have := HB.out.size; omega)
  obtain ⟨W1, hA0⟩ : ∃ W0, W0 = w.alloc (.cells #[.int .i64 base, .int .i64 term, .slice a ln c] 24) := ⟨_, rfl⟩
  have hB : Below w.heap.size w W1 := by rw [hA0]; exact (Below.refl _ _).alloc (Nat.le_refl _) _
  have hS0 : W1.heap.size = N + 1 := by rw [hA0]; simp [← hN]
  have HR := Lib.hid (show Blk W1 N #[.int .i64 base, .int .i64 term, .slice a ln c] 24 by rw [hA0, hN]; exact blk_new _ _ _)
  replace HB := Lib.hid (HB.out.trans (hB.mono HB.out.size))
  replace HV := Lib.hid (HV.out.below hB)
  replace HV2 := Lib.hid (HV2.out.below hB)
  clear hB
  have HSN := Lib.hid hS0
  rw [← hN, ← hA0]
  clear hA0 hN hS0
  have qR0 : W1.cell? ⟨N, 0, none⟩ = some (.int .i64 base) := cell_at HR.out 0
  have qR1 : W1.cell? ⟨N, 1, none⟩ = some (.int .i64 term) := cell_at HR.out 1
  have qR2 : W1.cell? ⟨N, 2, none⟩ = some (.slice a ln c) := cell_at HR.out 2
  have qRz : ∀ j, W1.frozen? ⟨N, j, none⟩ = false := fun j => free_at HR.out j
  have qRl : N < W1.heap.size := HR.out.lt
  go_wp2_with fail
  go_at_call 8
  go_fit (HGR.out _ HV.out)
  rintro e W2 ⟨q, rfl, hq, hB⟩
  clear qR0 qR1 qR2 qRz qRl
  replace HB := Lib.hid (HB.out.trans (hB.mono HB.out.size))
  replace HV := Lib.hid (HV.out.below hB)
  replace HV2 := Lib.hid (HV2.out.below hB)
  replace HR := Lib.hid (HR.out.step hB)
  clear hB
  cases q
  · skip
    have HS1 := Lib.hid (hq rfl)
    clear hq
    go_wp2_with fail
    go_at_call 9
    go_fit (HLG.out _ HV2.out)
    rintro e W3 ⟨q, rfl, hq, hB⟩
    replace HB := Lib.hid (HB.out.trans (hB.mono HB.out.size))
    replace HV := Lib.hid (HV.out.below hB)
    replace HV2 := Lib.hid (HV2.out.below hB)
    replace HR := Lib.hid (HR.out.step hB)
    clear hB
    cases q
    · skip
      have HS2 := Lib.hid (hq rfl)
      clear hq
      have qR0 : W3.cell? ⟨N, 0, none⟩ = some (.int .i64 base) := cell_at HR.out 0
      have qR1 : W3.cell? ⟨N, 1, none⟩ = some (.int .i64 term) := cell_at HR.out 1
      have qR2 : W3.cell? ⟨N, 2, none⟩ = some (.slice a ln c) := cell_at HR.out 2
      have qRz : ∀ j, W3.frozen? ⟨N, j, none⟩ = false := fun j => free_at HR.out j
      have qRl : N < W3.heap.size := HR.out.lt
      go_wp2_with fail
      go_at_call 21
      go_fit (HCK.out _ HV.out)
      rintro e W4 ⟨rfl, hB⟩
      clear qR0 qR1 qR2 qRz qRl
      replace HB := Lib.hid (HB.out.trans (hB.mono HB.out.size))
      replace HV := Lib.hid (HV.out.below hB)
      replace HV2 := Lib.hid (HV2.out.below hB)
      replace HR := Lib.hid (HR.out.step hB)
      clear hB
      have qR0 : W4.cell? ⟨N, 0, none⟩ = some (.int .i64 base) := cell_at HR.out 0
      have qR1 : W4.cell? ⟨N, 1, none⟩ = some (.int .i64 term) := cell_at HR.out 1
      have qR2 : W4.cell? ⟨N, 2, none⟩ = some (.slice a ln c) := cell_at HR.out 2
      have qRz : ∀ j, W4.frozen? ⟨N, j, none⟩ = false := fun j => free_at HR.out j
      have qRl : N < W4.heap.size := HR.out.lt
      go_wp2_with fail
      go_at_call 19
      go_fit (HP1.out _ HV.out HV2.out (by have := HS2.out.1; omega))
      rintro e W5 ⟨⟨v5, rfl, hv5⟩, hB⟩
      clear qR0 qR1 qR2 qRz qRl
      replace HB := Lib.hid (HB.out.trans (hB.mono HB.out.size))
      replace HV := Lib.hid (HV.out.below hB)
      replace HV2 := Lib.hid (HV2.out.below hB)
      replace HR := Lib.hid (HR.out.step hB)
      clear hB
      obtain ⟨a5, l5, c5, rfl, Hl5, l51, l52, l53⟩ := hv5.sh
      have HV5 := Lib.hid hv5
      clear hv5
      go_upto_region 4 with fail
      obtain ⟨A9, hA9⟩ : ∃ n0, n0 = W5.heap.size := ⟨_, rfl⟩
      have HXA9HR : Hid (N < A9) := Lib.hid (by rw [hA9]; exact HR.out.lt)
      have HLOA9 : Hid (w.heap.size ≤ A9) := Lib.hid (by have := HB.out.size; omega)
      obtain ⟨W6, hA0⟩ : ∃ W0, W0 = W5.alloc (.cells #[.int .i64 pb, .int .i64 pt, .slice a5 l5 c5] 24) := ⟨_, rfl⟩
      have hB : Below W5.heap.size W5 W6 := by rw [hA0]; exact (Below.refl _ _).alloc (Nat.le_refl _) _
      have hS0 : W6.heap.size = A9 + 1 := by rw [hA0]; simp [← hA9]
      have HA := Lib.hid (show Blk W6 A9 #[.int .i64 pb, .int .i64 pt, .slice a5 l5 c5] 24 by rw [hA0, hA9]; exact blk_new _ _ _)
      replace HB := Lib.hid (HB.out.trans (hB.mono HB.out.size))
      replace HV := Lib.hid (HV.out.below hB)
      replace HV2 := Lib.hid (HV2.out.below hB)
      replace HR := Lib.hid (HR.out.step hB)
      replace HV5 := Lib.hid (HV5.out.below hB)
      clear hB
      have HSA9 := Lib.hid hS0
      rw [← hA9, ← hA0]
      clear hA0 hA9 hS0
      go_wp2_with fail
      go_at_call 10
      go_fit (rwakes_any _)
      rintro e W7 ⟨rfl, hB⟩
      replace HB := Lib.hid (HB.out.trans (hB.mono HB.out.size))
      replace HV := Lib.hid (HV.out.below hB)
      replace HV2 := Lib.hid (HV2.out.below hB)
      replace HR := Lib.hid (HR.out.step hB)
      replace HV5 := Lib.hid (HV5.out.below hB)
      replace HA := Lib.hid (HA.out.step hB)
      clear hB
      go_wp2_with fail
      go_ret
      exact ⟨rfl, HB.out⟩
    · skip
      go_wp2_with fail
      go_at_call 10
      go_fit (rwakes_any _)
      rintro e W4 ⟨rfl, hB⟩
      replace HB := Lib.hid (HB.out.trans (hB.mono HB.out.size))
      replace HV := Lib.hid (HV.out.below hB)
      replace HV2 := Lib.hid (HV2.out.below hB)
      replace HR := Lib.hid (HR.out.step hB)
      clear hB
      go_wp2_with fail
      go_ret
      exact ⟨rfl, HB.out⟩
  · skip
    go_wp2_with fail
    go_at_call 10
    go_fit (rwakes_any _)
    rintro e W3 ⟨rfl, hB⟩
    replace HB := Lib.hid (HB.out.trans (hB.mono HB.out.size))
    replace HV := Lib.hid (HV.out.below hB)
    replace HV2 := Lib.hid (HV2.out.below hB)
    replace HR := Lib.hid (HR.out.step hB)
    clear hB
    go_wp2_with fail
    go_ret
    exact ⟨rfl, HB.out⟩
set_option maxRecDepth 100000 in
set_option maxHeartbeats 16000000 in
theorem match_no (base term idx first : Int) (v v2 : Value) (L l : List EnD) (w : World) (h : RV w v L) (h2 : RV w v2 l) (hb : bigB L) (hb2 : bigB l) (hx : -9223372036854775808 ≤ idx ∧ idx ≤ 9223372036854775807) (hk : okE base term L = 0) (s : Int) (hp : putF base term L idx first l = ⟨base, term, L, s, false, 0⟩) (hs1 : base ≤ s) (hs2 : s ≤ base + L.length) (hs3 : s < idx ∨ idx ≤ base) :
    Calls Try.prog 5 #[.agg #[.int .i64 base, .int .i64 term, v], .int .i64 idx, .int .i64 first, v2] w fun e w' => e = .returned (.bool true) ∧ Below w.heap.size w w' := by
  obtain ⟨a, ln, c, rfl, Hln, m1, m2, m3⟩ := h.sh
  obtain ⟨a2, l2, c2, rfl, Hl2, n1, n2, n3⟩ := h2.sh
  have HV := Lib.hid h
  have HV2 := Lib.hid h2
  have HGR := Lib.hid (fun W (h : RV W (.slice a ln c) L) => greatR_any base term _ L W h hb)
  have HLG := Lib.hid (fun W (h : RV W (.slice a2 l2 c2) l) => long_any _ l W h hb2)
  have HCK := Lib.hid (fun W (h : RV W (.slice a ln c) L) => rcheckR_any base term _ L W h)
  rw [hk] at HCK
  have HLS := Lib.hid (fun W (h : RV W (.slice a ln c) L) => rlastR_any base term _ L W h hk)
  obtain ⟨b0, b1, b2, b3⟩ := okE_head hk
  rw [← Hln.out] at HLS b1 b2
  obtain ⟨en, hen⟩ : ∃ en, en = base + (ln : Int) := ⟨_, rfl⟩
  rw [← hen] at HLS
  have HEN := Lib.hid hen
  have HP1 := Lib.hid (fun W (h : RV W (.slice a ln c) L) (h2 : RV W (.slice a2 l2 c2) l) hl => put_any base term idx first _ _ L l W h h2 hl)
  have f1 : (base != base) = false := by simp
  have f2 : (term != term) = false := by simp
  rw [hp] at HP1
  unfold RwOut at HP1
  simp only at HP1
  have HCY := Lib.hid (fun W v (h : RV W v L) => rcheckR_any base term v L W h)
  rw [hk] at HCY
  rw [← Hln.out, ← hen] at hs2
  have d5 : decide (base ≤ s) = true := decide_eq_true hs1
  have d6 : decide (s ≤ en) = true := decide_eq_true hs2
  clear hp hk hen hs1 hs2
  clear h h2 hb hb2
  have HB : Hid (Below w.heap.size w w) := Lib.hid (Below.refl _ _)
  go_enter Try.func5, Try.ntmps5
  go_upto_region 1 with fail
  obtain ⟨N, hN⟩ : ∃ n0, n0 = w.heap.size := ⟨_, rfl⟩
  have HLON : Hid (w.heap.size ≤ N) := Lib.hid (by have := HB.out.size; omega)
  obtain ⟨W1, hA0⟩ : ∃ W0, W0 = w.alloc (.cells #[.int .i64 base, .int .i64 term, .slice a ln c] 24) := ⟨_, rfl⟩
  have hB : Below w.heap.size w W1 := by rw [hA0]; exact (Below.refl _ _).alloc (Nat.le_refl _) _
  have hS0 : W1.heap.size = N + 1 := by rw [hA0]; simp [← hN]
  have HR := Lib.hid (show Blk W1 N #[.int .i64 base, .int .i64 term, .slice a ln c] 24 by rw [hA0, hN]; exact blk_new _ _ _)
  replace HB := Lib.hid (HB.out.trans (hB.mono HB.out.size))
  replace HV := Lib.hid (HV.out.below hB)
  replace HV2 := Lib.hid (HV2.out.below hB)
  clear hB
  have HSN := Lib.hid hS0
  rw [← hN, ← hA0]
  clear hA0 hN hS0
  have qR0 : W1.cell? ⟨N, 0, none⟩ = some (.int .i64 base) := cell_at HR.out 0
  have qR1 : W1.cell? ⟨N, 1, none⟩ = some (.int .i64 term) := cell_at HR.out 1
  have qR2 : W1.cell? ⟨N, 2, none⟩ = some (.slice a ln c) := cell_at HR.out 2
  have qRz : ∀ j, W1.frozen? ⟨N, j, none⟩ = false := fun j => free_at HR.out j
  have qRl : N < W1.heap.size := HR.out.lt
  go_wp2_with fail
  go_at_call 8
  go_fit (HGR.out _ HV.out)
  rintro e W2 ⟨q, rfl, hq, hB⟩
  clear qR0 qR1 qR2 qRz qRl
  replace HB := Lib.hid (HB.out.trans (hB.mono HB.out.size))
  replace HV := Lib.hid (HV.out.below hB)
  replace HV2 := Lib.hid (HV2.out.below hB)
  replace HR := Lib.hid (HR.out.step hB)
  clear hB
  cases q
  · skip
    have HS1 := Lib.hid (hq rfl)
    clear hq
    go_wp2_with fail
    go_at_call 9
    go_fit (HLG.out _ HV2.out)
    rintro e W3 ⟨q, rfl, hq, hB⟩
    replace HB := Lib.hid (HB.out.trans (hB.mono HB.out.size))
    replace HV := Lib.hid (HV.out.below hB)
    replace HV2 := Lib.hid (HV2.out.below hB)
    replace HR := Lib.hid (HR.out.step hB)
    clear hB
    cases q
    · skip
      have HS2 := Lib.hid (hq rfl)
      clear hq
      have qR0 : W3.cell? ⟨N, 0, none⟩ = some (.int .i64 base) := cell_at HR.out 0
      have qR1 : W3.cell? ⟨N, 1, none⟩ = some (.int .i64 term) := cell_at HR.out 1
      have qR2 : W3.cell? ⟨N, 2, none⟩ = some (.slice a ln c) := cell_at HR.out 2
      have qRz : ∀ j, W3.frozen? ⟨N, j, none⟩ = false := fun j => free_at HR.out j
      have qRl : N < W3.heap.size := HR.out.lt
      go_wp2_with fail
      go_at_call 21
      go_fit (HCK.out _ HV.out)
      rintro e W4 ⟨rfl, hB⟩
      clear qR0 qR1 qR2 qRz qRl
      replace HB := Lib.hid (HB.out.trans (hB.mono HB.out.size))
      replace HV := Lib.hid (HV.out.below hB)
      replace HV2 := Lib.hid (HV2.out.below hB)
      replace HR := Lib.hid (HR.out.step hB)
      clear hB
      have qR0 : W4.cell? ⟨N, 0, none⟩ = some (.int .i64 base) := cell_at HR.out 0
      have qR1 : W4.cell? ⟨N, 1, none⟩ = some (.int .i64 term) := cell_at HR.out 1
      have qR2 : W4.cell? ⟨N, 2, none⟩ = some (.slice a ln c) := cell_at HR.out 2
      have qRz : ∀ j, W4.frozen? ⟨N, j, none⟩ = false := fun j => free_at HR.out j
      have qRl : N < W4.heap.size := HR.out.lt
      go_wp2_with fail
      go_at_call 19
      go_fit (HP1.out _ HV.out HV2.out (by have := HS2.out.1; omega))
      rintro e W5 ⟨⟨v5, rfl, hv5⟩, hB⟩
      clear qR0 qR1 qR2 qRz qRl
      replace HB := Lib.hid (HB.out.trans (hB.mono HB.out.size))
      replace HV := Lib.hid (HV.out.below hB)
      replace HV2 := Lib.hid (HV2.out.below hB)
      replace HR := Lib.hid (HR.out.step hB)
      clear hB
      obtain ⟨a5, l5, c5, rfl, Hl5, l51, l52, l53⟩ := hv5.sh
      have HV5 := Lib.hid hv5
      clear hv5
      go_upto_region 4 with fail
      obtain ⟨A9, hA9⟩ : ∃ n0, n0 = W5.heap.size := ⟨_, rfl⟩
      have HXA9HR : Hid (N < A9) := Lib.hid (by rw [hA9]; exact HR.out.lt)
      have HLOA9 : Hid (w.heap.size ≤ A9) := Lib.hid (by have := HB.out.size; omega)
      obtain ⟨W6, hA0⟩ : ∃ W0, W0 = W5.alloc (.cells #[.int .i64 base, .int .i64 term, .slice a5 l5 c5] 24) := ⟨_, rfl⟩
      have hB : Below W5.heap.size W5 W6 := by rw [hA0]; exact (Below.refl _ _).alloc (Nat.le_refl _) _
      have hS0 : W6.heap.size = A9 + 1 := by rw [hA0]; simp [← hA9]
      have HA := Lib.hid (show Blk W6 A9 #[.int .i64 base, .int .i64 term, .slice a5 l5 c5] 24 by rw [hA0, hA9]; exact blk_new _ _ _)
      replace HB := Lib.hid (HB.out.trans (hB.mono HB.out.size))
      replace HV := Lib.hid (HV.out.below hB)
      replace HV2 := Lib.hid (HV2.out.below hB)
      replace HR := Lib.hid (HR.out.step hB)
      replace HV5 := Lib.hid (HV5.out.below hB)
      clear hB
      have HSA9 := Lib.hid hS0
      rw [← hA9, ← hA0]
      clear hA0 hA9 hS0
      have qR0 : W6.cell? ⟨N, 0, none⟩ = some (.int .i64 base) := cell_at HR.out 0
      have qR1 : W6.cell? ⟨N, 1, none⟩ = some (.int .i64 term) := cell_at HR.out 1
      have qR2 : W6.cell? ⟨N, 2, none⟩ = some (.slice a ln c) := cell_at HR.out 2
      have qRz : ∀ j, W6.frozen? ⟨N, j, none⟩ = false := fun j => free_at HR.out j
      have qRl : N < W6.heap.size := HR.out.lt
      obtain ⟨lt, HL9⟩ := HLS.out W6 HV.out
      have HL := Lib.hid HL9
      clear HL9
      go_wp2_with fail
      go_at_call 22
      go_fit HL.out
      rintro e W7 ⟨rfl, hB⟩
      clear qR0 qR1 qR2 qRz qRl
      replace HB := Lib.hid (HB.out.trans (hB.mono HB.out.size))
      replace HV := Lib.hid (HV.out.below hB)
      replace HV2 := Lib.hid (HV2.out.below hB)
      replace HR := Lib.hid (HR.out.step hB)
      replace HV5 := Lib.hid (HV5.out.below hB)
      replace HA := Lib.hid (HA.out.step hB)
      clear hB
      have qA0 : W7.cell? ⟨A9, 0, none⟩ = some (.int .i64 base) := cell_at HA.out 0
      have qA1 : W7.cell? ⟨A9, 1, none⟩ = some (.int .i64 term) := cell_at HA.out 1
      have qA2 : W7.cell? ⟨A9, 2, none⟩ = some (.slice a5 l5 c5) := cell_at HA.out 2
      have qAz : ∀ j, W7.frozen? ⟨A9, j, none⟩ = false := fun j => free_at HA.out j
      have qAl : A9 < W7.heap.size := HA.out.lt
      have qR0 : W7.cell? ⟨N, 0, none⟩ = some (.int .i64 base) := cell_at HR.out 0
      have qR1 : W7.cell? ⟨N, 1, none⟩ = some (.int .i64 term) := cell_at HR.out 1
      have qR2 : W7.cell? ⟨N, 2, none⟩ = some (.slice a ln c) := cell_at HR.out 2
      have qRz : ∀ j, W7.frozen? ⟨N, j, none⟩ = false := fun j => free_at HR.out j
      have qRl : N < W7.heap.size := HR.out.lt
      go_wp2_with fail
      go_at_call 21
      go_fit (HCY.out _ _ HV5.out)
      rintro e W8 ⟨rfl, hB⟩
      clear qA0 qA1 qA2 qAz qAl qR0 qR1 qR2 qRz qRl
      replace HB := Lib.hid (HB.out.trans (hB.mono HB.out.size))
      replace HV := Lib.hid (HV.out.below hB)
      replace HV2 := Lib.hid (HV2.out.below hB)
      replace HR := Lib.hid (HR.out.step hB)
      replace HV5 := Lib.hid (HV5.out.below hB)
      replace HA := Lib.hid (HA.out.step hB)
      clear hB
      have qA0 : W8.cell? ⟨A9, 0, none⟩ = some (.int .i64 base) := cell_at HA.out 0
      have qA1 : W8.cell? ⟨A9, 1, none⟩ = some (.int .i64 term) := cell_at HA.out 1
      have qA2 : W8.cell? ⟨A9, 2, none⟩ = some (.slice a5 l5 c5) := cell_at HA.out 2
      have qAz : ∀ j, W8.frozen? ⟨A9, j, none⟩ = false := fun j => free_at HA.out j
      have qAl : A9 < W8.heap.size := HA.out.lt
      have qR0 : W8.cell? ⟨N, 0, none⟩ = some (.int .i64 base) := cell_at HR.out 0
      have qR1 : W8.cell? ⟨N, 1, none⟩ = some (.int .i64 term) := cell_at HR.out 1
      have qR2 : W8.cell? ⟨N, 2, none⟩ = some (.slice a ln c) := cell_at HR.out 2
      have qRz : ∀ j, W8.frozen? ⟨N, j, none⟩ = false := fun j => free_at HR.out j
      have qRl : N < W8.heap.size := HR.out.lt
      go_wp2_with fail
      go_at_call 13
      go_fit (rsame_any base term _ _ L _ HV5.out HV.out (by have := HS1.out.1; omega))
      rintro e W9 ⟨rfl, hB⟩
      clear qA0 qA1 qA2 qAz qAl qR0 qR1 qR2 qRz qRl
      replace HB := Lib.hid (HB.out.trans (hB.mono HB.out.size))
      replace HV := Lib.hid (HV.out.below hB)
      replace HV2 := Lib.hid (HV2.out.below hB)
      replace HR := Lib.hid (HR.out.step hB)
      replace HV5 := Lib.hid (HV5.out.below hB)
      replace HA := Lib.hid (HA.out.step hB)
      clear hB
      rcases hs3 with hs3 | hs3
      · skip
        have d8 : decide (s < idx) = true := decide_eq_true hs3
        clear hs3
        have qR0 : W9.cell? ⟨N, 0, none⟩ = some (.int .i64 base) := cell_at HR.out 0
        have qR1 : W9.cell? ⟨N, 1, none⟩ = some (.int .i64 term) := cell_at HR.out 1
        have qR2 : W9.cell? ⟨N, 2, none⟩ = some (.slice a ln c) := cell_at HR.out 2
        have qRz : ∀ j, W9.frozen? ⟨N, j, none⟩ = false := fun j => free_at HR.out j
        have qRl : N < W9.heap.size := HR.out.lt
        go_wp2_with fail
        go_at_call 10
        go_fit (rwakes_any _)
        rintro e W10 ⟨rfl, hB⟩
        clear qR0 qR1 qR2 qRz qRl
        replace HB := Lib.hid (HB.out.trans (hB.mono HB.out.size))
        replace HV := Lib.hid (HV.out.below hB)
        replace HV2 := Lib.hid (HV2.out.below hB)
        replace HR := Lib.hid (HR.out.step hB)
        replace HV5 := Lib.hid (HV5.out.below hB)
        replace HA := Lib.hid (HA.out.step hB)
        clear hB
        go_wp2_with fail
        go_ret
        exact ⟨rfl, HB.out⟩
      · skip
        have d9 : decide (idx ≤ base) = true := decide_eq_true hs3
        by_cases hs4 : s < idx
        all_goals
          first | have d8 : decide (s < idx) = true := decide_eq_true hs4 | have d8 : decide (s < idx) = false := decide_eq_false hs4
          clear hs4 hs3
          have qR0 : W9.cell? ⟨N, 0, none⟩ = some (.int .i64 base) := cell_at HR.out 0
          have qR1 : W9.cell? ⟨N, 1, none⟩ = some (.int .i64 term) := cell_at HR.out 1
          have qR2 : W9.cell? ⟨N, 2, none⟩ = some (.slice a ln c) := cell_at HR.out 2
          have qRz : ∀ j, W9.frozen? ⟨N, j, none⟩ = false := fun j => free_at HR.out j
          have qRl : N < W9.heap.size := HR.out.lt
          go_wp2_with fail
          go_at_call 10
          go_fit (rwakes_any _)
          rintro e W10 ⟨rfl, hB⟩
          clear qR0 qR1 qR2 qRz qRl
          replace HB := Lib.hid (HB.out.trans (hB.mono HB.out.size))
          replace HV := Lib.hid (HV.out.below hB)
          replace HV2 := Lib.hid (HV2.out.below hB)
          replace HR := Lib.hid (HR.out.step hB)
          replace HV5 := Lib.hid (HV5.out.below hB)
          replace HA := Lib.hid (HA.out.step hB)
          clear hB
          go_wp2_with fail
          go_ret
          exact ⟨rfl, HB.out⟩
    · skip
      go_wp2_with fail
      go_at_call 10
      go_fit (rwakes_any _)
      rintro e W4 ⟨rfl, hB⟩
      replace HB := Lib.hid (HB.out.trans (hB.mono HB.out.size))
      replace HV := Lib.hid (HV.out.below hB)
      replace HV2 := Lib.hid (HV2.out.below hB)
      replace HR := Lib.hid (HR.out.step hB)
      clear hB
      go_wp2_with fail
      go_ret
      exact ⟨rfl, HB.out⟩
  · skip
    go_wp2_with fail
    go_at_call 10
    go_fit (rwakes_any _)
    rintro e W3 ⟨rfl, hB⟩
    replace HB := Lib.hid (HB.out.trans (hB.mono HB.out.size))
    replace HV := Lib.hid (HV.out.below hB)
    replace HV2 := Lib.hid (HV2.out.below hB)
    replace HR := Lib.hid (HR.out.step hB)
    clear hB
    go_wp2_with fail
    go_ret
    exact ⟨rfl, HB.out⟩
end Go.Proofs.Ytcadinoijclfnaa
