/-
  Entries put behind a place: the program.
-/
import Derived.Test.YtcadinoijclfnaaRo7
import Derived.Deep.DeepFit
namespace Go.Proofs.Ytcadinoijclfnaa
open Go.RowKit
set_option linter.unusedSimpArgs false
set_option linter.unusedVariables false

structure PutR where
  b : Int
  t : Int
  l : List EnD
  s : Int
  ok : Bool
  e : Int
def layJ (base term : Int) (L : List EnD) (f : FitP) : Int := if f.ok = true then joinE base term (layP L f.l (f.i - base).toNat).1 L (layP L f.l (f.i - base).toNat).2 else joinE base term L.length L []
def layY (base : Int) (L : List EnD) (f : FitP) : List EnD := if f.ok = true then L.take (layP L f.l (f.i - base).toNat).1 ++ (layP L f.l (f.i - base).toNat).2 else L.take L.length ++ []
def zb (j : Int) (b : Bool) : Bool := if j = 0 then b else false
def endF (base term : Int) (L : List EnD) (f : FitP) : PutR := ⟨zi (layJ base term L f) base, zi (layJ base term L f) term, zl (layJ base term L f) (layY base L f), zi (layJ base term L f) f.s, zb (layJ base term L f) f.ok, layJ base term L f⟩
def putF (base term : Int) (L : List EnD) (idx first : Int) (l : List EnD) : PutR :=
  if okE base term L ≠ 0 then ⟨0, 0, [], 0, false, 90⟩
  else if 16 < l.length then ⟨0, 0, [], 0, false, 2⟩
  else if okE idx first l ≠ 0 then ⟨0, 0, [], 0, false, 2⟩
  else endF base term L (fitF base term L idx first l)
theorem fitF_ok {base term : Int} {L : List EnD} {idx first : Int} {l : List EnD} (hl : l.length ≤ 16) (h : (fitF base term L idx first l).ok = true) : base ≤ (fitF base term L idx first l).i ∧ (fitF base term L idx first l).i ≤ base + L.length ∧ (fitF base term L idx first l).l.length ≤ 16 := by
  unfold fitF at h ⊢
  by_cases k1 : base + L.length < idx
  · rw [if_pos k1] at h; cases h
  · rw [if_neg k1] at h ⊢
    by_cases k2 : (l.length : Int) < base - idx
    · rw [if_pos k2] at h; cases h
    · rw [if_neg k2] at h ⊢
      by_cases k3 : 0 < base - idx
      · rw [if_pos k3]
        simp only [List.length_drop]
        omega
      · rw [if_neg k3] at h ⊢
        by_cases k4 : termL base term L idx ≠ first
        · rw [if_pos k4] at h; cases h
        · rw [if_neg k4]
          simp only
          omega
theorem zi_ne {j x : Int} (h : j ≠ 0) : zi j x = 0 := by unfold zi; rw [if_neg h]
theorem zi_eq {x : Int} : zi 0 x = x := by unfold zi; rw [if_pos rfl]
theorem zl_ne {j : Int} {x : List EnD} (h : j ≠ 0) : zl j x = [] := by unfold zl; rw [if_neg h]
theorem zl_eq {x : List EnD} : zl 0 x = x := by unfold zl; rw [if_pos rfl]
theorem joinE_cases (base term : Int) (n : Nat) (L L2 : List EnD) : joinE base term n L L2 = 0 ∨ joinE base term n L L2 = 3 ∨ joinE base term n L L2 = 90 := by
  unfold joinE
  split
  · simp
  · rcases okE_two base term (L.take n ++ L2) with h | h <;> simp [h]
theorem layJ_cases (base term : Int) (L : List EnD) (f : FitP) : layJ base term L f = 0 ∨ layJ base term L f = 3 ∨ layJ base term L f = 90 := by
  unfold layJ
  split <;> exact joinE_cases _ _ _ _ _
def RwOut (P : PutR) (e : Ending) (W : World) : Prop := ∃ v', e = .returned (.tuple #[.agg #[.int .i64 P.b, .int .i64 P.t, v'], .int .i64 P.s, .bool P.ok, .int .i64 P.e]) ∧ RV W v' P.l
set_option maxRecDepth 100000 in
set_option maxHeartbeats 8000000 in
theorem put_any (base term idx first : Int) (v v2 : Value) (L l : List EnD) (w : World) (h : RV w v L) (h2 : RV w v2 l) (hl5 : l.length ≤ 5000) :
    Calls Try.prog 19 #[.agg #[.int .i64 base, .int .i64 term, v], .int .i64 idx, .int .i64 first, v2] w fun e w' => RwOut (putF base term L idx first l) e w' ∧ Below w.heap.size w w' := by
  obtain ⟨a, ln, c, rfl, Hln, m1, m2, m3⟩ := h.sh
  obtain ⟨a2, l2, c2, rfl, Hl2, n1, n2, n3⟩ := h2.sh
  have HV := Lib.hid h
  have HV2 := Lib.hid h2
  obtain ⟨P, hP⟩ : ∃ P, P = putF base term L idx first l := ⟨_, rfl⟩
  rw [← hP]
  have hp := hP
  unfold putF at hp
  rw [← Hl2.out] at hp hl5
  have HP := Lib.hid hp
  have HCK := Lib.hid (fun W (h : RV W (.slice a ln c) L) => checkR_any base term _ L W h)
  have HCK2 := Lib.hid (fun W (h : RV W (.slice a2 l2 c2) l) => checkR_any idx first _ l W h)
  obtain ⟨E1, hE1⟩ : ∃ E1, E1 = okE base term L := ⟨_, rfl⟩
  obtain ⟨E2, hE2⟩ : ∃ E2, E2 = okE idx first l := ⟨_, rfl⟩
  have hE1c : E1 = 0 ∨ E1 = 90 := by rw [hE1]; exact okE_two _ _ _
  have hE2c : E2 = 0 ∨ E2 = 90 := by rw [hE2]; exact okE_two _ _ _
  rw [← hE1] at HCK HP
  rw [← hE2] at HCK2 HP
  have HE1 := Lib.hid hE1
  have HE2 := Lib.hid hE2
  clear h h2 hP hp hE1 hE2
  have HB : Hid (Below w.heap.size w w) := Lib.hid (Below.refl _ _)
  go_enter Try.func19, Try.ntmps19
  go_upto_region 1 with fail
  obtain ⟨N, hN⟩ : ∃ n0, n0 = w.heap.size := ⟨_, rfl⟩
  have HLON : Hid (w.heap.size ≤ N) := Lib.hid (by have := HB.out.size; omega)
  obtain ⟨W1, hA0⟩ : ∃ W0, W0 = w.alloc (.cells #[.int .i64 base, .int .i64 term, .slice a ln c] 24) := ⟨_, rfl⟩
  have hB : Below w.heap.size w W1 := by rw [hA0]; exact (Below.refl _ _).alloc (Nat.le_refl _) _
  have hS0 : W1.heap.size = N + 1 := by rw [hA0]; simp [← hN]
  have HR := Lib.hid (show Blk W1 N #[.int .i64 base, .int .i64 term, .slice a ln c] 24 by rw [hA0, hN]; exact blk_new _ _ _)
  replace HB := Lib.hid (HB.out.trans (hB.mono HB.out.size))
  replace HV := Lib.hid (HV.out.below hB)
  replace HV2 := Lib.hid (HV2.out.below hB)
  clear hB
  obtain ⟨W2, hA1⟩ : ∃ W0, W0 = W1.alloc (.cells #[.int .i64 0, .int .i64 0, .slice none 0 0] 24) := ⟨_, rfl⟩
  have hB : Below W1.heap.size W1 W2 := by rw [hA1]; exact (Below.refl _ _).alloc (Nat.le_refl _) _
  have hS1 : W2.heap.size = N + 2 := by rw [hA1]; simp [hS0]
  have HK1 := Lib.hid (show Blk W2 (N + 1) #[.int .i64 0, .int .i64 0, .slice none 0 0] 24 by rw [hA1, ← hS0]; exact blk_new _ _ _)
  replace HB := Lib.hid (HB.out.trans (hB.mono HB.out.size))
  replace HV := Lib.hid (HV.out.below hB)
  replace HV2 := Lib.hid (HV2.out.below hB)
  replace HR := Lib.hid (HR.out.step hB)
  clear hB
  have HSN := Lib.hid hS1
  rw [← hN, ← hA0, ← hA1]
  clear hA1 hA0 hN hS0 hS1
  have qR0 : W2.cell? ⟨N, 0, none⟩ = some (.int .i64 base) := cell_at HR.out 0
  have qR1 : W2.cell? ⟨N, 1, none⟩ = some (.int .i64 term) := cell_at HR.out 1
  have qR2 : W2.cell? ⟨N, 2, none⟩ = some (.slice a ln c) := cell_at HR.out 2
  have qRz : ∀ j, W2.frozen? ⟨N, j, none⟩ = false := fun j => free_at HR.out j
  have qRl : N < W2.heap.size := HR.out.lt
  go_wp2_with fail
  go_at_call 25
  go_fit (HCK.out _ HV.out)
  rintro e W3 ⟨rfl, hB⟩
  clear qR0 qR1 qR2 qRz qRl
  replace HB := Lib.hid (HB.out.trans (hB.mono HB.out.size))
  replace HV := Lib.hid (HV.out.below hB)
  replace HV2 := Lib.hid (HV2.out.below hB)
  replace HR := Lib.hid (HR.out.step hB)
  replace HK1 := Lib.hid (HK1.out.step hB)
  clear hB
  rcases hE1c with rfl | rfl
  · skip
    rw [if_neg (by simp)] at HP
    by_cases k1 : 16 < l2
    · skip
      rw [if_pos k1] at HP
      obtain rfl := HP.out
      have d1 : decide ((16 : Int) < (l2 : Int)) = true := decide_eq_true (by omega)
      have qK10 : W3.cell? ⟨(N + 1), 0, none⟩ = some (.int .i64 0) := cell_at HK1.out 0
      have qK11 : W3.cell? ⟨(N + 1), 1, none⟩ = some (.int .i64 0) := cell_at HK1.out 1
      have qK12 : W3.cell? ⟨(N + 1), 2, none⟩ = some (.slice none 0 0) := cell_at HK1.out 2
      have qK1z : ∀ j, W3.frozen? ⟨(N + 1), j, none⟩ = false := fun j => free_at HK1.out j
      have qK1l : (N + 1) < W3.heap.size := HK1.out.lt
      go_wp2_with fail
      clear qK10 qK11 qK12 qK1z qK1l
      obtain ⟨LS, hLS⟩ : ∃ L : List Value, L = [.int .i64 0, .int .i64 0, .slice none 0 0] := ⟨_, rfl⟩
      obtain ⟨W4, hWS⟩ : ∃ WS, WS = W3.setCells (N + 1) 0 LS := ⟨_, rfl⟩
      have hch := hWS
      rw [hLS] at hch
      simp only [World.setCells, Nat.zero_add, Nat.reduceAdd] at hch
      rw [← hch]
      clear hch
      have hkS := stC_blk HK1.out LS (by rw [hLS]; rfl)
      have hfS := stC_fr (N + 1) LS 0 W3
      rw [← hWS] at hkS hfS
      rw [hLS] at hkS
      replace HB := Lib.hid (HB.out.trans (hfS.below HB.out.size (by have := HLON.out; simp; try omega)))
      replace HV := Lib.hid (HV.out.fr HK1.out hfS)
      replace HV2 := Lib.hid (HV2.out.fr HK1.out hfS)
      replace HR := Lib.hid (show Blk W4 N #[.int .i64 base, .int .i64 term, .slice a ln c] 24 from (hfS.block _ HR.out.lt (by simp; try omega)).trans HR.out)
      replace HK1 := Lib.hid (show Blk W4 (N + 1) #[.int .i64 0, .int .i64 0, .slice none 0 0] 24 from hkS)
      clear hWS hLS hkS hfS
      have qK10 : W4.cell? ⟨(N + 1), 0, none⟩ = some (.int .i64 0) := cell_at HK1.out 0
      have qK11 : W4.cell? ⟨(N + 1), 1, none⟩ = some (.int .i64 0) := cell_at HK1.out 1
      have qK12 : W4.cell? ⟨(N + 1), 2, none⟩ = some (.slice none 0 0) := cell_at HK1.out 2
      have qK1z : ∀ j, W4.frozen? ⟨(N + 1), j, none⟩ = false := fun j => free_at HK1.out j
      have qK1l : (N + 1) < W4.heap.size := HK1.out.lt
      exact bodyPost_ret (v := .tuple #[.agg #[.int .i64 0, .int .i64 0, .slice none 0 0], .int .i64 0, .bool false, .int .i64 2]) (by simp [results, Try.results19, go_sem, qK10, qK11, qK12]) rfl ⟨⟨_, rfl, rv_nil _⟩, HB.out⟩
    · skip
      rw [if_neg k1] at HP
      have d1 : decide ((16 : Int) < (l2 : Int)) = false := decide_eq_false (by omega)
      have d9 : (!decide ((16 : Int) < (l2 : Int))) = true := by rw [d1]; rfl
      go_wp2_with fail
      go_at_call 25
      go_fit (HCK2.out _ HV2.out)
      rintro e W4 ⟨rfl, hB⟩
      replace HB := Lib.hid (HB.out.trans (hB.mono HB.out.size))
      replace HV := Lib.hid (HV.out.below hB)
      replace HV2 := Lib.hid (HV2.out.below hB)
      replace HR := Lib.hid (HR.out.step hB)
      replace HK1 := Lib.hid (HK1.out.step hB)
      clear hB
      rcases hE2c with rfl | rfl
      · skip
        rw [if_neg (by simp)] at HP
        obtain ⟨i0, i1, i2, i3⟩ := okE_head HE2.out.symm
        obtain ⟨b0, b1, b2, b3⟩ := okE_head HE1.out.symm
        have hl16 : l.length ≤ 16 := by rw [← Hl2.out]; omega
        have HFT := Lib.hid (fun W (h : RV W (.slice a ln c) L) (h2 : RV W (.slice a2 l2 c2) l) => fit_any base term idx first _ _ L l W h h2 HE1.out.symm ⟨i0, by omega⟩ hl16)
        have HFO := Lib.hid (fitF_ok (base := base) (term := term) (L := L) (idx := idx) (first := first) hl16)
        obtain ⟨f, hf⟩ : ∃ f, f = fitF base term L idx first l := ⟨_, rfl⟩
        rw [← hf] at HFT HFO HP
        obtain ⟨J, hJ⟩ : ∃ J, J = layJ base term L f := ⟨_, rfl⟩
        have hJc : J = 0 ∨ J = 3 ∨ J = 90 := by rw [hJ]; exact layJ_cases _ _ _ _
        unfold endF at HP
        rw [← hJ] at HP
        have HJ := Lib.hid hJ
        obtain ⟨Y, hY⟩ : ∃ Y, Y = layY base L f := ⟨_, rfl⟩
        rw [← hY] at HP
        have HY := Lib.hid hY
        obtain ⟨fl, fi, fs, fo⟩ := f
        simp only at HFT HFO HP
        rw [← Hln.out] at b1 b2 HFO
        clear hf hJ hY i0 i1 i2 i3 hl16
        have qR0 : W4.cell? ⟨N, 0, none⟩ = some (.int .i64 base) := cell_at HR.out 0
        have qR1 : W4.cell? ⟨N, 1, none⟩ = some (.int .i64 term) := cell_at HR.out 1
        have qR2 : W4.cell? ⟨N, 2, none⟩ = some (.slice a ln c) := cell_at HR.out 2
        have qRz : ∀ j, W4.frozen? ⟨N, j, none⟩ = false := fun j => free_at HR.out j
        have qRl : N < W4.heap.size := HR.out.lt
        go_wp2_with fail
        go_at_call 39
        go_fit (HFT.out _ HV.out HV2.out)
        rintro e W5 ⟨v5, rfl, hv5, hB⟩
        clear qR0 qR1 qR2 qRz qRl
        replace HB := Lib.hid (HB.out.trans (hB.mono HB.out.size))
        replace HV := Lib.hid (HV.out.below hB)
        replace HV2 := Lib.hid (HV2.out.below hB)
        replace HR := Lib.hid (HR.out.step hB)
        replace HK1 := Lib.hid (HK1.out.step hB)
        clear hB
        obtain ⟨a5, l5, c5, rfl, Hl5, l51, l52, l53⟩ := hv5.sh
        have HV5 := Lib.hid hv5
        clear hv5
        obtain ⟨zbb, hzb⟩ : ∃ z, z = zi J base := ⟨_, rfl⟩
        obtain ⟨zt, hzt⟩ : ∃ z, z = zi J term := ⟨_, rfl⟩
        rw [← hzb, ← hzt] at HP
        have HZB := Lib.hid hzb
        have HZT := Lib.hid hzt
        clear hzb hzt HFT
        cases fo
        · skip
          have HJN := Lib.hid (fun W (h : RV W (.slice a ln c) L) => joinU base term _ _ L [] ln W h (rv_nil _) (by rw [Hln.out]; exact Nat.le_refl _) (by rw [← Hln.out]; exact b2) (by simp))
          have HJ2 : Hid (J = joinE base term ln L []) := Lib.hid (by rw [HJ.out, Hln.out]; rfl)
          have HY2 : Hid (Y = L.take ln ++ []) := Lib.hid (by rw [HY.out, Hln.out]; rfl)
          rw [← HJ2.out, ← HY2.out, ← HZB.out, ← HZT.out] at HJN
          have qR0 : W5.cell? ⟨N, 0, none⟩ = some (.int .i64 base) := cell_at HR.out 0
          have qR1 : W5.cell? ⟨N, 1, none⟩ = some (.int .i64 term) := cell_at HR.out 1
          have qR2 : W5.cell? ⟨N, 2, none⟩ = some (.slice a ln c) := cell_at HR.out 2
          have qRz : ∀ j, W5.frozen? ⟨N, j, none⟩ = false := fun j => free_at HR.out j
          have qRl : N < W5.heap.size := HR.out.lt
          go_wp2_with fail
          go_at_call 32
          go_fit (HJN.out _ HV.out)
          rintro e W6 ⟨v6, rfl, hv6, hB⟩
          clear qR0 qR1 qR2 qRz qRl
          replace HB := Lib.hid (HB.out.trans (hB.mono HB.out.size))
          replace HV := Lib.hid (HV.out.below hB)
          replace HV2 := Lib.hid (HV2.out.below hB)
          replace HR := Lib.hid (HR.out.step hB)
          replace HK1 := Lib.hid (HK1.out.step hB)
          replace HV5 := Lib.hid (HV5.out.below hB)
          clear hB
          obtain ⟨a6, l6, c6, rfl, Hl6, l61, l62, l63⟩ := hv6.sh
          have HV6 := Lib.hid hv6
          clear hv6
          have qK10 : W6.cell? ⟨(N + 1), 0, none⟩ = some (.int .i64 0) := cell_at HK1.out 0
          have qK11 : W6.cell? ⟨(N + 1), 1, none⟩ = some (.int .i64 0) := cell_at HK1.out 1
          have qK12 : W6.cell? ⟨(N + 1), 2, none⟩ = some (.slice none 0 0) := cell_at HK1.out 2
          have qK1z : ∀ j, W6.frozen? ⟨(N + 1), j, none⟩ = false := fun j => free_at HK1.out j
          have qK1l : (N + 1) < W6.heap.size := HK1.out.lt
          have hzb := HZB.out
          have hzt := HZT.out
          have HZZ := Lib.hid (And.intro hzb hzt)
          clear hzb hzt
          go_upto_region 9 with fail
          clear qK10 qK11 qK12 qK1z qK1l
          obtain ⟨LS, hLS⟩ : ∃ L : List Value, L = [.int .i64 zbb, .int .i64 zt, .slice a6 l6 c6] := ⟨_, rfl⟩
          obtain ⟨W7, hWS⟩ : ∃ WS, WS = W6.setCells (N + 1) 0 LS := ⟨_, rfl⟩
          have hch := hWS
          rw [hLS] at hch
          simp only [World.setCells, Nat.zero_add, Nat.reduceAdd] at hch
          rw [← hch]
          clear hch
          have hkS := stC_blk HK1.out LS (by rw [hLS]; rfl)
          have hfS := stC_fr (N + 1) LS 0 W6
          rw [← hWS] at hkS hfS
          rw [hLS] at hkS
          replace HB := Lib.hid (HB.out.trans (hfS.below HB.out.size (by have := HLON.out; simp; try omega)))
          replace HV := Lib.hid (HV.out.fr HK1.out hfS)
          replace HV2 := Lib.hid (HV2.out.fr HK1.out hfS)
          replace HR := Lib.hid (show Blk W7 N #[.int .i64 base, .int .i64 term, .slice a ln c] 24 from (hfS.block _ HR.out.lt (by simp; try omega)).trans HR.out)
          replace HV5 := Lib.hid (HV5.out.fr HK1.out hfS)
          replace HV6 := Lib.hid (HV6.out.fr HK1.out hfS)
          replace HK1 := Lib.hid (show Blk W7 (N + 1) #[.int .i64 zbb, .int .i64 zt, .slice a6 l6 c6] 24 from hkS)
          clear hWS hLS hkS hfS
          have qK10 : W7.cell? ⟨(N + 1), 0, none⟩ = some (.int .i64 zbb) := cell_at HK1.out 0
          have qK11 : W7.cell? ⟨(N + 1), 1, none⟩ = some (.int .i64 zt) := cell_at HK1.out 1
          have qK12 : W7.cell? ⟨(N + 1), 2, none⟩ = some (.slice a6 l6 c6) := cell_at HK1.out 2
          have qK1z : ∀ j, W7.frozen? ⟨(N + 1), j, none⟩ = false := fun j => free_at HK1.out j
          have qK1l : (N + 1) < W7.heap.size := HK1.out.lt
          rcases hJc with rfl | rfl | rfl
          · skip
            rw [zl_eq] at HP HV6
            rw [zi_eq] at HP
            obtain rfl := HP.out
            go_wp2_with fail
            clear qK10 qK11 qK12 qK1z qK1l
            obtain ⟨LS, hLS⟩ : ∃ L : List Value, L = [.int .i64 zbb, .int .i64 zt, .slice a6 l6 c6] := ⟨_, rfl⟩
            obtain ⟨W8, hWS⟩ : ∃ WS, WS = W7.setCells (N + 1) 0 LS := ⟨_, rfl⟩
            have hch := hWS
            rw [hLS] at hch
            simp only [World.setCells, Nat.zero_add, Nat.reduceAdd] at hch
            rw [← hch]
            clear hch
            have hkS := stC_blk HK1.out LS (by rw [hLS]; rfl)
            have hfS := stC_fr (N + 1) LS 0 W7
            rw [← hWS] at hkS hfS
            rw [hLS] at hkS
            replace HB := Lib.hid (HB.out.trans (hfS.below HB.out.size (by have := HLON.out; simp; try omega)))
            replace HV := Lib.hid (HV.out.fr HK1.out hfS)
            replace HV2 := Lib.hid (HV2.out.fr HK1.out hfS)
            replace HR := Lib.hid (show Blk W8 N #[.int .i64 base, .int .i64 term, .slice a ln c] 24 from (hfS.block _ HR.out.lt (by simp; try omega)).trans HR.out)
            replace HV5 := Lib.hid (HV5.out.fr HK1.out hfS)
            replace HV6 := Lib.hid (HV6.out.fr HK1.out hfS)
            replace HK1 := Lib.hid (show Blk W8 (N + 1) #[.int .i64 zbb, .int .i64 zt, .slice a6 l6 c6] 24 from hkS)
            clear hWS hLS hkS hfS
            have qK10 : W8.cell? ⟨(N + 1), 0, none⟩ = some (.int .i64 zbb) := cell_at HK1.out 0
            have qK11 : W8.cell? ⟨(N + 1), 1, none⟩ = some (.int .i64 zt) := cell_at HK1.out 1
            have qK12 : W8.cell? ⟨(N + 1), 2, none⟩ = some (.slice a6 l6 c6) := cell_at HK1.out 2
            have qK1z : ∀ j, W8.frozen? ⟨(N + 1), j, none⟩ = false := fun j => free_at HK1.out j
            have qK1l : (N + 1) < W8.heap.size := HK1.out.lt
            exact bodyPost_ret (v := .tuple #[.agg #[.int .i64 zbb, .int .i64 zt, .slice a6 l6 c6], .int .i64 fs, .bool false, .int .i64 0]) (by simp [results, Try.results19, go_sem, qK10, qK11, qK12]) rfl ⟨⟨_, rfl, HV6.out⟩, HB.out⟩
          · skip
            rw [zl_ne (by decide), zi_ne (j := 3) (x := fs) (by decide)] at HP
            obtain ⟨q1, q2⟩ := HZZ.out
            rw [zi_ne (by decide)] at q1 q2
            rw [q1, q2] at HP
            obtain rfl := HP.out
            go_wp2_with fail
            clear qK10 qK11 qK12 qK1z qK1l
            obtain ⟨LS, hLS⟩ : ∃ L : List Value, L = [.int .i64 0, .int .i64 0, .slice none 0 0] := ⟨_, rfl⟩
            obtain ⟨W8, hWS⟩ : ∃ WS, WS = W7.setCells (N + 1) 0 LS := ⟨_, rfl⟩
            have hch := hWS
            rw [hLS] at hch
            simp only [World.setCells, Nat.zero_add, Nat.reduceAdd] at hch
            rw [← hch]
            clear hch
            have hkS := stC_blk HK1.out LS (by rw [hLS]; rfl)
            have hfS := stC_fr (N + 1) LS 0 W7
            rw [← hWS] at hkS hfS
            rw [hLS] at hkS
            replace HB := Lib.hid (HB.out.trans (hfS.below HB.out.size (by have := HLON.out; simp; try omega)))
            replace HV := Lib.hid (HV.out.fr HK1.out hfS)
            replace HV2 := Lib.hid (HV2.out.fr HK1.out hfS)
            replace HR := Lib.hid (show Blk W8 N #[.int .i64 base, .int .i64 term, .slice a ln c] 24 from (hfS.block _ HR.out.lt (by simp; try omega)).trans HR.out)
            replace HV5 := Lib.hid (HV5.out.fr HK1.out hfS)
            replace HV6 := Lib.hid (HV6.out.fr HK1.out hfS)
            replace HK1 := Lib.hid (show Blk W8 (N + 1) #[.int .i64 0, .int .i64 0, .slice none 0 0] 24 from hkS)
            clear hWS hLS hkS hfS
            have qK10 : W8.cell? ⟨(N + 1), 0, none⟩ = some (.int .i64 0) := cell_at HK1.out 0
            have qK11 : W8.cell? ⟨(N + 1), 1, none⟩ = some (.int .i64 0) := cell_at HK1.out 1
            have qK12 : W8.cell? ⟨(N + 1), 2, none⟩ = some (.slice none 0 0) := cell_at HK1.out 2
            have qK1z : ∀ j, W8.frozen? ⟨(N + 1), j, none⟩ = false := fun j => free_at HK1.out j
            have qK1l : (N + 1) < W8.heap.size := HK1.out.lt
            exact bodyPost_ret (v := .tuple #[.agg #[.int .i64 0, .int .i64 0, .slice none 0 0], .int .i64 0, .bool false, .int .i64 3]) (by simp [results, Try.results19, go_sem, qK10, qK11, qK12]) rfl ⟨⟨_, rfl, rv_nil _⟩, HB.out⟩
          · skip
            rw [zl_ne (by decide), zi_ne (j := 90) (x := fs) (by decide)] at HP
            obtain ⟨q1, q2⟩ := HZZ.out
            rw [zi_ne (by decide)] at q1 q2
            rw [q1, q2] at HP
            obtain rfl := HP.out
            go_wp2_with fail
            clear qK10 qK11 qK12 qK1z qK1l
            obtain ⟨LS, hLS⟩ : ∃ L : List Value, L = [.int .i64 0, .int .i64 0, .slice none 0 0] := ⟨_, rfl⟩
            obtain ⟨W8, hWS⟩ : ∃ WS, WS = W7.setCells (N + 1) 0 LS := ⟨_, rfl⟩
            have hch := hWS
            rw [hLS] at hch
            simp only [World.setCells, Nat.zero_add, Nat.reduceAdd] at hch
            rw [← hch]
            clear hch
            have hkS := stC_blk HK1.out LS (by rw [hLS]; rfl)
            have hfS := stC_fr (N + 1) LS 0 W7
            rw [← hWS] at hkS hfS
            rw [hLS] at hkS
            replace HB := Lib.hid (HB.out.trans (hfS.below HB.out.size (by have := HLON.out; simp; try omega)))
            replace HV := Lib.hid (HV.out.fr HK1.out hfS)
            replace HV2 := Lib.hid (HV2.out.fr HK1.out hfS)
            replace HR := Lib.hid (show Blk W8 N #[.int .i64 base, .int .i64 term, .slice a ln c] 24 from (hfS.block _ HR.out.lt (by simp; try omega)).trans HR.out)
            replace HV5 := Lib.hid (HV5.out.fr HK1.out hfS)
            replace HV6 := Lib.hid (HV6.out.fr HK1.out hfS)
            replace HK1 := Lib.hid (show Blk W8 (N + 1) #[.int .i64 0, .int .i64 0, .slice none 0 0] 24 from hkS)
            clear hWS hLS hkS hfS
            have qK10 : W8.cell? ⟨(N + 1), 0, none⟩ = some (.int .i64 0) := cell_at HK1.out 0
            have qK11 : W8.cell? ⟨(N + 1), 1, none⟩ = some (.int .i64 0) := cell_at HK1.out 1
            have qK12 : W8.cell? ⟨(N + 1), 2, none⟩ = some (.slice none 0 0) := cell_at HK1.out 2
            have qK1z : ∀ j, W8.frozen? ⟨(N + 1), j, none⟩ = false := fun j => free_at HK1.out j
            have qK1l : (N + 1) < W8.heap.size := HK1.out.lt
            exact bodyPost_ret (v := .tuple #[.agg #[.int .i64 0, .int .i64 0, .slice none 0 0], .int .i64 0, .bool false, .int .i64 90]) (by simp [results, Try.results19, go_sem, qK10, qK11, qK12]) rfl ⟨⟨_, rfl, rv_nil _⟩, HB.out⟩
        · skip
          obtain ⟨f1, f2, f3⟩ := HFO.out rfl
          obtain ⟨i, hi⟩ := Int.eq_ofNat_of_zero_le (show 0 ≤ fi - base by omega)
          obtain rfl : fi = base + (i : Int) := by omega
          have hil : i ≤ ln := by omega
          have e9 : (base + (i : Int) - base).toNat = i := by omega
          have HJ2 : Hid (J = joinE base term (layP L fl i).1 L (layP L fl i).2) := Lib.hid (by rw [HJ.out]; unfold layJ; simp only [if_true, e9])
          have HY2 : Hid (Y = L.take (layP L fl i).1 ++ (layP L fl i).2) := Lib.hid (by rw [HY.out]; unfold layY; simp only [if_true, e9])
          have HJN := Lib.hid (fun W (h : RV W (.slice a ln c) L) (h2 : RV W (.slice a5 l5 c5) fl) => layR_any base term _ _ L fl i W h h2 (by rw [← Hln.out]; exact hil) (by rw [← Hln.out]; exact b2) (by omega) b0 (by omega) J HJ2.out)
          rw [← HY2.out, ← HZB.out, ← HZT.out] at HJN
          clear e9 hi f1 f2
          have qR0 : W5.cell? ⟨N, 0, none⟩ = some (.int .i64 base) := cell_at HR.out 0
          have qR1 : W5.cell? ⟨N, 1, none⟩ = some (.int .i64 term) := cell_at HR.out 1
          have qR2 : W5.cell? ⟨N, 2, none⟩ = some (.slice a ln c) := cell_at HR.out 2
          have qRz : ∀ j, W5.frozen? ⟨N, j, none⟩ = false := fun j => free_at HR.out j
          have qRl : N < W5.heap.size := HR.out.lt
          go_wp2_with fail
          go_at_call 40
          go_fit (HJN.out _ HV.out HV5.out)
          rintro e W6 ⟨v6, rfl, hv6, hB⟩
          clear qR0 qR1 qR2 qRz qRl
          replace HB := Lib.hid (HB.out.trans (hB.mono HB.out.size))
          replace HV := Lib.hid (HV.out.below hB)
          replace HV2 := Lib.hid (HV2.out.below hB)
          replace HR := Lib.hid (HR.out.step hB)
          replace HK1 := Lib.hid (HK1.out.step hB)
          replace HV5 := Lib.hid (HV5.out.below hB)
          clear hB
          obtain ⟨a6, l6, c6, rfl, Hl6, l61, l62, l63⟩ := hv6.sh
          have HV6 := Lib.hid hv6
          clear hv6
          have qK10 : W6.cell? ⟨(N + 1), 0, none⟩ = some (.int .i64 0) := cell_at HK1.out 0
          have qK11 : W6.cell? ⟨(N + 1), 1, none⟩ = some (.int .i64 0) := cell_at HK1.out 1
          have qK12 : W6.cell? ⟨(N + 1), 2, none⟩ = some (.slice none 0 0) := cell_at HK1.out 2
          have qK1z : ∀ j, W6.frozen? ⟨(N + 1), j, none⟩ = false := fun j => free_at HK1.out j
          have qK1l : (N + 1) < W6.heap.size := HK1.out.lt
          have hzb := HZB.out
          have hzt := HZT.out
          have HZZ := Lib.hid (And.intro hzb hzt)
          clear hzb hzt
          go_upto_region 9 with fail
          clear qK10 qK11 qK12 qK1z qK1l
          obtain ⟨LS, hLS⟩ : ∃ L : List Value, L = [.int .i64 zbb, .int .i64 zt, .slice a6 l6 c6] := ⟨_, rfl⟩
          obtain ⟨W7, hWS⟩ : ∃ WS, WS = W6.setCells (N + 1) 0 LS := ⟨_, rfl⟩
          have hch := hWS
          rw [hLS] at hch
          simp only [World.setCells, Nat.zero_add, Nat.reduceAdd] at hch
          rw [← hch]
          clear hch
          have hkS := stC_blk HK1.out LS (by rw [hLS]; rfl)
          have hfS := stC_fr (N + 1) LS 0 W6
          rw [← hWS] at hkS hfS
          rw [hLS] at hkS
          replace HB := Lib.hid (HB.out.trans (hfS.below HB.out.size (by have := HLON.out; simp; try omega)))
          replace HV := Lib.hid (HV.out.fr HK1.out hfS)
          replace HV2 := Lib.hid (HV2.out.fr HK1.out hfS)
          replace HR := Lib.hid (show Blk W7 N #[.int .i64 base, .int .i64 term, .slice a ln c] 24 from (hfS.block _ HR.out.lt (by simp; try omega)).trans HR.out)
          replace HV5 := Lib.hid (HV5.out.fr HK1.out hfS)
          replace HV6 := Lib.hid (HV6.out.fr HK1.out hfS)
          replace HK1 := Lib.hid (show Blk W7 (N + 1) #[.int .i64 zbb, .int .i64 zt, .slice a6 l6 c6] 24 from hkS)
          clear hWS hLS hkS hfS
          have qK10 : W7.cell? ⟨(N + 1), 0, none⟩ = some (.int .i64 zbb) := cell_at HK1.out 0
          have qK11 : W7.cell? ⟨(N + 1), 1, none⟩ = some (.int .i64 zt) := cell_at HK1.out 1
          have qK12 : W7.cell? ⟨(N + 1), 2, none⟩ = some (.slice a6 l6 c6) := cell_at HK1.out 2
          have qK1z : ∀ j, W7.frozen? ⟨(N + 1), j, none⟩ = false := fun j => free_at HK1.out j
          have qK1l : (N + 1) < W7.heap.size := HK1.out.lt
          rcases hJc with rfl | rfl | rfl
          · skip
            rw [zl_eq] at HP HV6
            rw [zi_eq] at HP
            obtain rfl := HP.out
            go_wp2_with fail
            clear qK10 qK11 qK12 qK1z qK1l
            obtain ⟨LS, hLS⟩ : ∃ L : List Value, L = [.int .i64 zbb, .int .i64 zt, .slice a6 l6 c6] := ⟨_, rfl⟩
            obtain ⟨W8, hWS⟩ : ∃ WS, WS = W7.setCells (N + 1) 0 LS := ⟨_, rfl⟩
            have hch := hWS
            rw [hLS] at hch
            simp only [World.setCells, Nat.zero_add, Nat.reduceAdd] at hch
            rw [← hch]
            clear hch
            have hkS := stC_blk HK1.out LS (by rw [hLS]; rfl)
            have hfS := stC_fr (N + 1) LS 0 W7
            rw [← hWS] at hkS hfS
            rw [hLS] at hkS
            replace HB := Lib.hid (HB.out.trans (hfS.below HB.out.size (by have := HLON.out; simp; try omega)))
            replace HV := Lib.hid (HV.out.fr HK1.out hfS)
            replace HV2 := Lib.hid (HV2.out.fr HK1.out hfS)
            replace HR := Lib.hid (show Blk W8 N #[.int .i64 base, .int .i64 term, .slice a ln c] 24 from (hfS.block _ HR.out.lt (by simp; try omega)).trans HR.out)
            replace HV5 := Lib.hid (HV5.out.fr HK1.out hfS)
            replace HV6 := Lib.hid (HV6.out.fr HK1.out hfS)
            replace HK1 := Lib.hid (show Blk W8 (N + 1) #[.int .i64 zbb, .int .i64 zt, .slice a6 l6 c6] 24 from hkS)
            clear hWS hLS hkS hfS
            have qK10 : W8.cell? ⟨(N + 1), 0, none⟩ = some (.int .i64 zbb) := cell_at HK1.out 0
            have qK11 : W8.cell? ⟨(N + 1), 1, none⟩ = some (.int .i64 zt) := cell_at HK1.out 1
            have qK12 : W8.cell? ⟨(N + 1), 2, none⟩ = some (.slice a6 l6 c6) := cell_at HK1.out 2
            have qK1z : ∀ j, W8.frozen? ⟨(N + 1), j, none⟩ = false := fun j => free_at HK1.out j
            have qK1l : (N + 1) < W8.heap.size := HK1.out.lt
            exact bodyPost_ret (v := .tuple #[.agg #[.int .i64 zbb, .int .i64 zt, .slice a6 l6 c6], .int .i64 fs, .bool true, .int .i64 0]) (by simp [results, Try.results19, go_sem, qK10, qK11, qK12]) rfl ⟨⟨_, rfl, HV6.out⟩, HB.out⟩
          · skip
            rw [zl_ne (by decide), zi_ne (j := 3) (x := fs) (by decide)] at HP
            obtain ⟨q1, q2⟩ := HZZ.out
            rw [zi_ne (by decide)] at q1 q2
            rw [q1, q2] at HP
            obtain rfl := HP.out
            go_wp2_with fail
            clear qK10 qK11 qK12 qK1z qK1l
            obtain ⟨LS, hLS⟩ : ∃ L : List Value, L = [.int .i64 0, .int .i64 0, .slice none 0 0] := ⟨_, rfl⟩
            obtain ⟨W8, hWS⟩ : ∃ WS, WS = W7.setCells (N + 1) 0 LS := ⟨_, rfl⟩
            have hch := hWS
            rw [hLS] at hch
            simp only [World.setCells, Nat.zero_add, Nat.reduceAdd] at hch
            rw [← hch]
            clear hch
            have hkS := stC_blk HK1.out LS (by rw [hLS]; rfl)
            have hfS := stC_fr (N + 1) LS 0 W7
            rw [← hWS] at hkS hfS
            rw [hLS] at hkS
            replace HB := Lib.hid (HB.out.trans (hfS.below HB.out.size (by have := HLON.out; simp; try omega)))
            replace HV := Lib.hid (HV.out.fr HK1.out hfS)
            replace HV2 := Lib.hid (HV2.out.fr HK1.out hfS)
            replace HR := Lib.hid (show Blk W8 N #[.int .i64 base, .int .i64 term, .slice a ln c] 24 from (hfS.block _ HR.out.lt (by simp; try omega)).trans HR.out)
            replace HV5 := Lib.hid (HV5.out.fr HK1.out hfS)
            replace HV6 := Lib.hid (HV6.out.fr HK1.out hfS)
            replace HK1 := Lib.hid (show Blk W8 (N + 1) #[.int .i64 0, .int .i64 0, .slice none 0 0] 24 from hkS)
            clear hWS hLS hkS hfS
            have qK10 : W8.cell? ⟨(N + 1), 0, none⟩ = some (.int .i64 0) := cell_at HK1.out 0
            have qK11 : W8.cell? ⟨(N + 1), 1, none⟩ = some (.int .i64 0) := cell_at HK1.out 1
            have qK12 : W8.cell? ⟨(N + 1), 2, none⟩ = some (.slice none 0 0) := cell_at HK1.out 2
            have qK1z : ∀ j, W8.frozen? ⟨(N + 1), j, none⟩ = false := fun j => free_at HK1.out j
            have qK1l : (N + 1) < W8.heap.size := HK1.out.lt
            exact bodyPost_ret (v := .tuple #[.agg #[.int .i64 0, .int .i64 0, .slice none 0 0], .int .i64 0, .bool false, .int .i64 3]) (by simp [results, Try.results19, go_sem, qK10, qK11, qK12]) rfl ⟨⟨_, rfl, rv_nil _⟩, HB.out⟩
          · skip
            rw [zl_ne (by decide), zi_ne (j := 90) (x := fs) (by decide)] at HP
            obtain ⟨q1, q2⟩ := HZZ.out
            rw [zi_ne (by decide)] at q1 q2
            rw [q1, q2] at HP
            obtain rfl := HP.out
            go_wp2_with fail
            clear qK10 qK11 qK12 qK1z qK1l
            obtain ⟨LS, hLS⟩ : ∃ L : List Value, L = [.int .i64 0, .int .i64 0, .slice none 0 0] := ⟨_, rfl⟩
            obtain ⟨W8, hWS⟩ : ∃ WS, WS = W7.setCells (N + 1) 0 LS := ⟨_, rfl⟩
            have hch := hWS
            rw [hLS] at hch
            simp only [World.setCells, Nat.zero_add, Nat.reduceAdd] at hch
            rw [← hch]
            clear hch
            have hkS := stC_blk HK1.out LS (by rw [hLS]; rfl)
            have hfS := stC_fr (N + 1) LS 0 W7
            rw [← hWS] at hkS hfS
            rw [hLS] at hkS
            replace HB := Lib.hid (HB.out.trans (hfS.below HB.out.size (by have := HLON.out; simp; try omega)))
            replace HV := Lib.hid (HV.out.fr HK1.out hfS)
            replace HV2 := Lib.hid (HV2.out.fr HK1.out hfS)
            replace HR := Lib.hid (show Blk W8 N #[.int .i64 base, .int .i64 term, .slice a ln c] 24 from (hfS.block _ HR.out.lt (by simp; try omega)).trans HR.out)
            replace HV5 := Lib.hid (HV5.out.fr HK1.out hfS)
            replace HV6 := Lib.hid (HV6.out.fr HK1.out hfS)
            replace HK1 := Lib.hid (show Blk W8 (N + 1) #[.int .i64 0, .int .i64 0, .slice none 0 0] 24 from hkS)
            clear hWS hLS hkS hfS
            have qK10 : W8.cell? ⟨(N + 1), 0, none⟩ = some (.int .i64 0) := cell_at HK1.out 0
            have qK11 : W8.cell? ⟨(N + 1), 1, none⟩ = some (.int .i64 0) := cell_at HK1.out 1
            have qK12 : W8.cell? ⟨(N + 1), 2, none⟩ = some (.slice none 0 0) := cell_at HK1.out 2
            have qK1z : ∀ j, W8.frozen? ⟨(N + 1), j, none⟩ = false := fun j => free_at HK1.out j
            have qK1l : (N + 1) < W8.heap.size := HK1.out.lt
            exact bodyPost_ret (v := .tuple #[.agg #[.int .i64 0, .int .i64 0, .slice none 0 0], .int .i64 0, .bool false, .int .i64 90]) (by simp [results, Try.results19, go_sem, qK10, qK11, qK12]) rfl ⟨⟨_, rfl, rv_nil _⟩, HB.out⟩
      · skip
        rw [if_pos (by simp)] at HP
        obtain rfl := HP.out
        have qK10 : W4.cell? ⟨(N + 1), 0, none⟩ = some (.int .i64 0) := cell_at HK1.out 0
        have qK11 : W4.cell? ⟨(N + 1), 1, none⟩ = some (.int .i64 0) := cell_at HK1.out 1
        have qK12 : W4.cell? ⟨(N + 1), 2, none⟩ = some (.slice none 0 0) := cell_at HK1.out 2
        have qK1z : ∀ j, W4.frozen? ⟨(N + 1), j, none⟩ = false := fun j => free_at HK1.out j
        have qK1l : (N + 1) < W4.heap.size := HK1.out.lt
        go_wp2_with fail
        clear qK10 qK11 qK12 qK1z qK1l
        obtain ⟨LS, hLS⟩ : ∃ L : List Value, L = [.int .i64 0, .int .i64 0, .slice none 0 0] := ⟨_, rfl⟩
        obtain ⟨W5, hWS⟩ : ∃ WS, WS = W4.setCells (N + 1) 0 LS := ⟨_, rfl⟩
        have hch := hWS
        rw [hLS] at hch
        simp only [World.setCells, Nat.zero_add, Nat.reduceAdd] at hch
        rw [← hch]
        clear hch
        have hkS := stC_blk HK1.out LS (by rw [hLS]; rfl)
        have hfS := stC_fr (N + 1) LS 0 W4
        rw [← hWS] at hkS hfS
        rw [hLS] at hkS
        replace HB := Lib.hid (HB.out.trans (hfS.below HB.out.size (by have := HLON.out; simp; try omega)))
        replace HV := Lib.hid (HV.out.fr HK1.out hfS)
        replace HV2 := Lib.hid (HV2.out.fr HK1.out hfS)
        replace HR := Lib.hid (show Blk W5 N #[.int .i64 base, .int .i64 term, .slice a ln c] 24 from (hfS.block _ HR.out.lt (by simp; try omega)).trans HR.out)
        replace HK1 := Lib.hid (show Blk W5 (N + 1) #[.int .i64 0, .int .i64 0, .slice none 0 0] 24 from hkS)
        clear hWS hLS hkS hfS
        have qK10 : W5.cell? ⟨(N + 1), 0, none⟩ = some (.int .i64 0) := cell_at HK1.out 0
        have qK11 : W5.cell? ⟨(N + 1), 1, none⟩ = some (.int .i64 0) := cell_at HK1.out 1
        have qK12 : W5.cell? ⟨(N + 1), 2, none⟩ = some (.slice none 0 0) := cell_at HK1.out 2
        have qK1z : ∀ j, W5.frozen? ⟨(N + 1), j, none⟩ = false := fun j => free_at HK1.out j
        have qK1l : (N + 1) < W5.heap.size := HK1.out.lt
        exact bodyPost_ret (v := .tuple #[.agg #[.int .i64 0, .int .i64 0, .slice none 0 0], .int .i64 0, .bool false, .int .i64 2]) (by simp [results, Try.results19, go_sem, qK10, qK11, qK12]) rfl ⟨⟨_, rfl, rv_nil _⟩, HB.out⟩
  · skip
    rw [if_pos (by simp)] at HP
    obtain rfl := HP.out
    have qK10 : W3.cell? ⟨(N + 1), 0, none⟩ = some (.int .i64 0) := cell_at HK1.out 0
    have qK11 : W3.cell? ⟨(N + 1), 1, none⟩ = some (.int .i64 0) := cell_at HK1.out 1
    have qK12 : W3.cell? ⟨(N + 1), 2, none⟩ = some (.slice none 0 0) := cell_at HK1.out 2
    have qK1z : ∀ j, W3.frozen? ⟨(N + 1), j, none⟩ = false := fun j => free_at HK1.out j
    have qK1l : (N + 1) < W3.heap.size := HK1.out.lt
    go_wp2_with fail
    clear qK10 qK11 qK12 qK1z qK1l
    obtain ⟨LS, hLS⟩ : ∃ L : List Value, L = [.int .i64 0, .int .i64 0, .slice none 0 0] := ⟨_, rfl⟩
    obtain ⟨W4, hWS⟩ : ∃ WS, WS = W3.setCells (N + 1) 0 LS := ⟨_, rfl⟩
    have hch := hWS
    rw [hLS] at hch
    simp only [World.setCells, Nat.zero_add, Nat.reduceAdd] at hch
    rw [← hch]
    clear hch
    have hkS := stC_blk HK1.out LS (by rw [hLS]; rfl)
    have hfS := stC_fr (N + 1) LS 0 W3
    rw [← hWS] at hkS hfS
    rw [hLS] at hkS
    replace HB := Lib.hid (HB.out.trans (hfS.below HB.out.size (by have := HLON.out; simp; try omega)))
    replace HV := Lib.hid (HV.out.fr HK1.out hfS)
    replace HV2 := Lib.hid (HV2.out.fr HK1.out hfS)
    replace HR := Lib.hid (show Blk W4 N #[.int .i64 base, .int .i64 term, .slice a ln c] 24 from (hfS.block _ HR.out.lt (by simp; try omega)).trans HR.out)
    replace HK1 := Lib.hid (show Blk W4 (N + 1) #[.int .i64 0, .int .i64 0, .slice none 0 0] 24 from hkS)
    clear hWS hLS hkS hfS
    have qK10 : W4.cell? ⟨(N + 1), 0, none⟩ = some (.int .i64 0) := cell_at HK1.out 0
    have qK11 : W4.cell? ⟨(N + 1), 1, none⟩ = some (.int .i64 0) := cell_at HK1.out 1
    have qK12 : W4.cell? ⟨(N + 1), 2, none⟩ = some (.slice none 0 0) := cell_at HK1.out 2
    have qK1z : ∀ j, W4.frozen? ⟨(N + 1), j, none⟩ = false := fun j => free_at HK1.out j
    have qK1l : (N + 1) < W4.heap.size := HK1.out.lt
    exact bodyPost_ret (v := .tuple #[.agg #[.int .i64 0, .int .i64 0, .slice none 0 0], .int .i64 0, .bool false, .int .i64 90]) (by simp [results, Try.results19, go_sem, qK10, qK11, qK12]) rfl ⟨⟨_, rfl, rv_nil _⟩, HB.out⟩
end Go.Proofs.Ytcadinoijclfnaa
