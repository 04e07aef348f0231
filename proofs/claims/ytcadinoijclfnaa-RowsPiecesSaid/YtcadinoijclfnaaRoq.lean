/-
  The law RowsPieces, walked.
-/
import Derived.Test.YtcadinoijclfnaaRoqP
import Derived.Test.YtcadinoijclfnaaRoh
import Derived.Test.YtcadinoijclfnaaRowL
import Derived.Deep.DeepFit
namespace Go.Proofs.Ytcadinoijclfnaa
open Go.RowKit
set_option linter.unusedSimpArgs false
set_option linter.unusedVariables false

set_option maxRecDepth 100000 in
set_option maxHeartbeats 16000000 in
theorem rowsPieces_any (base term at_ idx most base2 term2 : Int) (v v2 : Value) (L l : List EnD) (w : World) (h : RV w v L) (h2 : RV w v2 l) (hb : bigB L) (hb2 : bigB l) (ha : -9223372036854775808 ≤ at_ ∧ at_ ≤ 9223372036854775807) (hx : -9223372036854775808 ≤ idx ∧ idx ≤ 9223372036854775807) (hmo : -9223372036854775808 ≤ most ∧ most ≤ 9223372036854775807) :
    Calls Try.prog 6 #[.agg #[.int .i64 base, .int .i64 term, v], .int .i64 at_, .int .i64 idx, .int .i64 most, .agg #[.int .i64 base2, .int .i64 term2, v2]] w fun e w' => e = .returned (.bool true) ∧ Below w.heap.size w w' := by
  obtain ⟨a, ln, c, rfl, Hln, m1, m2, m3⟩ := h.sh
  obtain ⟨a2, l2, c2, rfl, Hl2, n1, n2, n3⟩ := h2.sh
  have HV := Lib.hid h
  have HV2 := Lib.hid h2
  have HGR := Lib.hid (fun W (h : RV W (.slice a ln c) L) => greatR_any base term _ L W h hb)
  have HGR2 := Lib.hid (fun W (h : RV W (.slice a2 l2 c2) l) => greatR_any base2 term2 _ l W h hb2)
  have HCK := Lib.hid (fun W (h : RV W (.slice a ln c) L) => checkR_any base term _ L W h)
  have HCK2 := Lib.hid (fun W (h : RV W (.slice a2 l2 c2) l) => checkR_any base2 term2 _ l W h)
  obtain ⟨E1, hE1⟩ : ∃ E1, E1 = okE base term L := ⟨_, rfl⟩
  obtain ⟨E2, hE2⟩ : ∃ E2, E2 = okE base2 term2 l := ⟨_, rfl⟩
  have hE1c : E1 = 0 ∨ E1 = 90 := by rw [hE1]; exact okE_two _ _ _
  have hE2c : E2 = 0 ∨ E2 = 90 := by rw [hE2]; exact okE_two _ _ _
  rw [← hE1] at HCK
  rw [← hE2] at HCK2
  have HE1 := Lib.hid hE1
  have HE2 := Lib.hid hE2
  have HCU := Lib.hid (fun W (h : RV W (.slice a ln c) L) => cut_any base term at_ _ L W h ha)
  have HF2 := Lib.hid (fun W (h : RV W (.slice a ln c) L) => from_any base term idx most _ L W h hx hmo)
  have HPC := Lib.hid (fun (h1 : okE base term L = 0) h2 => pieces (base := base) (term := term) (L := L) (at_ := at_) (idx := idx) (most := most) h1 h2)
  have HFC := Lib.hid (fromF_cases base term L idx most)
  have HFL := Lib.hid (fromF_len base term L idx most)
  obtain ⟨X, hX⟩ : ∃ X, X = cutF base term L at_ := ⟨_, rfl⟩
  rw [← hX] at HCU HPC
  clear hX
  obtain ⟨xb, xt, xl, xe⟩ := X
  unfold RwE at HCU
  simp only at HCU HPC
  have HF1 := Lib.hid (fun W v (h : RV W v xl) => from_any xb xt idx most v xl W h hx hmo)
  have HXC := Lib.hid (fromF_cases xb xt xl idx most)
  obtain ⟨R, hR⟩ : ∃ R, R = fromF base term L idx most := ⟨_, rfl⟩
  rw [← hR] at HF2 HPC HFC HFL
  clear hR
  obtain ⟨Q, hQ⟩ : ∃ Q, Q = fromF xb xt xl idx most := ⟨_, rfl⟩
  rw [← hQ] at HF1 HPC HXC
  clear hQ
  obtain ⟨gl, ge⟩ := R
  obtain ⟨fl, fe⟩ := Q
  unfold FrE at HF1 HF2
  simp only at HF1 HF2 HPC HFC HXC HFL
  clear h h2 hb hb2 hE1 hE2
  have HB : Hid (Below w.heap.size w w) := Lib.hid (Below.refl _ _)
  go_enter Try.func6, Try.ntmps6
  go_upto_region 1 with fail
  obtain ⟨N, hN⟩ : ∃ n0, n0 = w.heap.size := ⟨_, rfl⟩
  have HLON : Hid (w.heap.size ≤ N) := Lib.hid (by have := HB.out.size; omega)
  obtain ⟨W1, hA0⟩ : ∃ W0, W0 = w.alloc (.cells #[.int .i64 base, .int .i64 term, .slice a ln c] 24) := ⟨_, rfl⟩
  have hB : Below w.heap.size w W1 := by rw [hA0]; exact (Below.refl _ _).alloc (Nat.le_refl _) _
  have hS0 : W1.heap.size = N + 1 := by rw [hA0]; simp [← hN]
  have HR := Lib.hid (show Blk W1 N #[.int .i64 base, .int .i64 term, .slice a ln c] 24 by rw [hA0, hN]; exact blk_new _ _ _)
  replace HB := Lib.hid (HB.out.trans (hB.mono HB.out.size))
  replace HV := Lib.hid (HV.out.below hB)
  replace HV2 := Lib.hid (HV2.out.below hB)
  clear hB
  obtain ⟨W2, hA1⟩ : ∃ W0, W0 = W1.alloc (.cells #[.int .i64 base2, .int .i64 term2, .slice a2 l2 c2] 24) := ⟨_, rfl⟩
  have hB : Below W1.heap.size W1 W2 := by rw [hA1]; exact (Below.refl _ _).alloc (Nat.le_refl _) _
  have hS1 : W2.heap.size = N + 2 := by rw [hA1]; simp [hS0]
  have HR2 := Lib.hid (show Blk W2 (N + 1) #[.int .i64 base2, .int .i64 term2, .slice a2 l2 c2] 24 by rw [hA1, ← hS0]; exact blk_new _ _ _)
  replace HB := Lib.hid (HB.out.trans (hB.mono HB.out.size))
  replace HV := Lib.hid (HV.out.below hB)
  replace HV2 := Lib.hid (HV2.out.below hB)
  replace HR := Lib.hid (HR.out.step hB)
  clear hB
  have HSN := Lib.hid hS1
  rw [← hN, ← hA0, ← hA1]
  clear hA1 hA0 hN hS0 hS1
  have qR0 : W2.cell? ⟨N, 0, none⟩ = some (.int .i64 base) := cell_at HR.out 0
  have qR1 : W2.cell? ⟨N, 1, none⟩ = some (.int .i64 term) := cell_at HR.out 1
  have qR2 : W2.cell? ⟨N, 2, none⟩ = some (.slice a ln c) := cell_at HR.out 2
  have qRz : ∀ j, W2.frozen? ⟨N, j, none⟩ = false := fun j => free_at HR.out j
  have qRl : N < W2.heap.size := HR.out.lt
  have qR20 : W2.cell? ⟨(N + 1), 0, none⟩ = some (.int .i64 base2) := cell_at HR2.out 0
  have qR21 : W2.cell? ⟨(N + 1), 1, none⟩ = some (.int .i64 term2) := cell_at HR2.out 1
  have qR22 : W2.cell? ⟨(N + 1), 2, none⟩ = some (.slice a2 l2 c2) := cell_at HR2.out 2
  have qR2z : ∀ j, W2.frozen? ⟨(N + 1), j, none⟩ = false := fun j => free_at HR2.out j
  have qR2l : (N + 1) < W2.heap.size := HR2.out.lt
  go_wp2_with fail
  go_at_call 8
  go_fit (HGR.out _ HV.out)
  rintro e W3 ⟨q, rfl, hq, hB⟩
  clear qR0 qR1 qR2 qRz qRl qR20 qR21 qR22 qR2z qR2l
  replace HB := Lib.hid (HB.out.trans (hB.mono HB.out.size))
  replace HV := Lib.hid (HV.out.below hB)
  replace HV2 := Lib.hid (HV2.out.below hB)
  replace HR := Lib.hid (HR.out.step hB)
  replace HR2 := Lib.hid (HR2.out.step hB)
  clear hB
  cases q
  · skip
    have HS1 := Lib.hid (hq rfl)
    clear hq
    have qR20 : W3.cell? ⟨(N + 1), 0, none⟩ = some (.int .i64 base2) := cell_at HR2.out 0
    have qR21 : W3.cell? ⟨(N + 1), 1, none⟩ = some (.int .i64 term2) := cell_at HR2.out 1
    have qR22 : W3.cell? ⟨(N + 1), 2, none⟩ = some (.slice a2 l2 c2) := cell_at HR2.out 2
    have qR2z : ∀ j, W3.frozen? ⟨(N + 1), j, none⟩ = false := fun j => free_at HR2.out j
    have qR2l : (N + 1) < W3.heap.size := HR2.out.lt
    go_wp2_with fail
    go_at_call 8
    go_fit (HGR2.out _ HV2.out)
    rintro e W4 ⟨q, rfl, hq, hB⟩
    clear qR20 qR21 qR22 qR2z qR2l
    replace HB := Lib.hid (HB.out.trans (hB.mono HB.out.size))
    replace HV := Lib.hid (HV.out.below hB)
    replace HV2 := Lib.hid (HV2.out.below hB)
    replace HR := Lib.hid (HR.out.step hB)
    replace HR2 := Lib.hid (HR2.out.step hB)
    clear hB
    cases q
    · skip
      clear hq
      have qR0 : W4.cell? ⟨N, 0, none⟩ = some (.int .i64 base) := cell_at HR.out 0
      have qR1 : W4.cell? ⟨N, 1, none⟩ = some (.int .i64 term) := cell_at HR.out 1
      have qR2 : W4.cell? ⟨N, 2, none⟩ = some (.slice a ln c) := cell_at HR.out 2
      have qRz : ∀ j, W4.frozen? ⟨N, j, none⟩ = false := fun j => free_at HR.out j
      have qRl : N < W4.heap.size := HR.out.lt
      go_wp2_with fail
      go_at_call 25
      go_fit (HCK.out _ HV.out)
      rintro e W5 ⟨rfl, hB⟩
      clear qR0 qR1 qR2 qRz qRl
      replace HB := Lib.hid (HB.out.trans (hB.mono HB.out.size))
      replace HV := Lib.hid (HV.out.below hB)
      replace HV2 := Lib.hid (HV2.out.below hB)
      replace HR := Lib.hid (HR.out.step hB)
      replace HR2 := Lib.hid (HR2.out.step hB)
      clear hB
      rcases hE1c with rfl | rfl
      · skip
        have qR20 : W5.cell? ⟨(N + 1), 0, none⟩ = some (.int .i64 base2) := cell_at HR2.out 0
        have qR21 : W5.cell? ⟨(N + 1), 1, none⟩ = some (.int .i64 term2) := cell_at HR2.out 1
        have qR22 : W5.cell? ⟨(N + 1), 2, none⟩ = some (.slice a2 l2 c2) := cell_at HR2.out 2
        have qR2z : ∀ j, W5.frozen? ⟨(N + 1), j, none⟩ = false := fun j => free_at HR2.out j
        have qR2l : (N + 1) < W5.heap.size := HR2.out.lt
        go_wp2_with fail
        go_at_call 25
        go_fit (HCK2.out _ HV2.out)
        rintro e W6 ⟨rfl, hB⟩
        clear qR20 qR21 qR22 qR2z qR2l
        replace HB := Lib.hid (HB.out.trans (hB.mono HB.out.size))
        replace HV := Lib.hid (HV.out.below hB)
        replace HV2 := Lib.hid (HV2.out.below hB)
        replace HR := Lib.hid (HR.out.step hB)
        replace HR2 := Lib.hid (HR2.out.step hB)
        clear hB
        rcases hE2c with rfl | rfl
        · skip
          have qR0 : W6.cell? ⟨N, 0, none⟩ = some (.int .i64 base) := cell_at HR.out 0
          have qR1 : W6.cell? ⟨N, 1, none⟩ = some (.int .i64 term) := cell_at HR.out 1
          have qR2 : W6.cell? ⟨N, 2, none⟩ = some (.slice a ln c) := cell_at HR.out 2
          have qRz : ∀ j, W6.frozen? ⟨N, j, none⟩ = false := fun j => free_at HR.out j
          have qRl : N < W6.heap.size := HR.out.lt
          go_wp2_with fail
          go_at_call 14
          go_fit (HCU.out _ HV.out)
          rintro e W7 ⟨⟨v5, rfl, hv5⟩, hB⟩
          clear qR0 qR1 qR2 qRz qRl
          replace HB := Lib.hid (HB.out.trans (hB.mono HB.out.size))
          replace HV := Lib.hid (HV.out.below hB)
          replace HV2 := Lib.hid (HV2.out.below hB)
          replace HR := Lib.hid (HR.out.step hB)
          replace HR2 := Lib.hid (HR2.out.step hB)
          clear hB
          obtain ⟨a5, l5, c5, rfl, Hl5, l51, l52, l53⟩ := hv5.sh
          have HV5 := Lib.hid hv5
          clear hv5
          go_upto_region 4 with fail
          obtain ⟨A9, hA9⟩ : ∃ n0, n0 = W7.heap.size := ⟨_, rfl⟩
          have HXA9HR : Hid (N < A9) := Lib.hid (by rw [hA9]; exact HR.out.lt)
          have HXA9HR2 : Hid ((N + 1) < A9) := Lib.hid (by rw [hA9]; exact HR2.out.lt)
          have HLOA9 : Hid (w.heap.size ≤ A9) := Lib.hid (by have := HB.out.size; omega)
          obtain ⟨W8, hA0⟩ : ∃ W0, W0 = W7.alloc (.cells #[.int .i64 xb, .int .i64 xt, .slice a5 l5 c5] 24) := ⟨_, rfl⟩
          have hB : Below W7.heap.size W7 W8 := by rw [hA0]; exact (Below.refl _ _).alloc (Nat.le_refl _) _
          have hS0 : W8.heap.size = A9 + 1 := by rw [hA0]; simp [← hA9]
          have HA := Lib.hid (show Blk W8 A9 #[.int .i64 xb, .int .i64 xt, .slice a5 l5 c5] 24 by rw [hA0, hA9]; exact blk_new _ _ _)
          replace HB := Lib.hid (HB.out.trans (hB.mono HB.out.size))
          replace HV := Lib.hid (HV.out.below hB)
          replace HV2 := Lib.hid (HV2.out.below hB)
          replace HR := Lib.hid (HR.out.step hB)
          replace HR2 := Lib.hid (HR2.out.step hB)
          replace HV5 := Lib.hid (HV5.out.below hB)
          clear hB
          have HSA9 := Lib.hid hS0
          rw [← hA9, ← hA0]
          clear hA0 hA9 hS0
          by_cases hx0 : xe = 0
          · skip
            subst hx0
            obtain ⟨hp1, hp2⟩ := HPC.out HE1.out.symm rfl
            have HP1 := Lib.hid hp1
            have HP2 := Lib.hid hp2
            clear hp1 hp2
            have qA0 : W8.cell? ⟨A9, 0, none⟩ = some (.int .i64 xb) := cell_at HA.out 0
            have qA1 : W8.cell? ⟨A9, 1, none⟩ = some (.int .i64 xt) := cell_at HA.out 1
            have qA2 : W8.cell? ⟨A9, 2, none⟩ = some (.slice a5 l5 c5) := cell_at HA.out 2
            have qAz : ∀ j, W8.frozen? ⟨A9, j, none⟩ = false := fun j => free_at HA.out j
            have qAl : A9 < W8.heap.size := HA.out.lt
            go_wp2_with fail
            go_at_call 16
            go_fit (HF1.out _ _ HV5.out)
            rintro e W9 ⟨⟨v6, rfl, hv6⟩, hB⟩
            clear qA0 qA1 qA2 qAz qAl
            replace HB := Lib.hid (HB.out.trans (hB.mono HB.out.size))
            replace HV := Lib.hid (HV.out.below hB)
            replace HV2 := Lib.hid (HV2.out.below hB)
            replace HR := Lib.hid (HR.out.step hB)
            replace HR2 := Lib.hid (HR2.out.step hB)
            replace HV5 := Lib.hid (HV5.out.below hB)
            replace HA := Lib.hid (HA.out.step hB)
            clear hB
            obtain ⟨a6, l6, c6, rfl, Hl6, l61, l62, l63⟩ := hv6.sh
            have HV6 := Lib.hid hv6
            clear hv6
            have qR0 : W9.cell? ⟨N, 0, none⟩ = some (.int .i64 base) := cell_at HR.out 0
            have qR1 : W9.cell? ⟨N, 1, none⟩ = some (.int .i64 term) := cell_at HR.out 1
            have qR2 : W9.cell? ⟨N, 2, none⟩ = some (.slice a ln c) := cell_at HR.out 2
            have qRz : ∀ j, W9.frozen? ⟨N, j, none⟩ = false := fun j => free_at HR.out j
            have qRl : N < W9.heap.size := HR.out.lt
            go_wp2_with fail
            go_at_call 16
            go_fit (HF2.out _ HV.out)
            rintro e W10 ⟨⟨v7, rfl, hv7⟩, hB⟩
            clear qR0 qR1 qR2 qRz qRl
            replace HB := Lib.hid (HB.out.trans (hB.mono HB.out.size))
            replace HV := Lib.hid (HV.out.below hB)
            replace HV2 := Lib.hid (HV2.out.below hB)
            replace HR := Lib.hid (HR.out.step hB)
            replace HR2 := Lib.hid (HR2.out.step hB)
            replace HV5 := Lib.hid (HV5.out.below hB)
            replace HA := Lib.hid (HA.out.step hB)
            replace HV6 := Lib.hid (HV6.out.below hB)
            clear hB
            obtain ⟨a7, l7, c7, rfl, Hl7, l71, l72, l73⟩ := hv7.sh
            have HV7 := Lib.hid hv7
            clear hv7
            by_cases hf0 : fe = 0
            · skip
              subst hf0
              have hee := HP1.out rfl
              injection hee with e1 e2
              subst e1 e2
              go_wp2_with fail
              go_at_call 18
              go_fit (sameR_any _ _ fl _ HV6.out HV7.out (by have := HS1.out.1; have := HFL.out; omega))
              rintro e W11 ⟨rfl, hB⟩
              replace HB := Lib.hid (HB.out.trans (hB.mono HB.out.size))
              replace HV := Lib.hid (HV.out.below hB)
              replace HV2 := Lib.hid (HV2.out.below hB)
              replace HR := Lib.hid (HR.out.step hB)
              replace HR2 := Lib.hid (HR2.out.step hB)
              replace HV5 := Lib.hid (HV5.out.below hB)
              replace HA := Lib.hid (HA.out.step hB)
              replace HV6 := Lib.hid (HV6.out.below hB)
              replace HV7 := Lib.hid (HV7.out.below hB)
              clear hB
              go_upto_region 10 with fail
              obtain ⟨i, hi⟩ : ∃ i, i = base + (L.length : Int) := ⟨_, rfl⟩
              obtain ⟨t, ht⟩ : ∃ t, t = termL base term L i := ⟨_, rfl⟩
              obtain ⟨j, hj⟩ : ∃ j, j = base2 + (l.length : Int) := ⟨_, rfl⟩
              obtain ⟨u, hu⟩ : ∃ u, u = termL base2 term2 l j := ⟨_, rfl⟩
              have HL1 := Lib.hid (fun W (h : RV W (.slice a ln c) L) => lastL_any base term _ L W h HE1.out.symm)
              have HL2 := Lib.hid (fun W (h : RV W (.slice a2 l2 c2) l) => lastL_any base2 term2 _ l W h HE2.out.symm)
              have HN1 := Lib.hid (fun x y W (h : RV W (.slice a ln c) L) => newerR_any base term x y _ L W h HE1.out.symm)
              have HN2 := Lib.hid (fun x y W (h : RV W (.slice a2 l2 c2) l) => newerR_any base2 term2 x y _ l W h HE2.out.symm)
              unfold newL at HN1 HN2
              rw [← hi, ← ht] at HL1
              rw [← hj, ← hu] at HL2
              simp only [← hi, ← ht] at HN1
              simp only [← hj, ← hu] at HN2
              obtain ⟨A, hA⟩ : ∃ A, A = (decide (t < u) || (u == t && decide (i ≤ j))) := ⟨_, rfl⟩
              obtain ⟨B, hB9⟩ : ∃ B, B = (decide (u < t) || (t == u && decide (j ≤ i))) := ⟨_, rfl⟩
              have hAB := new_two i t j u A B hA hB9
              have HNA := Lib.hid (fun W h => HN1.out j u W h)
              have HNB := Lib.hid (fun W h => HN2.out i t W h)
              have HNC := Lib.hid (fun W h => HN1.out i t W h)
              have hCC : (decide (t < t) || (t == t && decide (i ≤ i))) = true := by simp
              rw [← hA] at HNA
              rw [← hB9] at HNB
              rw [hCC] at HNC
              have HAB := Lib.hid hAB
              clear hA hB9 hCC hi ht hj hu hAB HN1 HN2
              have qR0 : W11.cell? ⟨N, 0, none⟩ = some (.int .i64 base) := cell_at HR.out 0
              have qR1 : W11.cell? ⟨N, 1, none⟩ = some (.int .i64 term) := cell_at HR.out 1
              have qR2 : W11.cell? ⟨N, 2, none⟩ = some (.slice a ln c) := cell_at HR.out 2
              have qRz : ∀ j, W11.frozen? ⟨N, j, none⟩ = false := fun j => free_at HR.out j
              have qRl : N < W11.heap.size := HR.out.lt
              go_wp2_with fail
              go_at_call 26
              go_fit (HL1.out _ HV.out)
              rintro e W12 ⟨rfl, hB⟩
              clear qR0 qR1 qR2 qRz qRl
              replace HB := Lib.hid (HB.out.trans (hB.mono HB.out.size))
              replace HV := Lib.hid (HV.out.below hB)
              replace HV2 := Lib.hid (HV2.out.below hB)
              replace HR := Lib.hid (HR.out.step hB)
              replace HR2 := Lib.hid (HR2.out.step hB)
              replace HV5 := Lib.hid (HV5.out.below hB)
              replace HA := Lib.hid (HA.out.step hB)
              replace HV6 := Lib.hid (HV6.out.below hB)
              replace HV7 := Lib.hid (HV7.out.below hB)
              clear hB
              have qR20 : W12.cell? ⟨(N + 1), 0, none⟩ = some (.int .i64 base2) := cell_at HR2.out 0
              have qR21 : W12.cell? ⟨(N + 1), 1, none⟩ = some (.int .i64 term2) := cell_at HR2.out 1
              have qR22 : W12.cell? ⟨(N + 1), 2, none⟩ = some (.slice a2 l2 c2) := cell_at HR2.out 2
              have qR2z : ∀ j, W12.frozen? ⟨(N + 1), j, none⟩ = false := fun j => free_at HR2.out j
              have qR2l : (N + 1) < W12.heap.size := HR2.out.lt
              go_wp2_with fail
              go_at_call 26
              go_fit (HL2.out _ HV2.out)
              rintro e W13 ⟨rfl, hB⟩
              clear qR20 qR21 qR22 qR2z qR2l
              replace HB := Lib.hid (HB.out.trans (hB.mono HB.out.size))
              replace HV := Lib.hid (HV.out.below hB)
              replace HV2 := Lib.hid (HV2.out.below hB)
              replace HR := Lib.hid (HR.out.step hB)
              replace HR2 := Lib.hid (HR2.out.step hB)
              replace HV5 := Lib.hid (HV5.out.below hB)
              replace HA := Lib.hid (HA.out.step hB)
              replace HV6 := Lib.hid (HV6.out.below hB)
              replace HV7 := Lib.hid (HV7.out.below hB)
              clear hB
              rcases HAB.out with ⟨rfl, rfl⟩ | ⟨rfl, rfl⟩ | ⟨rfl, rfl, rfl, rfl⟩
              · skip
                have qR0 : W13.cell? ⟨N, 0, none⟩ = some (.int .i64 base) := cell_at HR.out 0
                have qR1 : W13.cell? ⟨N, 1, none⟩ = some (.int .i64 term) := cell_at HR.out 1
                have qR2 : W13.cell? ⟨N, 2, none⟩ = some (.slice a ln c) := cell_at HR.out 2
                have qRz : ∀ j, W13.frozen? ⟨N, j, none⟩ = false := fun j => free_at HR.out j
                have qRl : N < W13.heap.size := HR.out.lt
                go_wp2_with fail
                go_at_call 27
                go_fit (HNA.out _ HV.out)
                rintro e W14 ⟨rfl, hB⟩
                clear qR0 qR1 qR2 qRz qRl
                replace HB := Lib.hid (HB.out.trans (hB.mono HB.out.size))
                replace HV := Lib.hid (HV.out.below hB)
                replace HV2 := Lib.hid (HV2.out.below hB)
                replace HR := Lib.hid (HR.out.step hB)
                replace HR2 := Lib.hid (HR2.out.step hB)
                replace HV5 := Lib.hid (HV5.out.below hB)
                replace HA := Lib.hid (HA.out.step hB)
                replace HV6 := Lib.hid (HV6.out.below hB)
                replace HV7 := Lib.hid (HV7.out.below hB)
                clear hB
                have qR0 : W14.cell? ⟨N, 0, none⟩ = some (.int .i64 base) := cell_at HR.out 0
                have qR1 : W14.cell? ⟨N, 1, none⟩ = some (.int .i64 term) := cell_at HR.out 1
                have qR2 : W14.cell? ⟨N, 2, none⟩ = some (.slice a ln c) := cell_at HR.out 2
                have qRz : ∀ j, W14.frozen? ⟨N, j, none⟩ = false := fun j => free_at HR.out j
                have qRl : N < W14.heap.size := HR.out.lt
                go_wp2_with fail
                go_at_call 27
                go_fit (HNC.out _ HV.out)
                rintro e W15 ⟨rfl, hB⟩
                clear qR0 qR1 qR2 qRz qRl
                replace HB := Lib.hid (HB.out.trans (hB.mono HB.out.size))
                replace HV := Lib.hid (HV.out.below hB)
                replace HV2 := Lib.hid (HV2.out.below hB)
                replace HR := Lib.hid (HR.out.step hB)
                replace HR2 := Lib.hid (HR2.out.step hB)
                replace HV5 := Lib.hid (HV5.out.below hB)
                replace HA := Lib.hid (HA.out.step hB)
                replace HV6 := Lib.hid (HV6.out.below hB)
                replace HV7 := Lib.hid (HV7.out.below hB)
                clear hB
                have qR0 : W15.cell? ⟨N, 0, none⟩ = some (.int .i64 base) := cell_at HR.out 0
                have qR1 : W15.cell? ⟨N, 1, none⟩ = some (.int .i64 term) := cell_at HR.out 1
                have qR2 : W15.cell? ⟨N, 2, none⟩ = some (.slice a ln c) := cell_at HR.out 2
                have qRz : ∀ j, W15.frozen? ⟨N, j, none⟩ = false := fun j => free_at HR.out j
                have qRl : N < W15.heap.size := HR.out.lt
                go_wp2_with fail
                go_at_call 27
                go_fit (HNA.out _ HV.out)
                rintro e W16 ⟨rfl, hB⟩
                clear qR0 qR1 qR2 qRz qRl
                replace HB := Lib.hid (HB.out.trans (hB.mono HB.out.size))
                replace HV := Lib.hid (HV.out.below hB)
                replace HV2 := Lib.hid (HV2.out.below hB)
                replace HR := Lib.hid (HR.out.step hB)
                replace HR2 := Lib.hid (HR2.out.step hB)
                replace HV5 := Lib.hid (HV5.out.below hB)
                replace HA := Lib.hid (HA.out.step hB)
                replace HV6 := Lib.hid (HV6.out.below hB)
                replace HV7 := Lib.hid (HV7.out.below hB)
                clear hB
                have qR20 : W16.cell? ⟨(N + 1), 0, none⟩ = some (.int .i64 base2) := cell_at HR2.out 0
                have qR21 : W16.cell? ⟨(N + 1), 1, none⟩ = some (.int .i64 term2) := cell_at HR2.out 1
                have qR22 : W16.cell? ⟨(N + 1), 2, none⟩ = some (.slice a2 l2 c2) := cell_at HR2.out 2
                have qR2z : ∀ j, W16.frozen? ⟨(N + 1), j, none⟩ = false := fun j => free_at HR2.out j
                have qR2l : (N + 1) < W16.heap.size := HR2.out.lt
                go_wp2_with fail
                go_at_call 27
                go_fit (HNB.out _ HV2.out)
                rintro e W17 ⟨rfl, hB⟩
                clear qR20 qR21 qR22 qR2z qR2l
                replace HB := Lib.hid (HB.out.trans (hB.mono HB.out.size))
                replace HV := Lib.hid (HV.out.below hB)
                replace HV2 := Lib.hid (HV2.out.below hB)
                replace HR := Lib.hid (HR.out.step hB)
                replace HR2 := Lib.hid (HR2.out.step hB)
                replace HV5 := Lib.hid (HV5.out.below hB)
                replace HA := Lib.hid (HA.out.step hB)
                replace HV6 := Lib.hid (HV6.out.below hB)
                replace HV7 := Lib.hid (HV7.out.below hB)
                clear hB
                go_wp2_with fail
                go_at_call 10
                go_fit (rwakes_any _)
                rintro e W18 ⟨rfl, hB⟩
                replace HB := Lib.hid (HB.out.trans (hB.mono HB.out.size))
                replace HV := Lib.hid (HV.out.below hB)
                replace HV2 := Lib.hid (HV2.out.below hB)
                replace HR := Lib.hid (HR.out.step hB)
                replace HR2 := Lib.hid (HR2.out.step hB)
                replace HV5 := Lib.hid (HV5.out.below hB)
                replace HA := Lib.hid (HA.out.step hB)
                replace HV6 := Lib.hid (HV6.out.below hB)
                replace HV7 := Lib.hid (HV7.out.below hB)
                clear hB
                go_wp2_with fail
                go_ret
                exact ⟨rfl, HB.out⟩
              · skip
                have qR0 : W13.cell? ⟨N, 0, none⟩ = some (.int .i64 base) := cell_at HR.out 0
                have qR1 : W13.cell? ⟨N, 1, none⟩ = some (.int .i64 term) := cell_at HR.out 1
                have qR2 : W13.cell? ⟨N, 2, none⟩ = some (.slice a ln c) := cell_at HR.out 2
                have qRz : ∀ j, W13.frozen? ⟨N, j, none⟩ = false := fun j => free_at HR.out j
                have qRl : N < W13.heap.size := HR.out.lt
                go_wp2_with fail
                go_at_call 27
                go_fit (HNA.out _ HV.out)
                rintro e W14 ⟨rfl, hB⟩
                clear qR0 qR1 qR2 qRz qRl
                replace HB := Lib.hid (HB.out.trans (hB.mono HB.out.size))
                replace HV := Lib.hid (HV.out.below hB)
                replace HV2 := Lib.hid (HV2.out.below hB)
                replace HR := Lib.hid (HR.out.step hB)
                replace HR2 := Lib.hid (HR2.out.step hB)
                replace HV5 := Lib.hid (HV5.out.below hB)
                replace HA := Lib.hid (HA.out.step hB)
                replace HV6 := Lib.hid (HV6.out.below hB)
                replace HV7 := Lib.hid (HV7.out.below hB)
                clear hB
                have qR20 : W14.cell? ⟨(N + 1), 0, none⟩ = some (.int .i64 base2) := cell_at HR2.out 0
                have qR21 : W14.cell? ⟨(N + 1), 1, none⟩ = some (.int .i64 term2) := cell_at HR2.out 1
                have qR22 : W14.cell? ⟨(N + 1), 2, none⟩ = some (.slice a2 l2 c2) := cell_at HR2.out 2
                have qR2z : ∀ j, W14.frozen? ⟨(N + 1), j, none⟩ = false := fun j => free_at HR2.out j
                have qR2l : (N + 1) < W14.heap.size := HR2.out.lt
                go_wp2_with fail
                go_at_call 27
                go_fit (HNB.out _ HV2.out)
                rintro e W15 ⟨rfl, hB⟩
                clear qR20 qR21 qR22 qR2z qR2l
                replace HB := Lib.hid (HB.out.trans (hB.mono HB.out.size))
                replace HV := Lib.hid (HV.out.below hB)
                replace HV2 := Lib.hid (HV2.out.below hB)
                replace HR := Lib.hid (HR.out.step hB)
                replace HR2 := Lib.hid (HR2.out.step hB)
                replace HV5 := Lib.hid (HV5.out.below hB)
                replace HA := Lib.hid (HA.out.step hB)
                replace HV6 := Lib.hid (HV6.out.below hB)
                replace HV7 := Lib.hid (HV7.out.below hB)
                clear hB
                have qR0 : W15.cell? ⟨N, 0, none⟩ = some (.int .i64 base) := cell_at HR.out 0
                have qR1 : W15.cell? ⟨N, 1, none⟩ = some (.int .i64 term) := cell_at HR.out 1
                have qR2 : W15.cell? ⟨N, 2, none⟩ = some (.slice a ln c) := cell_at HR.out 2
                have qRz : ∀ j, W15.frozen? ⟨N, j, none⟩ = false := fun j => free_at HR.out j
                have qRl : N < W15.heap.size := HR.out.lt
                go_wp2_with fail
                go_at_call 27
                go_fit (HNC.out _ HV.out)
                rintro e W16 ⟨rfl, hB⟩
                clear qR0 qR1 qR2 qRz qRl
                replace HB := Lib.hid (HB.out.trans (hB.mono HB.out.size))
                replace HV := Lib.hid (HV.out.below hB)
                replace HV2 := Lib.hid (HV2.out.below hB)
                replace HR := Lib.hid (HR.out.step hB)
                replace HR2 := Lib.hid (HR2.out.step hB)
                replace HV5 := Lib.hid (HV5.out.below hB)
                replace HA := Lib.hid (HA.out.step hB)
                replace HV6 := Lib.hid (HV6.out.below hB)
                replace HV7 := Lib.hid (HV7.out.below hB)
                clear hB
                have qR0 : W16.cell? ⟨N, 0, none⟩ = some (.int .i64 base) := cell_at HR.out 0
                have qR1 : W16.cell? ⟨N, 1, none⟩ = some (.int .i64 term) := cell_at HR.out 1
                have qR2 : W16.cell? ⟨N, 2, none⟩ = some (.slice a ln c) := cell_at HR.out 2
                have qRz : ∀ j, W16.frozen? ⟨N, j, none⟩ = false := fun j => free_at HR.out j
                have qRl : N < W16.heap.size := HR.out.lt
                go_wp2_with fail
                go_at_call 27
                go_fit (HNA.out _ HV.out)
                rintro e W17 ⟨rfl, hB⟩
                clear qR0 qR1 qR2 qRz qRl
                replace HB := Lib.hid (HB.out.trans (hB.mono HB.out.size))
                replace HV := Lib.hid (HV.out.below hB)
                replace HV2 := Lib.hid (HV2.out.below hB)
                replace HR := Lib.hid (HR.out.step hB)
                replace HR2 := Lib.hid (HR2.out.step hB)
                replace HV5 := Lib.hid (HV5.out.below hB)
                replace HA := Lib.hid (HA.out.step hB)
                replace HV6 := Lib.hid (HV6.out.below hB)
                replace HV7 := Lib.hid (HV7.out.below hB)
                clear hB
                go_wp2_with fail
                go_at_call 10
                go_fit (rwakes_any _)
                rintro e W18 ⟨rfl, hB⟩
                replace HB := Lib.hid (HB.out.trans (hB.mono HB.out.size))
                replace HV := Lib.hid (HV.out.below hB)
                replace HV2 := Lib.hid (HV2.out.below hB)
                replace HR := Lib.hid (HR.out.step hB)
                replace HR2 := Lib.hid (HR2.out.step hB)
                replace HV5 := Lib.hid (HV5.out.below hB)
                replace HA := Lib.hid (HA.out.step hB)
                replace HV6 := Lib.hid (HV6.out.below hB)
                replace HV7 := Lib.hid (HV7.out.below hB)
                clear hB
                go_wp2_with fail
                go_ret
                exact ⟨rfl, HB.out⟩
              · skip
                have d7 : (i == i) = true := beq_self_eq_true _
                have d8 : (t == t) = true := beq_self_eq_true _
                have qR0 : W13.cell? ⟨N, 0, none⟩ = some (.int .i64 base) := cell_at HR.out 0
                have qR1 : W13.cell? ⟨N, 1, none⟩ = some (.int .i64 term) := cell_at HR.out 1
                have qR2 : W13.cell? ⟨N, 2, none⟩ = some (.slice a ln c) := cell_at HR.out 2
                have qRz : ∀ j, W13.frozen? ⟨N, j, none⟩ = false := fun j => free_at HR.out j
                have qRl : N < W13.heap.size := HR.out.lt
                go_wp2_with fail
                go_at_call 27
                go_fit (HNA.out _ HV.out)
                rintro e W14 ⟨rfl, hB⟩
                clear qR0 qR1 qR2 qRz qRl
                replace HB := Lib.hid (HB.out.trans (hB.mono HB.out.size))
                replace HV := Lib.hid (HV.out.below hB)
                replace HV2 := Lib.hid (HV2.out.below hB)
                replace HR := Lib.hid (HR.out.step hB)
                replace HR2 := Lib.hid (HR2.out.step hB)
                replace HV5 := Lib.hid (HV5.out.below hB)
                replace HA := Lib.hid (HA.out.step hB)
                replace HV6 := Lib.hid (HV6.out.below hB)
                replace HV7 := Lib.hid (HV7.out.below hB)
                clear hB
                have qR0 : W14.cell? ⟨N, 0, none⟩ = some (.int .i64 base) := cell_at HR.out 0
                have qR1 : W14.cell? ⟨N, 1, none⟩ = some (.int .i64 term) := cell_at HR.out 1
                have qR2 : W14.cell? ⟨N, 2, none⟩ = some (.slice a ln c) := cell_at HR.out 2
                have qRz : ∀ j, W14.frozen? ⟨N, j, none⟩ = false := fun j => free_at HR.out j
                have qRl : N < W14.heap.size := HR.out.lt
                go_wp2_with fail
                go_at_call 27
                go_fit (HNC.out _ HV.out)
                rintro e W15 ⟨rfl, hB⟩
                clear qR0 qR1 qR2 qRz qRl
                replace HB := Lib.hid (HB.out.trans (hB.mono HB.out.size))
                replace HV := Lib.hid (HV.out.below hB)
                replace HV2 := Lib.hid (HV2.out.below hB)
                replace HR := Lib.hid (HR.out.step hB)
                replace HR2 := Lib.hid (HR2.out.step hB)
                replace HV5 := Lib.hid (HV5.out.below hB)
                replace HA := Lib.hid (HA.out.step hB)
                replace HV6 := Lib.hid (HV6.out.below hB)
                replace HV7 := Lib.hid (HV7.out.below hB)
                clear hB
                have qR0 : W15.cell? ⟨N, 0, none⟩ = some (.int .i64 base) := cell_at HR.out 0
                have qR1 : W15.cell? ⟨N, 1, none⟩ = some (.int .i64 term) := cell_at HR.out 1
                have qR2 : W15.cell? ⟨N, 2, none⟩ = some (.slice a ln c) := cell_at HR.out 2
                have qRz : ∀ j, W15.frozen? ⟨N, j, none⟩ = false := fun j => free_at HR.out j
                have qRl : N < W15.heap.size := HR.out.lt
                go_wp2_with fail
                go_at_call 27
                go_fit (HNA.out _ HV.out)
                rintro e W16 ⟨rfl, hB⟩
                clear qR0 qR1 qR2 qRz qRl
                replace HB := Lib.hid (HB.out.trans (hB.mono HB.out.size))
                replace HV := Lib.hid (HV.out.below hB)
                replace HV2 := Lib.hid (HV2.out.below hB)
                replace HR := Lib.hid (HR.out.step hB)
                replace HR2 := Lib.hid (HR2.out.step hB)
                replace HV5 := Lib.hid (HV5.out.below hB)
                replace HA := Lib.hid (HA.out.step hB)
                replace HV6 := Lib.hid (HV6.out.below hB)
                replace HV7 := Lib.hid (HV7.out.below hB)
                clear hB
                have qR20 : W16.cell? ⟨(N + 1), 0, none⟩ = some (.int .i64 base2) := cell_at HR2.out 0
                have qR21 : W16.cell? ⟨(N + 1), 1, none⟩ = some (.int .i64 term2) := cell_at HR2.out 1
                have qR22 : W16.cell? ⟨(N + 1), 2, none⟩ = some (.slice a2 l2 c2) := cell_at HR2.out 2
                have qR2z : ∀ j, W16.frozen? ⟨(N + 1), j, none⟩ = false := fun j => free_at HR2.out j
                have qR2l : (N + 1) < W16.heap.size := HR2.out.lt
                go_wp2_with fail
                go_at_call 27
                go_fit (HNB.out _ HV2.out)
                rintro e W17 ⟨rfl, hB⟩
                clear qR20 qR21 qR22 qR2z qR2l
                replace HB := Lib.hid (HB.out.trans (hB.mono HB.out.size))
                replace HV := Lib.hid (HV.out.below hB)
                replace HV2 := Lib.hid (HV2.out.below hB)
                replace HR := Lib.hid (HR.out.step hB)
                replace HR2 := Lib.hid (HR2.out.step hB)
                replace HV5 := Lib.hid (HV5.out.below hB)
                replace HA := Lib.hid (HA.out.step hB)
                replace HV6 := Lib.hid (HV6.out.below hB)
                replace HV7 := Lib.hid (HV7.out.below hB)
                clear hB
                go_wp2_with fail
                go_at_call 10
                go_fit (rwakes_any _)
                rintro e W18 ⟨rfl, hB⟩
                replace HB := Lib.hid (HB.out.trans (hB.mono HB.out.size))
                replace HV := Lib.hid (HV.out.below hB)
                replace HV2 := Lib.hid (HV2.out.below hB)
                replace HR := Lib.hid (HR.out.step hB)
                replace HR2 := Lib.hid (HR2.out.step hB)
                replace HV5 := Lib.hid (HV5.out.below hB)
                replace HA := Lib.hid (HA.out.step hB)
                replace HV6 := Lib.hid (HV6.out.below hB)
                replace HV7 := Lib.hid (HV7.out.below hB)
                clear hB
                go_wp2_with fail
                go_ret
                exact ⟨rfl, HB.out⟩
            · skip
              have d1 : (fe == 0) = false := beq_eq_false_iff_ne.2 hf0
              have d2 : (fe = 0) = False := eq_false hf0
              have d3 : (fe != 0) = true := by rw [bne_iff_ne]; exact hf0
              by_cases hi : at_ < idx
              · skip
                have hg := HP2.out hf0 hi
                have d4 : decide (at_ < idx) = true := decide_eq_true hi
                have d5 : (ge == 0) = false := beq_eq_false_iff_ne.2 hg
                have d6 : (ge = 0) = False := eq_false hg
                clear hg hi hf0
                go_upto_region 10 with fail
                obtain ⟨i, hi⟩ : ∃ i, i = base + (L.length : Int) := ⟨_, rfl⟩
                obtain ⟨t, ht⟩ : ∃ t, t = termL base term L i := ⟨_, rfl⟩
                obtain ⟨j, hj⟩ : ∃ j, j = base2 + (l.length : Int) := ⟨_, rfl⟩
                obtain ⟨u, hu⟩ : ∃ u, u = termL base2 term2 l j := ⟨_, rfl⟩
                have HL1 := Lib.hid (fun W (h : RV W (.slice a ln c) L) => lastL_any base term _ L W h HE1.out.symm)
                have HL2 := Lib.hid (fun W (h : RV W (.slice a2 l2 c2) l) => lastL_any base2 term2 _ l W h HE2.out.symm)
                have HN1 := Lib.hid (fun x y W (h : RV W (.slice a ln c) L) => newerR_any base term x y _ L W h HE1.out.symm)
                have HN2 := Lib.hid (fun x y W (h : RV W (.slice a2 l2 c2) l) => newerR_any base2 term2 x y _ l W h HE2.out.symm)
                unfold newL at HN1 HN2
                rw [← hi, ← ht] at HL1
                rw [← hj, ← hu] at HL2
                simp only [← hi, ← ht] at HN1
                simp only [← hj, ← hu] at HN2
                obtain ⟨A, hA⟩ : ∃ A, A = (decide (t < u) || (u == t && decide (i ≤ j))) := ⟨_, rfl⟩
                obtain ⟨B, hB9⟩ : ∃ B, B = (decide (u < t) || (t == u && decide (j ≤ i))) := ⟨_, rfl⟩
                have hAB := new_two i t j u A B hA hB9
                have HNA := Lib.hid (fun W h => HN1.out j u W h)
                have HNB := Lib.hid (fun W h => HN2.out i t W h)
                have HNC := Lib.hid (fun W h => HN1.out i t W h)
                have hCC : (decide (t < t) || (t == t && decide (i ≤ i))) = true := by simp
                rw [← hA] at HNA
                rw [← hB9] at HNB
                rw [hCC] at HNC
                have HAB := Lib.hid hAB
                clear hA hB9 hCC hi ht hj hu hAB HN1 HN2
                have qR0 : W10.cell? ⟨N, 0, none⟩ = some (.int .i64 base) := cell_at HR.out 0
                have qR1 : W10.cell? ⟨N, 1, none⟩ = some (.int .i64 term) := cell_at HR.out 1
                have qR2 : W10.cell? ⟨N, 2, none⟩ = some (.slice a ln c) := cell_at HR.out 2
                have qRz : ∀ j, W10.frozen? ⟨N, j, none⟩ = false := fun j => free_at HR.out j
                have qRl : N < W10.heap.size := HR.out.lt
                go_wp2_with fail
                go_at_call 26
                go_fit (HL1.out _ HV.out)
                rintro e W11 ⟨rfl, hB⟩
                clear qR0 qR1 qR2 qRz qRl
                replace HB := Lib.hid (HB.out.trans (hB.mono HB.out.size))
                replace HV := Lib.hid (HV.out.below hB)
                replace HV2 := Lib.hid (HV2.out.below hB)
                replace HR := Lib.hid (HR.out.step hB)
                replace HR2 := Lib.hid (HR2.out.step hB)
                replace HV5 := Lib.hid (HV5.out.below hB)
                replace HA := Lib.hid (HA.out.step hB)
                replace HV6 := Lib.hid (HV6.out.below hB)
                replace HV7 := Lib.hid (HV7.out.below hB)
                clear hB
                have qR20 : W11.cell? ⟨(N + 1), 0, none⟩ = some (.int .i64 base2) := cell_at HR2.out 0
                have qR21 : W11.cell? ⟨(N + 1), 1, none⟩ = some (.int .i64 term2) := cell_at HR2.out 1
                have qR22 : W11.cell? ⟨(N + 1), 2, none⟩ = some (.slice a2 l2 c2) := cell_at HR2.out 2
                have qR2z : ∀ j, W11.frozen? ⟨(N + 1), j, none⟩ = false := fun j => free_at HR2.out j
                have qR2l : (N + 1) < W11.heap.size := HR2.out.lt
                go_wp2_with fail
                go_at_call 26
                go_fit (HL2.out _ HV2.out)
                rintro e W12 ⟨rfl, hB⟩
                clear qR20 qR21 qR22 qR2z qR2l
                replace HB := Lib.hid (HB.out.trans (hB.mono HB.out.size))
                replace HV := Lib.hid (HV.out.below hB)
                replace HV2 := Lib.hid (HV2.out.below hB)
                replace HR := Lib.hid (HR.out.step hB)
                replace HR2 := Lib.hid (HR2.out.step hB)
                replace HV5 := Lib.hid (HV5.out.below hB)
                replace HA := Lib.hid (HA.out.step hB)
                replace HV6 := Lib.hid (HV6.out.below hB)
                replace HV7 := Lib.hid (HV7.out.below hB)
                clear hB
                rcases HAB.out with ⟨rfl, rfl⟩ | ⟨rfl, rfl⟩ | ⟨rfl, rfl, rfl, rfl⟩
                · skip
                  have qR0 : W12.cell? ⟨N, 0, none⟩ = some (.int .i64 base) := cell_at HR.out 0
                  have qR1 : W12.cell? ⟨N, 1, none⟩ = some (.int .i64 term) := cell_at HR.out 1
                  have qR2 : W12.cell? ⟨N, 2, none⟩ = some (.slice a ln c) := cell_at HR.out 2
                  have qRz : ∀ j, W12.frozen? ⟨N, j, none⟩ = false := fun j => free_at HR.out j
                  have qRl : N < W12.heap.size := HR.out.lt
                  go_wp2_with fail
                  go_at_call 27
                  go_fit (HNA.out _ HV.out)
                  rintro e W13 ⟨rfl, hB⟩
                  clear qR0 qR1 qR2 qRz qRl
                  replace HB := Lib.hid (HB.out.trans (hB.mono HB.out.size))
                  replace HV := Lib.hid (HV.out.below hB)
                  replace HV2 := Lib.hid (HV2.out.below hB)
                  replace HR := Lib.hid (HR.out.step hB)
                  replace HR2 := Lib.hid (HR2.out.step hB)
                  replace HV5 := Lib.hid (HV5.out.below hB)
                  replace HA := Lib.hid (HA.out.step hB)
                  replace HV6 := Lib.hid (HV6.out.below hB)
                  replace HV7 := Lib.hid (HV7.out.below hB)
                  clear hB
                  have qR0 : W13.cell? ⟨N, 0, none⟩ = some (.int .i64 base) := cell_at HR.out 0
                  have qR1 : W13.cell? ⟨N, 1, none⟩ = some (.int .i64 term) := cell_at HR.out 1
                  have qR2 : W13.cell? ⟨N, 2, none⟩ = some (.slice a ln c) := cell_at HR.out 2
                  have qRz : ∀ j, W13.frozen? ⟨N, j, none⟩ = false := fun j => free_at HR.out j
                  have qRl : N < W13.heap.size := HR.out.lt
                  go_wp2_with fail
                  go_at_call 27
                  go_fit (HNC.out _ HV.out)
                  rintro e W14 ⟨rfl, hB⟩
                  clear qR0 qR1 qR2 qRz qRl
                  replace HB := Lib.hid (HB.out.trans (hB.mono HB.out.size))
                  replace HV := Lib.hid (HV.out.below hB)
                  replace HV2 := Lib.hid (HV2.out.below hB)
                  replace HR := Lib.hid (HR.out.step hB)
                  replace HR2 := Lib.hid (HR2.out.step hB)
                  replace HV5 := Lib.hid (HV5.out.below hB)
                  replace HA := Lib.hid (HA.out.step hB)
                  replace HV6 := Lib.hid (HV6.out.below hB)
                  replace HV7 := Lib.hid (HV7.out.below hB)
                  clear hB
                  have qR0 : W14.cell? ⟨N, 0, none⟩ = some (.int .i64 base) := cell_at HR.out 0
                  have qR1 : W14.cell? ⟨N, 1, none⟩ = some (.int .i64 term) := cell_at HR.out 1
                  have qR2 : W14.cell? ⟨N, 2, none⟩ = some (.slice a ln c) := cell_at HR.out 2
                  have qRz : ∀ j, W14.frozen? ⟨N, j, none⟩ = false := fun j => free_at HR.out j
                  have qRl : N < W14.heap.size := HR.out.lt
                  go_wp2_with fail
                  go_at_call 27
                  go_fit (HNA.out _ HV.out)
                  rintro e W15 ⟨rfl, hB⟩
                  clear qR0 qR1 qR2 qRz qRl
                  replace HB := Lib.hid (HB.out.trans (hB.mono HB.out.size))
                  replace HV := Lib.hid (HV.out.below hB)
                  replace HV2 := Lib.hid (HV2.out.below hB)
                  replace HR := Lib.hid (HR.out.step hB)
                  replace HR2 := Lib.hid (HR2.out.step hB)
                  replace HV5 := Lib.hid (HV5.out.below hB)
                  replace HA := Lib.hid (HA.out.step hB)
                  replace HV6 := Lib.hid (HV6.out.below hB)
                  replace HV7 := Lib.hid (HV7.out.below hB)
                  clear hB
                  have qR20 : W15.cell? ⟨(N + 1), 0, none⟩ = some (.int .i64 base2) := cell_at HR2.out 0
                  have qR21 : W15.cell? ⟨(N + 1), 1, none⟩ = some (.int .i64 term2) := cell_at HR2.out 1
                  have qR22 : W15.cell? ⟨(N + 1), 2, none⟩ = some (.slice a2 l2 c2) := cell_at HR2.out 2
                  have qR2z : ∀ j, W15.frozen? ⟨(N + 1), j, none⟩ = false := fun j => free_at HR2.out j
                  have qR2l : (N + 1) < W15.heap.size := HR2.out.lt
                  go_wp2_with fail
                  go_at_call 27
                  go_fit (HNB.out _ HV2.out)
                  rintro e W16 ⟨rfl, hB⟩
                  clear qR20 qR21 qR22 qR2z qR2l
                  replace HB := Lib.hid (HB.out.trans (hB.mono HB.out.size))
                  replace HV := Lib.hid (HV.out.below hB)
                  replace HV2 := Lib.hid (HV2.out.below hB)
                  replace HR := Lib.hid (HR.out.step hB)
                  replace HR2 := Lib.hid (HR2.out.step hB)
                  replace HV5 := Lib.hid (HV5.out.below hB)
                  replace HA := Lib.hid (HA.out.step hB)
                  replace HV6 := Lib.hid (HV6.out.below hB)
                  replace HV7 := Lib.hid (HV7.out.below hB)
                  clear hB
                  go_wp2_with fail
                  go_at_call 10
                  go_fit (rwakes_any _)
                  rintro e W17 ⟨rfl, hB⟩
                  replace HB := Lib.hid (HB.out.trans (hB.mono HB.out.size))
                  replace HV := Lib.hid (HV.out.below hB)
                  replace HV2 := Lib.hid (HV2.out.below hB)
                  replace HR := Lib.hid (HR.out.step hB)
                  replace HR2 := Lib.hid (HR2.out.step hB)
                  replace HV5 := Lib.hid (HV5.out.below hB)
                  replace HA := Lib.hid (HA.out.step hB)
                  replace HV6 := Lib.hid (HV6.out.below hB)
                  replace HV7 := Lib.hid (HV7.out.below hB)
                  clear hB
                  go_wp2_with fail
                  go_ret
                  exact ⟨rfl, HB.out⟩
                · skip
                  have qR0 : W12.cell? ⟨N, 0, none⟩ = some (.int .i64 base) := cell_at HR.out 0
                  have qR1 : W12.cell? ⟨N, 1, none⟩ = some (.int .i64 term) := cell_at HR.out 1
                  have qR2 : W12.cell? ⟨N, 2, none⟩ = some (.slice a ln c) := cell_at HR.out 2
                  have qRz : ∀ j, W12.frozen? ⟨N, j, none⟩ = false := fun j => free_at HR.out j
                  have qRl : N < W12.heap.size := HR.out.lt
                  go_wp2_with fail
                  go_at_call 27
                  go_fit (HNA.out _ HV.out)
                  rintro e W13 ⟨rfl, hB⟩
                  clear qR0 qR1 qR2 qRz qRl
                  replace HB := Lib.hid (HB.out.trans (hB.mono HB.out.size))
                  replace HV := Lib.hid (HV.out.below hB)
                  replace HV2 := Lib.hid (HV2.out.below hB)
                  replace HR := Lib.hid (HR.out.step hB)
                  replace HR2 := Lib.hid (HR2.out.step hB)
                  replace HV5 := Lib.hid (HV5.out.below hB)
                  replace HA := Lib.hid (HA.out.step hB)
                  replace HV6 := Lib.hid (HV6.out.below hB)
                  replace HV7 := Lib.hid (HV7.out.below hB)
                  clear hB
                  have qR20 : W13.cell? ⟨(N + 1), 0, none⟩ = some (.int .i64 base2) := cell_at HR2.out 0
                  have qR21 : W13.cell? ⟨(N + 1), 1, none⟩ = some (.int .i64 term2) := cell_at HR2.out 1
                  have qR22 : W13.cell? ⟨(N + 1), 2, none⟩ = some (.slice a2 l2 c2) := cell_at HR2.out 2
                  have qR2z : ∀ j, W13.frozen? ⟨(N + 1), j, none⟩ = false := fun j => free_at HR2.out j
                  have qR2l : (N + 1) < W13.heap.size := HR2.out.lt
                  go_wp2_with fail
                  go_at_call 27
                  go_fit (HNB.out _ HV2.out)
                  rintro e W14 ⟨rfl, hB⟩
                  clear qR20 qR21 qR22 qR2z qR2l
                  replace HB := Lib.hid (HB.out.trans (hB.mono HB.out.size))
                  replace HV := Lib.hid (HV.out.below hB)
                  replace HV2 := Lib.hid (HV2.out.below hB)
                  replace HR := Lib.hid (HR.out.step hB)
                  replace HR2 := Lib.hid (HR2.out.step hB)
                  replace HV5 := Lib.hid (HV5.out.below hB)
                  replace HA := Lib.hid (HA.out.step hB)
                  replace HV6 := Lib.hid (HV6.out.below hB)
                  replace HV7 := Lib.hid (HV7.out.below hB)
                  clear hB
                  have qR0 : W14.cell? ⟨N, 0, none⟩ = some (.int .i64 base) := cell_at HR.out 0
                  have qR1 : W14.cell? ⟨N, 1, none⟩ = some (.int .i64 term) := cell_at HR.out 1
                  have qR2 : W14.cell? ⟨N, 2, none⟩ = some (.slice a ln c) := cell_at HR.out 2
                  have qRz : ∀ j, W14.frozen? ⟨N, j, none⟩ = false := fun j => free_at HR.out j
                  have qRl : N < W14.heap.size := HR.out.lt
                  go_wp2_with fail
                  go_at_call 27
                  go_fit (HNC.out _ HV.out)
                  rintro e W15 ⟨rfl, hB⟩
                  clear qR0 qR1 qR2 qRz qRl
                  replace HB := Lib.hid (HB.out.trans (hB.mono HB.out.size))
                  replace HV := Lib.hid (HV.out.below hB)
                  replace HV2 := Lib.hid (HV2.out.below hB)
                  replace HR := Lib.hid (HR.out.step hB)
                  replace HR2 := Lib.hid (HR2.out.step hB)
                  replace HV5 := Lib.hid (HV5.out.below hB)
                  replace HA := Lib.hid (HA.out.step hB)
                  replace HV6 := Lib.hid (HV6.out.below hB)
                  replace HV7 := Lib.hid (HV7.out.below hB)
                  clear hB
                  have qR0 : W15.cell? ⟨N, 0, none⟩ = some (.int .i64 base) := cell_at HR.out 0
                  have qR1 : W15.cell? ⟨N, 1, none⟩ = some (.int .i64 term) := cell_at HR.out 1
                  have qR2 : W15.cell? ⟨N, 2, none⟩ = some (.slice a ln c) := cell_at HR.out 2
                  have qRz : ∀ j, W15.frozen? ⟨N, j, none⟩ = false := fun j => free_at HR.out j
                  have qRl : N < W15.heap.size := HR.out.lt
                  go_wp2_with fail
                  go_at_call 27
                  go_fit (HNA.out _ HV.out)
                  rintro e W16 ⟨rfl, hB⟩
                  clear qR0 qR1 qR2 qRz qRl
                  replace HB := Lib.hid (HB.out.trans (hB.mono HB.out.size))
                  replace HV := Lib.hid (HV.out.below hB)
                  replace HV2 := Lib.hid (HV2.out.below hB)
                  replace HR := Lib.hid (HR.out.step hB)
                  replace HR2 := Lib.hid (HR2.out.step hB)
                  replace HV5 := Lib.hid (HV5.out.below hB)
                  replace HA := Lib.hid (HA.out.step hB)
                  replace HV6 := Lib.hid (HV6.out.below hB)
                  replace HV7 := Lib.hid (HV7.out.below hB)
                  clear hB
                  go_wp2_with fail
                  go_at_call 10
                  go_fit (rwakes_any _)
                  rintro e W17 ⟨rfl, hB⟩
                  replace HB := Lib.hid (HB.out.trans (hB.mono HB.out.size))
                  replace HV := Lib.hid (HV.out.below hB)
                  replace HV2 := Lib.hid (HV2.out.below hB)
                  replace HR := Lib.hid (HR.out.step hB)
                  replace HR2 := Lib.hid (HR2.out.step hB)
                  replace HV5 := Lib.hid (HV5.out.below hB)
                  replace HA := Lib.hid (HA.out.step hB)
                  replace HV6 := Lib.hid (HV6.out.below hB)
                  replace HV7 := Lib.hid (HV7.out.below hB)
                  clear hB
                  go_wp2_with fail
                  go_ret
                  exact ⟨rfl, HB.out⟩
                · skip
                  have d7 : (i == i) = true := beq_self_eq_true _
                  have d8 : (t == t) = true := beq_self_eq_true _
                  have qR0 : W12.cell? ⟨N, 0, none⟩ = some (.int .i64 base) := cell_at HR.out 0
                  have qR1 : W12.cell? ⟨N, 1, none⟩ = some (.int .i64 term) := cell_at HR.out 1
                  have qR2 : W12.cell? ⟨N, 2, none⟩ = some (.slice a ln c) := cell_at HR.out 2
                  have qRz : ∀ j, W12.frozen? ⟨N, j, none⟩ = false := fun j => free_at HR.out j
                  have qRl : N < W12.heap.size := HR.out.lt
                  go_wp2_with fail
                  go_at_call 27
                  go_fit (HNA.out _ HV.out)
                  rintro e W13 ⟨rfl, hB⟩
                  clear qR0 qR1 qR2 qRz qRl
                  replace HB := Lib.hid (HB.out.trans (hB.mono HB.out.size))
                  replace HV := Lib.hid (HV.out.below hB)
                  replace HV2 := Lib.hid (HV2.out.below hB)
                  replace HR := Lib.hid (HR.out.step hB)
                  replace HR2 := Lib.hid (HR2.out.step hB)
                  replace HV5 := Lib.hid (HV5.out.below hB)
                  replace HA := Lib.hid (HA.out.step hB)
                  replace HV6 := Lib.hid (HV6.out.below hB)
                  replace HV7 := Lib.hid (HV7.out.below hB)
                  clear hB
                  have qR0 : W13.cell? ⟨N, 0, none⟩ = some (.int .i64 base) := cell_at HR.out 0
                  have qR1 : W13.cell? ⟨N, 1, none⟩ = some (.int .i64 term) := cell_at HR.out 1
                  have qR2 : W13.cell? ⟨N, 2, none⟩ = some (.slice a ln c) := cell_at HR.out 2
                  have qRz : ∀ j, W13.frozen? ⟨N, j, none⟩ = false := fun j => free_at HR.out j
                  have qRl : N < W13.heap.size := HR.out.lt
                  go_wp2_with fail
                  go_at_call 27
                  go_fit (HNC.out _ HV.out)
                  rintro e W14 ⟨rfl, hB⟩
                  clear qR0 qR1 qR2 qRz qRl
                  replace HB := Lib.hid (HB.out.trans (hB.mono HB.out.size))
                  replace HV := Lib.hid (HV.out.below hB)
                  replace HV2 := Lib.hid (HV2.out.below hB)
                  replace HR := Lib.hid (HR.out.step hB)
                  replace HR2 := Lib.hid (HR2.out.step hB)
                  replace HV5 := Lib.hid (HV5.out.below hB)
                  replace HA := Lib.hid (HA.out.step hB)
                  replace HV6 := Lib.hid (HV6.out.below hB)
                  replace HV7 := Lib.hid (HV7.out.below hB)
                  clear hB
                  have qR0 : W14.cell? ⟨N, 0, none⟩ = some (.int .i64 base) := cell_at HR.out 0
                  have qR1 : W14.cell? ⟨N, 1, none⟩ = some (.int .i64 term) := cell_at HR.out 1
                  have qR2 : W14.cell? ⟨N, 2, none⟩ = some (.slice a ln c) := cell_at HR.out 2
                  have qRz : ∀ j, W14.frozen? ⟨N, j, none⟩ = false := fun j => free_at HR.out j
                  have qRl : N < W14.heap.size := HR.out.lt
                  go_wp2_with fail
                  go_at_call 27
                  go_fit (HNA.out _ HV.out)
                  rintro e W15 ⟨rfl, hB⟩
                  clear qR0 qR1 qR2 qRz qRl
                  replace HB := Lib.hid (HB.out.trans (hB.mono HB.out.size))
                  replace HV := Lib.hid (HV.out.below hB)
                  replace HV2 := Lib.hid (HV2.out.below hB)
                  replace HR := Lib.hid (HR.out.step hB)
                  replace HR2 := Lib.hid (HR2.out.step hB)
                  replace HV5 := Lib.hid (HV5.out.below hB)
                  replace HA := Lib.hid (HA.out.step hB)
                  replace HV6 := Lib.hid (HV6.out.below hB)
                  replace HV7 := Lib.hid (HV7.out.below hB)
                  clear hB
                  have qR20 : W15.cell? ⟨(N + 1), 0, none⟩ = some (.int .i64 base2) := cell_at HR2.out 0
                  have qR21 : W15.cell? ⟨(N + 1), 1, none⟩ = some (.int .i64 term2) := cell_at HR2.out 1
                  have qR22 : W15.cell? ⟨(N + 1), 2, none⟩ = some (.slice a2 l2 c2) := cell_at HR2.out 2
                  have qR2z : ∀ j, W15.frozen? ⟨(N + 1), j, none⟩ = false := fun j => free_at HR2.out j
                  have qR2l : (N + 1) < W15.heap.size := HR2.out.lt
                  go_wp2_with fail
                  go_at_call 27
                  go_fit (HNB.out _ HV2.out)
                  rintro e W16 ⟨rfl, hB⟩
                  clear qR20 qR21 qR22 qR2z qR2l
                  replace HB := Lib.hid (HB.out.trans (hB.mono HB.out.size))
                  replace HV := Lib.hid (HV.out.below hB)
                  replace HV2 := Lib.hid (HV2.out.below hB)
                  replace HR := Lib.hid (HR.out.step hB)
                  replace HR2 := Lib.hid (HR2.out.step hB)
                  replace HV5 := Lib.hid (HV5.out.below hB)
                  replace HA := Lib.hid (HA.out.step hB)
                  replace HV6 := Lib.hid (HV6.out.below hB)
                  replace HV7 := Lib.hid (HV7.out.below hB)
                  clear hB
                  go_wp2_with fail
                  go_at_call 10
                  go_fit (rwakes_any _)
                  rintro e W17 ⟨rfl, hB⟩
                  replace HB := Lib.hid (HB.out.trans (hB.mono HB.out.size))
                  replace HV := Lib.hid (HV.out.below hB)
                  replace HV2 := Lib.hid (HV2.out.below hB)
                  replace HR := Lib.hid (HR.out.step hB)
                  replace HR2 := Lib.hid (HR2.out.step hB)
                  replace HV5 := Lib.hid (HV5.out.below hB)
                  replace HA := Lib.hid (HA.out.step hB)
                  replace HV6 := Lib.hid (HV6.out.below hB)
                  replace HV7 := Lib.hid (HV7.out.below hB)
                  clear hB
                  go_wp2_with fail
                  go_ret
                  exact ⟨rfl, HB.out⟩
              · skip
                have d4 : decide (at_ < idx) = false := decide_eq_false hi
                clear hi hf0
                go_upto_region 10 with fail
                obtain ⟨i, hi⟩ : ∃ i, i = base + (L.length : Int) := ⟨_, rfl⟩
                obtain ⟨t, ht⟩ : ∃ t, t = termL base term L i := ⟨_, rfl⟩
                obtain ⟨j, hj⟩ : ∃ j, j = base2 + (l.length : Int) := ⟨_, rfl⟩
                obtain ⟨u, hu⟩ : ∃ u, u = termL base2 term2 l j := ⟨_, rfl⟩
                have HL1 := Lib.hid (fun W (h : RV W (.slice a ln c) L) => lastL_any base term _ L W h HE1.out.symm)
                have HL2 := Lib.hid (fun W (h : RV W (.slice a2 l2 c2) l) => lastL_any base2 term2 _ l W h HE2.out.symm)
                have HN1 := Lib.hid (fun x y W (h : RV W (.slice a ln c) L) => newerR_any base term x y _ L W h HE1.out.symm)
                have HN2 := Lib.hid (fun x y W (h : RV W (.slice a2 l2 c2) l) => newerR_any base2 term2 x y _ l W h HE2.out.symm)
                unfold newL at HN1 HN2
                rw [← hi, ← ht] at HL1
                rw [← hj, ← hu] at HL2
                simp only [← hi, ← ht] at HN1
                simp only [← hj, ← hu] at HN2
                obtain ⟨A, hA⟩ : ∃ A, A = (decide (t < u) || (u == t && decide (i ≤ j))) := ⟨_, rfl⟩
                obtain ⟨B, hB9⟩ : ∃ B, B = (decide (u < t) || (t == u && decide (j ≤ i))) := ⟨_, rfl⟩
                have hAB := new_two i t j u A B hA hB9
                have HNA := Lib.hid (fun W h => HN1.out j u W h)
                have HNB := Lib.hid (fun W h => HN2.out i t W h)
                have HNC := Lib.hid (fun W h => HN1.out i t W h)
                have hCC : (decide (t < t) || (t == t && decide (i ≤ i))) = true := by simp
                rw [← hA] at HNA
                rw [← hB9] at HNB
                rw [hCC] at HNC
                have HAB := Lib.hid hAB
                clear hA hB9 hCC hi ht hj hu hAB HN1 HN2
                have qR0 : W10.cell? ⟨N, 0, none⟩ = some (.int .i64 base) := cell_at HR.out 0
                have qR1 : W10.cell? ⟨N, 1, none⟩ = some (.int .i64 term) := cell_at HR.out 1
                have qR2 : W10.cell? ⟨N, 2, none⟩ = some (.slice a ln c) := cell_at HR.out 2
                have qRz : ∀ j, W10.frozen? ⟨N, j, none⟩ = false := fun j => free_at HR.out j
                have qRl : N < W10.heap.size := HR.out.lt
                go_wp2_with fail
                go_at_call 26
                go_fit (HL1.out _ HV.out)
                rintro e W11 ⟨rfl, hB⟩
                clear qR0 qR1 qR2 qRz qRl
                replace HB := Lib.hid (HB.out.trans (hB.mono HB.out.size))
                replace HV := Lib.hid (HV.out.below hB)
                replace HV2 := Lib.hid (HV2.out.below hB)
                replace HR := Lib.hid (HR.out.step hB)
                replace HR2 := Lib.hid (HR2.out.step hB)
                replace HV5 := Lib.hid (HV5.out.below hB)
                replace HA := Lib.hid (HA.out.step hB)
                replace HV6 := Lib.hid (HV6.out.below hB)
                replace HV7 := Lib.hid (HV7.out.below hB)
                clear hB
                have qR20 : W11.cell? ⟨(N + 1), 0, none⟩ = some (.int .i64 base2) := cell_at HR2.out 0
                have qR21 : W11.cell? ⟨(N + 1), 1, none⟩ = some (.int .i64 term2) := cell_at HR2.out 1
                have qR22 : W11.cell? ⟨(N + 1), 2, none⟩ = some (.slice a2 l2 c2) := cell_at HR2.out 2
                have qR2z : ∀ j, W11.frozen? ⟨(N + 1), j, none⟩ = false := fun j => free_at HR2.out j
                have qR2l : (N + 1) < W11.heap.size := HR2.out.lt
                go_wp2_with fail
                go_at_call 26
                go_fit (HL2.out _ HV2.out)
                rintro e W12 ⟨rfl, hB⟩
                clear qR20 qR21 qR22 qR2z qR2l
                replace HB := Lib.hid (HB.out.trans (hB.mono HB.out.size))
                replace HV := Lib.hid (HV.out.below hB)
                replace HV2 := Lib.hid (HV2.out.below hB)
                replace HR := Lib.hid (HR.out.step hB)
                replace HR2 := Lib.hid (HR2.out.step hB)
                replace HV5 := Lib.hid (HV5.out.below hB)
                replace HA := Lib.hid (HA.out.step hB)
                replace HV6 := Lib.hid (HV6.out.below hB)
                replace HV7 := Lib.hid (HV7.out.below hB)
                clear hB
                rcases HAB.out with ⟨rfl, rfl⟩ | ⟨rfl, rfl⟩ | ⟨rfl, rfl, rfl, rfl⟩
                · skip
                  have qR0 : W12.cell? ⟨N, 0, none⟩ = some (.int .i64 base) := cell_at HR.out 0
                  have qR1 : W12.cell? ⟨N, 1, none⟩ = some (.int .i64 term) := cell_at HR.out 1
                  have qR2 : W12.cell? ⟨N, 2, none⟩ = some (.slice a ln c) := cell_at HR.out 2
                  have qRz : ∀ j, W12.frozen? ⟨N, j, none⟩ = false := fun j => free_at HR.out j
                  have qRl : N < W12.heap.size := HR.out.lt
                  go_wp2_with fail
                  go_at_call 27
                  go_fit (HNA.out _ HV.out)
                  rintro e W13 ⟨rfl, hB⟩
                  clear qR0 qR1 qR2 qRz qRl
                  replace HB := Lib.hid (HB.out.trans (hB.mono HB.out.size))
                  replace HV := Lib.hid (HV.out.below hB)
                  replace HV2 := Lib.hid (HV2.out.below hB)
                  replace HR := Lib.hid (HR.out.step hB)
                  replace HR2 := Lib.hid (HR2.out.step hB)
                  replace HV5 := Lib.hid (HV5.out.below hB)
                  replace HA := Lib.hid (HA.out.step hB)
                  replace HV6 := Lib.hid (HV6.out.below hB)
                  replace HV7 := Lib.hid (HV7.out.below hB)
                  clear hB
                  have qR0 : W13.cell? ⟨N, 0, none⟩ = some (.int .i64 base) := cell_at HR.out 0
                  have qR1 : W13.cell? ⟨N, 1, none⟩ = some (.int .i64 term) := cell_at HR.out 1
                  have qR2 : W13.cell? ⟨N, 2, none⟩ = some (.slice a ln c) := cell_at HR.out 2
                  have qRz : ∀ j, W13.frozen? ⟨N, j, none⟩ = false := fun j => free_at HR.out j
                  have qRl : N < W13.heap.size := HR.out.lt
                  go_wp2_with fail
                  go_at_call 27
                  go_fit (HNC.out _ HV.out)
                  rintro e W14 ⟨rfl, hB⟩
                  clear qR0 qR1 qR2 qRz qRl
                  replace HB := Lib.hid (HB.out.trans (hB.mono HB.out.size))
                  replace HV := Lib.hid (HV.out.below hB)
                  replace HV2 := Lib.hid (HV2.out.below hB)
                  replace HR := Lib.hid (HR.out.step hB)
                  replace HR2 := Lib.hid (HR2.out.step hB)
                  replace HV5 := Lib.hid (HV5.out.below hB)
                  replace HA := Lib.hid (HA.out.step hB)
                  replace HV6 := Lib.hid (HV6.out.below hB)
                  replace HV7 := Lib.hid (HV7.out.below hB)
                  clear hB
                  have qR0 : W14.cell? ⟨N, 0, none⟩ = some (.int .i64 base) := cell_at HR.out 0
                  have qR1 : W14.cell? ⟨N, 1, none⟩ = some (.int .i64 term) := cell_at HR.out 1
                  have qR2 : W14.cell? ⟨N, 2, none⟩ = some (.slice a ln c) := cell_at HR.out 2
                  have qRz : ∀ j, W14.frozen? ⟨N, j, none⟩ = false := fun j => free_at HR.out j
                  have qRl : N < W14.heap.size := HR.out.lt
                  go_wp2_with fail
                  go_at_call 27
                  go_fit (HNA.out _ HV.out)
                  rintro e W15 ⟨rfl, hB⟩
                  clear qR0 qR1 qR2 qRz qRl
                  replace HB := Lib.hid (HB.out.trans (hB.mono HB.out.size))
                  replace HV := Lib.hid (HV.out.below hB)
                  replace HV2 := Lib.hid (HV2.out.below hB)
                  replace HR := Lib.hid (HR.out.step hB)
                  replace HR2 := Lib.hid (HR2.out.step hB)
                  replace HV5 := Lib.hid (HV5.out.below hB)
                  replace HA := Lib.hid (HA.out.step hB)
                  replace HV6 := Lib.hid (HV6.out.below hB)
                  replace HV7 := Lib.hid (HV7.out.below hB)
                  clear hB
                  have qR20 : W15.cell? ⟨(N + 1), 0, none⟩ = some (.int .i64 base2) := cell_at HR2.out 0
                  have qR21 : W15.cell? ⟨(N + 1), 1, none⟩ = some (.int .i64 term2) := cell_at HR2.out 1
                  have qR22 : W15.cell? ⟨(N + 1), 2, none⟩ = some (.slice a2 l2 c2) := cell_at HR2.out 2
                  have qR2z : ∀ j, W15.frozen? ⟨(N + 1), j, none⟩ = false := fun j => free_at HR2.out j
                  have qR2l : (N + 1) < W15.heap.size := HR2.out.lt
                  go_wp2_with fail
                  go_at_call 27
                  go_fit (HNB.out _ HV2.out)
                  rintro e W16 ⟨rfl, hB⟩
                  clear qR20 qR21 qR22 qR2z qR2l
                  replace HB := Lib.hid (HB.out.trans (hB.mono HB.out.size))
                  replace HV := Lib.hid (HV.out.below hB)
                  replace HV2 := Lib.hid (HV2.out.below hB)
                  replace HR := Lib.hid (HR.out.step hB)
                  replace HR2 := Lib.hid (HR2.out.step hB)
                  replace HV5 := Lib.hid (HV5.out.below hB)
                  replace HA := Lib.hid (HA.out.step hB)
                  replace HV6 := Lib.hid (HV6.out.below hB)
                  replace HV7 := Lib.hid (HV7.out.below hB)
                  clear hB
                  go_wp2_with fail
                  go_at_call 10
                  go_fit (rwakes_any _)
                  rintro e W17 ⟨rfl, hB⟩
                  replace HB := Lib.hid (HB.out.trans (hB.mono HB.out.size))
                  replace HV := Lib.hid (HV.out.below hB)
                  replace HV2 := Lib.hid (HV2.out.below hB)
                  replace HR := Lib.hid (HR.out.step hB)
                  replace HR2 := Lib.hid (HR2.out.step hB)
                  replace HV5 := Lib.hid (HV5.out.below hB)
                  replace HA := Lib.hid (HA.out.step hB)
                  replace HV6 := Lib.hid (HV6.out.below hB)
                  replace HV7 := Lib.hid (HV7.out.below hB)
                  clear hB
                  go_wp2_with fail
                  go_ret
                  exact ⟨rfl, HB.out⟩
                · skip
                  have qR0 : W12.cell? ⟨N, 0, none⟩ = some (.int .i64 base) := cell_at HR.out 0
                  have qR1 : W12.cell? ⟨N, 1, none⟩ = some (.int .i64 term) := cell_at HR.out 1
                  have qR2 : W12.cell? ⟨N, 2, none⟩ = some (.slice a ln c) := cell_at HR.out 2
                  have qRz : ∀ j, W12.frozen? ⟨N, j, none⟩ = false := fun j => free_at HR.out j
                  have qRl : N < W12.heap.size := HR.out.lt
                  go_wp2_with fail
                  go_at_call 27
                  go_fit (HNA.out _ HV.out)
                  rintro e W13 ⟨rfl, hB⟩
                  clear qR0 qR1 qR2 qRz qRl
                  replace HB := Lib.hid (HB.out.trans (hB.mono HB.out.size))
                  replace HV := Lib.hid (HV.out.below hB)
                  replace HV2 := Lib.hid (HV2.out.below hB)
                  replace HR := Lib.hid (HR.out.step hB)
                  replace HR2 := Lib.hid (HR2.out.step hB)
                  replace HV5 := Lib.hid (HV5.out.below hB)
                  replace HA := Lib.hid (HA.out.step hB)
                  replace HV6 := Lib.hid (HV6.out.below hB)
                  replace HV7 := Lib.hid (HV7.out.below hB)
                  clear hB
                  have qR20 : W13.cell? ⟨(N + 1), 0, none⟩ = some (.int .i64 base2) := cell_at HR2.out 0
                  have qR21 : W13.cell? ⟨(N + 1), 1, none⟩ = some (.int .i64 term2) := cell_at HR2.out 1
                  have qR22 : W13.cell? ⟨(N + 1), 2, none⟩ = some (.slice a2 l2 c2) := cell_at HR2.out 2
                  have qR2z : ∀ j, W13.frozen? ⟨(N + 1), j, none⟩ = false := fun j => free_at HR2.out j
                  have qR2l : (N + 1) < W13.heap.size := HR2.out.lt
                  go_wp2_with fail
                  go_at_call 27
                  go_fit (HNB.out _ HV2.out)
                  rintro e W14 ⟨rfl, hB⟩
                  clear qR20 qR21 qR22 qR2z qR2l
                  replace HB := Lib.hid (HB.out.trans (hB.mono HB.out.size))
                  replace HV := Lib.hid (HV.out.below hB)
                  replace HV2 := Lib.hid (HV2.out.below hB)
                  replace HR := Lib.hid (HR.out.step hB)
                  replace HR2 := Lib.hid (HR2.out.step hB)
                  replace HV5 := Lib.hid (HV5.out.below hB)
                  replace HA := Lib.hid (HA.out.step hB)
                  replace HV6 := Lib.hid (HV6.out.below hB)
                  replace HV7 := Lib.hid (HV7.out.below hB)
                  clear hB
                  have qR0 : W14.cell? ⟨N, 0, none⟩ = some (.int .i64 base) := cell_at HR.out 0
                  have qR1 : W14.cell? ⟨N, 1, none⟩ = some (.int .i64 term) := cell_at HR.out 1
                  have qR2 : W14.cell? ⟨N, 2, none⟩ = some (.slice a ln c) := cell_at HR.out 2
                  have qRz : ∀ j, W14.frozen? ⟨N, j, none⟩ = false := fun j => free_at HR.out j
                  have qRl : N < W14.heap.size := HR.out.lt
                  go_wp2_with fail
                  go_at_call 27
                  go_fit (HNC.out _ HV.out)
                  rintro e W15 ⟨rfl, hB⟩
                  clear qR0 qR1 qR2 qRz qRl
                  replace HB := Lib.hid (HB.out.trans (hB.mono HB.out.size))
                  replace HV := Lib.hid (HV.out.below hB)
                  replace HV2 := Lib.hid (HV2.out.below hB)
                  replace HR := Lib.hid (HR.out.step hB)
                  replace HR2 := Lib.hid (HR2.out.step hB)
                  replace HV5 := Lib.hid (HV5.out.below hB)
                  replace HA := Lib.hid (HA.out.step hB)
                  replace HV6 := Lib.hid (HV6.out.below hB)
                  replace HV7 := Lib.hid (HV7.out.below hB)
                  clear hB
                  have qR0 : W15.cell? ⟨N, 0, none⟩ = some (.int .i64 base) := cell_at HR.out 0
                  have qR1 : W15.cell? ⟨N, 1, none⟩ = some (.int .i64 term) := cell_at HR.out 1
                  have qR2 : W15.cell? ⟨N, 2, none⟩ = some (.slice a ln c) := cell_at HR.out 2
                  have qRz : ∀ j, W15.frozen? ⟨N, j, none⟩ = false := fun j => free_at HR.out j
                  have qRl : N < W15.heap.size := HR.out.lt
                  go_wp2_with fail
                  go_at_call 27
                  go_fit (HNA.out _ HV.out)
                  rintro e W16 ⟨rfl, hB⟩
                  clear qR0 qR1 qR2 qRz qRl
                  replace HB := Lib.hid (HB.out.trans (hB.mono HB.out.size))
                  replace HV := Lib.hid (HV.out.below hB)
                  replace HV2 := Lib.hid (HV2.out.below hB)
                  replace HR := Lib.hid (HR.out.step hB)
                  replace HR2 := Lib.hid (HR2.out.step hB)
                  replace HV5 := Lib.hid (HV5.out.below hB)
                  replace HA := Lib.hid (HA.out.step hB)
                  replace HV6 := Lib.hid (HV6.out.below hB)
                  replace HV7 := Lib.hid (HV7.out.below hB)
                  clear hB
                  go_wp2_with fail
                  go_at_call 10
                  go_fit (rwakes_any _)
                  rintro e W17 ⟨rfl, hB⟩
                  replace HB := Lib.hid (HB.out.trans (hB.mono HB.out.size))
                  replace HV := Lib.hid (HV.out.below hB)
                  replace HV2 := Lib.hid (HV2.out.below hB)
                  replace HR := Lib.hid (HR.out.step hB)
                  replace HR2 := Lib.hid (HR2.out.step hB)
                  replace HV5 := Lib.hid (HV5.out.below hB)
                  replace HA := Lib.hid (HA.out.step hB)
                  replace HV6 := Lib.hid (HV6.out.below hB)
                  replace HV7 := Lib.hid (HV7.out.below hB)
                  clear hB
                  go_wp2_with fail
                  go_ret
                  exact ⟨rfl, HB.out⟩
                · skip
                  have d7 : (i == i) = true := beq_self_eq_true _
                  have d8 : (t == t) = true := beq_self_eq_true _
                  have qR0 : W12.cell? ⟨N, 0, none⟩ = some (.int .i64 base) := cell_at HR.out 0
                  have qR1 : W12.cell? ⟨N, 1, none⟩ = some (.int .i64 term) := cell_at HR.out 1
                  have qR2 : W12.cell? ⟨N, 2, none⟩ = some (.slice a ln c) := cell_at HR.out 2
                  have qRz : ∀ j, W12.frozen? ⟨N, j, none⟩ = false := fun j => free_at HR.out j
                  have qRl : N < W12.heap.size := HR.out.lt
                  go_wp2_with fail
                  go_at_call 27
                  go_fit (HNA.out _ HV.out)
                  rintro e W13 ⟨rfl, hB⟩
                  clear qR0 qR1 qR2 qRz qRl
                  replace HB := Lib.hid (HB.out.trans (hB.mono HB.out.size))
                  replace HV := Lib.hid (HV.out.below hB)
                  replace HV2 := Lib.hid (HV2.out.below hB)
                  replace HR := Lib.hid (HR.out.step hB)
                  replace HR2 := Lib.hid (HR2.out.step hB)
                  replace HV5 := Lib.hid (HV5.out.below hB)
                  replace HA := Lib.hid (HA.out.step hB)
                  replace HV6 := Lib.hid (HV6.out.below hB)
                  replace HV7 := Lib.hid (HV7.out.below hB)
                  clear hB
                  have qR0 : W13.cell? ⟨N, 0, none⟩ = some (.int .i64 base) := cell_at HR.out 0
                  have qR1 : W13.cell? ⟨N, 1, none⟩ = some (.int .i64 term) := cell_at HR.out 1
                  have qR2 : W13.cell? ⟨N, 2, none⟩ = some (.slice a ln c) := cell_at HR.out 2
                  have qRz : ∀ j, W13.frozen? ⟨N, j, none⟩ = false := fun j => free_at HR.out j
                  have qRl : N < W13.heap.size := HR.out.lt
                  go_wp2_with fail
                  go_at_call 27
                  go_fit (HNC.out _ HV.out)
                  rintro e W14 ⟨rfl, hB⟩
                  clear qR0 qR1 qR2 qRz qRl
                  replace HB := Lib.hid (HB.out.trans (hB.mono HB.out.size))
                  replace HV := Lib.hid (HV.out.below hB)
                  replace HV2 := Lib.hid (HV2.out.below hB)
                  replace HR := Lib.hid (HR.out.step hB)
                  replace HR2 := Lib.hid (HR2.out.step hB)
                  replace HV5 := Lib.hid (HV5.out.below hB)
                  replace HA := Lib.hid (HA.out.step hB)
                  replace HV6 := Lib.hid (HV6.out.below hB)
                  replace HV7 := Lib.hid (HV7.out.below hB)
                  clear hB
                  have qR0 : W14.cell? ⟨N, 0, none⟩ = some (.int .i64 base) := cell_at HR.out 0
                  have qR1 : W14.cell? ⟨N, 1, none⟩ = some (.int .i64 term) := cell_at HR.out 1
                  have qR2 : W14.cell? ⟨N, 2, none⟩ = some (.slice a ln c) := cell_at HR.out 2
                  have qRz : ∀ j, W14.frozen? ⟨N, j, none⟩ = false := fun j => free_at HR.out j
                  have qRl : N < W14.heap.size := HR.out.lt
                  go_wp2_with fail
                  go_at_call 27
                  go_fit (HNA.out _ HV.out)
                  rintro e W15 ⟨rfl, hB⟩
                  clear qR0 qR1 qR2 qRz qRl
                  replace HB := Lib.hid (HB.out.trans (hB.mono HB.out.size))
                  replace HV := Lib.hid (HV.out.below hB)
                  replace HV2 := Lib.hid (HV2.out.below hB)
                  replace HR := Lib.hid (HR.out.step hB)
                  replace HR2 := Lib.hid (HR2.out.step hB)
                  replace HV5 := Lib.hid (HV5.out.below hB)
                  replace HA := Lib.hid (HA.out.step hB)
                  replace HV6 := Lib.hid (HV6.out.below hB)
                  replace HV7 := Lib.hid (HV7.out.below hB)
                  clear hB
                  have qR20 : W15.cell? ⟨(N + 1), 0, none⟩ = some (.int .i64 base2) := cell_at HR2.out 0
                  have qR21 : W15.cell? ⟨(N + 1), 1, none⟩ = some (.int .i64 term2) := cell_at HR2.out 1
                  have qR22 : W15.cell? ⟨(N + 1), 2, none⟩ = some (.slice a2 l2 c2) := cell_at HR2.out 2
                  have qR2z : ∀ j, W15.frozen? ⟨(N + 1), j, none⟩ = false := fun j => free_at HR2.out j
                  have qR2l : (N + 1) < W15.heap.size := HR2.out.lt
                  go_wp2_with fail
                  go_at_call 27
                  go_fit (HNB.out _ HV2.out)
                  rintro e W16 ⟨rfl, hB⟩
                  clear qR20 qR21 qR22 qR2z qR2l
                  replace HB := Lib.hid (HB.out.trans (hB.mono HB.out.size))
                  replace HV := Lib.hid (HV.out.below hB)
                  replace HV2 := Lib.hid (HV2.out.below hB)
                  replace HR := Lib.hid (HR.out.step hB)
                  replace HR2 := Lib.hid (HR2.out.step hB)
                  replace HV5 := Lib.hid (HV5.out.below hB)
                  replace HA := Lib.hid (HA.out.step hB)
                  replace HV6 := Lib.hid (HV6.out.below hB)
                  replace HV7 := Lib.hid (HV7.out.below hB)
                  clear hB
                  go_wp2_with fail
                  go_at_call 10
                  go_fit (rwakes_any _)
                  rintro e W17 ⟨rfl, hB⟩
                  replace HB := Lib.hid (HB.out.trans (hB.mono HB.out.size))
                  replace HV := Lib.hid (HV.out.below hB)
                  replace HV2 := Lib.hid (HV2.out.below hB)
                  replace HR := Lib.hid (HR.out.step hB)
                  replace HR2 := Lib.hid (HR2.out.step hB)
                  replace HV5 := Lib.hid (HV5.out.below hB)
                  replace HA := Lib.hid (HA.out.step hB)
                  replace HV6 := Lib.hid (HV6.out.below hB)
                  replace HV7 := Lib.hid (HV7.out.below hB)
                  clear hB
                  go_wp2_with fail
                  go_ret
                  exact ⟨rfl, HB.out⟩
          · skip
            have d1 : (xe != 0) = true := by rw [bne_iff_ne]; exact hx0
            have d2 : (xe = 0) = False := eq_false hx0
            clear hx0
            go_wp2_with fail
            go_at_call 10
            go_fit (rwakes_any _)
            rintro e W9 ⟨rfl, hB⟩
            replace HB := Lib.hid (HB.out.trans (hB.mono HB.out.size))
            replace HV := Lib.hid (HV.out.below hB)
            replace HV2 := Lib.hid (HV2.out.below hB)
            replace HR := Lib.hid (HR.out.step hB)
            replace HR2 := Lib.hid (HR2.out.step hB)
            replace HV5 := Lib.hid (HV5.out.below hB)
            replace HA := Lib.hid (HA.out.step hB)
            clear hB
            go_wp2_with fail
            go_ret
            exact ⟨rfl, HB.out⟩
        · skip
          go_wp2_with fail
          go_at_call 10
          go_fit (rwakes_any _)
          rintro e W7 ⟨rfl, hB⟩
          replace HB := Lib.hid (HB.out.trans (hB.mono HB.out.size))
          replace HV := Lib.hid (HV.out.below hB)
          replace HV2 := Lib.hid (HV2.out.below hB)
          replace HR := Lib.hid (HR.out.step hB)
          replace HR2 := Lib.hid (HR2.out.step hB)
          clear hB
          go_wp2_with fail
          go_ret
          exact ⟨rfl, HB.out⟩
      · skip
        go_wp2_with fail
        go_at_call 10
        go_fit (rwakes_any _)
        rintro e W6 ⟨rfl, hB⟩
        replace HB := Lib.hid (HB.out.trans (hB.mono HB.out.size))
        replace HV := Lib.hid (HV.out.below hB)
        replace HV2 := Lib.hid (HV2.out.below hB)
        replace HR := Lib.hid (HR.out.step hB)
        replace HR2 := Lib.hid (HR2.out.step hB)
        clear hB
        go_wp2_with fail
        go_ret
        exact ⟨rfl, HB.out⟩
    · skip
      go_wp2_with fail
      go_at_call 10
      go_fit (rwakes_any _)
      rintro e W5 ⟨rfl, hB⟩
      replace HB := Lib.hid (HB.out.trans (hB.mono HB.out.size))
      replace HV := Lib.hid (HV.out.below hB)
      replace HV2 := Lib.hid (HV2.out.below hB)
      replace HR := Lib.hid (HR.out.step hB)
      replace HR2 := Lib.hid (HR2.out.step hB)
      clear hB
      go_wp2_with fail
      go_ret
      exact ⟨rfl, HB.out⟩
  · skip
    go_wp2_with fail
    go_at_call 10
    go_fit (rwakes_any _)
    rintro e W4 ⟨rfl, hB⟩
    replace HB := Lib.hid (HB.out.trans (hB.mono HB.out.size))
    replace HV := Lib.hid (HV.out.below hB)
    replace HV2 := Lib.hid (HV2.out.below hB)
    replace HR := Lib.hid (HR.out.step hB)
    replace HR2 := Lib.hid (HR2.out.step hB)
    clear hB
    go_wp2_with fail
    go_ret
    exact ⟨rfl, HB.out⟩
theorem rowsPieces_dt (x : Dt) (at_ idx most : Int) (y : Dt) (w : World) (hx : Fits Try.prog w 24 x) (ha : -9223372036854775808 ≤ at_ ∧ at_ ≤ 9223372036854775807) (hi : -9223372036854775808 ≤ idx ∧ idx ≤ 9223372036854775807) (hm : -9223372036854775808 ≤ most ∧ most ≤ 9223372036854775807) (hy : Fits Try.prog w 24 y) :
    Calls Try.prog 6 #[.agg x.cells.toArray, .int .i64 at_, .int .i64 idx, .int .i64 most, .agg y.cells.toArray] w fun e w' => e = .returned (.bool true) ∧ Below w.heap.size w w' := by
  obtain ⟨base, term, a', m, cc, es, e1, _, _, hS⟩ := rowsD_inv hx
  obtain ⟨base2, term2, a2', m2, cc2, es2, e2, _, _, hS2⟩ := rowsD_inv hy
  obtain ⟨L, hL, hb⟩ := rv_fits w hS
  obtain ⟨l, hl, hb2⟩ := rv_fits w hS2
  rw [e1, e2]
  exact rowsPieces_any base term at_ idx most base2 term2 _ _ L l w hL hl hb hb2 ha hi hm
end Go.Proofs.Ytcadinoijclfnaa
