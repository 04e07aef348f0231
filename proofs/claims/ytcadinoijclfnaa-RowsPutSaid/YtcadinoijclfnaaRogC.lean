/-
  Entries put behind a place: the document, part hi.
-/
import Derived.Test.YtcadinoijclfnaaRog
import Derived.Deep.DeepFit
import Derived.Lib.AppendZeros
namespace Go.Proofs.Ytcadinoijclfnaa
open Go.RowKit
set_option linter.unusedSimpArgs false
set_option linter.unusedVariables false

set_option maxRecDepth 100000 in
set_option maxHeartbeats 16000000 in
theorem rput_hi (base term idx first : Int) (v v2 : Value) (L l : List EnD) (w : World) (h : RV w v L) (h2 : RV w v2 l) (hl5 : l.length ≤ 5000) (hx : -9223372036854775808 ≤ idx ∧ idx ≤ 9223372036854775807) (hyp : okE base term L = 0 ∧ l.length ≤ 16 ∧ okE idx first l = 0 ∧ idx ≤ base + L.length ∧ base ≤ idx ∧ termL base term L idx = first) :
    Calls Try.prog 20 #[.agg #[.int .i64 base, .int .i64 term, v], .int .i64 idx, .int .i64 first, v2] w fun e w' => RwOut (putF base term L idx first l) e w' ∧ Below w.heap.size w w' := by
  have HYP := Lib.hid hyp
  clear hyp
  have HR0 := Lib.hid h
  have HR2 := Lib.hid h2
  obtain ⟨a, ln, c, rfl, Hln, m1, m2, m3⟩ := h.sh
  obtain ⟨a2, l2, c2, rfl, Hl2, n1, n2, n3⟩ := h2.sh
  obtain ⟨P, hP⟩ : ∃ P, P = putF base term L idx first l := ⟨_, rfl⟩
  rw [← hP]
  have hp := hP
  unfold putF at hp
  rw [← Hl2.out] at hp hl5
  have HP := Lib.hid hp
  have HCK := Lib.hid (fun W (h : RV W (.slice a ln c) L) => rcheckR_any base term _ L W h)
  have HCK2 := Lib.hid (fun W (h : RV W (.slice a2 l2 c2) l) => rcheckR_any idx first _ l W h)
  obtain ⟨E1, hE1⟩ : ∃ E1, E1 = okE base term L := ⟨_, rfl⟩
  obtain ⟨E2, hE2⟩ : ∃ E2, E2 = okE idx first l := ⟨_, rfl⟩
  have hE1c : E1 = 0 ∨ E1 = 90 := by rw [hE1]; exact okE_two _ _ _
  have hE2c : E2 = 0 ∨ E2 = 90 := by rw [hE2]; exact okE_two _ _ _
  rw [← hE1] at HCK HP
  rw [← hE2] at HCK2 HP
  have HE1 := Lib.hid hE1
  have HE2 := Lib.hid hE2
  clear h h2 hP hp hE1 hE2
  have HB : Hid (Below w.heap.size w w) := Lib.hid (Below.refl _ _)
  go_enter Try.func20, Try.ntmps20
  go_upto_region 1 with fail
  obtain ⟨N, hN⟩ : ∃ n0, n0 = w.heap.size := ⟨_, rfl⟩
  have HLON : Hid (w.heap.size ≤ N) := Lib.hid (by have := HB.out.size; omega)
  obtain ⟨W1, hA0⟩ : ∃ W0, W0 = w.alloc (.cells #[.int .i64 base, .int .i64 term, .slice a ln c] 24) := ⟨_, rfl⟩
  have hB : Below w.heap.size w W1 := by rw [hA0]; exact (Below.refl _ _).alloc (Nat.le_refl _) _
  have hS0 : W1.heap.size = N + 1 := by rw [hA0]; simp [← hN]
  have HR := Lib.hid (show Blk W1 N #[.int .i64 base, .int .i64 term, .slice a ln c] 24 by rw [hA0, hN]; exact blk_new _ _ _)
  replace HB := Lib.hid (HB.out.trans (hB.mono HB.out.size))
  clear hB
  obtain ⟨W2, hA1⟩ : ∃ W0, W0 = W1.alloc (.cells #[.int .i64 0, .int .i64 0, .slice none 0 0] 24) := ⟨_, rfl⟩
  have hB : Below W1.heap.size W1 W2 := by rw [hA1]; exact (Below.refl _ _).alloc (Nat.le_refl _) _
  have hS1 : W2.heap.size = N + 2 := by rw [hA1]; simp [hS0]
  have HK1 := Lib.hid (show Blk W2 (N + 1) #[.int .i64 0, .int .i64 0, .slice none 0 0] 24 by rw [hA1, ← hS0]; exact blk_new _ _ _)
  replace HB := Lib.hid (HB.out.trans (hB.mono HB.out.size))
  replace HR := Lib.hid (HR.out.step hB)
  clear hB
  have HSN := Lib.hid hS1
  rw [← hN, ← hA0, ← hA1]
  clear hA1 hA0 hN hS0 hS1
  have qR0 : W2.cell? ⟨N, 0, none⟩ = some (.int .i64 base) := cell_at HR.out 0
  have qR1 : W2.cell? ⟨N, 1, none⟩ = some (.int .i64 term) := cell_at HR.out 1
  have qR2 : W2.cell? ⟨N, 2, none⟩ = some (.slice a ln c) := cell_at HR.out 2
  have qRz : ∀ j, W2.frozen? ⟨N, j, none⟩ = false := fun j => free_at HR.out j
  have qRl : N < W2.heap.size := HR.out.lt
  go_wp2_with fail
  go_at_call 21
  go_fit (HCK.out _ (HR0.out.below HB.out))
  rintro e W3 ⟨rfl, hB⟩
  clear qR0 qR1 qR2 qRz qRl
  replace HB := Lib.hid (HB.out.trans (hB.mono HB.out.size))
  replace HR := Lib.hid (HR.out.step hB)
  replace HK1 := Lib.hid (HK1.out.step hB)
  clear hB
  rcases hE1c with rfl | rfl
  · skip
    rw [if_neg (by simp)] at HP
    by_cases k1 : 16 < l2
    · skip
      exact absurd k1 (by have h1 := Hl2.out; have h2 := HYP.out.2.1; omega)
    · skip
      rw [if_neg k1] at HP
      have d1 : decide ((16 : Int) < (l2 : Int)) = false := decide_eq_false (by omega)
      have d9 : (!decide ((16 : Int) < (l2 : Int))) = true := by rw [d1]; rfl
      go_wp2_with fail
      go_at_call 21
      go_fit (HCK2.out _ (HR2.out.below HB.out))
      rintro e W4 ⟨rfl, hB⟩
      replace HB := Lib.hid (HB.out.trans (hB.mono HB.out.size))
      replace HR := Lib.hid (HR.out.step hB)
      replace HK1 := Lib.hid (HK1.out.step hB)
      clear hB
      rcases hE2c with rfl | rfl
      · skip
        rw [if_neg (by simp)] at HP
        obtain ⟨i0, i1, i2, i3⟩ := okE_head HE2.out.symm
        obtain ⟨b0, b1, b2, b3⟩ := okE_head HE1.out.symm
        have HLS := Lib.hid (fun W (h : RV W (.slice a ln c) L) => rlastR_any base term _ L W h HE1.out.symm)
        have HTM := Lib.hid (fun W (h : RV W (.slice a ln c) L) => rterm_any base term idx _ L W h HE1.out.symm hx)
        have HCP := Lib.hid (fun W (h : RV W (.slice a ln c) L) => copiedR_any _ L W h (by omega) (okE_dl HE1.out.symm))
        unfold fitF at HP
        rw [← Hln.out] at b1 b2 HLS HP
        rw [← Hl2.out] at i1 HP
        obtain ⟨en, hen⟩ : ∃ en, en = base + (ln : Int) := ⟨_, rfl⟩
        rw [← hen] at HLS HP
        have HEN := Lib.hid hen
        obtain ⟨sm, hsm⟩ : ∃ sm, sm = idx + (l2 : Int) := ⟨_, rfl⟩
        have ww1 : IntKind.i64.wrap (idx + (l2 : Int)) = sm := (IntWalk.i64_in _ (by omega)).trans hsm.symm
        have HSM := Lib.hid hsm
        clear hen hsm i2 i3
        have qR0 : W4.cell? ⟨N, 0, none⟩ = some (.int .i64 base) := cell_at HR.out 0
        have qR1 : W4.cell? ⟨N, 1, none⟩ = some (.int .i64 term) := cell_at HR.out 1
        have qR2 : W4.cell? ⟨N, 2, none⟩ = some (.slice a ln c) := cell_at HR.out 2
        have qRz : ∀ j, W4.frozen? ⟨N, j, none⟩ = false := fun j => free_at HR.out j
        have qRl : N < W4.heap.size := HR.out.lt
        obtain ⟨lt, HL1⟩ := HLS.out W4 (HR0.out.below HB.out)
        have HL := Lib.hid HL1
        clear HL1
        go_wp2_with fail
        go_at_call 22
        go_fit HL.out
        rintro e W5 ⟨rfl, hB⟩
        clear qR0 qR1 qR2 qRz qRl
        replace HB := Lib.hid (HB.out.trans (hB.mono HB.out.size))
        replace HR := Lib.hid (HR.out.step hB)
        replace HK1 := Lib.hid (HK1.out.step hB)
        clear hB
        by_cases k2 : en < idx
        · skip
          exact absurd k2 (by have h1 := Hln.out; have h2 := HEN.out; have h3 := HYP.out.2.2.2.1; omega)
        · skip
          rw [if_neg k2] at HP
          have d2 : decide (en < idx) = false := decide_eq_false k2
          by_cases k3 : idx < base
          · skip
            have d3 : decide (idx < base) = true := decide_eq_true k3
            obtain ⟨ah, hah⟩ := Int.eq_ofNat_of_zero_le (show 0 ≤ base - idx by omega)
            have ww2 : IntKind.i64.wrap (base - idx) = (ah : Int) := (IntWalk.i64_in _ (by omega)).trans hah
            have ww3 : IntKind.i64.wrap (ah : Int) = (ah : Int) := IntWalk.i64_in _ (by omega)
            rw [hah, Int.toNat_natCast] at HP
            have HAH := Lib.hid hah
            clear hah
            by_cases k4 : l2 < ah
            · skip
              exact absurd k3 (by have h3 := HYP.out.2.2.2.2.1; omega)
            · skip
              exact absurd k3 (by have h3 := HYP.out.2.2.2.2.1; omega)
          · skip
            have d3 : decide (idx < base) = false := decide_eq_false k3
            rw [if_neg (by omega), if_neg (by omega)] at HP
            have hIN : inB base L.length idx = true := by
              have := HEN.out
              unfold inB
              rw [decide_eq_true (show base ≤ idx by omega), decide_eq_true (show idx ≤ base + (L.length : Int) by rw [← Hln.out]; omega)]
              rfl
            have hTR : termR base term L idx = termL base term L idx := by unfold termR; rw [hIN]; rfl
            rw [hTR, hIN] at HTM
            obtain ⟨t, ht⟩ : ∃ t, t = termL base term L idx := ⟨_, rfl⟩
            rw [← ht] at HTM HP
            have HTE := Lib.hid ht
            clear ht hTR hIN
            have qR0 : W5.cell? ⟨N, 0, none⟩ = some (.int .i64 base) := cell_at HR.out 0
            have qR1 : W5.cell? ⟨N, 1, none⟩ = some (.int .i64 term) := cell_at HR.out 1
            have qR2 : W5.cell? ⟨N, 2, none⟩ = some (.slice a ln c) := cell_at HR.out 2
            have qRz : ∀ j, W5.frozen? ⟨N, j, none⟩ = false := fun j => free_at HR.out j
            have qRl : N < W5.heap.size := HR.out.lt
            go_wp2_with fail
            go_at_call 37
            go_fit (HTM.out _ (HR0.out.below HB.out))
            rintro e W6 ⟨rfl, hB⟩
            clear qR0 qR1 qR2 qRz qRl
            replace HB := Lib.hid (HB.out.trans (hB.mono HB.out.size))
            replace HR := Lib.hid (HR.out.step hB)
            replace HK1 := Lib.hid (HK1.out.step hB)
            clear hB
            by_cases k4 : t = first
            · skip
              rw [if_neg (by simpa using k4)] at HP
              have d4 : (t != first) = false := by rw [bne_eq_false_iff_eq]; exact k4
              have d5 : (t = first) = True := eq_true k4
              obtain ⟨x, hx9⟩ := Int.eq_ofNat_of_zero_le (show 0 ≤ idx - base by omega)
              have hxl : x ≤ ln := by have := HEN.out; omega
              have ww4 : IntKind.i64.wrap (idx - base) = (x : Int) := (IntWalk.i64_in _ (by omega)).trans hx9
              have ww5 : IntKind.i64.wrap (x : Int) = (x : Int) := IntWalk.i64_in _ (by omega)
              rw [← HSM.out, show idx = base + (x : Int) by omega, endF_yes (by rw [← Hln.out]; exact hxl)] at HP
              obtain ⟨l9, hl9⟩ : ∃ l9, l9 = l := ⟨_, rfl⟩
              obtain ⟨pa, hpa⟩ : ∃ pa, pa = a2 := ⟨_, rfl⟩
              obtain ⟨pn, hpn⟩ : ∃ pn, pn = l2 := ⟨_, rfl⟩
              obtain ⟨pc, hpc⟩ : ∃ pc, pc = c2 := ⟨_, rfl⟩
              subst hl9 hpa hpn hpc
              have HL9 := Hl2
              have HD9 := Lib.hid (okE_dl HE2.out.symm)
              have HRL := HR2
              have hpcm : pn ≤ pc ∧ pc ≤ 9223372036854775807 ∧ pn ≤ 16 := by omega
              clear hx9 k1 k2 k3 k4
              obtain ⟨hq1, hq2, hq3⟩ := hpcm
              obtain ⟨K, hK⟩ : ∃ K, K = pfx (L.drop x) l9 := ⟨_, rfl⟩
              have hK1 : K ≤ ln - x := by rw [hK]; have := pfx_le1 (L.drop x) l9; rw [List.length_drop, ← Hln.out] at this; exact this
              have hK2 : K ≤ pn := by rw [hK, HL9.out]; exact pfx_le2 _ _
              have HKL : Hid (∀ (j : Nat) (y z : EnD), L[x + j]? = some y → l9[j]? = some z → j < K → y.t = z.t) := Lib.hid (fun j y z h1 h2 h3 => pfx_lt (L.drop x) l9 j y z (by rw [List.getElem?_drop]; exact h1) h2 (by rw [← hK]; exact h3))
              have HKA : Hid (∀ (y z : EnD), L[x + K]? = some y → l9[K]? = some z → y.t ≠ z.t) := Lib.hid (fun y z h1 h2 => pfx_at (L.drop x) l9 y z (by rw [List.getElem?_drop, ← hK]; exact h1) (by rw [← hK]; exact h2))
              have HPL : Hid (putL L l9 x = if K < pn then L.take (x + K) ++ l9.drop K else L) := Lib.hid (by rw [hK, HL9.out]; rfl)
              have HMD := Lib.hid (fun W v (h : RV W v (putL L l9 x)) => rmade_any base term v _ W h (dl_putL (okE_dl HE1.out.symm) HD9.out))
              obtain ⟨MP, hMP⟩ : ∃ MP, MP = madeF base term (putL L l9 x) := ⟨_, rfl⟩
              have HME := Lib.hid (madeF_e base term (putL L l9 x))
              rw [← hMP] at HMD HME HP
              obtain ⟨mb, mt, ml, me⟩ := MP
              simp only at HP HME
              clear hK hMP
              have qR0 : W6.cell? ⟨N, 0, none⟩ = some (.int .i64 base) := cell_at HR.out 0
              have qR1 : W6.cell? ⟨N, 1, none⟩ = some (.int .i64 term) := cell_at HR.out 1
              have qR2 : W6.cell? ⟨N, 2, none⟩ = some (.slice a ln c) := cell_at HR.out 2
              have qRz : ∀ j, W6.frozen? ⟨N, j, none⟩ = false := fun j => free_at HR.out j
              have qRl : N < W6.heap.size := HR.out.lt
              go_wp2_with fail
              go_loopw [18] (fun k wr => ∃ n : Nat, n ≤ K ∧ k = .int .i64 n ∧ Below W6.heap.size W6 wr) (fun k _ => K + 1 - (intOf k).toNat)
              case atStart => exact ⟨0, Nat.zero_le _, rfl, Below.refl _ _⟩
              case round =>
                obtain ⟨n, hn, rfl, hB⟩ := hrel
                have HBC := Lib.hid hB
                clear qR0 qR1 qR2 qRz qRl
                replace HB := Lib.hid (HB.out.trans (hB.mono HB.out.size))
                replace HR := Lib.hid (HR.out.step hB)
                replace HK1 := Lib.hid (HK1.out.step hB)
                clear hB
                obtain ⟨r, hr⟩ : ∃ r, r = x + n := ⟨_, rfl⟩
                have hrl : r ≤ ln := by omega
                have wr1 : IntKind.i64.wrap ((x : Int) + (n : Int)) = (r : Int) := (IntWalk.i64_in _ (by omega)).trans (by omega)
                have wr2 : (x : Int) + (n : Int) = (r : Int) := by omega
                have wr3 : IntKind.i64.wrap (r : Int) = (r : Int) := IntWalk.i64_in _ (by omega)
                have wr4 : IntKind.i64.wrap ((n : Int) + 1) = (n : Int) + 1 := IntWalk.i64_in _ (by omega)
                by_cases hk : n < K
                · skip
                  obtain ⟨g, o, yy, ea, g1, g2, g3⟩ := (HR0.out.below HB.out).at r (by omega)
                  obtain ⟨g', o', zz, eb, k1, k2, k3⟩ := (HRL.out.below HB.out).at n (by omega)
                  subst ea eb
                  have he := HKL.out n yy zz (by rw [← hr]; exact g2) k2 hk
                  have b1 : decide ((n : Int) < (pn : Int)) = true := decide_eq_true (by omega)
                  have b2 : decide (n < pn) = true := decide_eq_true (by omega)
                  have b3 : decide ((r : Int) < (ln : Int)) = true := decide_eq_true (by omega)
                  have b4 : decide (r < ln) = true := decide_eq_true (by omega)
                  have b5 : (yy.t == zz.t) = true := beq_iff_eq.2 he
                  have b6 : (yy.t = zz.t) = True := eq_true he
                  have b7 : decide (yy.t = zz.t) = true := decide_eq_true he
                  have b8 : (r < ln) = True := eq_true (by omega)
                  have b9 : (n < pn) = True := eq_true (by omega)
                  clear he hr g2 k2
                  have qR0 : wr.cell? ⟨N, 0, none⟩ = some (.int .i64 base) := cell_at HR.out 0
                  have qR1 : wr.cell? ⟨N, 1, none⟩ = some (.int .i64 term) := cell_at HR.out 1
                  have qR2 : wr.cell? ⟨N, 2, none⟩ = some (.slice (some ⟨g, o, none⟩) ln c) := cell_at HR.out 2
                  have qRz : ∀ j, wr.frozen? ⟨N, j, none⟩ = false := fun j => free_at HR.out j
                  have qRl : N < wr.heap.size := HR.out.lt
                  go_wp2_with fail
                  (refine wp_region_quiet_lit (by kernel_rfl) (by kernel_rfl) ?_; (repeat (first | go_big_quiet_step (fail) | (refine BigFrame.wpQuiet_skip (by rfl) ?_; try simp only [Act.put, List.setIfInBounds_toArray, List.set_cons_zero, List.set_cons_succ]))); refine wpQuiet_nil ?_; intro _ hw9; obtain ⟨nq, hw8⟩ := hw9; subst hw8)
                  go_wp2_with fail
                  go_roundw
                  case rel => exact ⟨n + 1, by omega, by go_num, below_dN HBC.out nq⟩
                  case measure => first | (simp [intOf]; done) | (simp [intOf]; omega)
                · skip
                  obtain rfl : n = K := by omega
                  by_cases hb : n < pn
                  · skip
                    rw [if_pos hb, ← hr] at HPL
                    have b1 : decide ((n : Int) < (pn : Int)) = true := decide_eq_true (by omega)
                    have b2 : decide (n < pn) = true := decide_eq_true (by omega)
                    have b9 : (n < pn) = True := eq_true (by omega)
                    by_cases hc : r < ln
                    · skip
                      obtain ⟨g, o, yy, ea, g1, g2, g3⟩ := (HR0.out.below HB.out).at r (by omega)
                      obtain ⟨g', o', zz, eb, k1, k2, k3⟩ := (HRL.out.below HB.out).at n (by omega)
                      subst ea eb
                      have he := HKA.out yy zz (by rw [← hr]; exact g2) k2
                      have b3 : decide ((r : Int) < (ln : Int)) = true := decide_eq_true (by omega)
                      have b4 : decide (r < ln) = true := decide_eq_true (by omega)
                      have b5 : (yy.t == zz.t) = false := beq_eq_false_iff_ne.2 he
                      have b6 : (yy.t = zz.t) = False := eq_false he
                      have b7 : decide (yy.t = zz.t) = false := decide_eq_false he
                      have b8 : (r < ln) = True := eq_true (by omega)
                      clear he g2 k2 hr
                      have qR0 : wr.cell? ⟨N, 0, none⟩ = some (.int .i64 base) := cell_at HR.out 0
                      have qR1 : wr.cell? ⟨N, 1, none⟩ = some (.int .i64 term) := cell_at HR.out 1
                      have qR2 : wr.cell? ⟨N, 2, none⟩ = some (.slice (some ⟨g, o, none⟩) ln c) := cell_at HR.out 2
                      have qRz : ∀ j, wr.frozen? ⟨N, j, none⟩ = false := fun j => free_at HR.out j
                      have qRl : N < wr.heap.size := HR.out.lt
                      go_wp2_with fail
                      (refine wp_region_quiet_lit (by kernel_rfl) (by kernel_rfl) ?_; (repeat (first | go_big_quiet_step (fail) | (refine BigFrame.wpQuiet_skip (by rfl) ?_; try simp only [Act.put, List.setIfInBounds_toArray, List.set_cons_zero, List.set_cons_succ]))); refine wpQuiet_nil ?_; intro _ hw9; obtain ⟨nq, hw8⟩ := hw9; subst hw8)
                      clear qR0 qR1 qR2 qRz qRl
                      obtain ⟨W7, hWn⟩ : ∃ X, X = wr.drewN nq := ⟨_, rfl⟩
                      rw [← hWn]
                      have hB : Below wr.heap.size wr W7 := by rw [hWn]; exact dN _ _
                      clear hWn
                      replace HB := Lib.hid (HB.out.trans (hB.mono HB.out.size))
                      replace HR := Lib.hid (HR.out.step hB)
                      replace HK1 := Lib.hid (HK1.out.step hB)
                      clear hB
                      obtain ⟨M, hM⟩ : ∃ n0, n0 = W7.heap.size := ⟨_, rfl⟩
                      have HLOM : Hid (w.heap.size ≤ M) := Lib.hid (by have := HB.out.size; omega)
                      have HFM : Hid (M ≤ W7.heap.size) := Lib.hid (by omega)
                      have HXMHR : Hid (N < M) := Lib.hid (by rw [hM]; exact HR.out.lt)
                      have HXMHK1 : Hid ((N + 1) < M) := Lib.hid (by rw [hM]; exact HK1.out.lt)
                      clear hM
                      have qR0 : W7.cell? ⟨N, 0, none⟩ = some (.int .i64 base) := cell_at HR.out 0
                      have qR1 : W7.cell? ⟨N, 1, none⟩ = some (.int .i64 term) := cell_at HR.out 1
                      have qR2 : W7.cell? ⟨N, 2, none⟩ = some (.slice (some ⟨g, o, none⟩) ln c) := cell_at HR.out 2
                      have qRz : ∀ j, W7.frozen? ⟨N, j, none⟩ = false := fun j => free_at HR.out j
                      have qRl : N < W7.heap.size := HR.out.lt
                      obtain ⟨v8, ob8, W8, hrun, hor, hBM⟩ := appR (ty := 22) (or_nil w W7 M HLOM.out) HR0.out HB.out HFM.out (by rw [List.length_nil]; have h2 := Hln.out; omega)
                      have HRUN := Lib.hid hrun
                      go_upto_region 23 with (at_builtin; refine Lib.wpList_append_run _ rfl (.tmp 145) (.tmp 147) 22 22 rfl _ _ rfl rfl _ _ HRUN.out ?_)
                      clear qR0 qR1 qR2 qRz qRl
                      replace HB := Lib.hid (HB.out.trans (hBM.mono (by have hq := HLOM.out; omega)))
                      replace HR := Lib.hid (HR.out.stepM hBM (by have hq := HXMHR.out; omega))
                      replace HK1 := Lib.hid (HK1.out.stepM hBM (by have hq := HXMHK1.out; omega))
                      replace HFM := Lib.hid (Nat.le_trans HFM.out hBM.size)
                      have HOR := Lib.hid hor
                      clear HRUN hrun hor hBM
                      rw [List.nil_append] at HOR
                      obtain ⟨a3, n3, c3, rfl, Hn3, e1, e2⟩ := HOR.out.sh
                      obtain rfl : ln = n3 := Hln.out.trans Hn3.out.symm
                      obtain ⟨hs3, hp3⟩ := rv_from HRL.out n (by omega)
                      have HP3 := Lib.hid hp3
                      obtain ⟨qa, hqa⟩ : ∃ qa, qa = fromA (some ⟨g', o', none⟩) pc n := ⟨_, rfl⟩
                      obtain ⟨qn, hqn⟩ : ∃ qn, qn = pn - n := ⟨_, rfl⟩
                      obtain ⟨qc, hqc⟩ : ∃ qc, qc = pc - n := ⟨_, rfl⟩
                      rw [← hqa, ← hqn, ← hqc] at hs3 HP3
                      have hmz : midA a3 0 c3 = a3 := by obtain ⟨_, F0, hrow, _⟩ := HOR.out; exact midA_zero2 hrow
                      have hs4 := fun W' : World => rv_h (a := a3) (ln := ln) (c := c3) r (by omega) W'
                      simp only [Nat.sub_zero, hmz] at hs4
                      have HOT := Lib.hid (HOR.out.take r (by omega))
                      have b10 : (r ≤ c3) = True := eq_true (by omega)
                      clear hp3 hqa hqn hqc hmz
                      have qR0 : W8.cell? ⟨N, 0, none⟩ = some (.int .i64 base) := cell_at HR.out 0
                      have qR1 : W8.cell? ⟨N, 1, none⟩ = some (.int .i64 term) := cell_at HR.out 1
                      have qR2 : W8.cell? ⟨N, 2, none⟩ = some (.slice (some ⟨g, o, none⟩) ln c) := cell_at HR.out 2
                      have qRz : ∀ j, W8.frozen? ⟨N, j, none⟩ = false := fun j => free_at HR.out j
                      have qRl : N < W8.heap.size := HR.out.lt
                      go_wp2_with fail
                      clear qR0 qR1 qR2 qRz qRl
                      refine wp_region_held_drew (S := fun X => (X.cell? ⟨N, 0, none⟩ = some (.int .i64 base) ∧ X.cell? ⟨N, 1, none⟩ = some (.int .i64 term) ∧ X.cell? ⟨N, 2, none⟩ = some (.slice (some ⟨g, o, none⟩) ln c) ∧ N < X.heap.size)) (by kernel_rfl) ⟨cell_at HR.out 0, cell_at HR.out 1, cell_at HR.out 2, HR.out.lt⟩ (fun hHeld => ?_)
                      ((refine wpAnyH_take (i := 0) (v := ?_) (by (simp only [List.getElem?_toArray, List.getElem?_cons_succ, List.getElem?_cons_zero]); rfl) (by kernel_rfl) (by kernel_rfl) (by kernel_rfl) (by exact fun _ _ _ h => h) (Or.inl ⟨by rfl, ?_⟩) (by assumption) ?_); rotate_left; focus (intro wS hSw; (try dsimp only at hSw); go_simp; first | done | with_reducible rfl); try simp only [Act.put, List.setIfInBounds_toArray, List.set_cons_zero, List.set_cons_succ])
                      ((refine wpAnyH_take (i := 1) (v := ?_) (by (simp only [List.getElem?_toArray, List.getElem?_cons_succ, List.getElem?_cons_zero]); rfl) (by kernel_rfl) (by kernel_rfl) (by kernel_rfl) (by exact fun _ _ _ h => h) (Or.inl ⟨by rfl, ?_⟩) (by assumption) ?_); rotate_left; focus (intro wS hSw; (try dsimp only at hSw); go_simp; first | done | with_reducible rfl); try simp only [Act.put, List.setIfInBounds_toArray, List.set_cons_zero, List.set_cons_succ])
                      ((refine wpAnyH_take (i := 2) (v := ?_) (by (simp only [List.getElem?_toArray, List.getElem?_cons_succ, List.getElem?_cons_zero]); rfl) (by kernel_rfl) (by kernel_rfl) (by kernel_rfl) (by exact fun _ _ _ h => h) (Or.inl ⟨by rfl, ?_⟩) (by assumption) ?_); rotate_left; focus (intro wS hSw; (try dsimp only at hSw); go_simp; first | done | with_reducible rfl); try simp only [Act.put, List.setIfInBounds_toArray, List.set_cons_zero, List.set_cons_succ])
                      ((refine wpAnyH_take (i := 3) (v := ?_) (by (simp only [List.getElem?_toArray, List.getElem?_cons_succ, List.getElem?_cons_zero]); rfl) (by kernel_rfl) (by kernel_rfl) (by kernel_rfl) (by exact fun _ _ _ h => h) (Or.inl ⟨by rfl, ?_⟩) (by assumption) ?_); rotate_left; focus (intro wS hSw; (try dsimp only at hSw); go_simp; first | done | with_reducible rfl); try simp only [Act.put, List.setIfInBounds_toArray, List.set_cons_zero, List.set_cons_succ])
                      ((refine wpAnyH_take (i := 4) (v := ?_) (by (simp only [List.getElem?_toArray, List.getElem?_cons_succ, List.getElem?_cons_zero]); rfl) (by kernel_rfl) (by kernel_rfl) (by kernel_rfl) (by exact fun _ _ _ h => h) (Or.inl ⟨by rfl, ?_⟩) (by assumption) ?_); rotate_left; focus (intro wS hSw; (try dsimp only at hSw); go_simp; first | done | with_reducible rfl); try simp only [Act.put, List.setIfInBounds_toArray, List.set_cons_zero, List.set_cons_succ])
                      ((refine wpAnyH_take (i := 5) (v := ?_) (by (simp only [List.getElem?_toArray, List.getElem?_cons_succ, List.getElem?_cons_zero]); rfl) (by kernel_rfl) (by kernel_rfl) (by kernel_rfl) (by exact fun _ _ _ h => h) (Or.inl ⟨by rfl, ?_⟩) (by assumption) ?_); rotate_left; focus (intro wS hSw; (try dsimp only at hSw); go_simp; first | done | with_reducible rfl); try simp only [Act.put, List.setIfInBounds_toArray, List.set_cons_zero, List.set_cons_succ])
                      ((refine wpAnyH_take (i := 6) (v := ?_) (by (simp only [List.getElem?_toArray, List.getElem?_cons_succ, List.getElem?_cons_zero]); rfl) (by kernel_rfl) (by kernel_rfl) (by kernel_rfl) (by exact fun _ _ _ h => h) (Or.inl ⟨by rfl, ?_⟩) (by assumption) ?_); rotate_left; focus (intro wS hSw; (try dsimp only at hSw); go_simp; first | done | with_reducible rfl); try simp only [Act.put, List.setIfInBounds_toArray, List.set_cons_zero, List.set_cons_succ])
                      ((refine wpAnyH_take (i := 7) (v := ?_) (by (simp only [List.getElem?_toArray, List.getElem?_cons_succ, List.getElem?_cons_zero]); rfl) (by kernel_rfl) (by kernel_rfl) (by kernel_rfl) (by exact fun _ _ _ h => h) (Or.inl ⟨by rfl, ?_⟩) (by assumption) ?_); rotate_left; focus (intro wS hSw; (try dsimp only at hSw); go_simp; first | done | with_reducible rfl); try simp only [Act.put, List.setIfInBounds_toArray, List.set_cons_zero, List.set_cons_succ])
                      refine wpAnyH_ready (rs := [8]) (by kernel_rfl) (by simp) ?_
                      refine AllReadyH.cons (by (simp only [List.getElem?_toArray, List.getElem?_cons_succ, List.getElem?_cons_zero]); rfl) (fun K hK => ?_) AllReadyH.nil
                      rw [if_pos (by rfl)]
                      obtain ⟨v9, ob9, W9, hrun, hor, hBM⟩ := appR (ty := 22) (HOT.out.step (Below.refl _ _).drew) HP3.out HB.out.drew HFM.out (by have h1 := List.length_take_le r L; have h2 := Hln.out; have h3 := List.length_drop (i := n) (l := l9); have h4 := HL9.out; omega)
                      refine op_append_run (.tmp 157) (.tmp 160) 22 (by kernel_rfl) (by kernel_rfl) (by kernel_rfl) hrun ?_
                      replace hBM := below_undrewM hBM
                      replace HB := Lib.hid (HB.out.trans (hBM.mono (by have hq := HLOM.out; omega)))
                      replace HR := Lib.hid (HR.out.stepM hBM (by have hq := HXMHR.out; omega))
                      replace HK1 := Lib.hid (HK1.out.stepM hBM (by have hq := HXMHK1.out; omega))
                      replace HFM := Lib.hid (Nat.le_trans HFM.out hBM.size)
                      have HOR := Lib.hid hor
                      refine hK.out _ _ ⟨cell_at HR.out 0, cell_at HR.out 1, cell_at HR.out 2, HR.out.lt⟩ (fun hHeld => ?_)
                      clear hK K hrun hor hBM
                      try simp only [Act.put, List.setIfInBounds_toArray, List.set_cons_zero, List.set_cons_succ]
                      obtain ⟨a4, n4, c4, rfl, Hn4, f1, f2⟩ := HOR.out.sh
                      ((refine wpAnyH_take (i := 9) (v := ?_) (by (simp only [List.getElem?_toArray, List.getElem?_cons_succ, List.getElem?_cons_zero]); rfl) (by kernel_rfl) (by kernel_rfl) (by kernel_rfl) (by exact fun _ _ _ h => h) (Or.inl ⟨by rfl, ?_⟩) (by assumption) ?_); rotate_left; focus (intro wS hSw; (try dsimp only at hSw); go_simp; first | done | with_reducible rfl); try simp only [Act.put, List.setIfInBounds_toArray, List.set_cons_zero, List.set_cons_succ])
                      refine wpAnyH_done (by kernel_rfl) ?_ _
                      go_wp2_with fail
                      have HV4 := Lib.hid (HOR.out.rv HB.out (by have h1 := List.length_take_le r L; have h2 := Hln.out; have h3 := List.length_drop (i := n) (l := l9); have h4 := HL9.out; rw [List.length_append]; omega))
                      rw [← HPL.out] at HV4
                      clear HOR
                      have qR0 : W9.cell? ⟨N, 0, none⟩ = some (.int .i64 base) := cell_at HR.out 0
                      have qR1 : W9.cell? ⟨N, 1, none⟩ = some (.int .i64 term) := cell_at HR.out 1
                      have qR2 : W9.cell? ⟨N, 2, none⟩ = some (.slice (some ⟨g, o, none⟩) ln c) := cell_at HR.out 2
                      have qRz : ∀ j, W9.frozen? ⟨N, j, none⟩ = false := fun j => free_at HR.out j
                      have qRl : N < W9.heap.size := HR.out.lt
                      go_wp2_with fail
                      go_at_call 33
                      go_fit (HMD.out _ _ HV4.out)
                      rintro e W10 ⟨⟨v5, rfl, hv5⟩, hB⟩
                      clear qR0 qR1 qR2 qRz qRl
                      replace HB := Lib.hid (HB.out.trans (hB.mono HB.out.size))
                      replace HR := Lib.hid (HR.out.step hB)
                      replace HK1 := Lib.hid (HK1.out.step hB)
                      replace HFM := Lib.hid (Nat.le_trans HFM.out hB.size)
                      clear hB
                      obtain ⟨a5, l5, c5, rfl, Hl5, l51, l52, l53⟩ := hv5.sh
                      have HV5 := Lib.hid hv5
                      clear hv5
                      go_upto_region 26 with fail
                      obtain ⟨Q, hQ⟩ : ∃ n0, n0 = W10.heap.size := ⟨_, rfl⟩
                      have HXQHR : Hid (N < Q) := Lib.hid (by rw [hQ]; exact HR.out.lt)
                      have HXQHK1 : Hid ((N + 1) < Q) := Lib.hid (by rw [hQ]; exact HK1.out.lt)
                      have HLOQ : Hid (w.heap.size ≤ Q) := Lib.hid (by have := HB.out.size; omega)
                      obtain ⟨W11, hA0⟩ : ∃ W0, W0 = W10.alloc (.cells #[.int .i64 mb, .int .i64 mt, .slice a5 l5 c5] 24) := ⟨_, rfl⟩
                      have hB : Below W10.heap.size W10 W11 := by rw [hA0]; exact (Below.refl _ _).alloc (Nat.le_refl _) _
                      have hS0 : W11.heap.size = Q + 1 := by rw [hA0]; simp [← hQ]
                      have HQ := Lib.hid (show Blk W11 Q #[.int .i64 mb, .int .i64 mt, .slice a5 l5 c5] 24 by rw [hA0, hQ]; exact blk_new _ _ _)
                      replace HB := Lib.hid (HB.out.trans (hB.mono HB.out.size))
                      replace HR := Lib.hid (HR.out.step hB)
                      replace HK1 := Lib.hid (HK1.out.step hB)
                      replace HFM := Lib.hid (Nat.le_trans HFM.out hB.size)
                      replace HV5 := Lib.hid (HV5.out.below hB)
                      clear hB
                      have HSQ := Lib.hid hS0
                      rw [← hQ, ← hA0]
                      clear hA0 hQ hS0
                      rcases HME.out with rfl | ⟨rfl, rfl, rfl, hme⟩
                      · skip
                        rw [zi_eq] at HP
                        obtain rfl := HP.out
                        have qR0 : W11.cell? ⟨N, 0, none⟩ = some (.int .i64 base) := cell_at HR.out 0
                        have qR1 : W11.cell? ⟨N, 1, none⟩ = some (.int .i64 term) := cell_at HR.out 1
                        have qR2 : W11.cell? ⟨N, 2, none⟩ = some (.slice (some ⟨g, o, none⟩) ln c) := cell_at HR.out 2
                        have qRz : ∀ j, W11.frozen? ⟨N, j, none⟩ = false := fun j => free_at HR.out j
                        have qRl : N < W11.heap.size := HR.out.lt
                        have qQ0 : W11.cell? ⟨Q, 0, none⟩ = some (.int .i64 mb) := cell_at HQ.out 0
                        have qQ1 : W11.cell? ⟨Q, 1, none⟩ = some (.int .i64 mt) := cell_at HQ.out 1
                        have qQ2 : W11.cell? ⟨Q, 2, none⟩ = some (.slice a5 l5 c5) := cell_at HQ.out 2
                        have qQz : ∀ j, W11.frozen? ⟨Q, j, none⟩ = false := fun j => free_at HQ.out j
                        have qQl : Q < W11.heap.size := HQ.out.lt
                        have qK10 : W11.cell? ⟨(N + 1), 0, none⟩ = some (.int .i64 0) := cell_at HK1.out 0
                        have qK11 : W11.cell? ⟨(N + 1), 1, none⟩ = some (.int .i64 0) := cell_at HK1.out 1
                        have qK12 : W11.cell? ⟨(N + 1), 2, none⟩ = some (.slice none 0 0) := cell_at HK1.out 2
                        have qK1z : ∀ j, W11.frozen? ⟨(N + 1), j, none⟩ = false := fun j => free_at HK1.out j
                        have qK1l : (N + 1) < W11.heap.size := HK1.out.lt
                        go_wp2_with fail
                        clear qR0 qR1 qR2 qRz qRl qQ0 qQ1 qQ2 qQz qQl qK10 qK11 qK12 qK1z qK1l
                        obtain ⟨LS, hLS⟩ : ∃ L : List Value, L = [.int .i64 mb, .int .i64 mt, .slice a5 l5 c5] := ⟨_, rfl⟩
                        obtain ⟨W12, hWS⟩ : ∃ WS, WS = W11.setCells (N + 1) 0 LS := ⟨_, rfl⟩
                        have hch := hWS
                        rw [hLS] at hch
                        simp only [World.setCells, Nat.zero_add, Nat.reduceAdd] at hch
                        rw [← hch]
                        clear hch
                        have hkS := stC_blk HK1.out LS (by rw [hLS]; rfl)
                        have hfS := stC_fr (N + 1) LS 0 W11
                        rw [← hWS] at hkS hfS
                        rw [hLS] at hkS
                        replace HB := Lib.hid (HB.out.trans (hfS.below HB.out.size (by have := HLON.out; simp; try omega)))
                        replace HR := Lib.hid (show Blk W12 N #[.int .i64 base, .int .i64 term, .slice (some ⟨g, o, none⟩) ln c] 24 from (hfS.block _ HR.out.lt (by have hx0 := HXQHR.out; have hx1 := HXQHK1.out; simp; try omega)).trans HR.out)
                        replace HFM := Lib.hid (Nat.le_trans HFM.out hfS.size)
                        replace HV5 := Lib.hid (HV5.out.fr HK1.out hfS)
                        replace HQ := Lib.hid (show Blk W12 Q #[.int .i64 mb, .int .i64 mt, .slice a5 l5 c5] 24 from (hfS.block _ HQ.out.lt (by have hx0 := HXQHR.out; have hx1 := HXQHK1.out; simp; try omega)).trans HQ.out)
                        replace HK1 := Lib.hid (show Blk W12 (N + 1) #[.int .i64 mb, .int .i64 mt, .slice a5 l5 c5] 24 from hkS)
                        clear hWS hLS hkS hfS
                        have qK10 : W12.cell? ⟨(N + 1), 0, none⟩ = some (.int .i64 mb) := cell_at HK1.out 0
                        have qK11 : W12.cell? ⟨(N + 1), 1, none⟩ = some (.int .i64 mt) := cell_at HK1.out 1
                        have qK12 : W12.cell? ⟨(N + 1), 2, none⟩ = some (.slice a5 l5 c5) := cell_at HK1.out 2
                        have qK1z : ∀ j, W12.frozen? ⟨(N + 1), j, none⟩ = false := fun j => free_at HK1.out j
                        have qK1l : (N + 1) < W12.heap.size := HK1.out.lt
                        exact bodyPost_ret (v := .tuple #[.agg #[.int .i64 mb, .int .i64 mt, .slice a5 l5 c5], .int .i64 sm, .bool true, .int .i64 0]) (by simp [results, Try.results20, go_sem, qK10, qK11, qK12]) rfl ⟨⟨_, rfl, HV5.out⟩, HB.out⟩
                      · skip
                        have hz1 : zi me sm = 0 := by unfold zi; rw [if_neg (by omega)]
                        have hz2 : zb me true = false := by unfold zb; rw [if_neg (by omega)]
                        rw [hz1, hz2] at HP
                        obtain rfl := HP.out
                        rcases hme with rfl | rfl
                        all_goals
                          have qR0 : W11.cell? ⟨N, 0, none⟩ = some (.int .i64 base) := cell_at HR.out 0
                          have qR1 : W11.cell? ⟨N, 1, none⟩ = some (.int .i64 term) := cell_at HR.out 1
                          have qR2 : W11.cell? ⟨N, 2, none⟩ = some (.slice (some ⟨g, o, none⟩) ln c) := cell_at HR.out 2
                          have qRz : ∀ j, W11.frozen? ⟨N, j, none⟩ = false := fun j => free_at HR.out j
                          have qRl : N < W11.heap.size := HR.out.lt
                          have qQ0 : W11.cell? ⟨Q, 0, none⟩ = some (.int .i64 0) := cell_at HQ.out 0
                          have qQ1 : W11.cell? ⟨Q, 1, none⟩ = some (.int .i64 0) := cell_at HQ.out 1
                          have qQ2 : W11.cell? ⟨Q, 2, none⟩ = some (.slice a5 l5 c5) := cell_at HQ.out 2
                          have qQz : ∀ j, W11.frozen? ⟨Q, j, none⟩ = false := fun j => free_at HQ.out j
                          have qQl : Q < W11.heap.size := HQ.out.lt
                          have qK10 : W11.cell? ⟨(N + 1), 0, none⟩ = some (.int .i64 0) := cell_at HK1.out 0
                          have qK11 : W11.cell? ⟨(N + 1), 1, none⟩ = some (.int .i64 0) := cell_at HK1.out 1
                          have qK12 : W11.cell? ⟨(N + 1), 2, none⟩ = some (.slice none 0 0) := cell_at HK1.out 2
                          have qK1z : ∀ j, W11.frozen? ⟨(N + 1), j, none⟩ = false := fun j => free_at HK1.out j
                          have qK1l : (N + 1) < W11.heap.size := HK1.out.lt
                          go_wp2_with fail
                          clear qR0 qR1 qR2 qRz qRl qQ0 qQ1 qQ2 qQz qQl qK10 qK11 qK12 qK1z qK1l
                          obtain ⟨LS, hLS⟩ : ∃ L : List Value, L = [.int .i64 0, .int .i64 0, .slice none 0 0] := ⟨_, rfl⟩
                          obtain ⟨W12, hWS⟩ : ∃ WS, WS = W11.setCells (N + 1) 0 LS := ⟨_, rfl⟩
                          have hch := hWS
                          rw [hLS] at hch
                          simp only [World.setCells, Nat.zero_add, Nat.reduceAdd] at hch
                          rw [← hch]
                          clear hch
                          have hkS := stC_blk HK1.out LS (by rw [hLS]; rfl)
                          have hfS := stC_fr (N + 1) LS 0 W11
                          rw [← hWS] at hkS hfS
                          rw [hLS] at hkS
                          replace HB := Lib.hid (HB.out.trans (hfS.below HB.out.size (by have := HLON.out; simp; try omega)))
                          replace HR := Lib.hid (show Blk W12 N #[.int .i64 base, .int .i64 term, .slice (some ⟨g, o, none⟩) ln c] 24 from (hfS.block _ HR.out.lt (by have hx0 := HXQHR.out; have hx1 := HXQHK1.out; simp; try omega)).trans HR.out)
                          replace HFM := Lib.hid (Nat.le_trans HFM.out hfS.size)
                          replace HV5 := Lib.hid (HV5.out.fr HK1.out hfS)
                          replace HQ := Lib.hid (show Blk W12 Q #[.int .i64 0, .int .i64 0, .slice a5 l5 c5] 24 from (hfS.block _ HQ.out.lt (by have hx0 := HXQHR.out; have hx1 := HXQHK1.out; simp; try omega)).trans HQ.out)
                          replace HK1 := Lib.hid (show Blk W12 (N + 1) #[.int .i64 0, .int .i64 0, .slice none 0 0] 24 from hkS)
                          clear hWS hLS hkS hfS
                          have qK10 : W12.cell? ⟨(N + 1), 0, none⟩ = some (.int .i64 0) := cell_at HK1.out 0
                          have qK11 : W12.cell? ⟨(N + 1), 1, none⟩ = some (.int .i64 0) := cell_at HK1.out 1
                          have qK12 : W12.cell? ⟨(N + 1), 2, none⟩ = some (.slice none 0 0) := cell_at HK1.out 2
                          have qK1z : ∀ j, W12.frozen? ⟨(N + 1), j, none⟩ = false := fun j => free_at HK1.out j
                          have qK1l : (N + 1) < W12.heap.size := HK1.out.lt
                          first
                            | exact bodyPost_ret (v := .tuple #[.agg #[.int .i64 0, .int .i64 0, .slice none 0 0], .int .i64 0, .bool false, .int .i64 3]) (by simp [results, Try.results20, go_sem, qK10, qK11, qK12]) rfl ⟨⟨_, rfl, rv_nil _⟩, HB.out⟩
                            | exact bodyPost_ret (v := .tuple #[.agg #[.int .i64 0, .int .i64 0, .slice none 0 0], .int .i64 0, .bool false, .int .i64 90]) (by simp [results, Try.results20, go_sem, qK10, qK11, qK12]) rfl ⟨⟨_, rfl, rv_nil _⟩, HB.out⟩
                    · skip
                      have b3 : decide ((r : Int) < (ln : Int)) = false := decide_eq_false (by omega)
                      have b4 : decide (r < ln) = false := decide_eq_false hc
                      have b8 : (r < ln) = False := eq_false hc
                      clear hr
                      have qR0 : wr.cell? ⟨N, 0, none⟩ = some (.int .i64 base) := cell_at HR.out 0
                      have qR1 : wr.cell? ⟨N, 1, none⟩ = some (.int .i64 term) := cell_at HR.out 1
                      have qR2 : wr.cell? ⟨N, 2, none⟩ = some (.slice a ln c) := cell_at HR.out 2
                      have qRz : ∀ j, wr.frozen? ⟨N, j, none⟩ = false := fun j => free_at HR.out j
                      have qRl : N < wr.heap.size := HR.out.lt
                      go_wp2_with fail
                      (refine wp_region_quiet_lit (by kernel_rfl) (by kernel_rfl) ?_; (repeat (first | go_big_quiet_step (fail) | (refine BigFrame.wpQuiet_skip (by rfl) ?_; try simp only [Act.put, List.setIfInBounds_toArray, List.set_cons_zero, List.set_cons_succ]))); refine wpQuiet_nil ?_; intro _ hw9; obtain ⟨nq, hw8⟩ := hw9; subst hw8)
                      clear qR0 qR1 qR2 qRz qRl
                      obtain ⟨W7, hWn⟩ : ∃ X, X = wr.drewN nq := ⟨_, rfl⟩
                      rw [← hWn]
                      have hB : Below wr.heap.size wr W7 := by rw [hWn]; exact dN _ _
                      clear hWn
                      replace HB := Lib.hid (HB.out.trans (hB.mono HB.out.size))
                      replace HR := Lib.hid (HR.out.step hB)
                      replace HK1 := Lib.hid (HK1.out.step hB)
                      clear hB
                      obtain ⟨M, hM⟩ : ∃ n0, n0 = W7.heap.size := ⟨_, rfl⟩
                      have HLOM : Hid (w.heap.size ≤ M) := Lib.hid (by have := HB.out.size; omega)
                      have HFM : Hid (M ≤ W7.heap.size) := Lib.hid (by omega)
                      have HXMHR : Hid (N < M) := Lib.hid (by rw [hM]; exact HR.out.lt)
                      have HXMHK1 : Hid ((N + 1) < M) := Lib.hid (by rw [hM]; exact HK1.out.lt)
                      clear hM
                      have qR0 : W7.cell? ⟨N, 0, none⟩ = some (.int .i64 base) := cell_at HR.out 0
                      have qR1 : W7.cell? ⟨N, 1, none⟩ = some (.int .i64 term) := cell_at HR.out 1
                      have qR2 : W7.cell? ⟨N, 2, none⟩ = some (.slice a ln c) := cell_at HR.out 2
                      have qRz : ∀ j, W7.frozen? ⟨N, j, none⟩ = false := fun j => free_at HR.out j
                      have qRl : N < W7.heap.size := HR.out.lt
                      obtain ⟨v8, ob8, W8, hrun, hor, hBM⟩ := appR (ty := 22) (or_nil w W7 M HLOM.out) HR0.out HB.out HFM.out (by rw [List.length_nil]; have h2 := Hln.out; omega)
                      have HRUN := Lib.hid hrun
                      go_upto_region 23 with (at_builtin; refine Lib.wpList_append_run _ rfl (.tmp 145) (.tmp 147) 22 22 rfl _ _ rfl rfl _ _ HRUN.out ?_)
                      clear qR0 qR1 qR2 qRz qRl
                      replace HB := Lib.hid (HB.out.trans (hBM.mono (by have hq := HLOM.out; omega)))
                      replace HR := Lib.hid (HR.out.stepM hBM (by have hq := HXMHR.out; omega))
                      replace HK1 := Lib.hid (HK1.out.stepM hBM (by have hq := HXMHK1.out; omega))
                      replace HFM := Lib.hid (Nat.le_trans HFM.out hBM.size)
                      have HOR := Lib.hid hor
                      clear HRUN hrun hor hBM
                      rw [List.nil_append] at HOR
                      obtain ⟨a3, n3, c3, rfl, Hn3, e1, e2⟩ := HOR.out.sh
                      obtain rfl : ln = n3 := Hln.out.trans Hn3.out.symm
                      obtain ⟨hs3, hp3⟩ := rv_from HRL.out n (by omega)
                      have HP3 := Lib.hid hp3
                      obtain ⟨qa, hqa⟩ : ∃ qa, qa = fromA pa pc n := ⟨_, rfl⟩
                      obtain ⟨qn, hqn⟩ : ∃ qn, qn = pn - n := ⟨_, rfl⟩
                      obtain ⟨qc, hqc⟩ : ∃ qc, qc = pc - n := ⟨_, rfl⟩
                      rw [← hqa, ← hqn, ← hqc] at hs3 HP3
                      have hmz : midA a3 0 c3 = a3 := by obtain ⟨_, F0, hrow, _⟩ := HOR.out; exact midA_zero2 hrow
                      have hs4 := fun W' : World => rv_h (a := a3) (ln := ln) (c := c3) r (by omega) W'
                      simp only [Nat.sub_zero, hmz] at hs4
                      have HOT := Lib.hid (HOR.out.take r (by omega))
                      have b10 : (r ≤ c3) = True := eq_true (by omega)
                      clear hp3 hqa hqn hqc hmz
                      have qR0 : W8.cell? ⟨N, 0, none⟩ = some (.int .i64 base) := cell_at HR.out 0
                      have qR1 : W8.cell? ⟨N, 1, none⟩ = some (.int .i64 term) := cell_at HR.out 1
                      have qR2 : W8.cell? ⟨N, 2, none⟩ = some (.slice a ln c) := cell_at HR.out 2
                      have qRz : ∀ j, W8.frozen? ⟨N, j, none⟩ = false := fun j => free_at HR.out j
                      have qRl : N < W8.heap.size := HR.out.lt
                      go_wp2_with fail
                      clear qR0 qR1 qR2 qRz qRl
                      refine wp_region_held_drew (S := fun X => (X.cell? ⟨N, 0, none⟩ = some (.int .i64 base) ∧ X.cell? ⟨N, 1, none⟩ = some (.int .i64 term) ∧ X.cell? ⟨N, 2, none⟩ = some (.slice a ln c) ∧ N < X.heap.size)) (by kernel_rfl) ⟨cell_at HR.out 0, cell_at HR.out 1, cell_at HR.out 2, HR.out.lt⟩ (fun hHeld => ?_)
                      ((refine wpAnyH_take (i := 0) (v := ?_) (by (simp only [List.getElem?_toArray, List.getElem?_cons_succ, List.getElem?_cons_zero]); rfl) (by kernel_rfl) (by kernel_rfl) (by kernel_rfl) (by exact fun _ _ _ h => h) (Or.inl ⟨by rfl, ?_⟩) (by assumption) ?_); rotate_left; focus (intro wS hSw; (try dsimp only at hSw); go_simp; first | done | with_reducible rfl); try simp only [Act.put, List.setIfInBounds_toArray, List.set_cons_zero, List.set_cons_succ])
                      ((refine wpAnyH_take (i := 1) (v := ?_) (by (simp only [List.getElem?_toArray, List.getElem?_cons_succ, List.getElem?_cons_zero]); rfl) (by kernel_rfl) (by kernel_rfl) (by kernel_rfl) (by exact fun _ _ _ h => h) (Or.inl ⟨by rfl, ?_⟩) (by assumption) ?_); rotate_left; focus (intro wS hSw; (try dsimp only at hSw); go_simp; first | done | with_reducible rfl); try simp only [Act.put, List.setIfInBounds_toArray, List.set_cons_zero, List.set_cons_succ])
                      ((refine wpAnyH_take (i := 2) (v := ?_) (by (simp only [List.getElem?_toArray, List.getElem?_cons_succ, List.getElem?_cons_zero]); rfl) (by kernel_rfl) (by kernel_rfl) (by kernel_rfl) (by exact fun _ _ _ h => h) (Or.inl ⟨by rfl, ?_⟩) (by assumption) ?_); rotate_left; focus (intro wS hSw; (try dsimp only at hSw); go_simp; first | done | with_reducible rfl); try simp only [Act.put, List.setIfInBounds_toArray, List.set_cons_zero, List.set_cons_succ])
                      ((refine wpAnyH_take (i := 3) (v := ?_) (by (simp only [List.getElem?_toArray, List.getElem?_cons_succ, List.getElem?_cons_zero]); rfl) (by kernel_rfl) (by kernel_rfl) (by kernel_rfl) (by exact fun _ _ _ h => h) (Or.inl ⟨by rfl, ?_⟩) (by assumption) ?_); rotate_left; focus (intro wS hSw; (try dsimp only at hSw); go_simp; first | done | with_reducible rfl); try simp only [Act.put, List.setIfInBounds_toArray, List.set_cons_zero, List.set_cons_succ])
                      ((refine wpAnyH_take (i := 4) (v := ?_) (by (simp only [List.getElem?_toArray, List.getElem?_cons_succ, List.getElem?_cons_zero]); rfl) (by kernel_rfl) (by kernel_rfl) (by kernel_rfl) (by exact fun _ _ _ h => h) (Or.inl ⟨by rfl, ?_⟩) (by assumption) ?_); rotate_left; focus (intro wS hSw; (try dsimp only at hSw); go_simp; first | done | with_reducible rfl); try simp only [Act.put, List.setIfInBounds_toArray, List.set_cons_zero, List.set_cons_succ])
                      ((refine wpAnyH_take (i := 5) (v := ?_) (by (simp only [List.getElem?_toArray, List.getElem?_cons_succ, List.getElem?_cons_zero]); rfl) (by kernel_rfl) (by kernel_rfl) (by kernel_rfl) (by exact fun _ _ _ h => h) (Or.inl ⟨by rfl, ?_⟩) (by assumption) ?_); rotate_left; focus (intro wS hSw; (try dsimp only at hSw); go_simp; first | done | with_reducible rfl); try simp only [Act.put, List.setIfInBounds_toArray, List.set_cons_zero, List.set_cons_succ])
                      ((refine wpAnyH_take (i := 6) (v := ?_) (by (simp only [List.getElem?_toArray, List.getElem?_cons_succ, List.getElem?_cons_zero]); rfl) (by kernel_rfl) (by kernel_rfl) (by kernel_rfl) (by exact fun _ _ _ h => h) (Or.inl ⟨by rfl, ?_⟩) (by assumption) ?_); rotate_left; focus (intro wS hSw; (try dsimp only at hSw); go_simp; first | done | with_reducible rfl); try simp only [Act.put, List.setIfInBounds_toArray, List.set_cons_zero, List.set_cons_succ])
                      ((refine wpAnyH_take (i := 7) (v := ?_) (by (simp only [List.getElem?_toArray, List.getElem?_cons_succ, List.getElem?_cons_zero]); rfl) (by kernel_rfl) (by kernel_rfl) (by kernel_rfl) (by exact fun _ _ _ h => h) (Or.inl ⟨by rfl, ?_⟩) (by assumption) ?_); rotate_left; focus (intro wS hSw; (try dsimp only at hSw); go_simp; first | done | with_reducible rfl); try simp only [Act.put, List.setIfInBounds_toArray, List.set_cons_zero, List.set_cons_succ])
                      refine wpAnyH_ready (rs := [8]) (by kernel_rfl) (by simp) ?_
                      refine AllReadyH.cons (by (simp only [List.getElem?_toArray, List.getElem?_cons_succ, List.getElem?_cons_zero]); rfl) (fun K hK => ?_) AllReadyH.nil
                      rw [if_pos (by rfl)]
                      obtain ⟨v9, ob9, W9, hrun, hor, hBM⟩ := appR (ty := 22) (HOT.out.step (Below.refl _ _).drew) HP3.out HB.out.drew HFM.out (by have h1 := List.length_take_le r L; have h2 := Hln.out; have h3 := List.length_drop (i := n) (l := l9); have h4 := HL9.out; omega)
                      refine op_append_run (.tmp 157) (.tmp 160) 22 (by kernel_rfl) (by kernel_rfl) (by kernel_rfl) hrun ?_
                      replace hBM := below_undrewM hBM
                      replace HB := Lib.hid (HB.out.trans (hBM.mono (by have hq := HLOM.out; omega)))
                      replace HR := Lib.hid (HR.out.stepM hBM (by have hq := HXMHR.out; omega))
                      replace HK1 := Lib.hid (HK1.out.stepM hBM (by have hq := HXMHK1.out; omega))
                      replace HFM := Lib.hid (Nat.le_trans HFM.out hBM.size)
                      have HOR := Lib.hid hor
                      refine hK.out _ _ ⟨cell_at HR.out 0, cell_at HR.out 1, cell_at HR.out 2, HR.out.lt⟩ (fun hHeld => ?_)
                      clear hK K hrun hor hBM
                      try simp only [Act.put, List.setIfInBounds_toArray, List.set_cons_zero, List.set_cons_succ]
                      obtain ⟨a4, n4, c4, rfl, Hn4, f1, f2⟩ := HOR.out.sh
                      ((refine wpAnyH_take (i := 9) (v := ?_) (by (simp only [List.getElem?_toArray, List.getElem?_cons_succ, List.getElem?_cons_zero]); rfl) (by kernel_rfl) (by kernel_rfl) (by kernel_rfl) (by exact fun _ _ _ h => h) (Or.inl ⟨by rfl, ?_⟩) (by assumption) ?_); rotate_left; focus (intro wS hSw; (try dsimp only at hSw); go_simp; first | done | with_reducible rfl); try simp only [Act.put, List.setIfInBounds_toArray, List.set_cons_zero, List.set_cons_succ])
                      refine wpAnyH_done (by kernel_rfl) ?_ _
                      go_wp2_with fail
                      have HV4 := Lib.hid (HOR.out.rv HB.out (by have h1 := List.length_take_le r L; have h2 := Hln.out; have h3 := List.length_drop (i := n) (l := l9); have h4 := HL9.out; rw [List.length_append]; omega))
                      rw [← HPL.out] at HV4
                      clear HOR
                      have qR0 : W9.cell? ⟨N, 0, none⟩ = some (.int .i64 base) := cell_at HR.out 0
                      have qR1 : W9.cell? ⟨N, 1, none⟩ = some (.int .i64 term) := cell_at HR.out 1
                      have qR2 : W9.cell? ⟨N, 2, none⟩ = some (.slice a ln c) := cell_at HR.out 2
                      have qRz : ∀ j, W9.frozen? ⟨N, j, none⟩ = false := fun j => free_at HR.out j
                      have qRl : N < W9.heap.size := HR.out.lt
                      go_wp2_with fail
                      go_at_call 33
                      go_fit (HMD.out _ _ HV4.out)
                      rintro e W10 ⟨⟨v5, rfl, hv5⟩, hB⟩
                      clear qR0 qR1 qR2 qRz qRl
                      replace HB := Lib.hid (HB.out.trans (hB.mono HB.out.size))
                      replace HR := Lib.hid (HR.out.step hB)
                      replace HK1 := Lib.hid (HK1.out.step hB)
                      replace HFM := Lib.hid (Nat.le_trans HFM.out hB.size)
                      clear hB
                      obtain ⟨a5, l5, c5, rfl, Hl5, l51, l52, l53⟩ := hv5.sh
                      have HV5 := Lib.hid hv5
                      clear hv5
                      go_upto_region 26 with fail
                      obtain ⟨Q, hQ⟩ : ∃ n0, n0 = W10.heap.size := ⟨_, rfl⟩
                      have HXQHR : Hid (N < Q) := Lib.hid (by rw [hQ]; exact HR.out.lt)
                      have HXQHK1 : Hid ((N + 1) < Q) := Lib.hid (by rw [hQ]; exact HK1.out.lt)
                      have HLOQ : Hid (w.heap.size ≤ Q) := Lib.hid (by have := HB.out.size; omega)
                      obtain ⟨W11, hA0⟩ : ∃ W0, W0 = W10.alloc (.cells #[.int .i64 mb, .int .i64 mt, .slice a5 l5 c5] 24) := ⟨_, rfl⟩
                      have hB : Below W10.heap.size W10 W11 := by rw [hA0]; exact (Below.refl _ _).alloc (Nat.le_refl _) _
                      have hS0 : W11.heap.size = Q + 1 := by rw [hA0]; simp [← hQ]
                      have HQ := Lib.hid (show Blk W11 Q #[.int .i64 mb, .int .i64 mt, .slice a5 l5 c5] 24 by rw [hA0, hQ]; exact blk_new _ _ _)
                      replace HB := Lib.hid (HB.out.trans (hB.mono HB.out.size))
                      replace HR := Lib.hid (HR.out.step hB)
                      replace HK1 := Lib.hid (HK1.out.step hB)
                      replace HFM := Lib.hid (Nat.le_trans HFM.out hB.size)
                      replace HV5 := Lib.hid (HV5.out.below hB)
                      clear hB
                      have HSQ := Lib.hid hS0
                      rw [← hQ, ← hA0]
                      clear hA0 hQ hS0
                      rcases HME.out with rfl | ⟨rfl, rfl, rfl, hme⟩
                      · skip
                        rw [zi_eq] at HP
                        obtain rfl := HP.out
                        have qR0 : W11.cell? ⟨N, 0, none⟩ = some (.int .i64 base) := cell_at HR.out 0
                        have qR1 : W11.cell? ⟨N, 1, none⟩ = some (.int .i64 term) := cell_at HR.out 1
                        have qR2 : W11.cell? ⟨N, 2, none⟩ = some (.slice a ln c) := cell_at HR.out 2
                        have qRz : ∀ j, W11.frozen? ⟨N, j, none⟩ = false := fun j => free_at HR.out j
                        have qRl : N < W11.heap.size := HR.out.lt
                        have qQ0 : W11.cell? ⟨Q, 0, none⟩ = some (.int .i64 mb) := cell_at HQ.out 0
                        have qQ1 : W11.cell? ⟨Q, 1, none⟩ = some (.int .i64 mt) := cell_at HQ.out 1
                        have qQ2 : W11.cell? ⟨Q, 2, none⟩ = some (.slice a5 l5 c5) := cell_at HQ.out 2
                        have qQz : ∀ j, W11.frozen? ⟨Q, j, none⟩ = false := fun j => free_at HQ.out j
                        have qQl : Q < W11.heap.size := HQ.out.lt
                        have qK10 : W11.cell? ⟨(N + 1), 0, none⟩ = some (.int .i64 0) := cell_at HK1.out 0
                        have qK11 : W11.cell? ⟨(N + 1), 1, none⟩ = some (.int .i64 0) := cell_at HK1.out 1
                        have qK12 : W11.cell? ⟨(N + 1), 2, none⟩ = some (.slice none 0 0) := cell_at HK1.out 2
                        have qK1z : ∀ j, W11.frozen? ⟨(N + 1), j, none⟩ = false := fun j => free_at HK1.out j
                        have qK1l : (N + 1) < W11.heap.size := HK1.out.lt
                        go_wp2_with fail
                        clear qR0 qR1 qR2 qRz qRl qQ0 qQ1 qQ2 qQz qQl qK10 qK11 qK12 qK1z qK1l
                        obtain ⟨LS, hLS⟩ : ∃ L : List Value, L = [.int .i64 mb, .int .i64 mt, .slice a5 l5 c5] := ⟨_, rfl⟩
                        obtain ⟨W12, hWS⟩ : ∃ WS, WS = W11.setCells (N + 1) 0 LS := ⟨_, rfl⟩
                        have hch := hWS
                        rw [hLS] at hch
                        simp only [World.setCells, Nat.zero_add, Nat.reduceAdd] at hch
                        rw [← hch]
                        clear hch
                        have hkS := stC_blk HK1.out LS (by rw [hLS]; rfl)
                        have hfS := stC_fr (N + 1) LS 0 W11
                        rw [← hWS] at hkS hfS
                        rw [hLS] at hkS
                        replace HB := Lib.hid (HB.out.trans (hfS.below HB.out.size (by have := HLON.out; simp; try omega)))
                        replace HR := Lib.hid (show Blk W12 N #[.int .i64 base, .int .i64 term, .slice a ln c] 24 from (hfS.block _ HR.out.lt (by have hx0 := HXQHR.out; have hx1 := HXQHK1.out; simp; try omega)).trans HR.out)
                        replace HFM := Lib.hid (Nat.le_trans HFM.out hfS.size)
                        replace HV5 := Lib.hid (HV5.out.fr HK1.out hfS)
                        replace HQ := Lib.hid (show Blk W12 Q #[.int .i64 mb, .int .i64 mt, .slice a5 l5 c5] 24 from (hfS.block _ HQ.out.lt (by have hx0 := HXQHR.out; have hx1 := HXQHK1.out; simp; try omega)).trans HQ.out)
                        replace HK1 := Lib.hid (show Blk W12 (N + 1) #[.int .i64 mb, .int .i64 mt, .slice a5 l5 c5] 24 from hkS)
                        clear hWS hLS hkS hfS
                        have qK10 : W12.cell? ⟨(N + 1), 0, none⟩ = some (.int .i64 mb) := cell_at HK1.out 0
                        have qK11 : W12.cell? ⟨(N + 1), 1, none⟩ = some (.int .i64 mt) := cell_at HK1.out 1
                        have qK12 : W12.cell? ⟨(N + 1), 2, none⟩ = some (.slice a5 l5 c5) := cell_at HK1.out 2
                        have qK1z : ∀ j, W12.frozen? ⟨(N + 1), j, none⟩ = false := fun j => free_at HK1.out j
                        have qK1l : (N + 1) < W12.heap.size := HK1.out.lt
                        exact bodyPost_ret (v := .tuple #[.agg #[.int .i64 mb, .int .i64 mt, .slice a5 l5 c5], .int .i64 sm, .bool true, .int .i64 0]) (by simp [results, Try.results20, go_sem, qK10, qK11, qK12]) rfl ⟨⟨_, rfl, HV5.out⟩, HB.out⟩
                      · skip
                        have hz1 : zi me sm = 0 := by unfold zi; rw [if_neg (by omega)]
                        have hz2 : zb me true = false := by unfold zb; rw [if_neg (by omega)]
                        rw [hz1, hz2] at HP
                        obtain rfl := HP.out
                        rcases hme with rfl | rfl
                        all_goals
                          have qR0 : W11.cell? ⟨N, 0, none⟩ = some (.int .i64 base) := cell_at HR.out 0
                          have qR1 : W11.cell? ⟨N, 1, none⟩ = some (.int .i64 term) := cell_at HR.out 1
                          have qR2 : W11.cell? ⟨N, 2, none⟩ = some (.slice a ln c) := cell_at HR.out 2
                          have qRz : ∀ j, W11.frozen? ⟨N, j, none⟩ = false := fun j => free_at HR.out j
                          have qRl : N < W11.heap.size := HR.out.lt
                          have qQ0 : W11.cell? ⟨Q, 0, none⟩ = some (.int .i64 0) := cell_at HQ.out 0
                          have qQ1 : W11.cell? ⟨Q, 1, none⟩ = some (.int .i64 0) := cell_at HQ.out 1
                          have qQ2 : W11.cell? ⟨Q, 2, none⟩ = some (.slice a5 l5 c5) := cell_at HQ.out 2
                          have qQz : ∀ j, W11.frozen? ⟨Q, j, none⟩ = false := fun j => free_at HQ.out j
                          have qQl : Q < W11.heap.size := HQ.out.lt
                          have qK10 : W11.cell? ⟨(N + 1), 0, none⟩ = some (.int .i64 0) := cell_at HK1.out 0
                          have qK11 : W11.cell? ⟨(N + 1), 1, none⟩ = some (.int .i64 0) := cell_at HK1.out 1
                          have qK12 : W11.cell? ⟨(N + 1), 2, none⟩ = some (.slice none 0 0) := cell_at HK1.out 2
                          have qK1z : ∀ j, W11.frozen? ⟨(N + 1), j, none⟩ = false := fun j => free_at HK1.out j
                          have qK1l : (N + 1) < W11.heap.size := HK1.out.lt
                          go_wp2_with fail
                          clear qR0 qR1 qR2 qRz qRl qQ0 qQ1 qQ2 qQz qQl qK10 qK11 qK12 qK1z qK1l
                          obtain ⟨LS, hLS⟩ : ∃ L : List Value, L = [.int .i64 0, .int .i64 0, .slice none 0 0] := ⟨_, rfl⟩
                          obtain ⟨W12, hWS⟩ : ∃ WS, WS = W11.setCells (N + 1) 0 LS := ⟨_, rfl⟩
                          have hch := hWS
                          rw [hLS] at hch
                          simp only [World.setCells, Nat.zero_add, Nat.reduceAdd] at hch
                          rw [← hch]
                          clear hch
                          have hkS := stC_blk HK1.out LS (by rw [hLS]; rfl)
                          have hfS := stC_fr (N + 1) LS 0 W11
                          rw [← hWS] at hkS hfS
                          rw [hLS] at hkS
                          replace HB := Lib.hid (HB.out.trans (hfS.below HB.out.size (by have := HLON.out; simp; try omega)))
                          replace HR := Lib.hid (show Blk W12 N #[.int .i64 base, .int .i64 term, .slice a ln c] 24 from (hfS.block _ HR.out.lt (by have hx0 := HXQHR.out; have hx1 := HXQHK1.out; simp; try omega)).trans HR.out)
                          replace HFM := Lib.hid (Nat.le_trans HFM.out hfS.size)
                          replace HV5 := Lib.hid (HV5.out.fr HK1.out hfS)
                          replace HQ := Lib.hid (show Blk W12 Q #[.int .i64 0, .int .i64 0, .slice a5 l5 c5] 24 from (hfS.block _ HQ.out.lt (by have hx0 := HXQHR.out; have hx1 := HXQHK1.out; simp; try omega)).trans HQ.out)
                          replace HK1 := Lib.hid (show Blk W12 (N + 1) #[.int .i64 0, .int .i64 0, .slice none 0 0] 24 from hkS)
                          clear hWS hLS hkS hfS
                          have qK10 : W12.cell? ⟨(N + 1), 0, none⟩ = some (.int .i64 0) := cell_at HK1.out 0
                          have qK11 : W12.cell? ⟨(N + 1), 1, none⟩ = some (.int .i64 0) := cell_at HK1.out 1
                          have qK12 : W12.cell? ⟨(N + 1), 2, none⟩ = some (.slice none 0 0) := cell_at HK1.out 2
                          have qK1z : ∀ j, W12.frozen? ⟨(N + 1), j, none⟩ = false := fun j => free_at HK1.out j
                          have qK1l : (N + 1) < W12.heap.size := HK1.out.lt
                          first
                            | exact bodyPost_ret (v := .tuple #[.agg #[.int .i64 0, .int .i64 0, .slice none 0 0], .int .i64 0, .bool false, .int .i64 3]) (by simp [results, Try.results20, go_sem, qK10, qK11, qK12]) rfl ⟨⟨_, rfl, rv_nil _⟩, HB.out⟩
                            | exact bodyPost_ret (v := .tuple #[.agg #[.int .i64 0, .int .i64 0, .slice none 0 0], .int .i64 0, .bool false, .int .i64 90]) (by simp [results, Try.results20, go_sem, qK10, qK11, qK12]) rfl ⟨⟨_, rfl, rv_nil _⟩, HB.out⟩
                  · skip
                    rw [if_neg hb] at HPL
                    have b1 : decide ((n : Int) < (pn : Int)) = false := decide_eq_false (by omega)
                    have b2 : decide (n < pn) = false := decide_eq_false (by omega)
                    have b9 : (n < pn) = False := eq_false (by omega)
                    clear hr
                    have qR0 : wr.cell? ⟨N, 0, none⟩ = some (.int .i64 base) := cell_at HR.out 0
                    have qR1 : wr.cell? ⟨N, 1, none⟩ = some (.int .i64 term) := cell_at HR.out 1
                    have qR2 : wr.cell? ⟨N, 2, none⟩ = some (.slice a ln c) := cell_at HR.out 2
                    have qRz : ∀ j, wr.frozen? ⟨N, j, none⟩ = false := fun j => free_at HR.out j
                    have qRl : N < wr.heap.size := HR.out.lt
                    go_wp2_with fail
                    (refine wp_region_quiet_lit (by kernel_rfl) (by kernel_rfl) ?_; (repeat (first | go_big_quiet_step (fail) | (refine BigFrame.wpQuiet_skip (by rfl) ?_; try simp only [Act.put, List.setIfInBounds_toArray, List.set_cons_zero, List.set_cons_succ]))); refine wpQuiet_nil ?_; intro _ hw9; obtain ⟨nq, hw8⟩ := hw9; subst hw8)
                    clear qR0 qR1 qR2 qRz qRl
                    obtain ⟨W7, hWn⟩ : ∃ X, X = wr.drewN nq := ⟨_, rfl⟩
                    rw [← hWn]
                    have hB : Below wr.heap.size wr W7 := by rw [hWn]; exact dN _ _
                    clear hWn
                    replace HB := Lib.hid (HB.out.trans (hB.mono HB.out.size))
                    replace HR := Lib.hid (HR.out.step hB)
                    replace HK1 := Lib.hid (HK1.out.step hB)
                    clear hB
                    obtain ⟨M, hM⟩ : ∃ n0, n0 = W7.heap.size := ⟨_, rfl⟩
                    have HLOM : Hid (w.heap.size ≤ M) := Lib.hid (by have := HB.out.size; omega)
                    have HFM : Hid (M ≤ W7.heap.size) := Lib.hid (by omega)
                    have HXMHR : Hid (N < M) := Lib.hid (by rw [hM]; exact HR.out.lt)
                    have HXMHK1 : Hid ((N + 1) < M) := Lib.hid (by rw [hM]; exact HK1.out.lt)
                    clear hM
                    have qR0 : W7.cell? ⟨N, 0, none⟩ = some (.int .i64 base) := cell_at HR.out 0
                    have qR1 : W7.cell? ⟨N, 1, none⟩ = some (.int .i64 term) := cell_at HR.out 1
                    have qR2 : W7.cell? ⟨N, 2, none⟩ = some (.slice a ln c) := cell_at HR.out 2
                    have qRz : ∀ j, W7.frozen? ⟨N, j, none⟩ = false := fun j => free_at HR.out j
                    have qRl : N < W7.heap.size := HR.out.lt
                    obtain ⟨v8, ob8, W8, hrun, hor, hBM⟩ := appR (ty := 22) (or_nil w W7 M HLOM.out) HR0.out HB.out HFM.out (by rw [List.length_nil]; have h2 := Hln.out; omega)
                    have HRUN := Lib.hid hrun
                    go_upto_region 23 with (at_builtin; refine Lib.wpList_append_run _ rfl (.tmp 145) (.tmp 147) 22 22 rfl _ _ rfl rfl _ _ HRUN.out ?_)
                    clear qR0 qR1 qR2 qRz qRl
                    replace HB := Lib.hid (HB.out.trans (hBM.mono (by have hq := HLOM.out; omega)))
                    replace HR := Lib.hid (HR.out.stepM hBM (by have hq := HXMHR.out; omega))
                    replace HK1 := Lib.hid (HK1.out.stepM hBM (by have hq := HXMHK1.out; omega))
                    replace HFM := Lib.hid (Nat.le_trans HFM.out hBM.size)
                    have HOR := Lib.hid hor
                    clear HRUN hrun hor hBM
                    rw [List.nil_append] at HOR
                    obtain ⟨a3, n3, c3, rfl, Hn3, e1, e2⟩ := HOR.out.sh
                    obtain rfl : ln = n3 := Hln.out.trans Hn3.out.symm
                    have HV4 := Lib.hid (HOR.out.rv HB.out (by have h2 := Hln.out; omega))
                    rw [← HPL.out] at HV4
                    clear HOR
                    have qR0 : W8.cell? ⟨N, 0, none⟩ = some (.int .i64 base) := cell_at HR.out 0
                    have qR1 : W8.cell? ⟨N, 1, none⟩ = some (.int .i64 term) := cell_at HR.out 1
                    have qR2 : W8.cell? ⟨N, 2, none⟩ = some (.slice a ln c) := cell_at HR.out 2
                    have qRz : ∀ j, W8.frozen? ⟨N, j, none⟩ = false := fun j => free_at HR.out j
                    have qRl : N < W8.heap.size := HR.out.lt
                    go_wp2_with fail
                    go_at_call 33
                    go_fit (HMD.out _ _ HV4.out)
                    rintro e W9 ⟨⟨v5, rfl, hv5⟩, hB⟩
                    clear qR0 qR1 qR2 qRz qRl
                    replace HB := Lib.hid (HB.out.trans (hB.mono HB.out.size))
                    replace HR := Lib.hid (HR.out.step hB)
                    replace HK1 := Lib.hid (HK1.out.step hB)
                    replace HFM := Lib.hid (Nat.le_trans HFM.out hB.size)
                    clear hB
                    obtain ⟨a5, l5, c5, rfl, Hl5, l51, l52, l53⟩ := hv5.sh
                    have HV5 := Lib.hid hv5
                    clear hv5
                    go_upto_region 26 with fail
                    obtain ⟨Q, hQ⟩ : ∃ n0, n0 = W9.heap.size := ⟨_, rfl⟩
                    have HXQHR : Hid (N < Q) := Lib.hid (by rw [hQ]; exact HR.out.lt)
                    have HXQHK1 : Hid ((N + 1) < Q) := Lib.hid (by rw [hQ]; exact HK1.out.lt)
                    have HLOQ : Hid (w.heap.size ≤ Q) := Lib.hid (by have := HB.out.size; omega)
                    obtain ⟨W10, hA0⟩ : ∃ W0, W0 = W9.alloc (.cells #[.int .i64 mb, .int .i64 mt, .slice a5 l5 c5] 24) := ⟨_, rfl⟩
                    have hB : Below W9.heap.size W9 W10 := by rw [hA0]; exact (Below.refl _ _).alloc (Nat.le_refl _) _
                    have hS0 : W10.heap.size = Q + 1 := by rw [hA0]; simp [← hQ]
                    have HQ := Lib.hid (show Blk W10 Q #[.int .i64 mb, .int .i64 mt, .slice a5 l5 c5] 24 by rw [hA0, hQ]; exact blk_new _ _ _)
                    replace HB := Lib.hid (HB.out.trans (hB.mono HB.out.size))
                    replace HR := Lib.hid (HR.out.step hB)
                    replace HK1 := Lib.hid (HK1.out.step hB)
                    replace HFM := Lib.hid (Nat.le_trans HFM.out hB.size)
                    replace HV5 := Lib.hid (HV5.out.below hB)
                    clear hB
                    have HSQ := Lib.hid hS0
                    rw [← hQ, ← hA0]
                    clear hA0 hQ hS0
                    rcases HME.out with rfl | ⟨rfl, rfl, rfl, hme⟩
                    · skip
                      rw [zi_eq] at HP
                      obtain rfl := HP.out
                      have qR0 : W10.cell? ⟨N, 0, none⟩ = some (.int .i64 base) := cell_at HR.out 0
                      have qR1 : W10.cell? ⟨N, 1, none⟩ = some (.int .i64 term) := cell_at HR.out 1
                      have qR2 : W10.cell? ⟨N, 2, none⟩ = some (.slice a ln c) := cell_at HR.out 2
                      have qRz : ∀ j, W10.frozen? ⟨N, j, none⟩ = false := fun j => free_at HR.out j
                      have qRl : N < W10.heap.size := HR.out.lt
                      have qQ0 : W10.cell? ⟨Q, 0, none⟩ = some (.int .i64 mb) := cell_at HQ.out 0
                      have qQ1 : W10.cell? ⟨Q, 1, none⟩ = some (.int .i64 mt) := cell_at HQ.out 1
                      have qQ2 : W10.cell? ⟨Q, 2, none⟩ = some (.slice a5 l5 c5) := cell_at HQ.out 2
                      have qQz : ∀ j, W10.frozen? ⟨Q, j, none⟩ = false := fun j => free_at HQ.out j
                      have qQl : Q < W10.heap.size := HQ.out.lt
                      have qK10 : W10.cell? ⟨(N + 1), 0, none⟩ = some (.int .i64 0) := cell_at HK1.out 0
                      have qK11 : W10.cell? ⟨(N + 1), 1, none⟩ = some (.int .i64 0) := cell_at HK1.out 1
                      have qK12 : W10.cell? ⟨(N + 1), 2, none⟩ = some (.slice none 0 0) := cell_at HK1.out 2
                      have qK1z : ∀ j, W10.frozen? ⟨(N + 1), j, none⟩ = false := fun j => free_at HK1.out j
                      have qK1l : (N + 1) < W10.heap.size := HK1.out.lt
                      go_wp2_with fail
                      clear qR0 qR1 qR2 qRz qRl qQ0 qQ1 qQ2 qQz qQl qK10 qK11 qK12 qK1z qK1l
                      obtain ⟨LS, hLS⟩ : ∃ L : List Value, L = [.int .i64 mb, .int .i64 mt, .slice a5 l5 c5] := ⟨_, rfl⟩
                      obtain ⟨W11, hWS⟩ : ∃ WS, WS = W10.setCells (N + 1) 0 LS := ⟨_, rfl⟩
                      have hch := hWS
                      rw [hLS] at hch
                      simp only [World.setCells, Nat.zero_add, Nat.reduceAdd] at hch
                      rw [← hch]
                      clear hch
                      have hkS := stC_blk HK1.out LS (by rw [hLS]; rfl)
                      have hfS := stC_fr (N + 1) LS 0 W10
                      rw [← hWS] at hkS hfS
                      rw [hLS] at hkS
                      replace HB := Lib.hid (HB.out.trans (hfS.below HB.out.size (by have := HLON.out; simp; try omega)))
                      replace HR := Lib.hid (show Blk W11 N #[.int .i64 base, .int .i64 term, .slice a ln c] 24 from (hfS.block _ HR.out.lt (by have hx0 := HXQHR.out; have hx1 := HXQHK1.out; simp; try omega)).trans HR.out)
                      replace HFM := Lib.hid (Nat.le_trans HFM.out hfS.size)
                      replace HV5 := Lib.hid (HV5.out.fr HK1.out hfS)
                      replace HQ := Lib.hid (show Blk W11 Q #[.int .i64 mb, .int .i64 mt, .slice a5 l5 c5] 24 from (hfS.block _ HQ.out.lt (by have hx0 := HXQHR.out; have hx1 := HXQHK1.out; simp; try omega)).trans HQ.out)
                      replace HK1 := Lib.hid (show Blk W11 (N + 1) #[.int .i64 mb, .int .i64 mt, .slice a5 l5 c5] 24 from hkS)
                      clear hWS hLS hkS hfS
                      have qK10 : W11.cell? ⟨(N + 1), 0, none⟩ = some (.int .i64 mb) := cell_at HK1.out 0
                      have qK11 : W11.cell? ⟨(N + 1), 1, none⟩ = some (.int .i64 mt) := cell_at HK1.out 1
                      have qK12 : W11.cell? ⟨(N + 1), 2, none⟩ = some (.slice a5 l5 c5) := cell_at HK1.out 2
                      have qK1z : ∀ j, W11.frozen? ⟨(N + 1), j, none⟩ = false := fun j => free_at HK1.out j
                      have qK1l : (N + 1) < W11.heap.size := HK1.out.lt
                      exact bodyPost_ret (v := .tuple #[.agg #[.int .i64 mb, .int .i64 mt, .slice a5 l5 c5], .int .i64 sm, .bool true, .int .i64 0]) (by simp [results, Try.results20, go_sem, qK10, qK11, qK12]) rfl ⟨⟨_, rfl, HV5.out⟩, HB.out⟩
                    · skip
                      have hz1 : zi me sm = 0 := by unfold zi; rw [if_neg (by omega)]
                      have hz2 : zb me true = false := by unfold zb; rw [if_neg (by omega)]
                      rw [hz1, hz2] at HP
                      obtain rfl := HP.out
                      rcases hme with rfl | rfl
                      all_goals
                        have qR0 : W10.cell? ⟨N, 0, none⟩ = some (.int .i64 base) := cell_at HR.out 0
                        have qR1 : W10.cell? ⟨N, 1, none⟩ = some (.int .i64 term) := cell_at HR.out 1
                        have qR2 : W10.cell? ⟨N, 2, none⟩ = some (.slice a ln c) := cell_at HR.out 2
                        have qRz : ∀ j, W10.frozen? ⟨N, j, none⟩ = false := fun j => free_at HR.out j
                        have qRl : N < W10.heap.size := HR.out.lt
                        have qQ0 : W10.cell? ⟨Q, 0, none⟩ = some (.int .i64 0) := cell_at HQ.out 0
                        have qQ1 : W10.cell? ⟨Q, 1, none⟩ = some (.int .i64 0) := cell_at HQ.out 1
                        have qQ2 : W10.cell? ⟨Q, 2, none⟩ = some (.slice a5 l5 c5) := cell_at HQ.out 2
                        have qQz : ∀ j, W10.frozen? ⟨Q, j, none⟩ = false := fun j => free_at HQ.out j
                        have qQl : Q < W10.heap.size := HQ.out.lt
                        have qK10 : W10.cell? ⟨(N + 1), 0, none⟩ = some (.int .i64 0) := cell_at HK1.out 0
                        have qK11 : W10.cell? ⟨(N + 1), 1, none⟩ = some (.int .i64 0) := cell_at HK1.out 1
                        have qK12 : W10.cell? ⟨(N + 1), 2, none⟩ = some (.slice none 0 0) := cell_at HK1.out 2
                        have qK1z : ∀ j, W10.frozen? ⟨(N + 1), j, none⟩ = false := fun j => free_at HK1.out j
                        have qK1l : (N + 1) < W10.heap.size := HK1.out.lt
                        go_wp2_with fail
                        clear qR0 qR1 qR2 qRz qRl qQ0 qQ1 qQ2 qQz qQl qK10 qK11 qK12 qK1z qK1l
                        obtain ⟨LS, hLS⟩ : ∃ L : List Value, L = [.int .i64 0, .int .i64 0, .slice none 0 0] := ⟨_, rfl⟩
                        obtain ⟨W11, hWS⟩ : ∃ WS, WS = W10.setCells (N + 1) 0 LS := ⟨_, rfl⟩
                        have hch := hWS
                        rw [hLS] at hch
                        simp only [World.setCells, Nat.zero_add, Nat.reduceAdd] at hch
                        rw [← hch]
                        clear hch
                        have hkS := stC_blk HK1.out LS (by rw [hLS]; rfl)
                        have hfS := stC_fr (N + 1) LS 0 W10
                        rw [← hWS] at hkS hfS
                        rw [hLS] at hkS
                        replace HB := Lib.hid (HB.out.trans (hfS.below HB.out.size (by have := HLON.out; simp; try omega)))
                        replace HR := Lib.hid (show Blk W11 N #[.int .i64 base, .int .i64 term, .slice a ln c] 24 from (hfS.block _ HR.out.lt (by have hx0 := HXQHR.out; have hx1 := HXQHK1.out; simp; try omega)).trans HR.out)
                        replace HFM := Lib.hid (Nat.le_trans HFM.out hfS.size)
                        replace HV5 := Lib.hid (HV5.out.fr HK1.out hfS)
                        replace HQ := Lib.hid (show Blk W11 Q #[.int .i64 0, .int .i64 0, .slice a5 l5 c5] 24 from (hfS.block _ HQ.out.lt (by have hx0 := HXQHR.out; have hx1 := HXQHK1.out; simp; try omega)).trans HQ.out)
                        replace HK1 := Lib.hid (show Blk W11 (N + 1) #[.int .i64 0, .int .i64 0, .slice none 0 0] 24 from hkS)
                        clear hWS hLS hkS hfS
                        have qK10 : W11.cell? ⟨(N + 1), 0, none⟩ = some (.int .i64 0) := cell_at HK1.out 0
                        have qK11 : W11.cell? ⟨(N + 1), 1, none⟩ = some (.int .i64 0) := cell_at HK1.out 1
                        have qK12 : W11.cell? ⟨(N + 1), 2, none⟩ = some (.slice none 0 0) := cell_at HK1.out 2
                        have qK1z : ∀ j, W11.frozen? ⟨(N + 1), j, none⟩ = false := fun j => free_at HK1.out j
                        have qK1l : (N + 1) < W11.heap.size := HK1.out.lt
                        first
                          | exact bodyPost_ret (v := .tuple #[.agg #[.int .i64 0, .int .i64 0, .slice none 0 0], .int .i64 0, .bool false, .int .i64 3]) (by simp [results, Try.results20, go_sem, qK10, qK11, qK12]) rfl ⟨⟨_, rfl, rv_nil _⟩, HB.out⟩
                          | exact bodyPost_ret (v := .tuple #[.agg #[.int .i64 0, .int .i64 0, .slice none 0 0], .int .i64 0, .bool false, .int .i64 90]) (by simp [results, Try.results20, go_sem, qK10, qK11, qK12]) rfl ⟨⟨_, rfl, rv_nil _⟩, HB.out⟩
            · skip
              exact absurd (HTE.out.trans HYP.out.2.2.2.2.2) k4
      · skip
        exact absurd (HE2.out.trans HYP.out.2.2.1) (by decide)
  · skip
    exact absurd (HE1.out.trans HYP.out.1) (by decide)
end Go.Proofs.Ytcadinoijclfnaa
