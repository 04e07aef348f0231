/-
  The law RowsMatch: where entries fit.
-/
import Derived.Test.YtcadinoijclfnaaRorP
import Derived.Test.YtcadinoijclfnaaRor2
import Derived.Test.YtcadinoijclfnaaRoj
import Derived.Test.YtcadinoijclfnaaRoh
import Derived.Test.YtcadinoijclfnaaRowL
import Derived.Deep.DeepFit
namespace Go.Proofs.Ytcadinoijclfnaa
open Go.RowKit
set_option linter.unusedSimpArgs false
set_option linter.unusedVariables false

set_option maxRecDepth 100000 in
set_option maxHeartbeats 16000000 in
theorem match_yes (base term idx first : Int) (v v2 : Value) (L l : List EnD) (w : World) (h : RV w v L) (h2 : RV w v2 l) (hb : bigB L) (hb2 : bigB l) (hx : -9223372036854775808 ≤ idx ∧ idx ≤ 9223372036854775807) (hk : okE base term L = 0) (i d : Nat) (hdl : d ≤ l.length) (hil : i ≤ L.length) (hid : idx = base + (i : Int) - (d : Int)) (hid2 : i = 0 ∨ d = 0) (hp : putF base term L idx first l = ⟨base, term, putL L (l.drop d) i, idx + l.length, true, 0⟩) (hyk : okE base term (putL L (l.drop d) i) = 0) (hyl : (putL L (l.drop d) i).length ≤ 4096) (hp2 : putF base term (putL L (l.drop d) i) idx first l = ⟨base, term, putL L (l.drop d) i, idx + l.length, true, 0⟩) (hi0 : 0 ≤ idx ∧ idx ≤ 1099511627776) (hl5 : l.length ≤ 16) :
    Calls Try.prog 5 #[.agg #[.int .i64 base, .int .i64 term, v], .int .i64 idx, .int .i64 first, v2] w fun e w' => e = .returned (.bool true) ∧ Below w.heap.size w w' := by
  obtain ⟨a, ln, c, rfl, Hln, m1, m2, m3⟩ := h.sh
  obtain ⟨a2, l2, c2, rfl, Hl2, n1, n2, n3⟩ := h2.sh
  have HV := Lib.hid h
  have HV2 := Lib.hid h2
  have HGR := Lib.hid (fun W (h : RV W (.slice a ln c) L) => greatR_any base term _ L W h hb)
  have HLG := Lib.hid (fun W (h : RV W (.slice a2 l2 c2) l) => long_any _ l W h hb2)
  have HCK := Lib.hid (fun W (h : RV W (.slice a ln c) L) => rcheckR_any base term _ L W h)
  rw [hk] at HCK
  have HLS := Lib.hid (fun W (h : RV W (.slice a ln c) L) => rlastR_any base term _ L W h hk)
  obtain ⟨b0, b1, b2, b3⟩ := okE_head hk
  rw [← Hln.out] at HLS b1 b2
  obtain ⟨en, hen⟩ : ∃ en, en = base + (ln : Int) := ⟨_, rfl⟩
  rw [← hen] at HLS
  have HEN := Lib.hid hen
  have HP1 := Lib.hid (fun W (h : RV W (.slice a ln c) L) (h2 : RV W (.slice a2 l2 c2) l) hl => put_any base term idx first _ _ L l W h h2 hl)
  have f1 : (base != base) = false := by simp
  have f2 : (term != term) = false := by simp
  rw [hp] at HP1
  have HP2 := Lib.hid (fun W v (h : RV W v (putL L (l.drop d) i)) (h2 : RV W (.slice a2 l2 c2) l) => put_any base term idx first v _ _ l W h h2 (by omega))
  rw [hp2] at HP2
  unfold RwOut at HP1 HP2
  simp only at HP1 HP2
  have HCY := Lib.hid (fun W v (h : RV W v (putL L (l.drop d) i)) => rcheckR_any base term v _ W h)
  rw [hyk] at HCY
  have HIL := Lib.hid hil
  have HLK := Lib.hid hk
  have HID := Lib.hid (And.intro hid hid2)
  obtain ⟨Y, hY⟩ : ∃ Y, Y = putL L (l.drop d) i := ⟨_, rfl⟩
  rw [← hY] at HP1 HP2 HCY hyk hyl
  have HYE := Lib.hid hY
  have HYK := Lib.hid hyk
  have HYL := Lib.hid hyl
  rw [← Hl2.out] at HP1 HP2 hdl hl5
  obtain ⟨sm, hsm⟩ : ∃ sm, sm = idx + (l2 : Int) := ⟨_, rfl⟩
  rw [← hsm] at HP1 HP2
  have HSM := Lib.hid hsm
  obtain ⟨i0, i1⟩ := hi0
  clear hp hp2 hk hen hil hid hid2 hY hyk hyl hsm
  clear h h2 hb hb2
  have HB : Hid (Below w.heap.size w w) := Lib.hid (Below.refl _ _)
  go_enter Try.func5, Try.ntmps5
  go_upto_region 1 with fail
  obtain ⟨N, hN⟩ : ∃ n0, n0 = w.heap.size := ⟨_, rfl⟩
  have HLON : Hid (w.heap.size ≤ N) := Lib.hid (by have := HB.out.size; omega)
  obtain ⟨W1, hA0⟩ : ∃ W0, W0 = w.alloc (.cells #[.int .i64 base, .int .i64 term, .slice a ln c] 24) := ⟨_, rfl⟩
  have hB : Below w.heap.size w W1 := by rw [hA0]; exact (Below.refl _ _).alloc (Nat.le_refl _) _
  have hS0 : W1.heap.size = N + 1 := by rw [hA0]; simp [← hN]
  have HR := Lib.hid (show Blk W1 N #[.int .i64 base, .int .i64 term, .slice a ln c] 24 by rw [hA0, hN]; exact blk_new _ _ _)
  replace HB := Lib.hid (HB.out.trans (hB.mono HB.out.size))
  replace HV := Lib.hid (HV.out.below hB)
  replace HV2 := Lib.hid (HV2.out.below hB)
  clear hB
  have HSN := Lib.hid hS0
  rw [← hN, ← hA0]
  clear hA0 hN hS0
  have qR0 : W1.cell? ⟨N, 0, none⟩ = some (.int .i64 base) := cell_at HR.out 0
  have qR1 : W1.cell? ⟨N, 1, none⟩ = some (.int .i64 term) := cell_at HR.out 1
  have qR2 : W1.cell? ⟨N, 2, none⟩ = some (.slice a ln c) := cell_at HR.out 2
  have qRz : ∀ j, W1.frozen? ⟨N, j, none⟩ = false := fun j => free_at HR.out j
  have qRl : N < W1.heap.size := HR.out.lt
  go_wp2_with fail
  go_at_call 8
  go_fit (HGR.out _ HV.out)
  rintro e W2 ⟨q, rfl, hq, hB⟩
  clear qR0 qR1 qR2 qRz qRl
  replace HB := Lib.hid (HB.out.trans (hB.mono HB.out.size))
  replace HV := Lib.hid (HV.out.below hB)
  replace HV2 := Lib.hid (HV2.out.below hB)
  replace HR := Lib.hid (HR.out.step hB)
  clear hB
  cases q
  · skip
    have HS1 := Lib.hid (hq rfl)
    clear hq
    go_wp2_with fail
    go_at_call 9
    go_fit (HLG.out _ HV2.out)
    rintro e W3 ⟨q, rfl, hq, hB⟩
    replace HB := Lib.hid (HB.out.trans (hB.mono HB.out.size))
    replace HV := Lib.hid (HV.out.below hB)
    replace HV2 := Lib.hid (HV2.out.below hB)
    replace HR := Lib.hid (HR.out.step hB)
    clear hB
    cases q
    · skip
      have HS2 := Lib.hid (hq rfl)
      clear hq
      have qR0 : W3.cell? ⟨N, 0, none⟩ = some (.int .i64 base) := cell_at HR.out 0
      have qR1 : W3.cell? ⟨N, 1, none⟩ = some (.int .i64 term) := cell_at HR.out 1
      have qR2 : W3.cell? ⟨N, 2, none⟩ = some (.slice a ln c) := cell_at HR.out 2
      have qRz : ∀ j, W3.frozen? ⟨N, j, none⟩ = false := fun j => free_at HR.out j
      have qRl : N < W3.heap.size := HR.out.lt
      go_wp2_with fail
      go_at_call 21
      go_fit (HCK.out _ HV.out)
      rintro e W4 ⟨rfl, hB⟩
      clear qR0 qR1 qR2 qRz qRl
      replace HB := Lib.hid (HB.out.trans (hB.mono HB.out.size))
      replace HV := Lib.hid (HV.out.below hB)
      replace HV2 := Lib.hid (HV2.out.below hB)
      replace HR := Lib.hid (HR.out.step hB)
      clear hB
      have qR0 : W4.cell? ⟨N, 0, none⟩ = some (.int .i64 base) := cell_at HR.out 0
      have qR1 : W4.cell? ⟨N, 1, none⟩ = some (.int .i64 term) := cell_at HR.out 1
      have qR2 : W4.cell? ⟨N, 2, none⟩ = some (.slice a ln c) := cell_at HR.out 2
      have qRz : ∀ j, W4.frozen? ⟨N, j, none⟩ = false := fun j => free_at HR.out j
      have qRl : N < W4.heap.size := HR.out.lt
      go_wp2_with fail
      go_at_call 19
      go_fit (HP1.out _ HV.out HV2.out (by have := HS2.out.1; omega))
      rintro e W5 ⟨⟨v5, rfl, hv5⟩, hB⟩
      clear qR0 qR1 qR2 qRz qRl
      replace HB := Lib.hid (HB.out.trans (hB.mono HB.out.size))
      replace HV := Lib.hid (HV.out.below hB)
      replace HV2 := Lib.hid (HV2.out.below hB)
      replace HR := Lib.hid (HR.out.step hB)
      clear hB
      obtain ⟨a5, l5, c5, rfl, Hl5, l51, l52, l53⟩ := hv5.sh
      have HV5 := Lib.hid hv5
      clear hv5
      go_upto_region 4 with fail
      obtain ⟨A9, hA9⟩ : ∃ n0, n0 = W5.heap.size := ⟨_, rfl⟩
      have HXA9HR : Hid (N < A9) := Lib.hid (by rw [hA9]; exact HR.out.lt)
      have HLOA9 : Hid (w.heap.size ≤ A9) := Lib.hid (by have := HB.out.size; omega)
      obtain ⟨W6, hA0⟩ : ∃ W0, W0 = W5.alloc (.cells #[.int .i64 base, .int .i64 term, .slice a5 l5 c5] 24) := ⟨_, rfl⟩
      have hB : Below W5.heap.size W5 W6 := by rw [hA0]; exact (Below.refl _ _).alloc (Nat.le_refl _) _
      have hS0 : W6.heap.size = A9 + 1 := by rw [hA0]; simp [← hA9]
      have HA := Lib.hid (show Blk W6 A9 #[.int .i64 base, .int .i64 term, .slice a5 l5 c5] 24 by rw [hA0, hA9]; exact blk_new _ _ _)
      replace HB := Lib.hid (HB.out.trans (hB.mono HB.out.size))
      replace HV := Lib.hid (HV.out.below hB)
      replace HV2 := Lib.hid (HV2.out.below hB)
      replace HR := Lib.hid (HR.out.step hB)
      replace HV5 := Lib.hid (HV5.out.below hB)
      clear hB
      have HSA9 := Lib.hid hS0
      rw [← hA9, ← hA0]
      clear hA0 hA9 hS0
      have qR0 : W6.cell? ⟨N, 0, none⟩ = some (.int .i64 base) := cell_at HR.out 0
      have qR1 : W6.cell? ⟨N, 1, none⟩ = some (.int .i64 term) := cell_at HR.out 1
      have qR2 : W6.cell? ⟨N, 2, none⟩ = some (.slice a ln c) := cell_at HR.out 2
      have qRz : ∀ j, W6.frozen? ⟨N, j, none⟩ = false := fun j => free_at HR.out j
      have qRl : N < W6.heap.size := HR.out.lt
      obtain ⟨lt, HL9⟩ := HLS.out W6 HV.out
      have HL := Lib.hid HL9
      clear HL9
      go_wp2_with fail
      go_at_call 22
      go_fit HL.out
      rintro e W7 ⟨rfl, hB⟩
      clear qR0 qR1 qR2 qRz qRl
      replace HB := Lib.hid (HB.out.trans (hB.mono HB.out.size))
      replace HV := Lib.hid (HV.out.below hB)
      replace HV2 := Lib.hid (HV2.out.below hB)
      replace HR := Lib.hid (HR.out.step hB)
      replace HV5 := Lib.hid (HV5.out.below hB)
      replace HA := Lib.hid (HA.out.step hB)
      clear hB
      have qA0 : W7.cell? ⟨A9, 0, none⟩ = some (.int .i64 base) := cell_at HA.out 0
      have qA1 : W7.cell? ⟨A9, 1, none⟩ = some (.int .i64 term) := cell_at HA.out 1
      have qA2 : W7.cell? ⟨A9, 2, none⟩ = some (.slice a5 l5 c5) := cell_at HA.out 2
      have qAz : ∀ j, W7.frozen? ⟨A9, j, none⟩ = false := fun j => free_at HA.out j
      have qAl : A9 < W7.heap.size := HA.out.lt
      have qR0 : W7.cell? ⟨N, 0, none⟩ = some (.int .i64 base) := cell_at HR.out 0
      have qR1 : W7.cell? ⟨N, 1, none⟩ = some (.int .i64 term) := cell_at HR.out 1
      have qR2 : W7.cell? ⟨N, 2, none⟩ = some (.slice a ln c) := cell_at HR.out 2
      have qRz : ∀ j, W7.frozen? ⟨N, j, none⟩ = false := fun j => free_at HR.out j
      have qRl : N < W7.heap.size := HR.out.lt
      go_wp2_with fail
      go_at_call 21
      go_fit (HCY.out _ _ HV5.out)
      rintro e W8 ⟨rfl, hB⟩
      clear qA0 qA1 qA2 qAz qAl qR0 qR1 qR2 qRz qRl
      replace HB := Lib.hid (HB.out.trans (hB.mono HB.out.size))
      replace HV := Lib.hid (HV.out.below hB)
      replace HV2 := Lib.hid (HV2.out.below hB)
      replace HR := Lib.hid (HR.out.step hB)
      replace HV5 := Lib.hid (HV5.out.below hB)
      replace HA := Lib.hid (HA.out.step hB)
      clear hB
      have ww1 : IntKind.i64.wrap (idx + (l2 : Int)) = sm := (IntWalk.i64_in _ (by omega)).trans HSM.out.symm
      have ww2 : (sm != sm) = false := by simp
      have ww3 : (sm = sm) = True := eq_true rfl
      have qA0 : W8.cell? ⟨A9, 0, none⟩ = some (.int .i64 base) := cell_at HA.out 0
      have qA1 : W8.cell? ⟨A9, 1, none⟩ = some (.int .i64 term) := cell_at HA.out 1
      have qA2 : W8.cell? ⟨A9, 2, none⟩ = some (.slice a5 l5 c5) := cell_at HA.out 2
      have qAz : ∀ j, W8.frozen? ⟨A9, j, none⟩ = false := fun j => free_at HA.out j
      have qAl : A9 < W8.heap.size := HA.out.lt
      have qR0 : W8.cell? ⟨N, 0, none⟩ = some (.int .i64 base) := cell_at HR.out 0
      have qR1 : W8.cell? ⟨N, 1, none⟩ = some (.int .i64 term) := cell_at HR.out 1
      have qR2 : W8.cell? ⟨N, 2, none⟩ = some (.slice a ln c) := cell_at HR.out 2
      have qRz : ∀ j, W8.frozen? ⟨N, j, none⟩ = false := fun j => free_at HR.out j
      have qRl : N < W8.heap.size := HR.out.lt
      go_wp2_with fail
      clear qA0 qA1 qA2 qAz qAl qR0 qR1 qR2 qRz qRl
      go_loopw [15, 16, 17, 112] (fun x15 x16 x17 k wr => ∃ n : Nat, n ≤ l2 ∧ k = .int .i64 n ∧ Below W8.heap.size W8 wr) (fun _ _ _ k _ => l2 - (intOf k).toNat)
      case atStart => exact ⟨0, Nat.zero_le _, rfl, Below.refl _ _⟩
      case round =>
        obtain ⟨n, hn, rfl, hB⟩ := hrel
        have HBC := Lib.hid hB
        replace HB := Lib.hid (HB.out.trans (hB.mono HB.out.size))
        replace HV := Lib.hid (HV.out.below hB)
        replace HV2 := Lib.hid (HV2.out.below hB)
        replace HR := Lib.hid (HR.out.step hB)
        replace HV5 := Lib.hid (HV5.out.below hB)
        replace HA := Lib.hid (HA.out.step hB)
        clear hB
        by_cases hk : n < l2
        · skip
          have b9 : (n < l2) = True := eq_true hk
          obtain ⟨u, hu⟩ : ∃ u, u = idx + 1 := ⟨_, rfl⟩
          have wu1 : IntKind.i64.wrap (idx + 1) = u := (IntWalk.i64_in _ (by omega)).trans hu.symm
          obtain ⟨p, hp⟩ : ∃ p, p = u + (n : Int) := ⟨_, rfl⟩
          have wu2 : IntKind.i64.wrap (u + (n : Int)) = p := (IntWalk.i64_in _ (by omega)).trans hp.symm
          have hid := HID.out
          by_cases hd : p ≤ base
          · skip
            have d7 : decide (p ≤ base) = true := decide_eq_true hd
            clear hd hu hp hid
            have qR0 : wr.cell? ⟨N, 0, none⟩ = some (.int .i64 base) := cell_at HR.out 0
            have qR1 : wr.cell? ⟨N, 1, none⟩ = some (.int .i64 term) := cell_at HR.out 1
            have qR2 : wr.cell? ⟨N, 2, none⟩ = some (.slice a ln c) := cell_at HR.out 2
            have qRz : ∀ j, wr.frozen? ⟨N, j, none⟩ = false := fun j => free_at HR.out j
            have qRl : N < wr.heap.size := HR.out.lt
            go_wp2_with fail
            go_roundw
            case rel => exact ⟨n + 1, by omega, by go_num, HBC.out⟩
            case measure => first | (simp [intOf]; done) | (simp [intOf]; omega)
          · skip
            have d7 : decide (p ≤ base) = false := decide_eq_false hd
            obtain ⟨m, hm⟩ : ∃ m : Nat, n = d + m := ⟨n - d, by omega⟩
            obtain ⟨g, o, z, ez, g1, g2, g3⟩ := HV2.out.at n hk
            have hzd : (l.drop d)[m]? = some z := by rw [List.getElem?_drop, ← hm]; exact g2
            obtain ⟨y, hy, hyt⟩ := putL_at (i := i) HIL.out hzd
            rw [← HYE.out] at hy
            have hpj : (p - base - 1).toNat = i + m := by omega
            have hpl : p ≤ base + (Y.length : Int) := by
              have := (List.getElem?_eq_some_iff.1 hy).1
              omega
            have HEN2 := Lib.hid (rentry_in base term p _ Y _ HV5.out HYK.out ⟨by omega, hpl⟩)
            rw [hpj, hy] at HEN2
            have HYT := Lib.hid hyt
            have HZN := Lib.hid g2
            subst ez
            clear hd hu hp hid hm hzd hy hyt hpj hpl g2
            have qR0 : wr.cell? ⟨N, 0, none⟩ = some (.int .i64 base) := cell_at HR.out 0
            have qR1 : wr.cell? ⟨N, 1, none⟩ = some (.int .i64 term) := cell_at HR.out 1
            have qR2 : wr.cell? ⟨N, 2, none⟩ = some (.slice a ln c) := cell_at HR.out 2
            have qRz : ∀ j, wr.frozen? ⟨N, j, none⟩ = false := fun j => free_at HR.out j
            have qRl : N < wr.heap.size := HR.out.lt
            have qA0 : wr.cell? ⟨A9, 0, none⟩ = some (.int .i64 base) := cell_at HA.out 0
            have qA1 : wr.cell? ⟨A9, 1, none⟩ = some (.int .i64 term) := cell_at HA.out 1
            have qA2 : wr.cell? ⟨A9, 2, none⟩ = some (.slice a5 l5 c5) := cell_at HA.out 2
            have qAz : ∀ j, wr.frozen? ⟨A9, j, none⟩ = false := fun j => free_at HA.out j
            have qAl : A9 < wr.heap.size := HA.out.lt
            go_wp2_with fail
            go_at_call 23
            go_fit HEN2.out
            rintro e W9 ⟨x, rfl, hx9, hxb, hB⟩
            clear qR0 qR1 qR2 qRz qRl qA0 qA1 qA2 qAz qAl
            replace HB := Lib.hid (HB.out.trans (hB.mono HB.out.size))
            replace HV := Lib.hid (HV.out.below hB)
            replace HV2 := Lib.hid (HV2.out.below hB)
            replace HR := Lib.hid (HR.out.step hB)
            replace HV5 := Lib.hid (HV5.out.below hB)
            replace HA := Lib.hid (HA.out.step hB)
            replace HBC := Lib.hid (HBC.out.trans (hB.mono HBC.out.size))
            clear hB
            have hxt : x.t = z.t := by
              have := Option.some.inj hx9
              rw [← HYT.out, this]
              rfl
            have HXT := Lib.hid hxt
            clear hxt hx9 hxb HEN2
            go_upto_region 18 with fail
            obtain ⟨E9, hE9⟩ : ∃ n0, n0 = W9.heap.size := ⟨_, rfl⟩
            have HXE9HR : Hid (N < E9) := Lib.hid (by rw [hE9]; exact HR.out.lt)
            have HXE9HA : Hid (A9 < E9) := Lib.hid (by rw [hE9]; exact HA.out.lt)
            have HLOE9 : Hid (w.heap.size ≤ E9) := Lib.hid (by have := HB.out.size; omega)
            obtain ⟨W10, hA0⟩ : ∃ W0, W0 = W9.alloc (.cells #[.int .i64 x.t, .int .i8 x.k, .int .i64 x.s, .int .u8 x.st, .slice x.da x.dl x.dc] 47) := ⟨_, rfl⟩
            have hB : Below W9.heap.size W9 W10 := by rw [hA0]; exact (Below.refl _ _).alloc (Nat.le_refl _) _
            have hS0 : W10.heap.size = E9 + 1 := by rw [hA0]; simp [← hE9]
            have HE := Lib.hid (show Blk W10 E9 #[.int .i64 x.t, .int .i8 x.k, .int .i64 x.s, .int .u8 x.st, .slice x.da x.dl x.dc] 47 by rw [hA0, hE9]; exact blk_new _ _ _)
            replace HB := Lib.hid (HB.out.trans (hB.mono HB.out.size))
            replace HV := Lib.hid (HV.out.below hB)
            replace HV2 := Lib.hid (HV2.out.below hB)
            replace HR := Lib.hid (HR.out.step hB)
            replace HV5 := Lib.hid (HV5.out.below hB)
            replace HA := Lib.hid (HA.out.step hB)
            replace HBC := Lib.hid (HBC.out.trans (hB.mono HBC.out.size))
            clear hB
            have HSE9 := Lib.hid hS0
            rw [← hE9, ← hA0]
            clear hA0 hE9 hS0
            have g4 := HV2.out.at n hk
            obtain ⟨g', o', z', ez, q1, q2, q3⟩ := g4
            injection ez with ez1
            injection ez1 with ez2 ez3 _
            subst ez2 ez3
            have hzz : z' = z := by
              have h1 := HZN.out
              exact Option.some.inj (q2.symm.trans h1)
            subst hzz
            have c9 : W10.cell? ⟨E9, 0, none⟩ = some (.int .i64 z'.t) := by rw [← HXT.out]; exact cell_at HE.out 0
            have l9 : E9 < W10.heap.size := HE.out.lt
            have d8 : (z'.t != z'.t) = false := by simp
            clear g1 g3 q2
            go_wp2_with fail
            (refine wp_region_quiet_lit (by kernel_rfl) (by kernel_rfl) ?_; (repeat (first | go_big_quiet_step (fail) | (refine BigFrame.wpQuiet_skip (by rfl) ?_; try simp only [Act.put, List.setIfInBounds_toArray, List.set_cons_zero, List.set_cons_succ]))); refine wpQuiet_nil ?_; intro _ hw9; obtain ⟨nq, hw8⟩ := hw9; subst hw8)
            obtain ⟨W11, hWn⟩ : ∃ X, X = W10.drewN nq := ⟨_, rfl⟩
            rw [← hWn]
            have hB : Below W10.heap.size W10 W11 := by rw [hWn]; exact dN _ _
            clear hWn
            replace HB := Lib.hid (HB.out.trans (hB.mono HB.out.size))
            replace HV := Lib.hid (HV.out.below hB)
            replace HV2 := Lib.hid (HV2.out.below hB)
            replace HR := Lib.hid (HR.out.step hB)
            replace HV5 := Lib.hid (HV5.out.below hB)
            replace HA := Lib.hid (HA.out.step hB)
            replace HBC := Lib.hid (HBC.out.trans (hB.mono HBC.out.size))
            replace HE := Lib.hid (HE.out.step hB)
            clear hB
            go_wp2_with fail
            go_roundw
            case rel => exact ⟨n + 1, by omega, by go_num, HBC.out⟩
            case measure => first | (simp [intOf]; done) | (simp [intOf]; omega)
        · skip
          have b9 : (n < l2) = False := eq_false hk
          obtain rfl : n = l2 := by omega
          clear hk HBC
          obtain ⟨V1, hW9⟩ : ∃ X, X = wr := ⟨_, rfl⟩
          subst hW9
          obtain ⟨u, hu⟩ : ∃ u, u = base + 1 := ⟨_, rfl⟩
          have wu1 : IntKind.i64.wrap (base + 1) = u := (IntWalk.i64_in _ (by omega)).trans hu.symm
          have HU := Lib.hid hu
          clear hu
          have qR0 : V1.cell? ⟨N, 0, none⟩ = some (.int .i64 base) := cell_at HR.out 0
          have qR1 : V1.cell? ⟨N, 1, none⟩ = some (.int .i64 term) := cell_at HR.out 1
          have qR2 : V1.cell? ⟨N, 2, none⟩ = some (.slice a ln c) := cell_at HR.out 2
          have qRz : ∀ j, V1.frozen? ⟨N, j, none⟩ = false := fun j => free_at HR.out j
          have qRl : N < V1.heap.size := HR.out.lt
          go_wp2_with fail
          clear qR0 qR1 qR2 qRz qRl
          go_loopw [18, 19, 20, 21, 22] (fun k x19 x20 x21 x22 wr => ∃ j : Nat, j ≤ ln ∧ k = .int .i64 (u + (j : Int)) ∧ Below V1.heap.size V1 wr) (fun k _ _ _ _ _ => (en + 1 - intOf k).toNat)
          case atStart => exact ⟨0, Nat.zero_le _, by simp, Below.refl _ _⟩
          case round =>
            obtain ⟨j, hj, rfl, hB⟩ := hrel
            have HBC := Lib.hid hB
            replace HB := Lib.hid (HB.out.trans (hB.mono HB.out.size))
            replace HV := Lib.hid (HV.out.below hB)
            replace HV2 := Lib.hid (HV2.out.below hB)
            replace HR := Lib.hid (HR.out.step hB)
            replace HV5 := Lib.hid (HV5.out.below hB)
            replace HA := Lib.hid (HA.out.step hB)
            clear hB
            obtain ⟨p, hp⟩ : ∃ p, p = u + (j : Int) := ⟨_, rfl⟩
            rw [← hp]
            have HPU := Lib.hid hp
            have wu2 : IntKind.i64.wrap (p + 1) = p + 1 := IntWalk.i64_in _ (by have := HU.out; omega)
            by_cases hk : j < ln
            · skip
              have d7 : decide (p ≤ en) = true := decide_eq_true (by have h1 := HU.out; have h2 := HEN.out; omega)
              have hpj : (p - base - 1).toNat = j := by have h1 := HU.out; omega
              have HE1 := Lib.hid (rentry_in base term p _ L _ HV.out HLK.out ⟨by have h1 := HU.out; omega, by have h1 := HU.out; rw [← Hln.out]; omega⟩)
              rw [hpj] at HE1
              clear hp
              have qR0 : wr.cell? ⟨N, 0, none⟩ = some (.int .i64 base) := cell_at HR.out 0
              have qR1 : wr.cell? ⟨N, 1, none⟩ = some (.int .i64 term) := cell_at HR.out 1
              have qR2 : wr.cell? ⟨N, 2, none⟩ = some (.slice a ln c) := cell_at HR.out 2
              have qRz : ∀ j, wr.frozen? ⟨N, j, none⟩ = false := fun j => free_at HR.out j
              have qRl : N < wr.heap.size := HR.out.lt
              go_wp2_with fail
              go_at_call 23
              go_fit HE1.out
              rintro e W9 ⟨x, rfl, hx9, hxb, hB⟩
              clear qR0 qR1 qR2 qRz qRl
              replace HB := Lib.hid (HB.out.trans (hB.mono HB.out.size))
              replace HV := Lib.hid (HV.out.below hB)
              replace HV2 := Lib.hid (HV2.out.below hB)
              replace HR := Lib.hid (HR.out.step hB)
              replace HV5 := Lib.hid (HV5.out.below hB)
              replace HA := Lib.hid (HA.out.step hB)
              replace HBC := Lib.hid (HBC.out.trans (hB.mono HBC.out.size))
              clear hB
              have HX := Lib.hid hx9
              have HXB := Lib.hid hxb
              clear hx9 hxb HE1
              go_upto_region 25 with fail
              obtain ⟨E9, hE9⟩ : ∃ n0, n0 = W9.heap.size := ⟨_, rfl⟩
              have HXE9HR : Hid (N < E9) := Lib.hid (by rw [hE9]; exact HR.out.lt)
              have HXE9HA : Hid (A9 < E9) := Lib.hid (by rw [hE9]; exact HA.out.lt)
              have HLOE9 : Hid (w.heap.size ≤ E9) := Lib.hid (by have := HB.out.size; omega)
              obtain ⟨W10, hA0⟩ : ∃ W0, W0 = W9.alloc (.cells #[.int .i64 x.t, .int .i8 x.k, .int .i64 x.s, .int .u8 x.st, .slice x.da x.dl x.dc] 47) := ⟨_, rfl⟩
              have hB : Below W9.heap.size W9 W10 := by rw [hA0]; exact (Below.refl _ _).alloc (Nat.le_refl _) _
              have hS0 : W10.heap.size = E9 + 1 := by rw [hA0]; simp [← hE9]
              have HE := Lib.hid (show Blk W10 E9 #[.int .i64 x.t, .int .i8 x.k, .int .i64 x.s, .int .u8 x.st, .slice x.da x.dl x.dc] 47 by rw [hA0, hE9]; exact blk_new _ _ _)
              replace HB := Lib.hid (HB.out.trans (hB.mono HB.out.size))
              replace HV := Lib.hid (HV.out.below hB)
              replace HV2 := Lib.hid (HV2.out.below hB)
              replace HR := Lib.hid (HR.out.step hB)
              replace HV5 := Lib.hid (HV5.out.below hB)
              replace HA := Lib.hid (HA.out.step hB)
              replace HBC := Lib.hid (HBC.out.trans (hB.mono HBC.out.size))
              replace HXB := Lib.hid (ByIn.below HXB.out hB)
              clear hB
              have HSE9 := Lib.hid hS0
              rw [← hE9, ← hA0]
              clear hA0 hE9 hS0
              by_cases hy : j < Y.length
              · skip
                have HE2 := Lib.hid (rentry_in base term p _ Y _ HV5.out HYK.out ⟨by have h1 := HU.out; have h2 := HPU.out; omega, by have h1 := HU.out; have h2 := HPU.out; omega⟩)
                rw [hpj] at HE2
                have qA0 : W10.cell? ⟨A9, 0, none⟩ = some (.int .i64 base) := cell_at HA.out 0
                have qA1 : W10.cell? ⟨A9, 1, none⟩ = some (.int .i64 term) := cell_at HA.out 1
                have qA2 : W10.cell? ⟨A9, 2, none⟩ = some (.slice a5 l5 c5) := cell_at HA.out 2
                have qAz : ∀ j, W10.frozen? ⟨A9, j, none⟩ = false := fun j => free_at HA.out j
                have qAl : A9 < W10.heap.size := HA.out.lt
                go_wp2_with fail
                go_at_call 23
                go_fit HE2.out
                rintro e W11 ⟨y, rfl, hy9, hyb, hB⟩
                clear qA0 qA1 qA2 qAz qAl
                replace HB := Lib.hid (HB.out.trans (hB.mono HB.out.size))
                replace HV := Lib.hid (HV.out.below hB)
                replace HV2 := Lib.hid (HV2.out.below hB)
                replace HR := Lib.hid (HR.out.step hB)
                replace HV5 := Lib.hid (HV5.out.below hB)
                replace HA := Lib.hid (HA.out.step hB)
                replace HBC := Lib.hid (HBC.out.trans (hB.mono HBC.out.size))
                replace HXB := Lib.hid (ByIn.below HXB.out hB)
                replace HE := Lib.hid (HE.out.step hB)
                clear hB
                have HY9 := Lib.hid hy9
                have HYB := Lib.hid hyb
                clear hy9 hyb HE2
                go_upto_region 26 with fail
                obtain ⟨F9, hF9⟩ : ∃ n0, n0 = W11.heap.size := ⟨_, rfl⟩
                have HXF9HR : Hid (N < F9) := Lib.hid (by rw [hF9]; exact HR.out.lt)
                have HXF9HA : Hid (A9 < F9) := Lib.hid (by rw [hF9]; exact HA.out.lt)
                have HXF9HE : Hid (E9 < F9) := Lib.hid (by rw [hF9]; exact HE.out.lt)
                have HLOF9 : Hid (w.heap.size ≤ F9) := Lib.hid (by have := HB.out.size; omega)
                obtain ⟨W12, hA0⟩ : ∃ W0, W0 = W11.alloc (.cells #[.int .i64 y.t, .int .i8 y.k, .int .i64 y.s, .int .u8 y.st, .slice y.da y.dl y.dc] 47) := ⟨_, rfl⟩
                have hB : Below W11.heap.size W11 W12 := by rw [hA0]; exact (Below.refl _ _).alloc (Nat.le_refl _) _
                have hS0 : W12.heap.size = F9 + 1 := by rw [hA0]; simp [← hF9]
                have HF9 := Lib.hid (show Blk W12 F9 #[.int .i64 y.t, .int .i8 y.k, .int .i64 y.s, .int .u8 y.st, .slice y.da y.dl y.dc] 47 by rw [hA0, hF9]; exact blk_new _ _ _)
                replace HB := Lib.hid (HB.out.trans (hB.mono HB.out.size))
                replace HV := Lib.hid (HV.out.below hB)
                replace HV2 := Lib.hid (HV2.out.below hB)
                replace HR := Lib.hid (HR.out.step hB)
                replace HV5 := Lib.hid (HV5.out.below hB)
                replace HA := Lib.hid (HA.out.step hB)
                replace HBC := Lib.hid (HBC.out.trans (hB.mono HBC.out.size))
                replace HXB := Lib.hid (ByIn.below HXB.out hB)
                replace HE := Lib.hid (HE.out.step hB)
                replace HYB := Lib.hid (ByIn.below HYB.out hB)
                clear hB
                have HSF9 := Lib.hid hS0
                rw [← hF9, ← hA0]
                clear hA0 hF9 hS0
                have qE0 : W12.cell? ⟨E9, 0, none⟩ = some (.int .i64 x.t) := cell_at HE.out 0
                have qE1 : W12.cell? ⟨E9, 1, none⟩ = some (.int .i8 x.k) := cell_at HE.out 1
                have qE2 : W12.cell? ⟨E9, 2, none⟩ = some (.int .i64 x.s) := cell_at HE.out 2
                have qE3 : W12.cell? ⟨E9, 3, none⟩ = some (.int .u8 x.st) := cell_at HE.out 3
                have qE4 : W12.cell? ⟨E9, 4, none⟩ = some (.slice x.da x.dl x.dc) := cell_at HE.out 4
                have qEz : ∀ j, W12.frozen? ⟨E9, j, none⟩ = false := fun j => free_at HE.out j
                have qEl : E9 < W12.heap.size := HE.out.lt
                have qF90 : W12.cell? ⟨F9, 0, none⟩ = some (.int .i64 y.t) := cell_at HF9.out 0
                have qF91 : W12.cell? ⟨F9, 1, none⟩ = some (.int .i8 y.k) := cell_at HF9.out 1
                have qF92 : W12.cell? ⟨F9, 2, none⟩ = some (.int .i64 y.s) := cell_at HF9.out 2
                have qF93 : W12.cell? ⟨F9, 3, none⟩ = some (.int .u8 y.st) := cell_at HF9.out 3
                have qF94 : W12.cell? ⟨F9, 4, none⟩ = some (.slice y.da y.dl y.dc) := cell_at HF9.out 4
                have qF9z : ∀ j, W12.frozen? ⟨F9, j, none⟩ = false := fun j => free_at HF9.out j
                have qF9l : F9 < W12.heap.size := HF9.out.lt
                go_wp2_with fail
                go_at_call 24
                go_fit (sameEntry2 x y _ HXB.out HYB.out)
                rintro e W13 ⟨q, rfl, hq, hB⟩
                clear qE0 qE1 qE2 qE3 qE4 qEz qEl qF90 qF91 qF92 qF93 qF94 qF9z qF9l
                replace HB := Lib.hid (HB.out.trans (hB.mono HB.out.size))
                replace HV := Lib.hid (HV.out.below hB)
                replace HV2 := Lib.hid (HV2.out.below hB)
                replace HR := Lib.hid (HR.out.step hB)
                replace HV5 := Lib.hid (HV5.out.below hB)
                replace HA := Lib.hid (HA.out.step hB)
                replace HBC := Lib.hid (HBC.out.trans (hB.mono HBC.out.size))
                replace HXB := Lib.hid (ByIn.below HXB.out hB)
                replace HE := Lib.hid (HE.out.step hB)
                replace HYB := Lib.hid (ByIn.below HYB.out hB)
                replace HF9 := Lib.hid (HF9.out.step hB)
                clear hB
                cases q
                · skip
                  have hji : i ≤ j := by
                    rcases Nat.lt_or_ge j i with h | h
                    · have h1 := putL_low (l := l.drop d) HIL.out h
                      rw [← HYE.out, HY9.out, HX.out] at h1
                      exact absurd (hq (Option.some.inj h1).symm) (by decide)
                    · exact h
                  have d8 : decide (p ≤ idx) = false := decide_eq_false (by have h1 := HU.out; have h2 := HPU.out; have h3 := HID.out; omega)
                  clear hji hq hy hk hpj
                  have qA0 : W13.cell? ⟨A9, 0, none⟩ = some (.int .i64 base) := cell_at HA.out 0
                  have qA1 : W13.cell? ⟨A9, 1, none⟩ = some (.int .i64 term) := cell_at HA.out 1
                  have qA2 : W13.cell? ⟨A9, 2, none⟩ = some (.slice a5 l5 c5) := cell_at HA.out 2
                  have qAz : ∀ j, W13.frozen? ⟨A9, j, none⟩ = false := fun j => free_at HA.out j
                  have qAl : A9 < W13.heap.size := HA.out.lt
                  go_wp2_with fail
                  go_at_call 19
                  go_fit (HP2.out _ _ HV5.out HV2.out)
                  rintro e W14 ⟨⟨v8, rfl, hv8⟩, hB⟩
                  clear qA0 qA1 qA2 qAz qAl
                  replace HB := Lib.hid (HB.out.trans (hB.mono HB.out.size))
                  replace HV := Lib.hid (HV.out.below hB)
                  replace HV2 := Lib.hid (HV2.out.below hB)
                  replace HR := Lib.hid (HR.out.step hB)
                  replace HV5 := Lib.hid (HV5.out.below hB)
                  replace HA := Lib.hid (HA.out.step hB)
                  replace HBC := Lib.hid (HBC.out.trans (hB.mono HBC.out.size))
                  replace HXB := Lib.hid (ByIn.below HXB.out hB)
                  replace HE := Lib.hid (HE.out.step hB)
                  replace HYB := Lib.hid (ByIn.below HYB.out hB)
                  replace HF9 := Lib.hid (HF9.out.step hB)
                  clear hB
                  obtain ⟨a8, l8, c8, rfl, Hl8, l81, l82, l83⟩ := hv8.sh
                  have HV8 := Lib.hid hv8
                  clear hv8
                  go_upto_region 30 with fail
                  obtain ⟨G9, hG9⟩ : ∃ n0, n0 = W14.heap.size := ⟨_, rfl⟩
                  have HXG9HR : Hid (N < G9) := Lib.hid (by rw [hG9]; exact HR.out.lt)
                  have HXG9HA : Hid (A9 < G9) := Lib.hid (by rw [hG9]; exact HA.out.lt)
                  have HXG9HE : Hid (E9 < G9) := Lib.hid (by rw [hG9]; exact HE.out.lt)
                  have HXG9HF9 : Hid (F9 < G9) := Lib.hid (by rw [hG9]; exact HF9.out.lt)
                  have HLOG9 : Hid (w.heap.size ≤ G9) := Lib.hid (by have := HB.out.size; omega)
                  obtain ⟨W15, hA0⟩ : ∃ W0, W0 = W14.alloc (.cells #[.int .i64 base, .int .i64 term, .slice a8 l8 c8] 24) := ⟨_, rfl⟩
                  have hB : Below W14.heap.size W14 W15 := by rw [hA0]; exact (Below.refl _ _).alloc (Nat.le_refl _) _
                  have hS0 : W15.heap.size = G9 + 1 := by rw [hA0]; simp [← hG9]
                  have HG := Lib.hid (show Blk W15 G9 #[.int .i64 base, .int .i64 term, .slice a8 l8 c8] 24 by rw [hA0, hG9]; exact blk_new _ _ _)
                  replace HB := Lib.hid (HB.out.trans (hB.mono HB.out.size))
                  replace HV := Lib.hid (HV.out.below hB)
                  replace HV2 := Lib.hid (HV2.out.below hB)
                  replace HR := Lib.hid (HR.out.step hB)
                  replace HV5 := Lib.hid (HV5.out.below hB)
                  replace HA := Lib.hid (HA.out.step hB)
                  replace HBC := Lib.hid (HBC.out.trans (hB.mono HBC.out.size))
                  replace HXB := Lib.hid (ByIn.below HXB.out hB)
                  replace HE := Lib.hid (HE.out.step hB)
                  replace HYB := Lib.hid (ByIn.below HYB.out hB)
                  replace HF9 := Lib.hid (HF9.out.step hB)
                  replace HV8 := Lib.hid (HV8.out.below hB)
                  clear hB
                  have HSG9 := Lib.hid hS0
                  rw [← hG9, ← hA0]
                  clear hA0 hG9 hS0
                  have qA0 : W15.cell? ⟨A9, 0, none⟩ = some (.int .i64 base) := cell_at HA.out 0
                  have qA1 : W15.cell? ⟨A9, 1, none⟩ = some (.int .i64 term) := cell_at HA.out 1
                  have qA2 : W15.cell? ⟨A9, 2, none⟩ = some (.slice a5 l5 c5) := cell_at HA.out 2
                  have qAz : ∀ j, W15.frozen? ⟨A9, j, none⟩ = false := fun j => free_at HA.out j
                  have qAl : A9 < W15.heap.size := HA.out.lt
                  have qG0 : W15.cell? ⟨G9, 0, none⟩ = some (.int .i64 base) := cell_at HG.out 0
                  have qG1 : W15.cell? ⟨G9, 1, none⟩ = some (.int .i64 term) := cell_at HG.out 1
                  have qG2 : W15.cell? ⟨G9, 2, none⟩ = some (.slice a8 l8 c8) := cell_at HG.out 2
                  have qGz : ∀ j, W15.frozen? ⟨G9, j, none⟩ = false := fun j => free_at HG.out j
                  have qGl : G9 < W15.heap.size := HG.out.lt
                  go_wp2_with fail
                  go_at_call 13
                  go_fit (rsame_any base term _ _ Y _ HV5.out HV8.out (by have := HYL.out; omega))
                  rintro e W16 ⟨rfl, hB⟩
                  clear qA0 qA1 qA2 qAz qAl qG0 qG1 qG2 qGz qGl
                  replace HB := Lib.hid (HB.out.trans (hB.mono HB.out.size))
                  replace HV := Lib.hid (HV.out.below hB)
                  replace HV2 := Lib.hid (HV2.out.below hB)
                  replace HR := Lib.hid (HR.out.step hB)
                  replace HV5 := Lib.hid (HV5.out.below hB)
                  replace HA := Lib.hid (HA.out.step hB)
                  replace HBC := Lib.hid (HBC.out.trans (hB.mono HBC.out.size))
                  replace HXB := Lib.hid (ByIn.below HXB.out hB)
                  replace HE := Lib.hid (HE.out.step hB)
                  replace HYB := Lib.hid (ByIn.below HYB.out hB)
                  replace HF9 := Lib.hid (HF9.out.step hB)
                  replace HV8 := Lib.hid (HV8.out.below hB)
                  replace HG := Lib.hid (HG.out.step hB)
                  clear hB
                  go_wp2_with fail
                  go_at_call 10
                  go_fit (rwakes_any _)
                  rintro e W17 ⟨rfl, hB⟩
                  replace HB := Lib.hid (HB.out.trans (hB.mono HB.out.size))
                  replace HV := Lib.hid (HV.out.below hB)
                  replace HV2 := Lib.hid (HV2.out.below hB)
                  replace HR := Lib.hid (HR.out.step hB)
                  replace HV5 := Lib.hid (HV5.out.below hB)
                  replace HA := Lib.hid (HA.out.step hB)
                  replace HBC := Lib.hid (HBC.out.trans (hB.mono HBC.out.size))
                  replace HXB := Lib.hid (ByIn.below HXB.out hB)
                  replace HE := Lib.hid (HE.out.step hB)
                  replace HYB := Lib.hid (ByIn.below HYB.out hB)
                  replace HF9 := Lib.hid (HF9.out.step hB)
                  replace HV8 := Lib.hid (HV8.out.below hB)
                  replace HG := Lib.hid (HG.out.step hB)
                  clear hB
                  go_wp2_with fail
                  go_ret
                  exact ⟨rfl, HB.out⟩
                · skip
                  clear hq hy hpj
                  go_wp2_with fail
                  go_roundw
                  case rel => exact ⟨j + 1, by omega, by rw [HPU.out]; go_num, HBC.out⟩
                  case measure => first | (simp [intOf]; done) | (have h1 := HPU.out; have h2 := HU.out; have h3 := HEN.out; simp [intOf]; omega)
              · skip
                have HE2 := Lib.hid (rentry_out base term p _ Y _ HV5.out HYK.out ⟨by have h1 := HU.out; have h2 := HPU.out; omega, by have h1 := HU.out; have h2 := HPU.out; omega⟩)
                have hji : i ≤ j := by
                  have := putL_len (l := l.drop d) HIL.out
                  rw [← HYE.out] at this
                  omega
                have d8 : decide (p ≤ idx) = false := decide_eq_false (by have h1 := HU.out; have h2 := HPU.out; have h3 := HID.out; omega)
                clear hji hy hk hpj
                have qA0 : W10.cell? ⟨A9, 0, none⟩ = some (.int .i64 base) := cell_at HA.out 0
                have qA1 : W10.cell? ⟨A9, 1, none⟩ = some (.int .i64 term) := cell_at HA.out 1
                have qA2 : W10.cell? ⟨A9, 2, none⟩ = some (.slice a5 l5 c5) := cell_at HA.out 2
                have qAz : ∀ j, W10.frozen? ⟨A9, j, none⟩ = false := fun j => free_at HA.out j
                have qAl : A9 < W10.heap.size := HA.out.lt
                go_wp2_with fail
                go_at_call 23
                go_fit HE2.out
                rintro e W11 ⟨rfl, hB⟩
                clear qA0 qA1 qA2 qAz qAl
                replace HB := Lib.hid (HB.out.trans (hB.mono HB.out.size))
                replace HV := Lib.hid (HV.out.below hB)
                replace HV2 := Lib.hid (HV2.out.below hB)
                replace HR := Lib.hid (HR.out.step hB)
                replace HV5 := Lib.hid (HV5.out.below hB)
                replace HA := Lib.hid (HA.out.step hB)
                replace HBC := Lib.hid (HBC.out.trans (hB.mono HBC.out.size))
                replace HXB := Lib.hid (ByIn.below HXB.out hB)
                replace HE := Lib.hid (HE.out.step hB)
                clear hB
                clear HE2
                go_upto_region 26 with fail
                obtain ⟨F9, hF9⟩ : ∃ n0, n0 = W11.heap.size := ⟨_, rfl⟩
                have HXF9HR : Hid (N < F9) := Lib.hid (by rw [hF9]; exact HR.out.lt)
                have HXF9HA : Hid (A9 < F9) := Lib.hid (by rw [hF9]; exact HA.out.lt)
                have HXF9HE : Hid (E9 < F9) := Lib.hid (by rw [hF9]; exact HE.out.lt)
                have HLOF9 : Hid (w.heap.size ≤ F9) := Lib.hid (by have := HB.out.size; omega)
                obtain ⟨W12, hA0⟩ : ∃ W0, W0 = W11.alloc (.cells #[.int .i64 0, .int .i8 0, .int .i64 0, .int .u8 0, .slice none 0 0] 47) := ⟨_, rfl⟩
                have hB : Below W11.heap.size W11 W12 := by rw [hA0]; exact (Below.refl _ _).alloc (Nat.le_refl _) _
                have hS0 : W12.heap.size = F9 + 1 := by rw [hA0]; simp [← hF9]
                have HF9 := Lib.hid (show Blk W12 F9 #[.int .i64 0, .int .i8 0, .int .i64 0, .int .u8 0, .slice none 0 0] 47 by rw [hA0, hF9]; exact blk_new _ _ _)
                replace HB := Lib.hid (HB.out.trans (hB.mono HB.out.size))
                replace HV := Lib.hid (HV.out.below hB)
                replace HV2 := Lib.hid (HV2.out.below hB)
                replace HR := Lib.hid (HR.out.step hB)
                replace HV5 := Lib.hid (HV5.out.below hB)
                replace HA := Lib.hid (HA.out.step hB)
                replace HBC := Lib.hid (HBC.out.trans (hB.mono HBC.out.size))
                replace HXB := Lib.hid (ByIn.below HXB.out hB)
                replace HE := Lib.hid (HE.out.step hB)
                clear hB
                have HSF9 := Lib.hid hS0
                rw [← hF9, ← hA0]
                clear hA0 hF9 hS0
                have qA0 : W12.cell? ⟨A9, 0, none⟩ = some (.int .i64 base) := cell_at HA.out 0
                have qA1 : W12.cell? ⟨A9, 1, none⟩ = some (.int .i64 term) := cell_at HA.out 1
                have qA2 : W12.cell? ⟨A9, 2, none⟩ = some (.slice a5 l5 c5) := cell_at HA.out 2
                have qAz : ∀ j, W12.frozen? ⟨A9, j, none⟩ = false := fun j => free_at HA.out j
                have qAl : A9 < W12.heap.size := HA.out.lt
                go_wp2_with fail
                go_at_call 19
                go_fit (HP2.out _ _ HV5.out HV2.out)
                rintro e W13 ⟨⟨v8, rfl, hv8⟩, hB⟩
                clear qA0 qA1 qA2 qAz qAl
                replace HB := Lib.hid (HB.out.trans (hB.mono HB.out.size))
                replace HV := Lib.hid (HV.out.below hB)
                replace HV2 := Lib.hid (HV2.out.below hB)
                replace HR := Lib.hid (HR.out.step hB)
                replace HV5 := Lib.hid (HV5.out.below hB)
                replace HA := Lib.hid (HA.out.step hB)
                replace HBC := Lib.hid (HBC.out.trans (hB.mono HBC.out.size))
                replace HXB := Lib.hid (ByIn.below HXB.out hB)
                replace HE := Lib.hid (HE.out.step hB)
                replace HF9 := Lib.hid (HF9.out.step hB)
                clear hB
                obtain ⟨a8, l8, c8, rfl, Hl8, l81, l82, l83⟩ := hv8.sh
                have HV8 := Lib.hid hv8
                clear hv8
                go_upto_region 30 with fail
                obtain ⟨G9, hG9⟩ : ∃ n0, n0 = W13.heap.size := ⟨_, rfl⟩
                have HXG9HR : Hid (N < G9) := Lib.hid (by rw [hG9]; exact HR.out.lt)
                have HXG9HA : Hid (A9 < G9) := Lib.hid (by rw [hG9]; exact HA.out.lt)
                have HXG9HE : Hid (E9 < G9) := Lib.hid (by rw [hG9]; exact HE.out.lt)
                have HXG9HF9 : Hid (F9 < G9) := Lib.hid (by rw [hG9]; exact HF9.out.lt)
                have HLOG9 : Hid (w.heap.size ≤ G9) := Lib.hid (by have := HB.out.size; omega)
                obtain ⟨W14, hA0⟩ : ∃ W0, W0 = W13.alloc (.cells #[.int .i64 base, .int .i64 term, .slice a8 l8 c8] 24) := ⟨_, rfl⟩
                have hB : Below W13.heap.size W13 W14 := by rw [hA0]; exact (Below.refl _ _).alloc (Nat.le_refl _) _
                have hS0 : W14.heap.size = G9 + 1 := by rw [hA0]; simp [← hG9]
                have HG := Lib.hid (show Blk W14 G9 #[.int .i64 base, .int .i64 term, .slice a8 l8 c8] 24 by rw [hA0, hG9]; exact blk_new _ _ _)
                replace HB := Lib.hid (HB.out.trans (hB.mono HB.out.size))
                replace HV := Lib.hid (HV.out.below hB)
                replace HV2 := Lib.hid (HV2.out.below hB)
                replace HR := Lib.hid (HR.out.step hB)
                replace HV5 := Lib.hid (HV5.out.below hB)
                replace HA := Lib.hid (HA.out.step hB)
                replace HBC := Lib.hid (HBC.out.trans (hB.mono HBC.out.size))
                replace HXB := Lib.hid (ByIn.below HXB.out hB)
                replace HE := Lib.hid (HE.out.step hB)
                replace HF9 := Lib.hid (HF9.out.step hB)
                replace HV8 := Lib.hid (HV8.out.below hB)
                clear hB
                have HSG9 := Lib.hid hS0
                rw [← hG9, ← hA0]
                clear hA0 hG9 hS0
                have qA0 : W14.cell? ⟨A9, 0, none⟩ = some (.int .i64 base) := cell_at HA.out 0
                have qA1 : W14.cell? ⟨A9, 1, none⟩ = some (.int .i64 term) := cell_at HA.out 1
                have qA2 : W14.cell? ⟨A9, 2, none⟩ = some (.slice a5 l5 c5) := cell_at HA.out 2
                have qAz : ∀ j, W14.frozen? ⟨A9, j, none⟩ = false := fun j => free_at HA.out j
                have qAl : A9 < W14.heap.size := HA.out.lt
                have qG0 : W14.cell? ⟨G9, 0, none⟩ = some (.int .i64 base) := cell_at HG.out 0
                have qG1 : W14.cell? ⟨G9, 1, none⟩ = some (.int .i64 term) := cell_at HG.out 1
                have qG2 : W14.cell? ⟨G9, 2, none⟩ = some (.slice a8 l8 c8) := cell_at HG.out 2
                have qGz : ∀ j, W14.frozen? ⟨G9, j, none⟩ = false := fun j => free_at HG.out j
                have qGl : G9 < W14.heap.size := HG.out.lt
                go_wp2_with fail
                go_at_call 13
                go_fit (rsame_any base term _ _ Y _ HV5.out HV8.out (by have := HYL.out; omega))
                rintro e W15 ⟨rfl, hB⟩
                clear qA0 qA1 qA2 qAz qAl qG0 qG1 qG2 qGz qGl
                replace HB := Lib.hid (HB.out.trans (hB.mono HB.out.size))
                replace HV := Lib.hid (HV.out.below hB)
                replace HV2 := Lib.hid (HV2.out.below hB)
                replace HR := Lib.hid (HR.out.step hB)
                replace HV5 := Lib.hid (HV5.out.below hB)
                replace HA := Lib.hid (HA.out.step hB)
                replace HBC := Lib.hid (HBC.out.trans (hB.mono HBC.out.size))
                replace HXB := Lib.hid (ByIn.below HXB.out hB)
                replace HE := Lib.hid (HE.out.step hB)
                replace HF9 := Lib.hid (HF9.out.step hB)
                replace HV8 := Lib.hid (HV8.out.below hB)
                replace HG := Lib.hid (HG.out.step hB)
                clear hB
                go_wp2_with fail
                go_at_call 10
                go_fit (rwakes_any _)
                rintro e W16 ⟨rfl, hB⟩
                replace HB := Lib.hid (HB.out.trans (hB.mono HB.out.size))
                replace HV := Lib.hid (HV.out.below hB)
                replace HV2 := Lib.hid (HV2.out.below hB)
                replace HR := Lib.hid (HR.out.step hB)
                replace HV5 := Lib.hid (HV5.out.below hB)
                replace HA := Lib.hid (HA.out.step hB)
                replace HBC := Lib.hid (HBC.out.trans (hB.mono HBC.out.size))
                replace HXB := Lib.hid (ByIn.below HXB.out hB)
                replace HE := Lib.hid (HE.out.step hB)
                replace HF9 := Lib.hid (HF9.out.step hB)
                replace HV8 := Lib.hid (HV8.out.below hB)
                replace HG := Lib.hid (HG.out.step hB)
                clear hB
                go_wp2_with fail
                go_ret
                exact ⟨rfl, HB.out⟩
            · skip
              have d7 : decide (p ≤ en) = false := decide_eq_false (by have h1 := HU.out; have h2 := HEN.out; omega)
              clear hp hk
              have qA0 : wr.cell? ⟨A9, 0, none⟩ = some (.int .i64 base) := cell_at HA.out 0
              have qA1 : wr.cell? ⟨A9, 1, none⟩ = some (.int .i64 term) := cell_at HA.out 1
              have qA2 : wr.cell? ⟨A9, 2, none⟩ = some (.slice a5 l5 c5) := cell_at HA.out 2
              have qAz : ∀ j, wr.frozen? ⟨A9, j, none⟩ = false := fun j => free_at HA.out j
              have qAl : A9 < wr.heap.size := HA.out.lt
              go_wp2_with fail
              go_at_call 19
              go_fit (HP2.out _ _ HV5.out HV2.out)
              rintro e W9 ⟨⟨v8, rfl, hv8⟩, hB⟩
              clear qA0 qA1 qA2 qAz qAl
              replace HB := Lib.hid (HB.out.trans (hB.mono HB.out.size))
              replace HV := Lib.hid (HV.out.below hB)
              replace HV2 := Lib.hid (HV2.out.below hB)
              replace HR := Lib.hid (HR.out.step hB)
              replace HV5 := Lib.hid (HV5.out.below hB)
              replace HA := Lib.hid (HA.out.step hB)
              replace HBC := Lib.hid (HBC.out.trans (hB.mono HBC.out.size))
              clear hB
              obtain ⟨a8, l8, c8, rfl, Hl8, l81, l82, l83⟩ := hv8.sh
              have HV8 := Lib.hid hv8
              clear hv8
              go_upto_region 30 with fail
              obtain ⟨G9, hG9⟩ : ∃ n0, n0 = W9.heap.size := ⟨_, rfl⟩
              have HXG9HR : Hid (N < G9) := Lib.hid (by rw [hG9]; exact HR.out.lt)
              have HXG9HA : Hid (A9 < G9) := Lib.hid (by rw [hG9]; exact HA.out.lt)
              have HLOG9 : Hid (w.heap.size ≤ G9) := Lib.hid (by have := HB.out.size; omega)
              obtain ⟨W10, hA0⟩ : ∃ W0, W0 = W9.alloc (.cells #[.int .i64 base, .int .i64 term, .slice a8 l8 c8] 24) := ⟨_, rfl⟩
              have hB : Below W9.heap.size W9 W10 := by rw [hA0]; exact (Below.refl _ _).alloc (Nat.le_refl _) _
              have hS0 : W10.heap.size = G9 + 1 := by rw [hA0]; simp [← hG9]
              have HG := Lib.hid (show Blk W10 G9 #[.int .i64 base, .int .i64 term, .slice a8 l8 c8] 24 by rw [hA0, hG9]; exact blk_new _ _ _)
              replace HB := Lib.hid (HB.out.trans (hB.mono HB.out.size))
              replace HV := Lib.hid (HV.out.below hB)
              replace HV2 := Lib.hid (HV2.out.below hB)
              replace HR := Lib.hid (HR.out.step hB)
              replace HV5 := Lib.hid (HV5.out.below hB)
              replace HA := Lib.hid (HA.out.step hB)
              replace HBC := Lib.hid (HBC.out.trans (hB.mono HBC.out.size))
              replace HV8 := Lib.hid (HV8.out.below hB)
              clear hB
              have HSG9 := Lib.hid hS0
              rw [← hG9, ← hA0]
              clear hA0 hG9 hS0
              have qA0 : W10.cell? ⟨A9, 0, none⟩ = some (.int .i64 base) := cell_at HA.out 0
              have qA1 : W10.cell? ⟨A9, 1, none⟩ = some (.int .i64 term) := cell_at HA.out 1
              have qA2 : W10.cell? ⟨A9, 2, none⟩ = some (.slice a5 l5 c5) := cell_at HA.out 2
              have qAz : ∀ j, W10.frozen? ⟨A9, j, none⟩ = false := fun j => free_at HA.out j
              have qAl : A9 < W10.heap.size := HA.out.lt
              have qG0 : W10.cell? ⟨G9, 0, none⟩ = some (.int .i64 base) := cell_at HG.out 0
              have qG1 : W10.cell? ⟨G9, 1, none⟩ = some (.int .i64 term) := cell_at HG.out 1
              have qG2 : W10.cell? ⟨G9, 2, none⟩ = some (.slice a8 l8 c8) := cell_at HG.out 2
              have qGz : ∀ j, W10.frozen? ⟨G9, j, none⟩ = false := fun j => free_at HG.out j
              have qGl : G9 < W10.heap.size := HG.out.lt
              go_wp2_with fail
              go_at_call 13
              go_fit (rsame_any base term _ _ Y _ HV5.out HV8.out (by have := HYL.out; omega))
              rintro e W11 ⟨rfl, hB⟩
              clear qA0 qA1 qA2 qAz qAl qG0 qG1 qG2 qGz qGl
              replace HB := Lib.hid (HB.out.trans (hB.mono HB.out.size))
              replace HV := Lib.hid (HV.out.below hB)
              replace HV2 := Lib.hid (HV2.out.below hB)
              replace HR := Lib.hid (HR.out.step hB)
              replace HV5 := Lib.hid (HV5.out.below hB)
              replace HA := Lib.hid (HA.out.step hB)
              replace HBC := Lib.hid (HBC.out.trans (hB.mono HBC.out.size))
              replace HV8 := Lib.hid (HV8.out.below hB)
              replace HG := Lib.hid (HG.out.step hB)
              clear hB
              go_wp2_with fail
              go_at_call 10
              go_fit (rwakes_any _)
              rintro e W12 ⟨rfl, hB⟩
              replace HB := Lib.hid (HB.out.trans (hB.mono HB.out.size))
              replace HV := Lib.hid (HV.out.below hB)
              replace HV2 := Lib.hid (HV2.out.below hB)
              replace HR := Lib.hid (HR.out.step hB)
              replace HV5 := Lib.hid (HV5.out.below hB)
              replace HA := Lib.hid (HA.out.step hB)
              replace HBC := Lib.hid (HBC.out.trans (hB.mono HBC.out.size))
              replace HV8 := Lib.hid (HV8.out.below hB)
              replace HG := Lib.hid (HG.out.step hB)
              clear hB
              go_wp2_with fail
              go_ret
              exact ⟨rfl, HB.out⟩
    · skip
      go_wp2_with fail
      go_at_call 10
      go_fit (rwakes_any _)
      rintro e W4 ⟨rfl, hB⟩
      replace HB := Lib.hid (HB.out.trans (hB.mono HB.out.size))
      replace HV := Lib.hid (HV.out.below hB)
      replace HV2 := Lib.hid (HV2.out.below hB)
      replace HR := Lib.hid (HR.out.step hB)
      clear hB
      go_wp2_with fail
      go_ret
      exact ⟨rfl, HB.out⟩
  · skip
    go_wp2_with fail
    go_at_call 10
    go_fit (rwakes_any _)
    rintro e W3 ⟨rfl, hB⟩
    replace HB := Lib.hid (HB.out.trans (hB.mono HB.out.size))
    replace HV := Lib.hid (HV.out.below hB)
    replace HV2 := Lib.hid (HV2.out.below hB)
    replace HR := Lib.hid (HR.out.step hB)
    clear hB
    go_wp2_with fail
    go_ret
    exact ⟨rfl, HB.out⟩
end Go.Proofs.Ytcadinoijclfnaa
