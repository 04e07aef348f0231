/-
  The law RowsPut, walked.
-/
import Derived.Test.YtcadinoijclfnaaRoj
import Derived.Test.YtcadinoijclfnaaRoh
import Derived.Test.YtcadinoijclfnaaRogD
import Derived.Test.YtcadinoijclfnaaRowL
import Derived.Deep.DeepFit
namespace Go.Proofs.Ytcadinoijclfnaa
open Go.RowKit
set_option linter.unusedSimpArgs false
set_option linter.unusedVariables false

set_option maxRecDepth 100000 in
set_option maxHeartbeats 8000000 in
theorem rowsPut_any (base term idx first : Int) (v v2 : Value) (L l : List EnD) (w : World) (h : RV w v L) (h2 : RV w v2 l) (hb : bigB L) (hb2 : bigB l) (hx : -9223372036854775808 ≤ idx ∧ idx ≤ 9223372036854775807) :
    Calls Try.prog 4 #[.agg #[.int .i64 base, .int .i64 term, v], .int .i64 idx, .int .i64 first, v2] w fun e w' => e = .returned (.bool true) ∧ Below w.heap.size w w' := by
  obtain ⟨a, ln, c, rfl, Hln, m1, m2, m3⟩ := h.sh
  obtain ⟨a2, l2, c2, rfl, Hl2, n1, n2, n3⟩ := h2.sh
  have HV := Lib.hid h
  have HV2 := Lib.hid h2
  have HGR := Lib.hid (fun W (h : RV W (.slice a ln c) L) => greatR_any base term _ L W h hb)
  have HLG := Lib.hid (fun W (h : RV W (.slice a2 l2 c2) l) => long_any _ l W h hb2)
  clear h h2 hb hb2
  have HPL := Lib.hid (putF_len base term L idx first l)
  have HP1 := Lib.hid (fun W (h : RV W (.slice a ln c) L) (h2 : RV W (.slice a2 l2 c2) l) hl => put_any base term idx first _ _ L l W h h2 hl)
  have HP2 := Lib.hid (fun W (h : RV W (.slice a ln c) L) (h2 : RV W (.slice a2 l2 c2) l) hl => rput_any base term idx first _ _ L l W h h2 hl hx)
  obtain ⟨P, hP⟩ : ∃ P, P = putF base term L idx first l := ⟨_, rfl⟩
  rw [← hP] at HP1 HP2 HPL
  clear hP
  obtain ⟨pb, pt, pl, ps, pk, pe⟩ := P
  unfold RwOut at HP1 HP2
  simp only at HP1 HP2 HPL
  have heq := bool_eq pk
  have d1 : (pe == pe) = true := beq_self_eq_true _
  have d2 : (ps == ps) = true := beq_self_eq_true _
  have HB : Hid (Below w.heap.size w w) := Lib.hid (Below.refl _ _)
  go_enter Try.func4, Try.ntmps4
  go_upto_region 1 with fail
  obtain ⟨N, hN⟩ : ∃ n0, n0 = w.heap.size := ⟨_, rfl⟩
  have HLON : Hid (w.heap.size ≤ N) := Lib.hid (by have := HB.out.size; omega)
  obtain ⟨W1, hA0⟩ : ∃ W0, W0 = w.alloc (.cells #[.int .i64 base, .int .i64 term, .slice a ln c] 24) := ⟨_, rfl⟩
  have hB : Below w.heap.size w W1 := by rw [hA0]; exact (Below.refl _ _).alloc (Nat.le_refl _) _
  have hS0 : W1.heap.size = N + 1 := by rw [hA0]; simp [← hN]
  have HR := Lib.hid (show Blk W1 N #[.int .i64 base, .int .i64 term, .slice a ln c] 24 by rw [hA0, hN]; exact blk_new _ _ _)
  replace HB := Lib.hid (HB.out.trans (hB.mono HB.out.size))
  replace HV := Lib.hid (HV.out.below hB)
  replace HV2 := Lib.hid (HV2.out.below hB)
  clear hB
  have HSN := Lib.hid hS0
  rw [← hN, ← hA0]
  clear hA0 hN hS0
  have qR0 : W1.cell? ⟨N, 0, none⟩ = some (.int .i64 base) := cell_at HR.out 0
  have qR1 : W1.cell? ⟨N, 1, none⟩ = some (.int .i64 term) := cell_at HR.out 1
  have qR2 : W1.cell? ⟨N, 2, none⟩ = some (.slice a ln c) := cell_at HR.out 2
  have qRz : ∀ j, W1.frozen? ⟨N, j, none⟩ = false := fun j => free_at HR.out j
  have qRl : N < W1.heap.size := HR.out.lt
  go_wp2_with fail
  go_at_call 8
  go_fit (HGR.out _ HV.out)
  rintro e W2 ⟨q, rfl, hq, hB⟩
  clear qR0 qR1 qR2 qRz qRl
  replace HB := Lib.hid (HB.out.trans (hB.mono HB.out.size))
  replace HV := Lib.hid (HV.out.below hB)
  replace HV2 := Lib.hid (HV2.out.below hB)
  replace HR := Lib.hid (HR.out.step hB)
  clear hB
  cases q
  · skip
    have HS1 := Lib.hid (hq rfl)
    clear hq
    go_wp2_with fail
    go_at_call 9
    go_fit (HLG.out _ HV2.out)
    rintro e W3 ⟨q, rfl, hq, hB⟩
    replace HB := Lib.hid (HB.out.trans (hB.mono HB.out.size))
    replace HV := Lib.hid (HV.out.below hB)
    replace HV2 := Lib.hid (HV2.out.below hB)
    replace HR := Lib.hid (HR.out.step hB)
    clear hB
    cases q
    · skip
      have HS2 := Lib.hid (hq rfl)
      clear hq
      have qR0 : W3.cell? ⟨N, 0, none⟩ = some (.int .i64 base) := cell_at HR.out 0
      have qR1 : W3.cell? ⟨N, 1, none⟩ = some (.int .i64 term) := cell_at HR.out 1
      have qR2 : W3.cell? ⟨N, 2, none⟩ = some (.slice a ln c) := cell_at HR.out 2
      have qRz : ∀ j, W3.frozen? ⟨N, j, none⟩ = false := fun j => free_at HR.out j
      have qRl : N < W3.heap.size := HR.out.lt
      go_wp2_with fail
      go_at_call 19
      go_fit (HP1.out _ HV.out HV2.out (by have := HS2.out.1; omega))
      rintro e W4 ⟨⟨v5, rfl, hv5⟩, hB⟩
      clear qR0 qR1 qR2 qRz qRl
      replace HB := Lib.hid (HB.out.trans (hB.mono HB.out.size))
      replace HV := Lib.hid (HV.out.below hB)
      replace HV2 := Lib.hid (HV2.out.below hB)
      replace HR := Lib.hid (HR.out.step hB)
      clear hB
      obtain ⟨a5, l5, c5, rfl, Hl5, l51, l52, l53⟩ := hv5.sh
      have HV5 := Lib.hid hv5
      clear hv5
      go_upto_region 4 with fail
      obtain ⟨A9, hA9⟩ : ∃ n0, n0 = W4.heap.size := ⟨_, rfl⟩
      have HXA9HR : Hid (N < A9) := Lib.hid (by rw [hA9]; exact HR.out.lt)
      have HLOA9 : Hid (w.heap.size ≤ A9) := Lib.hid (by have := HB.out.size; omega)
      obtain ⟨W5, hA0⟩ : ∃ W0, W0 = W4.alloc (.cells #[.int .i64 pb, .int .i64 pt, .slice a5 l5 c5] 24) := ⟨_, rfl⟩
      have hB : Below W4.heap.size W4 W5 := by rw [hA0]; exact (Below.refl _ _).alloc (Nat.le_refl _) _
      have hS0 : W5.heap.size = A9 + 1 := by rw [hA0]; simp [← hA9]
      have HA := Lib.hid (show Blk W5 A9 #[.int .i64 pb, .int .i64 pt, .slice a5 l5 c5] 24 by rw [hA0, hA9]; exact blk_new _ _ _)
      replace HB := Lib.hid (HB.out.trans (hB.mono HB.out.size))
      replace HV := Lib.hid (HV.out.below hB)
      replace HV2 := Lib.hid (HV2.out.below hB)
      replace HR := Lib.hid (HR.out.step hB)
      replace HV5 := Lib.hid (HV5.out.below hB)
      clear hB
      have HSA9 := Lib.hid hS0
      rw [← hA9, ← hA0]
      clear hA0 hA9 hS0
      have qR0 : W5.cell? ⟨N, 0, none⟩ = some (.int .i64 base) := cell_at HR.out 0
      have qR1 : W5.cell? ⟨N, 1, none⟩ = some (.int .i64 term) := cell_at HR.out 1
      have qR2 : W5.cell? ⟨N, 2, none⟩ = some (.slice a ln c) := cell_at HR.out 2
      have qRz : ∀ j, W5.frozen? ⟨N, j, none⟩ = false := fun j => free_at HR.out j
      have qRl : N < W5.heap.size := HR.out.lt
      go_wp2_with fail
      go_at_call 20
      go_fit (HP2.out _ HV.out HV2.out (by have := HS2.out.1; omega))
      rintro e W6 ⟨⟨v6, rfl, hv6⟩, hB⟩
      clear qR0 qR1 qR2 qRz qRl
      replace HB := Lib.hid (HB.out.trans (hB.mono HB.out.size))
      replace HV := Lib.hid (HV.out.below hB)
      replace HV2 := Lib.hid (HV2.out.below hB)
      replace HR := Lib.hid (HR.out.step hB)
      replace HV5 := Lib.hid (HV5.out.below hB)
      replace HA := Lib.hid (HA.out.step hB)
      clear hB
      obtain ⟨a6, l6, c6, rfl, Hl6, l61, l62, l63⟩ := hv6.sh
      have HV6 := Lib.hid hv6
      clear hv6
      go_upto_region 5 with fail
      obtain ⟨B9, hB9⟩ : ∃ n0, n0 = W6.heap.size := ⟨_, rfl⟩
      have HXB9HR : Hid (N < B9) := Lib.hid (by rw [hB9]; exact HR.out.lt)
      have HXB9HA : Hid (A9 < B9) := Lib.hid (by rw [hB9]; exact HA.out.lt)
      have HLOB9 : Hid (w.heap.size ≤ B9) := Lib.hid (by have := HB.out.size; omega)
      obtain ⟨W7, hA0⟩ : ∃ W0, W0 = W6.alloc (.cells #[.int .i64 pb, .int .i64 pt, .slice a6 l6 c6] 24) := ⟨_, rfl⟩
      have hB : Below W6.heap.size W6 W7 := by rw [hA0]; exact (Below.refl _ _).alloc (Nat.le_refl _) _
      have hS0 : W7.heap.size = B9 + 1 := by rw [hA0]; simp [← hB9]
      have HB9 := Lib.hid (show Blk W7 B9 #[.int .i64 pb, .int .i64 pt, .slice a6 l6 c6] 24 by rw [hA0, hB9]; exact blk_new _ _ _)
      replace HB := Lib.hid (HB.out.trans (hB.mono HB.out.size))
      replace HV := Lib.hid (HV.out.below hB)
      replace HV2 := Lib.hid (HV2.out.below hB)
      replace HR := Lib.hid (HR.out.step hB)
      replace HV5 := Lib.hid (HV5.out.below hB)
      replace HA := Lib.hid (HA.out.step hB)
      replace HV6 := Lib.hid (HV6.out.below hB)
      clear hB
      have HSB9 := Lib.hid hS0
      rw [← hB9, ← hA0]
      clear hA0 hB9 hS0
      have qA0 : W7.cell? ⟨A9, 0, none⟩ = some (.int .i64 pb) := cell_at HA.out 0
      have qA1 : W7.cell? ⟨A9, 1, none⟩ = some (.int .i64 pt) := cell_at HA.out 1
      have qA2 : W7.cell? ⟨A9, 2, none⟩ = some (.slice a5 l5 c5) := cell_at HA.out 2
      have qAz : ∀ j, W7.frozen? ⟨A9, j, none⟩ = false := fun j => free_at HA.out j
      have qAl : A9 < W7.heap.size := HA.out.lt
      have qB90 : W7.cell? ⟨B9, 0, none⟩ = some (.int .i64 pb) := cell_at HB9.out 0
      have qB91 : W7.cell? ⟨B9, 1, none⟩ = some (.int .i64 pt) := cell_at HB9.out 1
      have qB92 : W7.cell? ⟨B9, 2, none⟩ = some (.slice a6 l6 c6) := cell_at HB9.out 2
      have qB9z : ∀ j, W7.frozen? ⟨B9, j, none⟩ = false := fun j => free_at HB9.out j
      have qB9l : B9 < W7.heap.size := HB9.out.lt
      go_wp2_with fail
      go_at_call 13
      go_fit (rsame_any pb pt _ _ pl _ HV5.out HV6.out (by have := HS1.out.1; have := HS2.out.1; have := HPL.out; omega))
      rintro e W8 ⟨rfl, hB⟩
      clear qA0 qA1 qA2 qAz qAl qB90 qB91 qB92 qB9z qB9l
      replace HB := Lib.hid (HB.out.trans (hB.mono HB.out.size))
      replace HV := Lib.hid (HV.out.below hB)
      replace HV2 := Lib.hid (HV2.out.below hB)
      replace HR := Lib.hid (HR.out.step hB)
      replace HV5 := Lib.hid (HV5.out.below hB)
      replace HA := Lib.hid (HA.out.step hB)
      replace HV6 := Lib.hid (HV6.out.below hB)
      replace HB9 := Lib.hid (HB9.out.step hB)
      clear hB
      go_wp2_with fail
      go_at_call 10
      go_fit (rwakes_any _)
      rintro e W9 ⟨rfl, hB⟩
      replace HB := Lib.hid (HB.out.trans (hB.mono HB.out.size))
      replace HV := Lib.hid (HV.out.below hB)
      replace HV2 := Lib.hid (HV2.out.below hB)
      replace HR := Lib.hid (HR.out.step hB)
      replace HV5 := Lib.hid (HV5.out.below hB)
      replace HA := Lib.hid (HA.out.step hB)
      replace HV6 := Lib.hid (HV6.out.below hB)
      replace HB9 := Lib.hid (HB9.out.step hB)
      clear hB
      go_wp2_with fail
      go_ret
      exact ⟨rfl, HB.out⟩
    · skip
      go_wp2_with fail
      go_at_call 10
      go_fit (rwakes_any _)
      rintro e W4 ⟨rfl, hB⟩
      replace HB := Lib.hid (HB.out.trans (hB.mono HB.out.size))
      replace HV := Lib.hid (HV.out.below hB)
      replace HV2 := Lib.hid (HV2.out.below hB)
      replace HR := Lib.hid (HR.out.step hB)
      clear hB
      go_wp2_with fail
      go_ret
      exact ⟨rfl, HB.out⟩
  · skip
    go_wp2_with fail
    go_at_call 10
    go_fit (rwakes_any _)
    rintro e W3 ⟨rfl, hB⟩
    replace HB := Lib.hid (HB.out.trans (hB.mono HB.out.size))
    replace HV := Lib.hid (HV.out.below hB)
    replace HV2 := Lib.hid (HV2.out.below hB)
    replace HR := Lib.hid (HR.out.step hB)
    clear hB
    go_wp2_with fail
    go_ret
    exact ⟨rfl, HB.out⟩
theorem rowsPut_dt (x : Dt) (idx first : Int) (a : Option Addr) (n c : Nat) (xs : List Dt) (w : World) (hx : Fits Try.prog w 24 x) (h : SliceFits Try.prog w 47 a n c xs) (hi : -9223372036854775808 ≤ idx ∧ idx ≤ 9223372036854775807) :
    Calls Try.prog 4 #[.agg x.cells.toArray, .int .i64 idx, .int .i64 first, .slice a n c] w fun e w' => e = .returned (.bool true) ∧ Below w.heap.size w w' := by
  obtain ⟨base, term, a', m, cc, es, e1, _, _, hS⟩ := rowsD_inv hx
  obtain ⟨L, hL, hb⟩ := rv_fits w hS
  obtain ⟨l, hl, hb2⟩ := rv_fits w h
  rw [e1]
  exact rowsPut_any base term idx first _ _ L l w hL hl hb hb2 hi
end Go.Proofs.Ytcadinoijclfnaa
