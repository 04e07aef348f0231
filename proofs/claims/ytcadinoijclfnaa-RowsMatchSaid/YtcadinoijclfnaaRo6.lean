/-
  Entries laid behind a place: the program.
-/
import Derived.Test.YtcadinoijclfnaaRo5
import Derived.Test.YtcadinoijclfnaaLib2
import Derived.Deep.DeepFit
namespace Go.Proofs.Ytcadinoijclfnaa
open Go.RowKit
set_option linter.unusedSimpArgs false
set_option linter.unusedVariables false

theorem sizeEn : ∀ W : World, (sizeOf (Try.prog.elem 22)).run Try.prog W = .ok 5 W := fun W => by kernel_rfl
theorem elemEn : Try.prog.underlying 22 = some (.slice (Try.prog.elem 22)) := by kernel_rfl
theorem RV.shape {W : World} {v : Value} {L : List EnD} (h : RV W v L) : ∃ a c, v = .slice a L.length c ∧ L.length ≤ c ∧ c ≤ 9223372036854775807 ∧ L.length * 56 ≤ 140737488351232 := by
  obtain ⟨a, c, g, o, F, rfl, h1, h2, h3, h4⟩ := h
  exact ⟨a, c, rfl, h1.le, by have := h1.max; unfold maxLen at this; exact this, h4⟩
theorem RV.sh {W : World} {v : Value} {L : List EnD} (h : RV W v L) : ∃ a n c, v = .slice a n c ∧ Hid (n = L.length) ∧ n ≤ c ∧ c ≤ 9223372036854775807 ∧ n * 56 ≤ 140737488351232 := by
  obtain ⟨a, c, rfl, h1, h2, h3⟩ := h.shape
  exact ⟨a, _, c, rfl, Lib.hid rfl, h1, h2, h3⟩
/-- l[i:] -/
def fromA (a : Option Addr) (c i : Nat) : Option Addr := if c = i then a else a.map (·.add (i * 5))
theorem rv_from {W : World} {a : Option Addr} {ln c : Nat} {L : List EnD} (h : RV W (.slice a ln c) L) (i : Nat) (hi : i ≤ ln) :
    (∀ W' : World, (Instr.slice 22 (.slice a ln c) (some (.int .i64 (i : Nat))) none none).run Try.prog W' = .ok (.slice (fromA a c i) (ln - i) (c - i)) W') ∧ RV W (.slice (fromA a c i) (ln - i) (c - i)) (L.drop i) := by
  refine ⟨fun W' => ?_, ?_⟩
  · rw [run_slice_l W' 22 a ln c elemEn .i64 i (by omega) (by omega), sizeEn]
    rfl
  · obtain ⟨a', c', g, o, F, e, h1, h2, h3, h4⟩ := h
    injection e with e1 e2 e3
    subst e1 e2 e3
    have m1 := h1.le
    have m2 := h1.max
    have := rv_slice h1 rfl h2 h3 h4 i (L.length - i) (c - i) (fromA a c i) (by omega) (by omega) (by omega) (fun h0 => by
      have := (h1.at_ (by omega)).1
      unfold fromA
      rw [if_neg (by omega), this]
      show some ((⟨g, o, none⟩ : Addr).add (i * 5)) = _
      rw [addr_add])
    rw [List.take_of_length_le (by simp)] at this
    exact this
def layP (L L2 : List EnD) (i : Nat) : Nat × List EnD := if dfr (L.drop i) L2 < 0 ∨ (L2.length : Int) ≤ dfr (L.drop i) L2 then (L.length, []) else (i + (dfr (L.drop i) L2).toNat, L2.drop (dfr (L.drop i) L2).toNat)
theorem dfr_le (L1 L2 : List EnD) : dfr L1 L2 ≤ L1.length ∧ dfr L1 L2 ≤ L2.length ∧ -1 ≤ dfr L1 L2 := by
  have h1 := pfx_le1 L1 L2
  have h2 := pfx_le2 L1 L2
  unfold dfr
  split <;> omega
def zi (j x : Int) : Int := if j = 0 then x else 0
def zl (j : Int) (L : List EnD) : List EnD := if j = 0 then L else []
theorem joinU (base term : Int) (v v2 : Value) (L L2 : List EnD) (n : Nat) (w : World) (h : RV w v L) (h2 : RV w v2 L2) (hn : n ≤ L.length) (hL : L.length ≤ 4096) (hL2 : L2.length ≤ 5000) :
    Calls Try.prog 32 #[.agg #[.int .i64 base, .int .i64 term, v], .int .i64 (n : Nat), v2] w fun e w' => ∃ v', e = .returned (.tuple #[.agg #[.int .i64 (zi (joinE base term n L L2) base), .int .i64 (zi (joinE base term n L L2) term), v'], .int .i64 (joinE base term n L L2)]) ∧ RV w' v' (zl (joinE base term n L L2) (L.take n ++ L2)) ∧ Below w.heap.size w w' := by
  refine (joinR_any base term v v2 L L2 n w h h2 hn hL hL2).mono ?_
  rintro e w' ⟨v', rfl, h3, hB⟩
  by_cases hj : joinE base term n L L2 = 0
  · refine ⟨v', ?_, ?_, hB⟩
    · unfold zi; rw [if_pos hj, if_pos hj, if_pos hj]
    · unfold zl; rw [if_pos hj]; exact h3 hj
  · refine ⟨.slice none 0 0, ?_, ?_, hB⟩
    · unfold zi; rw [if_neg hj, if_neg hj, if_neg hj]
    · unfold zl; rw [if_neg hj]; exact rv_nil _
theorem RV.len {W : World} {v : Value} {L : List EnD} (h : RV W v L) : L.length * 56 ≤ 140737488351232 := by
  obtain ⟨a, c, g, o, F, rfl, h1, h2, h3, h4⟩ := h
  exact h4
set_option maxRecDepth 100000 in
set_option maxHeartbeats 8000000 in
theorem layR_any (base term : Int) (v v2 : Value) (L L2 : List EnD) (i : Nat) (w : World) (h : RV w v L) (h2 : RV w v2 L2) (hi : i ≤ L.length) (hL : L.length ≤ 4096) (hL2 : L2.length ≤ 5000) (b0 : 0 ≤ base) (b1 : base ≤ 1099511627776) (J : Int) (hJ : J = joinE base term (layP L L2 i).1 L (layP L L2 i).2) :
    Calls Try.prog 40 #[.agg #[.int .i64 base, .int .i64 term, v], .int .i64 (base + (i : Int)), v2] w fun e w' => ∃ v', e = .returned (.tuple #[.agg #[.int .i64 (zi J base), .int .i64 (zi J term), v'], .int .i64 J]) ∧ RV w' v' (zl J (L.take (layP L L2 i).1 ++ (layP L L2 i).2)) ∧ Below w.heap.size w w' := by
  have hdl := dfr_le (L.drop i) L2
  obtain ⟨k, hk⟩ : ∃ k, k = dfr (L.drop i) L2 := ⟨_, rfl⟩
  have HLP : Hid (layP L L2 i = if k < 0 ∨ (L2.length : Int) ≤ k then (L.length, []) else (i + k.toNat, L2.drop k.toNat)) := Lib.hid (by rw [hk]; rfl)
  rw [← hk] at hdl
  obtain ⟨q, hq⟩ : ∃ q, q = layP L L2 i := ⟨_, rfl⟩
  rw [← hq] at HLP hJ ⊢
  obtain ⟨a, c, rfl, m1, m2, m5⟩ := h.shape
  obtain ⟨a2, c2, rfl, m3, m4, m6⟩ := h2.shape
  obtain ⟨hs1, hp1⟩ := rv_from h i hi
  have HF2 := Lib.hid (fun (j : Nat) (hj : j ≤ L2.length) => rv_from h2 j hj)
  have HV := Lib.hid h
  have HV2 := Lib.hid h2
  have HP := Lib.hid hp1
  obtain ⟨ln, hln⟩ : ∃ ln, ln = L.length := ⟨_, rfl⟩
  obtain ⟨l2, hl2⟩ : ∃ l2, l2 = L2.length := ⟨_, rfl⟩
  obtain ⟨Y, hY⟩ : ∃ Y, Y = L.take q.1 ++ q.2 := ⟨_, rfl⟩
  rw [← hY]
  have HJ := Lib.hid hJ
  have HY := Lib.hid hY
  have HL2 := Lib.hid hl2
  have HLN := Lib.hid hln
  have HK := Lib.hid hk
  rw [List.length_drop, ← hln] at hdl
  rw [← hln] at hs1 HP hi hL m1 m5 HV HLP ⊢
  rw [← hl2] at m3 m6 hL2 HV2 hdl HLP HF2 ⊢
  obtain ⟨pa, hpa⟩ : ∃ pa, pa = fromA a c i := ⟨_, rfl⟩
  rw [← hpa] at hs1 HP
  obtain ⟨pn, hpn⟩ : ∃ pn, pn = ln - i := ⟨_, rfl⟩
  rw [← hpn] at hs1 HP hdl
  obtain ⟨pc, hpc⟩ : ∃ pc, pc = c - i := ⟨_, rfl⟩
  rw [← hpc] at hs1 HP
  have HPN := Lib.hid hpn
  obtain ⟨zb, hzb⟩ : ∃ z, z = zi J base := ⟨_, rfl⟩
  obtain ⟨zt, hzt⟩ : ∃ z, z = zi J term := ⟨_, rfl⟩
  rw [← hzb, ← hzt]
  have HZB := Lib.hid hzb
  have HZT := Lib.hid hzt
  clear hzb hzt hpa hJ hY hl2 hln hk hq h h2 hp1 hpc hpn
  have HB : Hid (Below w.heap.size w w) := Lib.hid (Below.refl _ _)
  go_enter Try.func40, Try.ntmps40
  go_upto_region 1 with fail
  obtain ⟨N, hN⟩ : ∃ n0, n0 = w.heap.size := ⟨_, rfl⟩
  have HLON : Hid (w.heap.size ≤ N) := Lib.hid (by have := HB.out.size; omega)
  obtain ⟨W1, hA0⟩ : ∃ W0, W0 = w.alloc (.cells #[.int .i64 base, .int .i64 term, .slice a ln c] 24) := ⟨_, rfl⟩
  have hB : Below w.heap.size w W1 := by rw [hA0]; exact (Below.refl _ _).alloc (Nat.le_refl _) _
  have hS0 : W1.heap.size = N + 1 := by rw [hA0]; simp [← hN]
  have HR := Lib.hid (show Blk W1 N #[.int .i64 base, .int .i64 term, .slice a ln c] 24 by rw [hA0, hN]; exact blk_new _ _ _)
  replace HB := Lib.hid (HB.out.trans (hB.mono HB.out.size))
  replace HV := Lib.hid (HV.out.below hB)
  replace HV2 := Lib.hid (HV2.out.below hB)
  replace HP := Lib.hid (HP.out.below hB)
  clear hB
  obtain ⟨W2, hA1⟩ : ∃ W0, W0 = W1.alloc (.cells #[.int .i64 0, .int .i64 0, .slice none 0 0] 24) := ⟨_, rfl⟩
  have hB : Below W1.heap.size W1 W2 := by rw [hA1]; exact (Below.refl _ _).alloc (Nat.le_refl _) _
  have hS1 : W2.heap.size = N + 2 := by rw [hA1]; simp [hS0]
  have HK1 := Lib.hid (show Blk W2 (N + 1) #[.int .i64 0, .int .i64 0, .slice none 0 0] 24 by rw [hA1, ← hS0]; exact blk_new _ _ _)
  replace HB := Lib.hid (HB.out.trans (hB.mono HB.out.size))
  replace HV := Lib.hid (HV.out.below hB)
  replace HV2 := Lib.hid (HV2.out.below hB)
  replace HP := Lib.hid (HP.out.below hB)
  replace HR := Lib.hid (HR.out.step hB)
  clear hB
  have HSN := Lib.hid hS1
  rw [← hN, ← hA0, ← hA1]
  clear hA1 hA0 hN hS0 hS1
  have qR0 : W2.cell? ⟨N, 0, none⟩ = some (.int .i64 base) := cell_at HR.out 0
  have qR1 : W2.cell? ⟨N, 1, none⟩ = some (.int .i64 term) := cell_at HR.out 1
  have qR2 : W2.cell? ⟨N, 2, none⟩ = some (.slice a ln c) := cell_at HR.out 2
  have qRz : ∀ j, W2.frozen? ⟨N, j, none⟩ = false := fun j => free_at HR.out j
  have qRl : N < W2.heap.size := HR.out.lt
  have qK10 : W2.cell? ⟨(N + 1), 0, none⟩ = some (.int .i64 0) := cell_at HK1.out 0
  have qK11 : W2.cell? ⟨(N + 1), 1, none⟩ = some (.int .i64 0) := cell_at HK1.out 1
  have qK12 : W2.cell? ⟨(N + 1), 2, none⟩ = some (.slice none 0 0) := cell_at HK1.out 2
  have qK1z : ∀ j, W2.frozen? ⟨(N + 1), j, none⟩ = false := fun j => free_at HK1.out j
  have qK1l : (N + 1) < W2.heap.size := HK1.out.lt
  have ww1 : IntKind.i64.wrap (base + (i : Int) - base) = (i : Int) := (IntWalk.i64_in _ (by omega)).trans (by omega)
  have ww2 : base + (i : Int) - base = (i : Int) := by omega
  have ww3 : IntKind.i64.wrap (i : Int) = (i : Int) := IntWalk.i64_in _ (by omega)
  have HDF := Lib.hid (differ_any _ _ _ _ W2 HP.out HV2.out)
  rw [← HK.out] at HDF
  go_upto_region 2 with fail
  go_wp2_with fail
  go_fit HDF.out
  rintro e W3 ⟨rfl, hB⟩
  clear qR0 qR1 qR2 qRz qRl qK10 qK11 qK12 qK1z qK1l
  replace HB := Lib.hid (HB.out.trans (hB.mono HB.out.size))
  replace HV := Lib.hid (HV.out.below hB)
  replace HV2 := Lib.hid (HV2.out.below hB)
  replace HP := Lib.hid (HP.out.below hB)
  replace HR := Lib.hid (HR.out.step hB)
  replace HK1 := Lib.hid (HK1.out.step hB)
  clear hB
  clear HDF hs1 HP ww1 ww2 ww3
  by_cases hc : k < 0 ∨ (l2 : Int) ≤ k
  · skip
    rw [if_pos hc] at HLP
    have HJ2 : Hid (J = joinE base term ln L []) := Lib.hid (by rw [HJ.out, HLP.out])
    have HY2 : Hid (Y = L.take ln ++ []) := Lib.hid (by rw [HY.out, HLP.out])
    have d1 : (decide (k < 0) || decide ((l2 : Int) ≤ k)) = true := by simpa using hc
    have d2 : (k < 0) = True ∨ (k < 0) = False := by by_cases h : k < 0 <;> simp [h]
    have HJN := Lib.hid (joinU base term _ _ L [] ln W3 HV.out (rv_nil _) (by rw [HLN.out]; exact Nat.le_refl _) (by rw [← HLN.out]; exact hL) (by simp))
    rw [← HJ2.out, ← HY2.out, ← HZB.out, ← HZT.out] at HJN
    clear hdl
    have qR0 : W3.cell? ⟨N, 0, none⟩ = some (.int .i64 base) := cell_at HR.out 0
    have qR1 : W3.cell? ⟨N, 1, none⟩ = some (.int .i64 term) := cell_at HR.out 1
    have qR2 : W3.cell? ⟨N, 2, none⟩ = some (.slice a ln c) := cell_at HR.out 2
    have qRz : ∀ j, W3.frozen? ⟨N, j, none⟩ = false := fun j => free_at HR.out j
    have qRl : N < W3.heap.size := HR.out.lt
    have qK10 : W3.cell? ⟨(N + 1), 0, none⟩ = some (.int .i64 0) := cell_at HK1.out 0
    have qK11 : W3.cell? ⟨(N + 1), 1, none⟩ = some (.int .i64 0) := cell_at HK1.out 1
    have qK12 : W3.cell? ⟨(N + 1), 2, none⟩ = some (.slice none 0 0) := cell_at HK1.out 2
    have qK1z : ∀ j, W3.frozen? ⟨(N + 1), j, none⟩ = false := fun j => free_at HK1.out j
    have qK1l : (N + 1) < W3.heap.size := HK1.out.lt
    by_cases hk0 : k < 0
    all_goals
      go_wp2_with fail
      go_at_call 32
      go_fit HJN.out
      rintro e W4 ⟨v4, rfl, hv4, hB⟩
      clear qR0 qR1 qR2 qRz qRl qK10 qK11 qK12 qK1z qK1l
      replace HB := Lib.hid (HB.out.trans (hB.mono HB.out.size))
      replace HV := Lib.hid (HV.out.below hB)
      replace HV2 := Lib.hid (HV2.out.below hB)
      replace HR := Lib.hid (HR.out.step hB)
      replace HK1 := Lib.hid (HK1.out.step hB)
      clear hB
      obtain ⟨a4, ly, c4, rfl, Hly, ly1, ly2, ly3⟩ := hv4.sh
      have HV4 := Lib.hid hv4
      clear hv4
      clear HJN
      have qK10 : W4.cell? ⟨(N + 1), 0, none⟩ = some (.int .i64 0) := cell_at HK1.out 0
      have qK11 : W4.cell? ⟨(N + 1), 1, none⟩ = some (.int .i64 0) := cell_at HK1.out 1
      have qK12 : W4.cell? ⟨(N + 1), 2, none⟩ = some (.slice none 0 0) := cell_at HK1.out 2
      have qK1z : ∀ j, W4.frozen? ⟨(N + 1), j, none⟩ = false := fun j => free_at HK1.out j
      have qK1l : (N + 1) < W4.heap.size := HK1.out.lt
      go_wp2_with fail
      clear qK10 qK11 qK12 qK1z qK1l
      obtain ⟨LS, hLS⟩ : ∃ L : List Value, L = [.int .i64 zb, .int .i64 zt, .slice a4 ly c4] := ⟨_, rfl⟩
      obtain ⟨W5, hWS⟩ : ∃ WS, WS = W4.setCells (N + 1) 0 LS := ⟨_, rfl⟩
      have hch := hWS
      rw [hLS] at hch
      simp only [World.setCells, Nat.zero_add, Nat.reduceAdd] at hch
      rw [← hch]
      clear hch
      have hkS := stC_blk HK1.out LS (by rw [hLS]; rfl)
      have hfS := stC_fr (N + 1) LS 0 W4
      rw [← hWS] at hkS hfS
      rw [hLS] at hkS
      replace HB := Lib.hid (HB.out.trans (hfS.below HB.out.size (by have := HLON.out; simp; try omega)))
      replace HV := Lib.hid (HV.out.fr HK1.out hfS)
      replace HV2 := Lib.hid (HV2.out.fr HK1.out hfS)
      replace HR := Lib.hid (show Blk W5 N #[.int .i64 base, .int .i64 term, .slice a ln c] 24 from (hfS.block _ HR.out.lt (by simp; try omega)).trans HR.out)
      replace HV4 := Lib.hid (HV4.out.fr HK1.out hfS)
      replace HK1 := Lib.hid (show Blk W5 (N + 1) #[.int .i64 zb, .int .i64 zt, .slice a4 ly c4] 24 from hkS)
      clear hWS hLS hkS hfS
      have qK10 : W5.cell? ⟨(N + 1), 0, none⟩ = some (.int .i64 zb) := cell_at HK1.out 0
      have qK11 : W5.cell? ⟨(N + 1), 1, none⟩ = some (.int .i64 zt) := cell_at HK1.out 1
      have qK12 : W5.cell? ⟨(N + 1), 2, none⟩ = some (.slice a4 ly c4) := cell_at HK1.out 2
      have qK1z : ∀ j, W5.frozen? ⟨(N + 1), j, none⟩ = false := fun j => free_at HK1.out j
      have qK1l : (N + 1) < W5.heap.size := HK1.out.lt
      exact bodyPost_ret (v := .tuple #[.agg #[.int .i64 zb, .int .i64 zt, .slice a4 ly c4], .int .i64 J]) (by simp [results, Try.results40, go_sem, qK10, qK11, qK12]) rfl ⟨_, rfl, HV4.out, HB.out⟩
  · skip
    rw [if_neg hc] at HLP
    have hc1 : 0 ≤ k := by omega
    have hc2 : k < l2 := by omega
    obtain ⟨m, rfl⟩ := Int.eq_ofNat_of_zero_le hc1
    rw [Int.toNat_natCast] at HLP
    have HJ2 : Hid (J = joinE base term (i + m) L (L2.drop m)) := Lib.hid (by rw [HJ.out, HLP.out])
    have HY2 : Hid (Y = L.take (i + m) ++ L2.drop m) := Lib.hid (by rw [HY.out, HLP.out])
    obtain ⟨hs2, hp2⟩ := HF2.out m (by omega)
    obtain ⟨r, hr⟩ : ∃ r, r = i + m := ⟨_, rfl⟩
    have ww1 : IntKind.i64.wrap ((i : Int) + (m : Int)) = (r : Int) := (IntWalk.i64_in _ (by omega)).trans (by omega)
    have ww2 : (i : Int) + (m : Int) = (r : Int) := by omega
    have ww3 : IntKind.i64.wrap (r : Int) = (r : Int) := IntWalk.i64_in _ (by omega)
    have hrl : r ≤ ln := by have := HPN.out; omega
    rw [← hr] at HJ2 HY2
    have hml : m ≤ l2 := by omega
    have HJN := Lib.hid (fun X (hX : Below W3.heap.size W3 X) (hB : Below w.heap.size w X) => joinU base term _ _ L (L2.drop m) r X (HV.out.below hX) (hp2.below hB) (by rw [← HLN.out]; exact hrl) (by rw [← HLN.out]; exact hL) (by rw [List.length_drop, ← HL2.out]; omega))
    rw [← HJ2.out, ← HY2.out, ← HZB.out, ← HZT.out] at HJN
    clear hdl hc hp2 hr
    have qR0 : W3.cell? ⟨N, 0, none⟩ = some (.int .i64 base) := cell_at HR.out 0
    have qR1 : W3.cell? ⟨N, 1, none⟩ = some (.int .i64 term) := cell_at HR.out 1
    have qR2 : W3.cell? ⟨N, 2, none⟩ = some (.slice a ln c) := cell_at HR.out 2
    have qRz : ∀ j, W3.frozen? ⟨N, j, none⟩ = false := fun j => free_at HR.out j
    have qRl : N < W3.heap.size := HR.out.lt
    have qK10 : W3.cell? ⟨(N + 1), 0, none⟩ = some (.int .i64 0) := cell_at HK1.out 0
    have qK11 : W3.cell? ⟨(N + 1), 1, none⟩ = some (.int .i64 0) := cell_at HK1.out 1
    have qK12 : W3.cell? ⟨(N + 1), 2, none⟩ = some (.slice none 0 0) := cell_at HK1.out 2
    have qK1z : ∀ j, W3.frozen? ⟨(N + 1), j, none⟩ = false := fun j => free_at HK1.out j
    have qK1l : (N + 1) < W3.heap.size := HK1.out.lt
    go_wp2_with fail
    clear qR0 qR1 qR2 qRz qRl qK10 qK11 qK12 qK1z qK1l
    refine wp_region_held_drew (S := fun X => (X.cell? ⟨N, 0, none⟩ = some (.int .i64 base) ∧ X.cell? ⟨N, 1, none⟩ = some (.int .i64 term) ∧ X.cell? ⟨N, 2, none⟩ = some (.slice a ln c) ∧ N < X.heap.size)) (by kernel_rfl) ⟨cell_at HR.out 0, cell_at HR.out 1, cell_at HR.out 2, HR.out.lt⟩ (fun hHeld => ?_)
    ((refine wpAnyH_take (i := 0) (v := ?_) (by (simp only [List.getElem?_toArray, List.getElem?_cons_succ, List.getElem?_cons_zero]); rfl) (by kernel_rfl) (by kernel_rfl) (by kernel_rfl) (by exact fun _ _ _ h => h) (Or.inl ⟨by rfl, ?_⟩) (by assumption) ?_); rotate_left; focus (intro wS hSw; (try dsimp only at hSw); go_simp; first | done | with_reducible rfl); try simp only [Act.put, List.setIfInBounds_toArray, List.set_cons_zero, List.set_cons_succ])
    ((refine wpAnyH_take (i := 1) (v := ?_) (by (simp only [List.getElem?_toArray, List.getElem?_cons_succ, List.getElem?_cons_zero]); rfl) (by kernel_rfl) (by kernel_rfl) (by kernel_rfl) (by exact fun _ _ _ h => h) (Or.inl ⟨by rfl, ?_⟩) (by assumption) ?_); rotate_left; focus (intro wS hSw; (try dsimp only at hSw); go_simp; first | done | with_reducible rfl); try simp only [Act.put, List.setIfInBounds_toArray, List.set_cons_zero, List.set_cons_succ])
    ((refine wpAnyH_take (i := 2) (v := ?_) (by (simp only [List.getElem?_toArray, List.getElem?_cons_succ, List.getElem?_cons_zero]); rfl) (by kernel_rfl) (by kernel_rfl) (by kernel_rfl) (by exact fun _ _ _ h => h) (Or.inl ⟨by rfl, ?_⟩) (by assumption) ?_); rotate_left; focus (intro wS hSw; (try dsimp only at hSw); go_simp; first | done | with_reducible rfl); try simp only [Act.put, List.setIfInBounds_toArray, List.set_cons_zero, List.set_cons_succ])
    ((refine wpAnyH_take (i := 3) (v := ?_) (by (simp only [List.getElem?_toArray, List.getElem?_cons_succ, List.getElem?_cons_zero]); rfl) (by kernel_rfl) (by kernel_rfl) (by kernel_rfl) (by exact fun _ _ _ h => h) (Or.inl ⟨by rfl, ?_⟩) (by assumption) ?_); rotate_left; focus (intro wS hSw; (try dsimp only at hSw); go_simp; first | done | with_reducible rfl); try simp only [Act.put, List.setIfInBounds_toArray, List.set_cons_zero, List.set_cons_succ])
    ((refine wpAnyH_take (i := 4) (v := ?_) (by (simp only [List.getElem?_toArray, List.getElem?_cons_succ, List.getElem?_cons_zero]); rfl) (by kernel_rfl) (by kernel_rfl) (by kernel_rfl) (by exact fun _ _ _ h => h) (Or.inl ⟨by rfl, ?_⟩) (by assumption) ?_); rotate_left; focus (intro wS hSw; (try dsimp only at hSw); go_simp; first | done | with_reducible rfl); try simp only [Act.put, List.setIfInBounds_toArray, List.set_cons_zero, List.set_cons_succ])
    ((refine wpAnyH_take (i := 5) (v := ?_) (by (simp only [List.getElem?_toArray, List.getElem?_cons_succ, List.getElem?_cons_zero]); rfl) (by kernel_rfl) (by kernel_rfl) (by kernel_rfl) (by exact fun _ _ _ h => h) (Or.inl ⟨by rfl, ?_⟩) (by assumption) ?_); rotate_left; focus (intro wS hSw; (try dsimp only at hSw); go_simp; first | done | with_reducible rfl); try simp only [Act.put, List.setIfInBounds_toArray, List.set_cons_zero, List.set_cons_succ])
    ((refine wpAnyH_take (i := 6) (v := ?_) (by (simp only [List.getElem?_toArray, List.getElem?_cons_succ, List.getElem?_cons_zero]); rfl) (by kernel_rfl) (by kernel_rfl) (by kernel_rfl) (by exact fun _ _ _ h => h) (Or.inl ⟨by rfl, ?_⟩) (by assumption) ?_); rotate_left; focus (intro wS hSw; (try dsimp only at hSw); go_simp; first | done | with_reducible rfl); try simp only [Act.put, List.setIfInBounds_toArray, List.set_cons_zero, List.set_cons_succ])
    refine wpAnyH_ready (rs := [7]) (by kernel_rfl) (by simp) ?_
    refine AllReadyH.cons (by (simp only [List.getElem?_toArray, List.getElem?_cons_succ, List.getElem?_cons_zero]); rfl) (fun K hK => ?_) AllReadyH.nil
    go_simp
    go_fit (HJN.out _ (by exact (Below.refl _ _).drew) (by exact HB.out.drew))
    rintro e W4 ⟨v4, rfl, hv4, hB⟩
    replace hB := below_undrew hB
    replace HB := Lib.hid (HB.out.trans (hB.mono HB.out.size))
    replace HV := Lib.hid (HV.out.below hB)
    replace HV2 := Lib.hid (HV2.out.below hB)
    replace HR := Lib.hid (HR.out.step hB)
    replace HK1 := Lib.hid (HK1.out.step hB)
    go_wp2_with fail
    refine hK.out _ _ ⟨cell_at HR.out 0, cell_at HR.out 1, cell_at HR.out 2, HR.out.lt⟩ (fun hHeld => ?_)
    clear hK K hB
    try simp only [Act.put, List.setIfInBounds_toArray, List.set_cons_zero, List.set_cons_succ]
    obtain ⟨a4, ly, c4, rfl, Hly, ly1, ly2, ly3⟩ := hv4.sh
    have HV4 := Lib.hid hv4
    clear hv4
    clear HJN
    ((refine wpAnyH_take (i := 8) (v := ?_) (by (simp only [List.getElem?_toArray, List.getElem?_cons_succ, List.getElem?_cons_zero]); rfl) (by kernel_rfl) (by kernel_rfl) (by kernel_rfl) (by exact fun _ _ _ h => h) (Or.inl ⟨by rfl, ?_⟩) (by assumption) ?_); rotate_left; focus (intro wS hSw; (try dsimp only at hSw); go_simp; first | done | with_reducible rfl); try simp only [Act.put, List.setIfInBounds_toArray, List.set_cons_zero, List.set_cons_succ])
    ((refine wpAnyH_take (i := 9) (v := ?_) (by (simp only [List.getElem?_toArray, List.getElem?_cons_succ, List.getElem?_cons_zero]); rfl) (by kernel_rfl) (by kernel_rfl) (by kernel_rfl) (by exact fun _ _ _ h => h) (Or.inl ⟨by rfl, ?_⟩) (by assumption) ?_); rotate_left; focus (intro wS hSw; (try dsimp only at hSw); go_simp; first | done | with_reducible rfl); try simp only [Act.put, List.setIfInBounds_toArray, List.set_cons_zero, List.set_cons_succ])
    refine wpAnyH_ready (rs := [10]) (by kernel_rfl) (by simp) ?_
    refine AllReadyH.cons (by (simp only [List.getElem?_toArray, List.getElem?_cons_succ, List.getElem?_cons_zero]); rfl) (fun K hK => ?_) AllReadyH.nil
    have qK10 : W4.cell? ⟨(N + 1), 0, none⟩ = some (.int .i64 0) := cell_at HK1.out 0
    have qK11 : W4.cell? ⟨(N + 1), 1, none⟩ = some (.int .i64 0) := cell_at HK1.out 1
    have qK12 : W4.cell? ⟨(N + 1), 2, none⟩ = some (.slice none 0 0) := cell_at HK1.out 2
    have qK1z : ∀ j, W4.frozen? ⟨(N + 1), j, none⟩ = false := fun j => free_at HK1.out j
    have qK1l : (N + 1) < W4.heap.size := HK1.out.lt
    go_simp
    clear qK10 qK11 qK12 qK1z qK1l
    obtain ⟨LS, hLS⟩ : ∃ L : List Value, L = [.int .i64 zb, .int .i64 zt, .slice a4 ly c4] := ⟨_, rfl⟩
    obtain ⟨W5, hWS⟩ : ∃ WS, WS = W4.setCells (N + 1) 0 LS := ⟨_, rfl⟩
    have hch := hWS
    rw [hLS] at hch
    simp only [World.setCells, Nat.zero_add, Nat.reduceAdd] at hch
    rw [← hch]
    clear hch
    have hkS := stC_blk HK1.out LS (by rw [hLS]; rfl)
    have hfS := stC_fr (N + 1) LS 0 W4
    rw [← hWS] at hkS hfS
    rw [hLS] at hkS
    replace HB := Lib.hid (HB.out.trans (hfS.below HB.out.size (by have := HLON.out; simp; try omega)))
    replace HV := Lib.hid (HV.out.fr HK1.out hfS)
    replace HV2 := Lib.hid (HV2.out.fr HK1.out hfS)
    replace HR := Lib.hid (show Blk W5 N #[.int .i64 base, .int .i64 term, .slice a ln c] 24 from (hfS.block _ HR.out.lt (by simp; try omega)).trans HR.out)
    replace HV4 := Lib.hid (HV4.out.fr HK1.out hfS)
    replace HK1 := Lib.hid (show Blk W5 (N + 1) #[.int .i64 zb, .int .i64 zt, .slice a4 ly c4] 24 from hkS)
    clear hWS hLS hkS hfS
    refine hK.out _ _ ⟨cell_at HR.out 0, cell_at HR.out 1, cell_at HR.out 2, HR.out.lt⟩ (fun hHeld => ?_)
    clear hK K
    try simp only [Act.put, List.setIfInBounds_toArray, List.set_cons_zero, List.set_cons_succ]
    ((refine wpAnyH_take (i := 11) (v := ?_) (by (simp only [List.getElem?_toArray, List.getElem?_cons_succ, List.getElem?_cons_zero]); rfl) (by kernel_rfl) (by kernel_rfl) (by kernel_rfl) (by exact fun _ _ _ h => h) (Or.inl ⟨by rfl, ?_⟩) (by assumption) ?_); rotate_left; focus (intro wS hSw; (try dsimp only at hSw); go_simp; first | done | with_reducible rfl); try simp only [Act.put, List.setIfInBounds_toArray, List.set_cons_zero, List.set_cons_succ])
    refine wpAnyH_done (by kernel_rfl) ?_ _
    go_wp2_with fail
    have qK10 : W5.cell? ⟨(N + 1), 0, none⟩ = some (.int .i64 zb) := cell_at HK1.out 0
    have qK11 : W5.cell? ⟨(N + 1), 1, none⟩ = some (.int .i64 zt) := cell_at HK1.out 1
    have qK12 : W5.cell? ⟨(N + 1), 2, none⟩ = some (.slice a4 ly c4) := cell_at HK1.out 2
    have qK1z : ∀ j, W5.frozen? ⟨(N + 1), j, none⟩ = false := fun j => free_at HK1.out j
    have qK1l : (N + 1) < W5.heap.size := HK1.out.lt
    exact bodyPost_ret (v := .tuple #[.agg #[.int .i64 zb, .int .i64 zt, .slice a4 ly c4], .int .i64 J]) (by simp [results, Try.results40, go_sem, qK10, qK11, qK12]) rfl ⟨_, rfl, HV4.out, HB.out⟩
end Go.Proofs.Ytcadinoijclfnaa
