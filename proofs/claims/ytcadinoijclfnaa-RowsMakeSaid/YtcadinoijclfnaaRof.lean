/-
  Entries from an index on: the document.
-/
import Derived.Test.YtcadinoijclfnaaRoe
import Derived.Test.YtcadinoijclfnaaRob
import Derived.Deep.DeepFit
namespace Go.Proofs.Ytcadinoijclfnaa
open Go.RowKit
set_option linter.unusedSimpArgs false
set_option linter.unusedVariables false

set_option maxRecDepth 100000 in
set_option maxHeartbeats 8000000 in
theorem rfrom_any (base term idx most : Int) (v : Value) (L : List EnD) (w : World) (h : RV w v L) (hx : -9223372036854775808 ≤ idx ∧ idx ≤ 9223372036854775807) (hmo : -9223372036854775808 ≤ most ∧ most ≤ 9223372036854775807) :
    Calls Try.prog 17 #[.agg #[.int .i64 base, .int .i64 term, v], .int .i64 idx, .int .i64 most] w fun e w' => FrE (fromF base term L idx most) e w' ∧ Below w.heap.size w w' := by
  obtain ⟨a, ln, c, rfl, Hln, m1, m2, m3⟩ := h.sh
  have HV := Lib.hid h
  have HV0 := Lib.hid h
  obtain ⟨P, hP⟩ : ∃ P, P = fromF base term L idx most := ⟨_, rfl⟩
  rw [← hP]
  have hp := hP
  unfold fromF at hp
  have HP := Lib.hid hp
  have HCK := Lib.hid (fun W (h : RV W (.slice a ln c) L) => rcheckR_any base term _ L W h)
  have HEN := Lib.hid (fun W (h : RV W (.slice a ln c) L) hk => rlastR_any base term _ L W h hk)
  obtain ⟨E1, hE1⟩ : ∃ E1, E1 = okE base term L := ⟨_, rfl⟩
  have hE1c : E1 = 0 ∨ E1 = 90 := by rw [hE1]; exact okE_two _ _ _
  rw [← hE1] at HCK HP
  have HE1 := Lib.hid hE1
  rw [← Hln.out] at HP HEN
  obtain ⟨M, hM⟩ : ∃ M : Nat, M = most.toNat := ⟨_, rfl⟩
  rw [← hM] at HP
  obtain ⟨m, hm⟩ : ∃ m : Nat, m = min M 16 := ⟨_, rfl⟩
  rw [← hm] at HP
  have hM2 : (if most < 0 then (0 : Int) else most) = (M : Int) := by split <;> omega
  have hM3 : (if (16 : Int) < (M : Int) then (16 : Int) else (M : Int)) = (m : Int) := by split <;> omega
  clear h hP hp hE1 hM hm
  have HB : Hid (Below w.heap.size w w) := Lib.hid (Below.refl _ _)
  go_enter Try.func17, Try.ntmps17
  go_upto_region 1 with fail
  obtain ⟨N, hN⟩ : ∃ n0, n0 = w.heap.size := ⟨_, rfl⟩
  have HLON : Hid (w.heap.size ≤ N) := Lib.hid (by have := HB.out.size; omega)
  obtain ⟨W1, hA0⟩ : ∃ W0, W0 = w.alloc (.cells #[.int .i64 base, .int .i64 term, .slice a ln c] 24) := ⟨_, rfl⟩
  have hB : Below w.heap.size w W1 := by rw [hA0]; exact (Below.refl _ _).alloc (Nat.le_refl _) _
  have hS0 : W1.heap.size = N + 1 := by rw [hA0]; simp [← hN]
  have HR := Lib.hid (show Blk W1 N #[.int .i64 base, .int .i64 term, .slice a ln c] 24 by rw [hA0, hN]; exact blk_new _ _ _)
  replace HB := Lib.hid (HB.out.trans (hB.mono HB.out.size))
  replace HV := Lib.hid (HV.out.below hB)
  clear hB
  have HSN := Lib.hid hS0
  rw [← hN, ← hA0]
  clear hA0 hN hS0
  have qR0 : W1.cell? ⟨N, 0, none⟩ = some (.int .i64 base) := cell_at HR.out 0
  have qR1 : W1.cell? ⟨N, 1, none⟩ = some (.int .i64 term) := cell_at HR.out 1
  have qR2 : W1.cell? ⟨N, 2, none⟩ = some (.slice a ln c) := cell_at HR.out 2
  have qRz : ∀ j, W1.frozen? ⟨N, j, none⟩ = false := fun j => free_at HR.out j
  have qRl : N < W1.heap.size := HR.out.lt
  go_wp2_with fail
  go_at_call 21
  go_fit (HCK.out _ HV.out)
  rintro e W2 ⟨rfl, hB⟩
  clear qR0 qR1 qR2 qRz qRl
  replace HB := Lib.hid (HB.out.trans (hB.mono HB.out.size))
  replace HV := Lib.hid (HV.out.below hB)
  replace HR := Lib.hid (HR.out.step hB)
  clear hB
  rcases hE1c with rfl | rfl
  · skip
    rw [if_neg (by simp)] at HP
    obtain ⟨b0, b1, b2, b3⟩ := okE_head HE1.out.symm
    rw [← Hln.out] at b1 b2
    obtain ⟨en, hen⟩ : ∃ en, en = base + (ln : Int) := ⟨_, rfl⟩
    rw [← hen] at HP HEN
    have ww0 : IntKind.i64.wrap (en + 1) = en + 1 := IntWalk.i64_in _ (by omega)
    have HENE := Lib.hid hen
    clear hen
    have qR0 : W2.cell? ⟨N, 0, none⟩ = some (.int .i64 base) := cell_at HR.out 0
    have qR1 : W2.cell? ⟨N, 1, none⟩ = some (.int .i64 term) := cell_at HR.out 1
    have qR2 : W2.cell? ⟨N, 2, none⟩ = some (.slice a ln c) := cell_at HR.out 2
    have qRz : ∀ j, W2.frozen? ⟨N, j, none⟩ = false := fun j => free_at HR.out j
    have qRl : N < W2.heap.size := HR.out.lt
    obtain ⟨lt, HL1⟩ := HEN.out W2 HV.out HE1.out.symm
    have HL := Lib.hid HL1
    clear HL1
    go_wp2_with fail
    go_at_call 22
    go_fit HL.out
    rintro e W3 ⟨rfl, hB⟩
    clear qR0 qR1 qR2 qRz qRl
    replace HB := Lib.hid (HB.out.trans (hB.mono HB.out.size))
    replace HV := Lib.hid (HV.out.below hB)
    replace HR := Lib.hid (HR.out.step hB)
    clear hB
    by_cases k1 : idx ≤ base
    · skip
      rw [if_pos k1] at HP
      obtain rfl := HP.out
      have d1 : decide (idx ≤ base) = true := decide_eq_true k1
      have qR0 : W3.cell? ⟨N, 0, none⟩ = some (.int .i64 base) := cell_at HR.out 0
      have qR1 : W3.cell? ⟨N, 1, none⟩ = some (.int .i64 term) := cell_at HR.out 1
      have qR2 : W3.cell? ⟨N, 2, none⟩ = some (.slice a ln c) := cell_at HR.out 2
      have qRz : ∀ j, W3.frozen? ⟨N, j, none⟩ = false := fun j => free_at HR.out j
      have qRl : N < W3.heap.size := HR.out.lt
      go_wp2_with fail
      exact bodyPost_ret (v := .tuple #[.slice none 0 0, .int .i64 4]) (by simp [results, Try.results17, go_sem]) rfl ⟨⟨_, rfl, rv_nil _⟩, HB.out⟩
    · skip
      rw [if_neg k1] at HP
      have d1 : decide (idx ≤ base) = false := decide_eq_false k1
      by_cases k2 : en + 1 < idx
      · skip
        rw [if_pos k2] at HP
        obtain rfl := HP.out
        have d2 : decide (en + 1 < idx) = true := decide_eq_true k2
        have qR0 : W3.cell? ⟨N, 0, none⟩ = some (.int .i64 base) := cell_at HR.out 0
        have qR1 : W3.cell? ⟨N, 1, none⟩ = some (.int .i64 term) := cell_at HR.out 1
        have qR2 : W3.cell? ⟨N, 2, none⟩ = some (.slice a ln c) := cell_at HR.out 2
        have qRz : ∀ j, W3.frozen? ⟨N, j, none⟩ = false := fun j => free_at HR.out j
        have qRl : N < W3.heap.size := HR.out.lt
        go_wp2_with fail
        exact bodyPost_ret (v := .tuple #[.slice none 0 0, .int .i64 4]) (by simp [results, Try.results17, go_sem]) rfl ⟨⟨_, rfl, rv_nil _⟩, HB.out⟩
      · skip
        rw [if_neg k2] at HP
        have d2 : decide (en + 1 < idx) = false := decide_eq_false k2
        obtain ⟨j, hj⟩ := Int.eq_ofNat_of_zero_le (show 0 ≤ idx - base - 1 by omega)
        rw [hj, Int.toNat_natCast] at HP
        have hjl : j ≤ ln := by have := HENE.out; omega
        obtain ⟨y, hy⟩ : ∃ y, y = idx - base := ⟨_, rfl⟩
        have ww1 : IntKind.i64.wrap (idx - base) = y := (IntWalk.i64_in _ (by omega)).trans hy.symm
        have ww2 : IntKind.i64.wrap (y - 1) = (j : Int) := (IntWalk.i64_in _ (by omega)).trans (by omega)
        have ww3 : IntKind.i64.wrap (j : Int) = (j : Int) := IntWalk.i64_in _ (by omega)
        obtain ⟨hs1, hp1⟩ := rv_from HV0.out j hjl
        obtain ⟨q, hq⟩ : ∃ q, q = ln - j := ⟨_, rfl⟩
        rw [← hq] at HP hs1 hp1
        obtain ⟨n, hn⟩ : ∃ n, n = min m q := ⟨_, rfl⟩
        have ww5 : (if q < m then (q : Int) else (m : Int)) = (n : Int) := by split <;> omega
        have ww4 : (if (q : Int) < (m : Int) then (q : Int) else (m : Int)) = (n : Int) := by split <;> omega
        rw [← hn] at HP
        obtain rfl := HP.out
        obtain ⟨pa, hpa⟩ : ∃ pa, pa = fromA a c j := ⟨_, rfl⟩
        obtain ⟨pc, hpc⟩ : ∃ pc, pc = c - j := ⟨_, rfl⟩
        rw [← hpa, ← hpc] at hs1 hp1
        have hs2 := fun W' : World => rv_h (a := pa) (ln := q) (c := pc) n (by omega) W'
        have hp2 := rv_mid hp1 0 n pc (by omega) (by omega) (by omega) (Nat.le_refl _)
        rw [List.drop_zero, Nat.sub_zero, Nat.sub_zero] at hp2
        simp only [Nat.sub_zero] at hs2
        obtain ⟨sa, hsa⟩ : ∃ sa, sa = midA pa 0 pc := ⟨_, rfl⟩
        rw [← hsa] at hs2 hp2
        have HTW := Lib.hid (fun W (h : RV W (.slice sa n pc) ((L.drop j).take n)) => copiedR_any _ _ W h (by rw [List.length_take, List.length_drop, ← Hln.out]; omega) (fit_take (fit_drop (okE_dl HE1.out.symm) j) n))
        have HP2 := Lib.hid (hp2.below HB.out)
        have hnq : n ≤ pc := by omega
        clear hp1 hp2 k1 k2 hy hq hn hsa hpa hpc hj
        have qR0 : W3.cell? ⟨N, 0, none⟩ = some (.int .i64 base) := cell_at HR.out 0
        have qR1 : W3.cell? ⟨N, 1, none⟩ = some (.int .i64 term) := cell_at HR.out 1
        have qR2 : W3.cell? ⟨N, 2, none⟩ = some (.slice a ln c) := cell_at HR.out 2
        have qRz : ∀ j, W3.frozen? ⟨N, j, none⟩ = false := fun j => free_at HR.out j
        have qRl : N < W3.heap.size := HR.out.lt
        go_wp2_with fail
        go_at_call 38
        go_fit (HTW.out _ HP2.out)
        rintro e W4 ⟨v5, rfl, hv5, hB⟩
        clear qR0 qR1 qR2 qRz qRl
        replace HB := Lib.hid (HB.out.trans (hB.mono HB.out.size))
        replace HV := Lib.hid (HV.out.below hB)
        replace HR := Lib.hid (HR.out.step hB)
        replace HP2 := Lib.hid (HP2.out.below hB)
        clear hB
        obtain ⟨a5, l5, c5, rfl, Hl5, l51, l52, l53⟩ := hv5.sh
        have HV5 := Lib.hid hv5
        clear hv5
        go_wp2_with fail
        exact bodyPost_ret (v := .tuple #[.slice a5 l5 c5, .int .i64 0]) (by simp [results, Try.results17, go_sem]) rfl ⟨⟨_, rfl, HV5.out⟩, HB.out⟩
  · skip
    rw [if_pos (by simp)] at HP
    obtain rfl := HP.out
    go_wp2_with fail
    exact bodyPost_ret (v := .tuple #[.slice none 0 0, .int .i64 90]) (by simp [results, Try.results17, go_sem]) rfl ⟨⟨_, rfl, rv_nil _⟩, HB.out⟩
end Go.Proofs.Ytcadinoijclfnaa
