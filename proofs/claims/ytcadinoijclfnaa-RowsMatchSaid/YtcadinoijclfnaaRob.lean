/-
  Entries from an index on: the program.
-/
import Derived.Test.YtcadinoijclfnaaRo9
import Derived.Test.YtcadinoijclfnaaLib2
import Derived.Deep.DeepFit
namespace Go.Proofs.Ytcadinoijclfnaa
open Go.RowKit
set_option linter.unusedSimpArgs false
set_option linter.unusedVariables false

def midA (a : Option Addr) (i m : Nat) : Option Addr := if m = i then a else a.map (·.add (i * 5))
theorem rv_mid {W : World} {a : Option Addr} {ln c : Nat} {L : List EnD} (h : RV W (.slice a ln c) L) (i e m : Nat) (h1 : i ≤ e) (h2 : e ≤ ln) (hm : e ≤ m) (h3 : m ≤ c) :
    RV W (.slice (midA a i m) (e - i) (m - i)) ((L.drop i).take (e - i)) := by
  obtain ⟨a', c', g, o, F, ee, k1, k2, k3, k4⟩ := h
  injection ee with e1 e2 e3
  subst e1 e2 e3
  have m1 := k1.le
  have m2 := k1.max
  have hs := rv_slice k1 rfl k2 k3 k4 i (e - i) (m - i) (if m = i then a else a.map (·.add (i * 5))) (by omega) (by omega) (by omega) (fun h0 => by
    have := (k1.at_ (by omega)).1
    rw [if_neg (by omega), this]
    show some ((⟨g, o, none⟩ : Addr).add (i * 5)) = _
    rw [addr_add])
  exact hs
theorem rv_lhm {a : Option Addr} {ln c : Nat} (i e m : Nat) (h1 : i ≤ e) (hm : e ≤ m) (h3 : m ≤ c) (W' : World) :
    (Instr.slice 22 (.slice a ln c) (some (.int .i64 (i : Nat))) (some (.int .i64 (e : Nat))) (some (.int .i64 (m : Nat)))).run Try.prog W' = .ok (.slice (midA a i m) (e - i) (m - i)) W' := by
  rw [run_slice_lhm W' 22 a ln c elemEn .i64 .i64 .i64 i e m (by omega) (by omega) (by omega) (by omega), sizeEn]
  rfl
theorem rv_lh {a : Option Addr} {ln c : Nat} (i e : Nat) (h1 : i ≤ e) (h3 : e ≤ c) (W' : World) :
    (Instr.slice 22 (.slice a ln c) (some (.int .i64 (i : Nat))) (some (.int .i64 (e : Nat))) none).run Try.prog W' = .ok (.slice (midA a i c) (e - i) (c - i)) W' := by
  rw [run_slice_lh W' 22 a ln c elemEn .i64 .i64 i e (by omega) (by omega) (by omega), sizeEn]
  rfl
theorem rv_h {a : Option Addr} {ln c : Nat} (e : Nat) (h3 : e ≤ c) (W' : World) :
    (Instr.slice 22 (.slice a ln c) none (some (.int .i64 (e : Nat))) none).run Try.prog W' = .ok (.slice (midA a 0 c) (e - 0) (c - 0)) W' := by
  rw [run_slice_h W' 22 a ln c elemEn .i64 e (by omega) (by omega), sizeEn]
  rfl
structure FrR where
  l : List EnD
  e : Int
def FrE (P : FrR) (e : Ending) (W : World) : Prop := ∃ v', e = .returned (.tuple #[v', .int .i64 P.e]) ∧ RV W v' P.l
def fromF (base term : Int) (L : List EnD) (idx most : Int) : FrR :=
  if okE base term L ≠ 0 then ⟨[], 90⟩
  else if idx ≤ base then ⟨[], 4⟩
  else if base + L.length + 1 < idx then ⟨[], 4⟩
  else ⟨(L.drop (idx - base - 1).toNat).take (min (min most.toNat 16) (L.length - (idx - base - 1).toNat)), 0⟩
theorem from_min (M c : Nat) : (16 < (M : Int) ∧ (c : Int) < 16 ∧ min (min M 16) c = c) ∨ (16 < (M : Int) ∧ ¬ ((c : Int) < 16) ∧ min (min M 16) c = 16) ∨ (¬ (16 < (M : Int)) ∧ (c : Int) < (M : Int) ∧ min (min M 16) c = c) ∨ (¬ (16 < (M : Int)) ∧ ¬ ((c : Int) < (M : Int)) ∧ min (min M 16) c = M) := by omega
set_option maxRecDepth 100000 in
set_option maxHeartbeats 8000000 in
theorem from_any (base term idx most : Int) (v : Value) (L : List EnD) (w : World) (h : RV w v L) (hx : -9223372036854775808 ≤ idx ∧ idx ≤ 9223372036854775807) (hmo : -9223372036854775808 ≤ most ∧ most ≤ 9223372036854775807) :
    Calls Try.prog 16 #[.agg #[.int .i64 base, .int .i64 term, v], .int .i64 idx, .int .i64 most] w fun e w' => FrE (fromF base term L idx most) e w' ∧ Below w.heap.size w w' := by
  obtain ⟨a, ln, c, rfl, Hln, m1, m2, m3⟩ := h.sh
  have HV := Lib.hid h
  have HV0 := Lib.hid h
  obtain ⟨P, hP⟩ : ∃ P, P = fromF base term L idx most := ⟨_, rfl⟩
  rw [← hP]
  have hp := hP
  unfold fromF at hp
  have HP := Lib.hid hp
  have HCK := Lib.hid (fun W (h : RV W (.slice a ln c) L) => checkR_any base term _ L W h)
  have HEN := Lib.hid (fun W (h : RV W (.slice a ln c) L) hk => endR_any base term _ L W h hk)
  obtain ⟨E1, hE1⟩ : ∃ E1, E1 = okE base term L := ⟨_, rfl⟩
  have hE1c : E1 = 0 ∨ E1 = 90 := by rw [hE1]; exact okE_two _ _ _
  rw [← hE1] at HCK HP
  have HE1 := Lib.hid hE1
  rw [← Hln.out] at HP HEN
  obtain ⟨M, hM⟩ : ∃ M : Nat, M = most.toNat := ⟨_, rfl⟩
  rw [← hM] at HP
  have hM2 : max most 0 = (M : Int) := by omega
  clear h hP hp hE1 hM
  have HB : Hid (Below w.heap.size w w) := Lib.hid (Below.refl _ _)
  go_enter Try.func16, Try.ntmps16
  go_upto_region 1 with fail
  obtain ⟨N, hN⟩ : ∃ n0, n0 = w.heap.size := ⟨_, rfl⟩
  have HLON : Hid (w.heap.size ≤ N) := Lib.hid (by have := HB.out.size; omega)
  obtain ⟨W1, hA0⟩ : ∃ W0, W0 = w.alloc (.cells #[.int .i64 base, .int .i64 term, .slice a ln c] 24) := ⟨_, rfl⟩
  have hB : Below w.heap.size w W1 := by rw [hA0]; exact (Below.refl _ _).alloc (Nat.le_refl _) _
  have hS0 : W1.heap.size = N + 1 := by rw [hA0]; simp [← hN]
  have HR := Lib.hid (show Blk W1 N #[.int .i64 base, .int .i64 term, .slice a ln c] 24 by rw [hA0, hN]; exact blk_new _ _ _)
  replace HB := Lib.hid (HB.out.trans (hB.mono HB.out.size))
  replace HV := Lib.hid (HV.out.below hB)
  clear hB
  have HSN := Lib.hid hS0
  rw [← hN, ← hA0]
  clear hA0 hN hS0
  have qR0 : W1.cell? ⟨N, 0, none⟩ = some (.int .i64 base) := cell_at HR.out 0
  have qR1 : W1.cell? ⟨N, 1, none⟩ = some (.int .i64 term) := cell_at HR.out 1
  have qR2 : W1.cell? ⟨N, 2, none⟩ = some (.slice a ln c) := cell_at HR.out 2
  have qRz : ∀ j, W1.frozen? ⟨N, j, none⟩ = false := fun j => free_at HR.out j
  have qRl : N < W1.heap.size := HR.out.lt
  go_wp2_with fail
  go_at_call 25
  go_fit (HCK.out _ HV.out)
  rintro e W2 ⟨rfl, hB⟩
  clear qR0 qR1 qR2 qRz qRl
  replace HB := Lib.hid (HB.out.trans (hB.mono HB.out.size))
  replace HV := Lib.hid (HV.out.below hB)
  replace HR := Lib.hid (HR.out.step hB)
  clear hB
  rcases hE1c with rfl | rfl
  · skip
    rw [if_neg (by simp)] at HP
    obtain ⟨b0, b1, b2, b3⟩ := okE_head HE1.out.symm
    rw [← Hln.out] at b1 b2
    by_cases k1 : idx ≤ base
    · skip
      rw [if_pos k1] at HP
      obtain rfl := HP.out
      have d1 : decide (idx ≤ base) = true := decide_eq_true k1
      have qR0 : W2.cell? ⟨N, 0, none⟩ = some (.int .i64 base) := cell_at HR.out 0
      have qR1 : W2.cell? ⟨N, 1, none⟩ = some (.int .i64 term) := cell_at HR.out 1
      have qR2 : W2.cell? ⟨N, 2, none⟩ = some (.slice a ln c) := cell_at HR.out 2
      have qRz : ∀ j, W2.frozen? ⟨N, j, none⟩ = false := fun j => free_at HR.out j
      have qRl : N < W2.heap.size := HR.out.lt
      go_wp2_with fail
      exact bodyPost_ret (v := .tuple #[.slice none 0 0, .int .i64 4]) (by simp [results, Try.results16, go_sem]) rfl ⟨⟨_, rfl, rv_nil _⟩, HB.out⟩
    · skip
      rw [if_neg k1] at HP
      have d1 : decide (idx ≤ base) = false := decide_eq_false k1
      obtain ⟨en, hen⟩ : ∃ en, en = base + (ln : Int) := ⟨_, rfl⟩
      rw [← hen] at HP HEN
      have ww0 : IntKind.i64.wrap (en + 1) = en + 1 := IntWalk.i64_in _ (by omega)
      have HENE := Lib.hid hen
      clear hen
      have qR0 : W2.cell? ⟨N, 0, none⟩ = some (.int .i64 base) := cell_at HR.out 0
      have qR1 : W2.cell? ⟨N, 1, none⟩ = some (.int .i64 term) := cell_at HR.out 1
      have qR2 : W2.cell? ⟨N, 2, none⟩ = some (.slice a ln c) := cell_at HR.out 2
      have qRz : ∀ j, W2.frozen? ⟨N, j, none⟩ = false := fun j => free_at HR.out j
      have qRl : N < W2.heap.size := HR.out.lt
      go_wp2_with fail
      go_at_call 34
      go_fit (HEN.out _ HV.out HE1.out.symm)
      rintro e W3 ⟨rfl, hB⟩
      clear qR0 qR1 qR2 qRz qRl
      replace HB := Lib.hid (HB.out.trans (hB.mono HB.out.size))
      replace HV := Lib.hid (HV.out.below hB)
      replace HR := Lib.hid (HR.out.step hB)
      clear hB
      by_cases k2 : en + 1 < idx
      · skip
        rw [if_pos k2] at HP
        obtain rfl := HP.out
        have d2 : decide (en + 1 < idx) = true := decide_eq_true k2
        go_wp2_with fail
        exact bodyPost_ret (v := .tuple #[.slice none 0 0, .int .i64 4]) (by simp [results, Try.results16, go_sem]) rfl ⟨⟨_, rfl, rv_nil _⟩, HB.out⟩
      · skip
        rw [if_neg k2] at HP
        have d2 : decide (en + 1 < idx) = false := decide_eq_false k2
        obtain ⟨j, hj⟩ := Int.eq_ofNat_of_zero_le (show 0 ≤ idx - base - 1 by omega)
        rw [hj, Int.toNat_natCast] at HP
        have hjl : j ≤ ln := by have := HENE.out; omega
        obtain ⟨y, hy⟩ : ∃ y, y = idx - base := ⟨_, rfl⟩
        have ww1 : IntKind.i64.wrap (idx - base) = y := (IntWalk.i64_in _ (by omega)).trans hy.symm
        have ww2 : IntKind.i64.wrap (y - 1) = (j : Int) := (IntWalk.i64_in _ (by omega)).trans (by omega)
        have ww3 : IntKind.i64.wrap (j : Int) = (j : Int) := IntWalk.i64_in _ (by omega)
        obtain ⟨q, hq⟩ : ∃ q, q = ln - j := ⟨_, rfl⟩
        have ww4 : IntKind.i64.wrap ((ln : Int) - j) = q := (IntWalk.i64_in _ (by omega)).trans (by omega)
        have ww5 : (ln : Int) - j = q := by omega
        have ww6 : IntKind.i64.wrap (q : Int) = q := IntWalk.i64_in _ (by omega)
        rw [← hq] at HP
        obtain ⟨n, hn⟩ : ∃ n, n = min (min M 16) q := ⟨_, rfl⟩
        rw [← hn] at HP
        obtain rfl := HP.out
        obtain ⟨e, he⟩ : ∃ e, e = j + n := ⟨_, rfl⟩
        have ww7 : IntKind.i64.wrap ((j : Int) + n) = e := (IntWalk.i64_in _ (by omega)).trans (by omega)
        have ww8 : (j : Int) + n = e := by omega
        have ww9 : IntKind.i64.wrap (e : Int) = e := IntWalk.i64_in _ (by omega)
        have hs2 := fun W' : World => rv_lhm (a := a) (ln := ln) (c := c) j e e (by omega) (Nat.le_refl _) (by omega) W'
        have hp2 := rv_mid HV0.out j e e (by omega) (by omega) (Nat.le_refl _) (by omega)
        rw [show e - j = n by omega] at hp2
        have hcase := from_min M q
        rw [← hn] at hcase
        simp only [show e - j = n by omega] at hs2
        obtain ⟨sa, hsa⟩ : ∃ sa, sa = midA a j e := ⟨_, rfl⟩
        rw [← hsa] at hs2 hp2
        have HTW := Lib.hid (fun W (h : RV W (.slice sa n n) ((L.drop j).take n)) => twinsR_any _ _ W h (by rw [List.length_take, List.length_drop, ← Hln.out]; omega) (fit_take (fit_drop (okE_dl HE1.out.symm) j) n))
        have HP2 := Lib.hid (hp2.below HB.out)
        clear hp2 k1 k2 hy hq hn he hsa hj
        by_cases h0 : most ≤ 0
        · skip
          obtain rfl : M = 0 := by omega
          obtain rfl : n = 0 := by have := hcase; omega
          obtain rfl : e = j := by omega
          have f1 : max most 0 = 0 := by omega
          clear ww7 ww8
          have f3 : (most < 0) ∨ most = 0 := by omega
          rcases f3 with f3 | f3
          all_goals
            have qR0 : W3.cell? ⟨N, 0, none⟩ = some (.int .i64 base) := cell_at HR.out 0
            have qR1 : W3.cell? ⟨N, 1, none⟩ = some (.int .i64 term) := cell_at HR.out 1
            have qR2 : W3.cell? ⟨N, 2, none⟩ = some (.slice a ln c) := cell_at HR.out 2
            have qRz : ∀ j, W3.frozen? ⟨N, j, none⟩ = false := fun j => free_at HR.out j
            have qRl : N < W3.heap.size := HR.out.lt
            go_wp2_with fail
            go_at_call 36
            go_fit (HTW.out _ HP2.out)
            rintro e W4 ⟨v5, rfl, hv5, hB⟩
            clear qR0 qR1 qR2 qRz qRl
            replace HB := Lib.hid (HB.out.trans (hB.mono HB.out.size))
            replace HV := Lib.hid (HV.out.below hB)
            replace HR := Lib.hid (HR.out.step hB)
            replace HP2 := Lib.hid (HP2.out.below hB)
            clear hB
            obtain ⟨a5, l5, c5, rfl, Hl5, l51, l52, l53⟩ := hv5.sh
            have HV5 := Lib.hid hv5
            clear hv5
            go_wp2_with fail
            exact bodyPost_ret (v := .tuple #[.slice a5 l5 c5, .int .i64 0]) (by simp [results, Try.results16, go_sem]) rfl ⟨⟨_, rfl, HV5.out⟩, HB.out⟩
        · skip
          have f1 : (most ≤ 0) = False := eq_false h0
          obtain rfl : most = (M : Int) := by omega
          have f4 : (0 < M) = True := eq_true (by omega)
          rcases hcase with ⟨q1, q2, q3⟩ | ⟨q1, q2, q3⟩ | ⟨q1, q2, q3⟩ | ⟨q1, q2, q3⟩
          · skip
            subst q3
            have qR0 : W3.cell? ⟨N, 0, none⟩ = some (.int .i64 base) := cell_at HR.out 0
            have qR1 : W3.cell? ⟨N, 1, none⟩ = some (.int .i64 term) := cell_at HR.out 1
            have qR2 : W3.cell? ⟨N, 2, none⟩ = some (.slice a ln c) := cell_at HR.out 2
            have qRz : ∀ j, W3.frozen? ⟨N, j, none⟩ = false := fun j => free_at HR.out j
            have qRl : N < W3.heap.size := HR.out.lt
            go_wp2_with fail
            go_at_call 36
            go_fit (HTW.out _ HP2.out)
            rintro e W4 ⟨v5, rfl, hv5, hB⟩
            clear qR0 qR1 qR2 qRz qRl
            replace HB := Lib.hid (HB.out.trans (hB.mono HB.out.size))
            replace HV := Lib.hid (HV.out.below hB)
            replace HR := Lib.hid (HR.out.step hB)
            replace HP2 := Lib.hid (HP2.out.below hB)
            clear hB
            obtain ⟨a5, l5, c5, rfl, Hl5, l51, l52, l53⟩ := hv5.sh
            have HV5 := Lib.hid hv5
            clear hv5
            go_wp2_with fail
            exact bodyPost_ret (v := .tuple #[.slice a5 l5 c5, .int .i64 0]) (by simp [results, Try.results16, go_sem]) rfl ⟨⟨_, rfl, HV5.out⟩, HB.out⟩
          · skip
            have ww7 : IntKind.i64.wrap ((j : Int) + 16) = e := (IntWalk.i64_in _ (by omega)).trans (by omega)
            have ww8 : (j : Int) + 16 = e := by omega
            subst q3
            have qR0 : W3.cell? ⟨N, 0, none⟩ = some (.int .i64 base) := cell_at HR.out 0
            have qR1 : W3.cell? ⟨N, 1, none⟩ = some (.int .i64 term) := cell_at HR.out 1
            have qR2 : W3.cell? ⟨N, 2, none⟩ = some (.slice a ln c) := cell_at HR.out 2
            have qRz : ∀ j, W3.frozen? ⟨N, j, none⟩ = false := fun j => free_at HR.out j
            have qRl : N < W3.heap.size := HR.out.lt
            go_wp2_with fail
            go_at_call 36
            go_fit (HTW.out _ HP2.out)
            rintro e W4 ⟨v5, rfl, hv5, hB⟩
            clear qR0 qR1 qR2 qRz qRl
            replace HB := Lib.hid (HB.out.trans (hB.mono HB.out.size))
            replace HV := Lib.hid (HV.out.below hB)
            replace HR := Lib.hid (HR.out.step hB)
            replace HP2 := Lib.hid (HP2.out.below hB)
            clear hB
            obtain ⟨a5, l5, c5, rfl, Hl5, l51, l52, l53⟩ := hv5.sh
            have HV5 := Lib.hid hv5
            clear hv5
            go_wp2_with fail
            exact bodyPost_ret (v := .tuple #[.slice a5 l5 c5, .int .i64 0]) (by simp [results, Try.results16, go_sem]) rfl ⟨⟨_, rfl, HV5.out⟩, HB.out⟩
          · skip
            subst q3
            have qR0 : W3.cell? ⟨N, 0, none⟩ = some (.int .i64 base) := cell_at HR.out 0
            have qR1 : W3.cell? ⟨N, 1, none⟩ = some (.int .i64 term) := cell_at HR.out 1
            have qR2 : W3.cell? ⟨N, 2, none⟩ = some (.slice a ln c) := cell_at HR.out 2
            have qRz : ∀ j, W3.frozen? ⟨N, j, none⟩ = false := fun j => free_at HR.out j
            have qRl : N < W3.heap.size := HR.out.lt
            go_wp2_with fail
            go_at_call 36
            go_fit (HTW.out _ HP2.out)
            rintro e W4 ⟨v5, rfl, hv5, hB⟩
            clear qR0 qR1 qR2 qRz qRl
            replace HB := Lib.hid (HB.out.trans (hB.mono HB.out.size))
            replace HV := Lib.hid (HV.out.below hB)
            replace HR := Lib.hid (HR.out.step hB)
            replace HP2 := Lib.hid (HP2.out.below hB)
            clear hB
            obtain ⟨a5, l5, c5, rfl, Hl5, l51, l52, l53⟩ := hv5.sh
            have HV5 := Lib.hid hv5
            clear hv5
            go_wp2_with fail
            exact bodyPost_ret (v := .tuple #[.slice a5 l5 c5, .int .i64 0]) (by simp [results, Try.results16, go_sem]) rfl ⟨⟨_, rfl, HV5.out⟩, HB.out⟩
          · skip
            subst q3
            have qR0 : W3.cell? ⟨N, 0, none⟩ = some (.int .i64 base) := cell_at HR.out 0
            have qR1 : W3.cell? ⟨N, 1, none⟩ = some (.int .i64 term) := cell_at HR.out 1
            have qR2 : W3.cell? ⟨N, 2, none⟩ = some (.slice a ln c) := cell_at HR.out 2
            have qRz : ∀ j, W3.frozen? ⟨N, j, none⟩ = false := fun j => free_at HR.out j
            have qRl : N < W3.heap.size := HR.out.lt
            go_wp2_with fail
            go_at_call 36
            go_fit (HTW.out _ HP2.out)
            rintro e W4 ⟨v5, rfl, hv5, hB⟩
            clear qR0 qR1 qR2 qRz qRl
            replace HB := Lib.hid (HB.out.trans (hB.mono HB.out.size))
            replace HV := Lib.hid (HV.out.below hB)
            replace HR := Lib.hid (HR.out.step hB)
            replace HP2 := Lib.hid (HP2.out.below hB)
            clear hB
            obtain ⟨a5, l5, c5, rfl, Hl5, l51, l52, l53⟩ := hv5.sh
            have HV5 := Lib.hid hv5
            clear hv5
            go_wp2_with fail
            exact bodyPost_ret (v := .tuple #[.slice a5 l5 c5, .int .i64 0]) (by simp [results, Try.results16, go_sem]) rfl ⟨⟨_, rfl, HV5.out⟩, HB.out⟩
  · skip
    rw [if_pos (by simp)] at HP
    obtain rfl := HP.out
    go_wp2_with fail
    exact bodyPost_ret (v := .tuple #[.slice none 0 0, .int .i64 90]) (by simp [results, Try.results16, go_sem]) rfl ⟨⟨_, rfl, rv_nil _⟩, HB.out⟩
end Go.Proofs.Ytcadinoijclfnaa
