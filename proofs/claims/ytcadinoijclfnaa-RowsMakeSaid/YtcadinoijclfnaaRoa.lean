/-
  Rows cut: the program.
-/
import Derived.Test.YtcadinoijclfnaaRo9
import Derived.Test.YtcadinoijclfnaaLib2
import Derived.Deep.DeepFit
namespace Go.Proofs.Ytcadinoijclfnaa
open Go.RowKit
set_option linter.unusedSimpArgs false
set_option linter.unusedVariables false

set_option maxRecDepth 100000 in
set_option maxHeartbeats 8000000 in
theorem cut_any (base term idx : Int) (v : Value) (L : List EnD) (w : World) (h : RV w v L) (hx : -9223372036854775808 ≤ idx ∧ idx ≤ 9223372036854775807) :
    Calls Try.prog 14 #[.agg #[.int .i64 base, .int .i64 term, v], .int .i64 idx] w fun e w' => RwE (cutF base term L idx) e w' ∧ Below w.heap.size w w' := by
  obtain ⟨a, ln, c, rfl, Hln, m1, m2, m3⟩ := h.sh
  have HV := Lib.hid h
  have HV0 := Lib.hid h
  obtain ⟨P, hP⟩ : ∃ P, P = cutF base term L idx := ⟨_, rfl⟩
  rw [← hP]
  have hp := hP
  unfold cutF at hp
  have HP := Lib.hid hp
  have HCK := Lib.hid (fun W (h : RV W (.slice a ln c) L) => checkR_any base term _ L W h)
  have HEN := Lib.hid (fun W (h : RV W (.slice a ln c) L) hk => endR_any base term _ L W h hk)
  have HTM := Lib.hid (fun W (h : RV W (.slice a ln c) L) hk hi => termR_any base term idx _ L W h hk hi)
  obtain ⟨E1, hE1⟩ : ∃ E1, E1 = okE base term L := ⟨_, rfl⟩
  have hE1c : E1 = 0 ∨ E1 = 90 := by rw [hE1]; exact okE_two _ _ _
  rw [← hE1] at HCK HP
  have HE1 := Lib.hid hE1
  obtain ⟨t, ht⟩ : ∃ t, t = termL base term L idx := ⟨_, rfl⟩
  rw [← ht] at HP HTM
  rw [← Hln.out] at HP HEN HTM
  clear h hP hp hE1 ht
  have HB : Hid (Below w.heap.size w w) := Lib.hid (Below.refl _ _)
  go_enter Try.func14, Try.ntmps14
  go_upto_region 1 with fail
  obtain ⟨N, hN⟩ : ∃ n0, n0 = w.heap.size := ⟨_, rfl⟩
  have HLON : Hid (w.heap.size ≤ N) := Lib.hid (by have := HB.out.size; omega)
  obtain ⟨W1, hA0⟩ : ∃ W0, W0 = w.alloc (.cells #[.int .i64 base, .int .i64 term, .slice a ln c] 24) := ⟨_, rfl⟩
  have hB : Below w.heap.size w W1 := by rw [hA0]; exact (Below.refl _ _).alloc (Nat.le_refl _) _
  have hS0 : W1.heap.size = N + 1 := by rw [hA0]; simp [← hN]
  have HR := Lib.hid (show Blk W1 N #[.int .i64 base, .int .i64 term, .slice a ln c] 24 by rw [hA0, hN]; exact blk_new _ _ _)
  replace HB := Lib.hid (HB.out.trans (hB.mono HB.out.size))
  replace HV := Lib.hid (HV.out.below hB)
  clear hB
  obtain ⟨W2, hA1⟩ : ∃ W0, W0 = W1.alloc (.cells #[.int .i64 0, .int .i64 0, .slice none 0 0] 24) := ⟨_, rfl⟩
  have hB : Below W1.heap.size W1 W2 := by rw [hA1]; exact (Below.refl _ _).alloc (Nat.le_refl _) _
  have hS1 : W2.heap.size = N + 2 := by rw [hA1]; simp [hS0]
  have HK1 := Lib.hid (show Blk W2 (N + 1) #[.int .i64 0, .int .i64 0, .slice none 0 0] 24 by rw [hA1, ← hS0]; exact blk_new _ _ _)
  replace HB := Lib.hid (HB.out.trans (hB.mono HB.out.size))
  replace HV := Lib.hid (HV.out.below hB)
  replace HR := Lib.hid (HR.out.step hB)
  clear hB
  have HSN := Lib.hid hS1
  rw [← hN, ← hA0, ← hA1]
  clear hA1 hA0 hN hS0 hS1
  have qR0 : W2.cell? ⟨N, 0, none⟩ = some (.int .i64 base) := cell_at HR.out 0
  have qR1 : W2.cell? ⟨N, 1, none⟩ = some (.int .i64 term) := cell_at HR.out 1
  have qR2 : W2.cell? ⟨N, 2, none⟩ = some (.slice a ln c) := cell_at HR.out 2
  have qRz : ∀ j, W2.frozen? ⟨N, j, none⟩ = false := fun j => free_at HR.out j
  have qRl : N < W2.heap.size := HR.out.lt
  go_wp2_with fail
  go_at_call 25
  go_fit (HCK.out _ HV.out)
  rintro e W3 ⟨rfl, hB⟩
  clear qR0 qR1 qR2 qRz qRl
  replace HB := Lib.hid (HB.out.trans (hB.mono HB.out.size))
  replace HV := Lib.hid (HV.out.below hB)
  replace HR := Lib.hid (HR.out.step hB)
  replace HK1 := Lib.hid (HK1.out.step hB)
  clear hB
  rcases hE1c with rfl | rfl
  · skip
    rw [if_neg (by simp)] at HP
    obtain ⟨b0, b1, b2, b3⟩ := okE_head HE1.out.symm
    rw [← Hln.out] at b1 b2
    by_cases k1 : idx < base
    · rw [if_pos k1] at HP
      obtain rfl := HP.out
      have d1 : decide (idx < base) = true := decide_eq_true k1
      have qR0 : W3.cell? ⟨N, 0, none⟩ = some (.int .i64 base) := cell_at HR.out 0
      have qR1 : W3.cell? ⟨N, 1, none⟩ = some (.int .i64 term) := cell_at HR.out 1
      have qR2 : W3.cell? ⟨N, 2, none⟩ = some (.slice a ln c) := cell_at HR.out 2
      have qRz : ∀ j, W3.frozen? ⟨N, j, none⟩ = false := fun j => free_at HR.out j
      have qRl : N < W3.heap.size := HR.out.lt
      have qK10 : W3.cell? ⟨(N + 1), 0, none⟩ = some (.int .i64 0) := cell_at HK1.out 0
      have qK11 : W3.cell? ⟨(N + 1), 1, none⟩ = some (.int .i64 0) := cell_at HK1.out 1
      have qK12 : W3.cell? ⟨(N + 1), 2, none⟩ = some (.slice none 0 0) := cell_at HK1.out 2
      have qK1z : ∀ j, W3.frozen? ⟨(N + 1), j, none⟩ = false := fun j => free_at HK1.out j
      have qK1l : (N + 1) < W3.heap.size := HK1.out.lt
      go_wp2_with fail
      clear qR0 qR1 qR2 qRz qRl qK10 qK11 qK12 qK1z qK1l
      obtain ⟨LS, hLS⟩ : ∃ L : List Value, L = [.int .i64 0, .int .i64 0, .slice none 0 0] := ⟨_, rfl⟩
      obtain ⟨W4, hWS⟩ : ∃ WS, WS = W3.setCells (N + 1) 0 LS := ⟨_, rfl⟩
      have hch := hWS
      rw [hLS] at hch
      simp only [World.setCells, Nat.zero_add, Nat.reduceAdd] at hch
      rw [← hch]
      clear hch
      have hkS := stC_blk HK1.out LS (by rw [hLS]; rfl)
      have hfS := stC_fr (N + 1) LS 0 W3
      rw [← hWS] at hkS hfS
      rw [hLS] at hkS
      replace HB := Lib.hid (HB.out.trans (hfS.below HB.out.size (by have := HLON.out; simp; try omega)))
      replace HV := Lib.hid (HV.out.fr HK1.out hfS)
      replace HR := Lib.hid (show Blk W4 N #[.int .i64 base, .int .i64 term, .slice a ln c] 24 from (hfS.block _ HR.out.lt (by simp; try omega)).trans HR.out)
      replace HK1 := Lib.hid (show Blk W4 (N + 1) #[.int .i64 0, .int .i64 0, .slice none 0 0] 24 from hkS)
      clear hWS hLS hkS hfS
      have qK10 : W4.cell? ⟨(N + 1), 0, none⟩ = some (.int .i64 0) := cell_at HK1.out 0
      have qK11 : W4.cell? ⟨(N + 1), 1, none⟩ = some (.int .i64 0) := cell_at HK1.out 1
      have qK12 : W4.cell? ⟨(N + 1), 2, none⟩ = some (.slice none 0 0) := cell_at HK1.out 2
      have qK1z : ∀ j, W4.frozen? ⟨(N + 1), j, none⟩ = false := fun j => free_at HK1.out j
      have qK1l : (N + 1) < W4.heap.size := HK1.out.lt
      exact bodyPost_ret (v := .tuple #[.agg #[.int .i64 0, .int .i64 0, .slice none 0 0], .int .i64 4]) (by simp [results, Try.results14, go_sem, qK10, qK11, qK12]) rfl ⟨⟨_, rfl, rv_nil _⟩, HB.out⟩
    · skip
      rw [if_neg k1] at HP
      have d1 : decide (idx < base) = false := decide_eq_false k1
      obtain ⟨en, hen⟩ : ∃ en, en = base + (ln : Int) := ⟨_, rfl⟩
      rw [← hen] at HP HEN HTM
      have HENE := Lib.hid hen
      clear hen
      have qR0 : W3.cell? ⟨N, 0, none⟩ = some (.int .i64 base) := cell_at HR.out 0
      have qR1 : W3.cell? ⟨N, 1, none⟩ = some (.int .i64 term) := cell_at HR.out 1
      have qR2 : W3.cell? ⟨N, 2, none⟩ = some (.slice a ln c) := cell_at HR.out 2
      have qRz : ∀ j, W3.frozen? ⟨N, j, none⟩ = false := fun j => free_at HR.out j
      have qRl : N < W3.heap.size := HR.out.lt
      go_wp2_with fail
      go_at_call 34
      go_fit (HEN.out _ HV.out HE1.out.symm)
      rintro e W4 ⟨rfl, hB⟩
      clear qR0 qR1 qR2 qRz qRl
      replace HB := Lib.hid (HB.out.trans (hB.mono HB.out.size))
      replace HV := Lib.hid (HV.out.below hB)
      replace HR := Lib.hid (HR.out.step hB)
      replace HK1 := Lib.hid (HK1.out.step hB)
      clear hB
      by_cases k2 : en < idx
      · skip
        rw [if_pos k2] at HP
        obtain rfl := HP.out
        have d2 : decide (en < idx) = true := decide_eq_true k2
        have qK10 : W4.cell? ⟨(N + 1), 0, none⟩ = some (.int .i64 0) := cell_at HK1.out 0
        have qK11 : W4.cell? ⟨(N + 1), 1, none⟩ = some (.int .i64 0) := cell_at HK1.out 1
        have qK12 : W4.cell? ⟨(N + 1), 2, none⟩ = some (.slice none 0 0) := cell_at HK1.out 2
        have qK1z : ∀ j, W4.frozen? ⟨(N + 1), j, none⟩ = false := fun j => free_at HK1.out j
        have qK1l : (N + 1) < W4.heap.size := HK1.out.lt
        go_wp2_with fail
        clear qK10 qK11 qK12 qK1z qK1l
        obtain ⟨LS, hLS⟩ : ∃ L : List Value, L = [.int .i64 0, .int .i64 0, .slice none 0 0] := ⟨_, rfl⟩
        obtain ⟨W5, hWS⟩ : ∃ WS, WS = W4.setCells (N + 1) 0 LS := ⟨_, rfl⟩
        have hch := hWS
        rw [hLS] at hch
        simp only [World.setCells, Nat.zero_add, Nat.reduceAdd] at hch
        rw [← hch]
        clear hch
        have hkS := stC_blk HK1.out LS (by rw [hLS]; rfl)
        have hfS := stC_fr (N + 1) LS 0 W4
        rw [← hWS] at hkS hfS
        rw [hLS] at hkS
        replace HB := Lib.hid (HB.out.trans (hfS.below HB.out.size (by have := HLON.out; simp; try omega)))
        replace HV := Lib.hid (HV.out.fr HK1.out hfS)
        replace HR := Lib.hid (show Blk W5 N #[.int .i64 base, .int .i64 term, .slice a ln c] 24 from (hfS.block _ HR.out.lt (by simp; try omega)).trans HR.out)
        replace HK1 := Lib.hid (show Blk W5 (N + 1) #[.int .i64 0, .int .i64 0, .slice none 0 0] 24 from hkS)
        clear hWS hLS hkS hfS
        have qK10 : W5.cell? ⟨(N + 1), 0, none⟩ = some (.int .i64 0) := cell_at HK1.out 0
        have qK11 : W5.cell? ⟨(N + 1), 1, none⟩ = some (.int .i64 0) := cell_at HK1.out 1
        have qK12 : W5.cell? ⟨(N + 1), 2, none⟩ = some (.slice none 0 0) := cell_at HK1.out 2
        have qK1z : ∀ j, W5.frozen? ⟨(N + 1), j, none⟩ = false := fun j => free_at HK1.out j
        have qK1l : (N + 1) < W5.heap.size := HK1.out.lt
        exact bodyPost_ret (v := .tuple #[.agg #[.int .i64 0, .int .i64 0, .slice none 0 0], .int .i64 4]) (by simp [results, Try.results14, go_sem, qK10, qK11, qK12]) rfl ⟨⟨_, rfl, rv_nil _⟩, HB.out⟩
      · skip
        rw [if_neg k2] at HP
        have d2 : decide (en < idx) = false := decide_eq_false k2
        obtain ⟨m, hm⟩ := Int.eq_ofNat_of_zero_le (show 0 ≤ idx - base by omega)
        rw [hm, Int.toNat_natCast] at HP
        obtain rfl := HP.out
        have hml : m ≤ ln := by have := HENE.out; omega
        have ww1 : IntKind.i64.wrap (idx - base) = (m : Int) := (IntWalk.i64_in _ (by omega)).trans hm
        have ww3 : IntKind.i64.wrap (m : Int) = (m : Int) := IntWalk.i64_in _ (by omega)
        obtain ⟨hs2, hp2⟩ := rv_from HV0.out m hml
        have HTW := Lib.hid (fun W (h : RV W (.slice (fromA a c m) (ln - m) (c - m)) (L.drop m)) => twinsR_any _ (L.drop m) W h (by rw [List.length_drop, ← Hln.out]; omega) (fit_drop (okE_dl HE1.out.symm) m))
        have HP2 := Lib.hid (hp2.below HB.out)
        clear hp2 k1 k2
        have qR0 : W4.cell? ⟨N, 0, none⟩ = some (.int .i64 base) := cell_at HR.out 0
        have qR1 : W4.cell? ⟨N, 1, none⟩ = some (.int .i64 term) := cell_at HR.out 1
        have qR2 : W4.cell? ⟨N, 2, none⟩ = some (.slice a ln c) := cell_at HR.out 2
        have qRz : ∀ j, W4.frozen? ⟨N, j, none⟩ = false := fun j => free_at HR.out j
        have qRl : N < W4.heap.size := HR.out.lt
        go_wp2_with fail
        clear qR0 qR1 qR2 qRz qRl
        refine wp_region_held_drew (S := fun X => (X.cell? ⟨N, 0, none⟩ = some (.int .i64 base) ∧ X.cell? ⟨N, 1, none⟩ = some (.int .i64 term) ∧ X.cell? ⟨N, 2, none⟩ = some (.slice a ln c) ∧ N < X.heap.size)) (by kernel_rfl) ⟨cell_at HR.out 0, cell_at HR.out 1, cell_at HR.out 2, HR.out.lt⟩ (fun hHeld => ?_)
        ((refine wpAnyH_take (i := 0) (v := ?_) (by (simp only [List.getElem?_toArray, List.getElem?_cons_succ, List.getElem?_cons_zero]); rfl) (by kernel_rfl) (by kernel_rfl) (by kernel_rfl) (by exact fun _ _ _ h => h) (Or.inl ⟨by rfl, ?_⟩) (by assumption) ?_); rotate_left; focus (intro wS hSw; (try dsimp only at hSw); go_simp; first | done | with_reducible rfl); try simp only [Act.put, List.setIfInBounds_toArray, List.set_cons_zero, List.set_cons_succ])
        ((refine wpAnyH_take (i := 1) (v := ?_) (by (simp only [List.getElem?_toArray, List.getElem?_cons_succ, List.getElem?_cons_zero]); rfl) (by kernel_rfl) (by kernel_rfl) (by kernel_rfl) (by exact fun _ _ _ h => h) (Or.inl ⟨by rfl, ?_⟩) (by assumption) ?_); rotate_left; focus (intro wS hSw; (try dsimp only at hSw); go_simp; first | done | with_reducible rfl); try simp only [Act.put, List.setIfInBounds_toArray, List.set_cons_zero, List.set_cons_succ])
        ((refine wpAnyH_take (i := 2) (v := ?_) (by (simp only [List.getElem?_toArray, List.getElem?_cons_succ, List.getElem?_cons_zero]); rfl) (by kernel_rfl) (by kernel_rfl) (by kernel_rfl) (by exact fun _ _ _ h => h) (Or.inl ⟨by rfl, ?_⟩) (by assumption) ?_); rotate_left; focus (intro wS hSw; (try dsimp only at hSw); go_simp; first | done | with_reducible rfl); try simp only [Act.put, List.setIfInBounds_toArray, List.set_cons_zero, List.set_cons_succ])
        ((refine wpAnyH_take (i := 4) (v := ?_) (by (simp only [List.getElem?_toArray, List.getElem?_cons_succ, List.getElem?_cons_zero]); rfl) (by kernel_rfl) (by kernel_rfl) (by kernel_rfl) (by exact fun _ _ _ h => h) (Or.inl ⟨by rfl, ?_⟩) (by assumption) ?_); rotate_left; focus (intro wS hSw; (try dsimp only at hSw); go_simp; first | done | with_reducible rfl); try simp only [Act.put, List.setIfInBounds_toArray, List.set_cons_zero, List.set_cons_succ])
        ((refine wpAnyH_take (i := 5) (v := ?_) (by (simp only [List.getElem?_toArray, List.getElem?_cons_succ, List.getElem?_cons_zero]); rfl) (by kernel_rfl) (by kernel_rfl) (by kernel_rfl) (by exact fun _ _ _ h => h) (Or.inl ⟨by rfl, ?_⟩) (by assumption) ?_); rotate_left; focus (intro wS hSw; (try dsimp only at hSw); go_simp; first | done | with_reducible rfl); try simp only [Act.put, List.setIfInBounds_toArray, List.set_cons_zero, List.set_cons_succ])
        ((refine wpAnyH_take (i := 6) (v := ?_) (by (simp only [List.getElem?_toArray, List.getElem?_cons_succ, List.getElem?_cons_zero]); rfl) (by kernel_rfl) (by kernel_rfl) (by kernel_rfl) (by exact fun _ _ _ h => h) (Or.inl ⟨by rfl, ?_⟩) (by assumption) ?_); rotate_left; focus (intro wS hSw; (try dsimp only at hSw); go_simp; first | done | with_reducible rfl); try simp only [Act.put, List.setIfInBounds_toArray, List.set_cons_zero, List.set_cons_succ])
        ((refine wpAnyH_take (i := 7) (v := ?_) (by (simp only [List.getElem?_toArray, List.getElem?_cons_succ, List.getElem?_cons_zero]); rfl) (by kernel_rfl) (by kernel_rfl) (by kernel_rfl) (by exact fun _ _ _ h => h) (Or.inl ⟨by rfl, ?_⟩) (by assumption) ?_); rotate_left; focus (intro wS hSw; (try dsimp only at hSw); go_simp; first | done | with_reducible rfl); try simp only [Act.put, List.setIfInBounds_toArray, List.set_cons_zero, List.set_cons_succ])
        ((refine wpAnyH_take (i := 8) (v := ?_) (by (simp only [List.getElem?_toArray, List.getElem?_cons_succ, List.getElem?_cons_zero]); rfl) (by kernel_rfl) (by kernel_rfl) (by kernel_rfl) (by exact fun _ _ _ h => h) (Or.inl ⟨by rfl, ?_⟩) (by assumption) ?_); rotate_left; focus (intro wS hSw; (try dsimp only at hSw); go_simp; first | done | with_reducible rfl); try simp only [Act.put, List.setIfInBounds_toArray, List.set_cons_zero, List.set_cons_succ])
        ((refine wpAnyH_take (i := 9) (v := ?_) (by (simp only [List.getElem?_toArray, List.getElem?_cons_succ, List.getElem?_cons_zero]); rfl) (by kernel_rfl) (by kernel_rfl) (by kernel_rfl) (by exact fun _ _ _ h => h) (Or.inl ⟨by rfl, ?_⟩) (by assumption) ?_); rotate_left; focus (intro wS hSw; (try dsimp only at hSw); go_simp; first | done | with_reducible rfl); try simp only [Act.put, List.setIfInBounds_toArray, List.set_cons_zero, List.set_cons_succ])
        ((refine wpAnyH_take (i := 10) (v := ?_) (by (simp only [List.getElem?_toArray, List.getElem?_cons_succ, List.getElem?_cons_zero]); rfl) (by kernel_rfl) (by kernel_rfl) (by kernel_rfl) (by exact fun _ _ _ h => h) (Or.inl ⟨by rfl, ?_⟩) (by assumption) ?_); rotate_left; focus (intro wS hSw; (try dsimp only at hSw); go_simp; first | done | with_reducible rfl); try simp only [Act.put, List.setIfInBounds_toArray, List.set_cons_zero, List.set_cons_succ])
        refine wpAnyH_ready (rs := [3]) (by kernel_rfl) (by simp) ?_
        refine AllReadyH.cons (by (simp only [List.getElem?_toArray, List.getElem?_cons_succ, List.getElem?_cons_zero]); rfl) (fun K hK => ?_) AllReadyH.nil
        go_simp
        go_fit (HTM.out _ (by first | exact HV.out | exact HV.out.below (Below.refl _ _).drew) HE1.out.symm (by have := HENE.out; omega))
        rintro e W5 ⟨rfl, hB⟩
        replace hB := below_undrew hB
        replace HB := Lib.hid (HB.out.trans (hB.mono HB.out.size))
        replace HV := Lib.hid (HV.out.below hB)
        replace HR := Lib.hid (HR.out.step hB)
        replace HK1 := Lib.hid (HK1.out.step hB)
        replace HP2 := Lib.hid (HP2.out.below hB)
        go_wp2_with fail
        refine hK.out _ _ ⟨cell_at HR.out 0, cell_at HR.out 1, cell_at HR.out 2, HR.out.lt⟩ (fun hHeld => ?_)
        clear hK K hB
        try simp only [Act.put, List.setIfInBounds_toArray, List.set_cons_zero, List.set_cons_succ]
        refine wpAnyH_ready (rs := [11]) (by kernel_rfl) (by simp) ?_
        refine AllReadyH.cons (by (simp only [List.getElem?_toArray, List.getElem?_cons_succ, List.getElem?_cons_zero]); rfl) (fun K hK => ?_) AllReadyH.nil
        go_simp
        go_fit (HTW.out _ (by first | exact HP2.out | exact HP2.out.below (Below.refl _ _).drew))
        rintro e W6 ⟨v5, rfl, hv5, hB⟩
        replace HB := Lib.hid (HB.out.trans (hB.mono HB.out.size))
        replace HV := Lib.hid (HV.out.below hB)
        replace HR := Lib.hid (HR.out.step hB)
        replace HK1 := Lib.hid (HK1.out.step hB)
        replace HP2 := Lib.hid (HP2.out.below hB)
        go_wp2_with fail
        refine hK.out _ _ ⟨cell_at HR.out 0, cell_at HR.out 1, cell_at HR.out 2, HR.out.lt⟩ (fun hHeld => ?_)
        clear hK K hB
        try simp only [Act.put, List.setIfInBounds_toArray, List.set_cons_zero, List.set_cons_succ]
        obtain ⟨a5, l5, c5, rfl, Hl5, l51, l52, l53⟩ := hv5.sh
        have HV5 := Lib.hid hv5
        clear hv5
        ((refine wpAnyH_take (i := 12) (v := ?_) (by (simp only [List.getElem?_toArray, List.getElem?_cons_succ, List.getElem?_cons_zero]); rfl) (by kernel_rfl) (by kernel_rfl) (by kernel_rfl) (by exact fun _ _ _ h => h) (Or.inl ⟨by rfl, ?_⟩) (by assumption) ?_); rotate_left; focus (intro wS hSw; (try dsimp only at hSw); go_simp; first | done | with_reducible rfl); try simp only [Act.put, List.setIfInBounds_toArray, List.set_cons_zero, List.set_cons_succ])
        refine wpAnyH_ready (rs := [13]) (by kernel_rfl) (by simp) ?_
        refine AllReadyH.cons (by (simp only [List.getElem?_toArray, List.getElem?_cons_succ, List.getElem?_cons_zero]); rfl) (fun K hK => ?_) AllReadyH.nil
        have qK10 : W6.cell? ⟨(N + 1), 0, none⟩ = some (.int .i64 0) := cell_at HK1.out 0
        have qK11 : W6.cell? ⟨(N + 1), 1, none⟩ = some (.int .i64 0) := cell_at HK1.out 1
        have qK12 : W6.cell? ⟨(N + 1), 2, none⟩ = some (.slice none 0 0) := cell_at HK1.out 2
        have qK1z : ∀ j, W6.frozen? ⟨(N + 1), j, none⟩ = false := fun j => free_at HK1.out j
        have qK1l : (N + 1) < W6.heap.size := HK1.out.lt
        go_simp
        clear qK10 qK11 qK12 qK1z qK1l
        obtain ⟨LS, hLS⟩ : ∃ L : List Value, L = [.int .i64 idx, .int .i64 t, .slice a5 l5 c5] := ⟨_, rfl⟩
        obtain ⟨W7, hWS⟩ : ∃ WS, WS = W6.setCells (N + 1) 0 LS := ⟨_, rfl⟩
        have hch := hWS
        rw [hLS] at hch
        simp only [World.setCells, Nat.zero_add, Nat.reduceAdd] at hch
        rw [← hch]
        clear hch
        have hkS := stC_blk HK1.out LS (by rw [hLS]; rfl)
        have hfS := stC_fr (N + 1) LS 0 W6
        rw [← hWS] at hkS hfS
        rw [hLS] at hkS
        replace HB := Lib.hid (HB.out.trans (hfS.below HB.out.size (by have := HLON.out; simp; try omega)))
        replace HV := Lib.hid (HV.out.fr HK1.out hfS)
        replace HR := Lib.hid (show Blk W7 N #[.int .i64 base, .int .i64 term, .slice a ln c] 24 from (hfS.block _ HR.out.lt (by simp; try omega)).trans HR.out)
        replace HP2 := Lib.hid (HP2.out.fr HK1.out hfS)
        replace HV5 := Lib.hid (HV5.out.fr HK1.out hfS)
        replace HK1 := Lib.hid (show Blk W7 (N + 1) #[.int .i64 idx, .int .i64 t, .slice a5 l5 c5] 24 from hkS)
        clear hWS hLS hkS hfS
        refine hK.out _ _ ⟨cell_at HR.out 0, cell_at HR.out 1, cell_at HR.out 2, HR.out.lt⟩ (fun hHeld => ?_)
        clear hK K
        try simp only [Act.put, List.setIfInBounds_toArray, List.set_cons_zero, List.set_cons_succ]
        ((refine wpAnyH_take (i := 14) (v := ?_) (by (simp only [List.getElem?_toArray, List.getElem?_cons_succ, List.getElem?_cons_zero]); rfl) (by kernel_rfl) (by kernel_rfl) (by kernel_rfl) (by exact fun _ _ _ h => h) (Or.inl ⟨by rfl, ?_⟩) (by assumption) ?_); rotate_left; focus (intro wS hSw; (try dsimp only at hSw); go_simp; first | done | with_reducible rfl); try simp only [Act.put, List.setIfInBounds_toArray, List.set_cons_zero, List.set_cons_succ])
        refine wpAnyH_done (by kernel_rfl) ?_ _
        go_wp2_with fail
        have qK10 : W7.cell? ⟨(N + 1), 0, none⟩ = some (.int .i64 idx) := cell_at HK1.out 0
        have qK11 : W7.cell? ⟨(N + 1), 1, none⟩ = some (.int .i64 t) := cell_at HK1.out 1
        have qK12 : W7.cell? ⟨(N + 1), 2, none⟩ = some (.slice a5 l5 c5) := cell_at HK1.out 2
        have qK1z : ∀ j, W7.frozen? ⟨(N + 1), j, none⟩ = false := fun j => free_at HK1.out j
        have qK1l : (N + 1) < W7.heap.size := HK1.out.lt
        exact bodyPost_ret (v := .tuple #[.agg #[.int .i64 idx, .int .i64 t, .slice a5 l5 c5], .int .i64 0]) (by simp [results, Try.results14, go_sem, qK10, qK11, qK12]) rfl ⟨⟨_, rfl, HV5.out⟩, HB.out⟩
  · rw [if_pos (by simp)] at HP
    obtain rfl := HP.out
    have qK10 : W3.cell? ⟨(N + 1), 0, none⟩ = some (.int .i64 0) := cell_at HK1.out 0
    have qK11 : W3.cell? ⟨(N + 1), 1, none⟩ = some (.int .i64 0) := cell_at HK1.out 1
    have qK12 : W3.cell? ⟨(N + 1), 2, none⟩ = some (.slice none 0 0) := cell_at HK1.out 2
    have qK1z : ∀ j, W3.frozen? ⟨(N + 1), j, none⟩ = false := fun j => free_at HK1.out j
    have qK1l : (N + 1) < W3.heap.size := HK1.out.lt
    go_wp2_with fail
    clear qK10 qK11 qK12 qK1z qK1l
    obtain ⟨LS, hLS⟩ : ∃ L : List Value, L = [.int .i64 0, .int .i64 0, .slice none 0 0] := ⟨_, rfl⟩
    obtain ⟨W4, hWS⟩ : ∃ WS, WS = W3.setCells (N + 1) 0 LS := ⟨_, rfl⟩
    have hch := hWS
    rw [hLS] at hch
    simp only [World.setCells, Nat.zero_add, Nat.reduceAdd] at hch
    rw [← hch]
    clear hch
    have hkS := stC_blk HK1.out LS (by rw [hLS]; rfl)
    have hfS := stC_fr (N + 1) LS 0 W3
    rw [← hWS] at hkS hfS
    rw [hLS] at hkS
    replace HB := Lib.hid (HB.out.trans (hfS.below HB.out.size (by have := HLON.out; simp; try omega)))
    replace HV := Lib.hid (HV.out.fr HK1.out hfS)
    replace HR := Lib.hid (show Blk W4 N #[.int .i64 base, .int .i64 term, .slice a ln c] 24 from (hfS.block _ HR.out.lt (by simp; try omega)).trans HR.out)
    replace HK1 := Lib.hid (show Blk W4 (N + 1) #[.int .i64 0, .int .i64 0, .slice none 0 0] 24 from hkS)
    clear hWS hLS hkS hfS
    have qK10 : W4.cell? ⟨(N + 1), 0, none⟩ = some (.int .i64 0) := cell_at HK1.out 0
    have qK11 : W4.cell? ⟨(N + 1), 1, none⟩ = some (.int .i64 0) := cell_at HK1.out 1
    have qK12 : W4.cell? ⟨(N + 1), 2, none⟩ = some (.slice none 0 0) := cell_at HK1.out 2
    have qK1z : ∀ j, W4.frozen? ⟨(N + 1), j, none⟩ = false := fun j => free_at HK1.out j
    have qK1l : (N + 1) < W4.heap.size := HK1.out.lt
    exact bodyPost_ret (v := .tuple #[.agg #[.int .i64 0, .int .i64 0, .slice none 0 0], .int .i64 90]) (by simp [results, Try.results14, go_sem, qK10, qK11, qK12]) rfl ⟨⟨_, rfl, rv_nil _⟩, HB.out⟩
end Go.Proofs.Ytcadinoijclfnaa
