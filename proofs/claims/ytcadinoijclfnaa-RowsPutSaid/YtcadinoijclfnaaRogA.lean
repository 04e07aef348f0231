/-
  Entries put behind a place: the document, part no.
-/
import Derived.Test.YtcadinoijclfnaaRog
import Derived.Deep.DeepFit
import Derived.Lib.AppendZeros
namespace Go.Proofs.Ytcadinoijclfnaa
open Go.RowKit
set_option linter.unusedSimpArgs false
set_option linter.unusedVariables false

set_option maxRecDepth 100000 in
set_option maxHeartbeats 16000000 in
theorem rput_no (base term idx first : Int) (v v2 : Value) (L l : List EnD) (w : World) (h : RV w v L) (h2 : RV w v2 l) (hl5 : l.length ≤ 5000) (hx : -9223372036854775808 ≤ idx ∧ idx ≤ 9223372036854775807) (hyp : okE base term L = 0 → l.length ≤ 16 → okE idx first l = 0 → ¬ (fitF base term L idx first l).ok = true) :
    Calls Try.prog 20 #[.agg #[.int .i64 base, .int .i64 term, v], .int .i64 idx, .int .i64 first, v2] w fun e w' => RwOut (putF base term L idx first l) e w' ∧ Below w.heap.size w w' := by
  have HYP := Lib.hid hyp
  clear hyp
  have HR0 := Lib.hid h
  have HR2 := Lib.hid h2
  obtain ⟨a, ln, c, rfl, Hln, m1, m2, m3⟩ := h.sh
  obtain ⟨a2, l2, c2, rfl, Hl2, n1, n2, n3⟩ := h2.sh
  obtain ⟨P, hP⟩ : ∃ P, P = putF base term L idx first l := ⟨_, rfl⟩
  rw [← hP]
  have hp := hP
  unfold putF at hp
  rw [← Hl2.out] at hp hl5
  have HP := Lib.hid hp
  have HCK := Lib.hid (fun W (h : RV W (.slice a ln c) L) => rcheckR_any base term _ L W h)
  have HCK2 := Lib.hid (fun W (h : RV W (.slice a2 l2 c2) l) => rcheckR_any idx first _ l W h)
  obtain ⟨E1, hE1⟩ : ∃ E1, E1 = okE base term L := ⟨_, rfl⟩
  obtain ⟨E2, hE2⟩ : ∃ E2, E2 = okE idx first l := ⟨_, rfl⟩
  have hE1c : E1 = 0 ∨ E1 = 90 := by rw [hE1]; exact okE_two _ _ _
  have hE2c : E2 = 0 ∨ E2 = 90 := by rw [hE2]; exact okE_two _ _ _
  rw [← hE1] at HCK HP
  rw [← hE2] at HCK2 HP
  have HE1 := Lib.hid hE1
  have HE2 := Lib.hid hE2
  clear h h2 hP hp hE1 hE2
  have HB : Hid (Below w.heap.size w w) := Lib.hid (Below.refl _ _)
  go_enter Try.func20, Try.ntmps20
  go_upto_region 1 with fail
  obtain ⟨N, hN⟩ : ∃ n0, n0 = w.heap.size := ⟨_, rfl⟩
  have HLON : Hid (w.heap.size ≤ N) := Lib.hid (by have := HB.out.size; omega)
  obtain ⟨W1, hA0⟩ : ∃ W0, W0 = w.alloc (.cells #[.int .i64 base, .int .i64 term, .slice a ln c] 24) := ⟨_, rfl⟩
  have hB : Below w.heap.size w W1 := by rw [hA0]; exact (Below.refl _ _).alloc (Nat.le_refl _) _
  have hS0 : W1.heap.size = N + 1 := by rw [hA0]; simp [← hN]
  have HR := Lib.hid (show Blk W1 N #[.int .i64 base, .int .i64 term, .slice a ln c] 24 by rw [hA0, hN]; exact blk_new _ _ _)
  replace HB := Lib.hid (HB.out.trans (hB.mono HB.out.size))
  clear hB
  obtain ⟨W2, hA1⟩ : ∃ W0, W0 = W1.alloc (.cells #[.int .i64 0, .int .i64 0, .slice none 0 0] 24) := ⟨_, rfl⟩
  have hB : Below W1.heap.size W1 W2 := by rw [hA1]; exact (Below.refl _ _).alloc (Nat.le_refl _) _
  have hS1 : W2.heap.size = N + 2 := by rw [hA1]; simp [hS0]
  have HK1 := Lib.hid (show Blk W2 (N + 1) #[.int .i64 0, .int .i64 0, .slice none 0 0] 24 by rw [hA1, ← hS0]; exact blk_new _ _ _)
  replace HB := Lib.hid (HB.out.trans (hB.mono HB.out.size))
  replace HR := Lib.hid (HR.out.step hB)
  clear hB
  have HSN := Lib.hid hS1
  rw [← hN, ← hA0, ← hA1]
  clear hA1 hA0 hN hS0 hS1
  have qR0 : W2.cell? ⟨N, 0, none⟩ = some (.int .i64 base) := cell_at HR.out 0
  have qR1 : W2.cell? ⟨N, 1, none⟩ = some (.int .i64 term) := cell_at HR.out 1
  have qR2 : W2.cell? ⟨N, 2, none⟩ = some (.slice a ln c) := cell_at HR.out 2
  have qRz : ∀ j, W2.frozen? ⟨N, j, none⟩ = false := fun j => free_at HR.out j
  have qRl : N < W2.heap.size := HR.out.lt
  go_wp2_with fail
  go_at_call 21
  go_fit (HCK.out _ (HR0.out.below HB.out))
  rintro e W3 ⟨rfl, hB⟩
  clear qR0 qR1 qR2 qRz qRl
  replace HB := Lib.hid (HB.out.trans (hB.mono HB.out.size))
  replace HR := Lib.hid (HR.out.step hB)
  replace HK1 := Lib.hid (HK1.out.step hB)
  clear hB
  rcases hE1c with rfl | rfl
  · skip
    rw [if_neg (by simp)] at HP
    by_cases k1 : 16 < l2
    · skip
      rw [if_pos k1] at HP
      obtain rfl := HP.out
      have d1 : decide ((16 : Int) < (l2 : Int)) = true := decide_eq_true (by omega)
      have qK10 : W3.cell? ⟨(N + 1), 0, none⟩ = some (.int .i64 0) := cell_at HK1.out 0
      have qK11 : W3.cell? ⟨(N + 1), 1, none⟩ = some (.int .i64 0) := cell_at HK1.out 1
      have qK12 : W3.cell? ⟨(N + 1), 2, none⟩ = some (.slice none 0 0) := cell_at HK1.out 2
      have qK1z : ∀ j, W3.frozen? ⟨(N + 1), j, none⟩ = false := fun j => free_at HK1.out j
      have qK1l : (N + 1) < W3.heap.size := HK1.out.lt
      go_wp2_with fail
      clear qK10 qK11 qK12 qK1z qK1l
      obtain ⟨LS, hLS⟩ : ∃ L : List Value, L = [.int .i64 0, .int .i64 0, .slice none 0 0] := ⟨_, rfl⟩
      obtain ⟨W4, hWS⟩ : ∃ WS, WS = W3.setCells (N + 1) 0 LS := ⟨_, rfl⟩
      have hch := hWS
      rw [hLS] at hch
      simp only [World.setCells, Nat.zero_add, Nat.reduceAdd] at hch
      rw [← hch]
      clear hch
      have hkS := stC_blk HK1.out LS (by rw [hLS]; rfl)
      have hfS := stC_fr (N + 1) LS 0 W3
      rw [← hWS] at hkS hfS
      rw [hLS] at hkS
      replace HB := Lib.hid (HB.out.trans (hfS.below HB.out.size (by have := HLON.out; simp; try omega)))
      replace HR := Lib.hid (show Blk W4 N #[.int .i64 base, .int .i64 term, .slice a ln c] 24 from (hfS.block _ HR.out.lt (by simp; try omega)).trans HR.out)
      replace HK1 := Lib.hid (show Blk W4 (N + 1) #[.int .i64 0, .int .i64 0, .slice none 0 0] 24 from hkS)
      clear hWS hLS hkS hfS
      have qK10 : W4.cell? ⟨(N + 1), 0, none⟩ = some (.int .i64 0) := cell_at HK1.out 0
      have qK11 : W4.cell? ⟨(N + 1), 1, none⟩ = some (.int .i64 0) := cell_at HK1.out 1
      have qK12 : W4.cell? ⟨(N + 1), 2, none⟩ = some (.slice none 0 0) := cell_at HK1.out 2
      have qK1z : ∀ j, W4.frozen? ⟨(N + 1), j, none⟩ = false := fun j => free_at HK1.out j
      have qK1l : (N + 1) < W4.heap.size := HK1.out.lt
      exact bodyPost_ret (v := .tuple #[.agg #[.int .i64 0, .int .i64 0, .slice none 0 0], .int .i64 0, .bool false, .int .i64 2]) (by simp [results, Try.results20, go_sem, qK10, qK11, qK12]) rfl ⟨⟨_, rfl, rv_nil _⟩, HB.out⟩
    · skip
      rw [if_neg k1] at HP
      have d1 : decide ((16 : Int) < (l2 : Int)) = false := decide_eq_false (by omega)
      have d9 : (!decide ((16 : Int) < (l2 : Int))) = true := by rw [d1]; rfl
      go_wp2_with fail
      go_at_call 21
      go_fit (HCK2.out _ (HR2.out.below HB.out))
      rintro e W4 ⟨rfl, hB⟩
      replace HB := Lib.hid (HB.out.trans (hB.mono HB.out.size))
      replace HR := Lib.hid (HR.out.step hB)
      replace HK1 := Lib.hid (HK1.out.step hB)
      clear hB
      rcases hE2c with rfl | rfl
      · skip
        rw [if_neg (by simp)] at HP
        obtain ⟨i0, i1, i2, i3⟩ := okE_head HE2.out.symm
        obtain ⟨b0, b1, b2, b3⟩ := okE_head HE1.out.symm
        have HLS := Lib.hid (fun W (h : RV W (.slice a ln c) L) => rlastR_any base term _ L W h HE1.out.symm)
        have HTM := Lib.hid (fun W (h : RV W (.slice a ln c) L) => rterm_any base term idx _ L W h HE1.out.symm hx)
        have HCP := Lib.hid (fun W (h : RV W (.slice a ln c) L) => copiedR_any _ L W h (by omega) (okE_dl HE1.out.symm))
        unfold fitF at HP
        rw [← Hln.out] at b1 b2 HLS HP
        rw [← Hl2.out] at i1 HP
        obtain ⟨en, hen⟩ : ∃ en, en = base + (ln : Int) := ⟨_, rfl⟩
        rw [← hen] at HLS HP
        have HEN := Lib.hid hen
        obtain ⟨sm, hsm⟩ : ∃ sm, sm = idx + (l2 : Int) := ⟨_, rfl⟩
        have ww1 : IntKind.i64.wrap (idx + (l2 : Int)) = sm := (IntWalk.i64_in _ (by omega)).trans hsm.symm
        have HSM := Lib.hid hsm
        clear hen hsm i2 i3
        have qR0 : W4.cell? ⟨N, 0, none⟩ = some (.int .i64 base) := cell_at HR.out 0
        have qR1 : W4.cell? ⟨N, 1, none⟩ = some (.int .i64 term) := cell_at HR.out 1
        have qR2 : W4.cell? ⟨N, 2, none⟩ = some (.slice a ln c) := cell_at HR.out 2
        have qRz : ∀ j, W4.frozen? ⟨N, j, none⟩ = false := fun j => free_at HR.out j
        have qRl : N < W4.heap.size := HR.out.lt
        obtain ⟨lt, HL1⟩ := HLS.out W4 (HR0.out.below HB.out)
        have HL := Lib.hid HL1
        clear HL1
        go_wp2_with fail
        go_at_call 22
        go_fit HL.out
        rintro e W5 ⟨rfl, hB⟩
        clear qR0 qR1 qR2 qRz qRl
        replace HB := Lib.hid (HB.out.trans (hB.mono HB.out.size))
        replace HR := Lib.hid (HR.out.step hB)
        replace HK1 := Lib.hid (HK1.out.step hB)
        clear hB
        by_cases k2 : en < idx
        · skip
          rw [if_pos k2] at HP
          rw [endF_no HE1.out.symm rfl] at HP
          obtain rfl := HP.out
          have d2 : decide (en < idx) = true := decide_eq_true k2
          have qR0 : W5.cell? ⟨N, 0, none⟩ = some (.int .i64 base) := cell_at HR.out 0
          have qR1 : W5.cell? ⟨N, 1, none⟩ = some (.int .i64 term) := cell_at HR.out 1
          have qR2 : W5.cell? ⟨N, 2, none⟩ = some (.slice a ln c) := cell_at HR.out 2
          have qRz : ∀ j, W5.frozen? ⟨N, j, none⟩ = false := fun j => free_at HR.out j
          have qRl : N < W5.heap.size := HR.out.lt
          go_wp2_with fail
          clear qR0 qR1 qR2 qRz qRl
          refine wp_region_held_drew (S := fun X => (X.cell? ⟨N, 0, none⟩ = some (.int .i64 base) ∧ X.cell? ⟨N, 1, none⟩ = some (.int .i64 term) ∧ X.cell? ⟨N, 2, none⟩ = some (.slice a ln c) ∧ N < X.heap.size)) (by kernel_rfl) ⟨cell_at HR.out 0, cell_at HR.out 1, cell_at HR.out 2, HR.out.lt⟩ (fun hHeld => ?_)
          ((refine wpAnyH_take (i := 0) (v := ?_) (by (simp only [List.getElem?_toArray, List.getElem?_cons_succ, List.getElem?_cons_zero]); rfl) (by kernel_rfl) (by kernel_rfl) (by kernel_rfl) (by exact fun _ _ _ h => h) (Or.inl ⟨by rfl, ?_⟩) (by assumption) ?_); rotate_left; focus (intro wS hSw; (try dsimp only at hSw); go_simp; first | done | with_reducible rfl); try simp only [Act.put, List.setIfInBounds_toArray, List.set_cons_zero, List.set_cons_succ])
          ((refine wpAnyH_take (i := 1) (v := ?_) (by (simp only [List.getElem?_toArray, List.getElem?_cons_succ, List.getElem?_cons_zero]); rfl) (by kernel_rfl) (by kernel_rfl) (by kernel_rfl) (by exact fun _ _ _ h => h) (Or.inl ⟨by rfl, ?_⟩) (by assumption) ?_); rotate_left; focus (intro wS hSw; (try dsimp only at hSw); go_simp; first | done | with_reducible rfl); try simp only [Act.put, List.setIfInBounds_toArray, List.set_cons_zero, List.set_cons_succ])
          ((refine wpAnyH_take (i := 2) (v := ?_) (by (simp only [List.getElem?_toArray, List.getElem?_cons_succ, List.getElem?_cons_zero]); rfl) (by kernel_rfl) (by kernel_rfl) (by kernel_rfl) (by exact fun _ _ _ h => h) (Or.inl ⟨by rfl, ?_⟩) (by assumption) ?_); rotate_left; focus (intro wS hSw; (try dsimp only at hSw); go_simp; first | done | with_reducible rfl); try simp only [Act.put, List.setIfInBounds_toArray, List.set_cons_zero, List.set_cons_succ])
          ((refine wpAnyH_take (i := 3) (v := ?_) (by (simp only [List.getElem?_toArray, List.getElem?_cons_succ, List.getElem?_cons_zero]); rfl) (by kernel_rfl) (by kernel_rfl) (by kernel_rfl) (by exact fun _ _ _ h => h) (Or.inl ⟨by rfl, ?_⟩) (by assumption) ?_); rotate_left; focus (intro wS hSw; (try dsimp only at hSw); go_simp; first | done | with_reducible rfl); try simp only [Act.put, List.setIfInBounds_toArray, List.set_cons_zero, List.set_cons_succ])
          ((refine wpAnyH_take (i := 4) (v := ?_) (by (simp only [List.getElem?_toArray, List.getElem?_cons_succ, List.getElem?_cons_zero]); rfl) (by kernel_rfl) (by kernel_rfl) (by kernel_rfl) (by exact fun _ _ _ h => h) (Or.inl ⟨by rfl, ?_⟩) (by assumption) ?_); rotate_left; focus (intro wS hSw; (try dsimp only at hSw); go_simp; first | done | with_reducible rfl); try simp only [Act.put, List.setIfInBounds_toArray, List.set_cons_zero, List.set_cons_succ])
          ((refine wpAnyH_take (i := 5) (v := ?_) (by (simp only [List.getElem?_toArray, List.getElem?_cons_succ, List.getElem?_cons_zero]); rfl) (by kernel_rfl) (by kernel_rfl) (by kernel_rfl) (by exact fun _ _ _ h => h) (Or.inl ⟨by rfl, ?_⟩) (by assumption) ?_); rotate_left; focus (intro wS hSw; (try dsimp only at hSw); go_simp; first | done | with_reducible rfl); try simp only [Act.put, List.setIfInBounds_toArray, List.set_cons_zero, List.set_cons_succ])
          ((refine wpAnyH_take (i := 8) (v := ?_) (by (simp only [List.getElem?_toArray, List.getElem?_cons_succ, List.getElem?_cons_zero]); rfl) (by kernel_rfl) (by kernel_rfl) (by kernel_rfl) (by exact fun _ _ _ h => h) (Or.inl ⟨by rfl, ?_⟩) (by assumption) ?_); rotate_left; focus (intro wS hSw; (try dsimp only at hSw); go_simp; first | done | with_reducible rfl); try simp only [Act.put, List.setIfInBounds_toArray, List.set_cons_zero, List.set_cons_succ])
          refine wpAnyH_ready (rs := [6]) (by kernel_rfl) (by simp) ?_
          refine AllReadyH.cons (by (simp only [List.getElem?_toArray, List.getElem?_cons_succ, List.getElem?_cons_zero]); rfl) (fun K hK => ?_) AllReadyH.nil
          go_simp
          go_fit (HCP.out _ (HR0.out.below HB.out.drew))
          rintro e W6 ⟨v5, rfl, hv5, hB⟩
          replace hB := below_undrew hB
          replace HB := Lib.hid (HB.out.trans (hB.mono HB.out.size))
          replace HR := Lib.hid (HR.out.step hB)
          replace HK1 := Lib.hid (HK1.out.step hB)
          go_wp2_with fail
          refine hK.out _ _ ⟨cell_at HR.out 0, cell_at HR.out 1, cell_at HR.out 2, HR.out.lt⟩ (fun hHeld => ?_)
          clear hK K hB
          try simp only [Act.put, List.setIfInBounds_toArray, List.set_cons_zero, List.set_cons_succ]
          obtain ⟨a5, l5, c5, rfl, Hl5, l51, l52, l53⟩ := hv5.sh
          have HV5 := Lib.hid hv5
          clear hv5
          ((refine wpAnyH_take (i := 7) (v := ?_) (by (simp only [List.getElem?_toArray, List.getElem?_cons_succ, List.getElem?_cons_zero]); rfl) (by kernel_rfl) (by kernel_rfl) (by kernel_rfl) (by exact fun _ _ _ h => h) (Or.inl ⟨by rfl, ?_⟩) (by assumption) ?_); rotate_left; focus (intro wS hSw; (try dsimp only at hSw); go_simp; first | done | with_reducible rfl); try simp only [Act.put, List.setIfInBounds_toArray, List.set_cons_zero, List.set_cons_succ])
          refine wpAnyH_ready (rs := [9]) (by kernel_rfl) (by simp) ?_
          refine AllReadyH.cons (by (simp only [List.getElem?_toArray, List.getElem?_cons_succ, List.getElem?_cons_zero]); rfl) (fun K hK => ?_) AllReadyH.nil
          have qK10 : W6.cell? ⟨(N + 1), 0, none⟩ = some (.int .i64 0) := cell_at HK1.out 0
          have qK11 : W6.cell? ⟨(N + 1), 1, none⟩ = some (.int .i64 0) := cell_at HK1.out 1
          have qK12 : W6.cell? ⟨(N + 1), 2, none⟩ = some (.slice none 0 0) := cell_at HK1.out 2
          have qK1z : ∀ j, W6.frozen? ⟨(N + 1), j, none⟩ = false := fun j => free_at HK1.out j
          have qK1l : (N + 1) < W6.heap.size := HK1.out.lt
          go_simp
          clear qK10 qK11 qK12 qK1z qK1l
          obtain ⟨LS, hLS⟩ : ∃ L : List Value, L = [.int .i64 base, .int .i64 term, .slice a5 l5 c5] := ⟨_, rfl⟩
          obtain ⟨W7, hWS⟩ : ∃ WS, WS = W6.setCells (N + 1) 0 LS := ⟨_, rfl⟩
          have hch := hWS
          rw [hLS] at hch
          simp only [World.setCells, Nat.zero_add, Nat.reduceAdd] at hch
          rw [← hch]
          clear hch
          have hkS := stC_blk HK1.out LS (by rw [hLS]; rfl)
          have hfS := stC_fr (N + 1) LS 0 W6
          rw [← hWS] at hkS hfS
          rw [hLS] at hkS
          replace HB := Lib.hid (HB.out.trans (hfS.below HB.out.size (by have := HLON.out; simp; try omega)))
          replace HR := Lib.hid (show Blk W7 N #[.int .i64 base, .int .i64 term, .slice a ln c] 24 from (hfS.block _ HR.out.lt (by simp; try omega)).trans HR.out)
          replace HV5 := Lib.hid (HV5.out.fr HK1.out hfS)
          replace HK1 := Lib.hid (show Blk W7 (N + 1) #[.int .i64 base, .int .i64 term, .slice a5 l5 c5] 24 from hkS)
          clear hWS hLS hkS hfS
          refine hK.out _ _ ⟨cell_at HR.out 0, cell_at HR.out 1, cell_at HR.out 2, HR.out.lt⟩ (fun hHeld => ?_)
          clear hK K
          try simp only [Act.put, List.setIfInBounds_toArray, List.set_cons_zero, List.set_cons_succ]
          ((refine wpAnyH_take (i := 10) (v := ?_) (by (simp only [List.getElem?_toArray, List.getElem?_cons_succ, List.getElem?_cons_zero]); rfl) (by kernel_rfl) (by kernel_rfl) (by kernel_rfl) (by exact fun _ _ _ h => h) (Or.inl ⟨by rfl, ?_⟩) (by assumption) ?_); rotate_left; focus (intro wS hSw; (try dsimp only at hSw); go_simp; first | done | with_reducible rfl); try simp only [Act.put, List.setIfInBounds_toArray, List.set_cons_zero, List.set_cons_succ])
          ((refine wpAnyH_take (i := 11) (v := ?_) (by (simp only [List.getElem?_toArray, List.getElem?_cons_succ, List.getElem?_cons_zero]); rfl) (by kernel_rfl) (by kernel_rfl) (by kernel_rfl) (by exact fun _ _ _ h => h) (Or.inl ⟨by rfl, ?_⟩) (by assumption) ?_); rotate_left; focus (intro wS hSw; (try dsimp only at hSw); go_simp; first | done | with_reducible rfl); try simp only [Act.put, List.setIfInBounds_toArray, List.set_cons_zero, List.set_cons_succ])
          ((refine wpAnyH_take (i := 12) (v := ?_) (by (simp only [List.getElem?_toArray, List.getElem?_cons_succ, List.getElem?_cons_zero]); rfl) (by kernel_rfl) (by kernel_rfl) (by kernel_rfl) (by exact fun _ _ _ h => h) (Or.inl ⟨by rfl, ?_⟩) (by assumption) ?_); rotate_left; focus (intro wS hSw; (try dsimp only at hSw); go_simp; first | done | with_reducible rfl); try simp only [Act.put, List.setIfInBounds_toArray, List.set_cons_zero, List.set_cons_succ])
          refine wpAnyH_done (by kernel_rfl) ?_ _
          go_wp2_with fail
          have qK10 : W7.cell? ⟨(N + 1), 0, none⟩ = some (.int .i64 base) := cell_at HK1.out 0
          have qK11 : W7.cell? ⟨(N + 1), 1, none⟩ = some (.int .i64 term) := cell_at HK1.out 1
          have qK12 : W7.cell? ⟨(N + 1), 2, none⟩ = some (.slice a5 l5 c5) := cell_at HK1.out 2
          have qK1z : ∀ j, W7.frozen? ⟨(N + 1), j, none⟩ = false := fun j => free_at HK1.out j
          have qK1l : (N + 1) < W7.heap.size := HK1.out.lt
          exact bodyPost_ret (v := .tuple #[.agg #[.int .i64 base, .int .i64 term, .slice a5 l5 c5], .int .i64 en, .bool false, .int .i64 0]) (by simp [results, Try.results20, go_sem, qK10, qK11, qK12]) rfl ⟨⟨_, rfl, HV5.out⟩, HB.out⟩
        · skip
          rw [if_neg k2] at HP
          have d2 : decide (en < idx) = false := decide_eq_false k2
          by_cases k3 : idx < base
          · skip
            have d3 : decide (idx < base) = true := decide_eq_true k3
            obtain ⟨ah, hah⟩ := Int.eq_ofNat_of_zero_le (show 0 ≤ base - idx by omega)
            have ww2 : IntKind.i64.wrap (base - idx) = (ah : Int) := (IntWalk.i64_in _ (by omega)).trans hah
            have ww3 : IntKind.i64.wrap (ah : Int) = (ah : Int) := IntWalk.i64_in _ (by omega)
            rw [hah, Int.toNat_natCast] at HP
            have HAH := Lib.hid hah
            clear hah
            by_cases k4 : l2 < ah
            · skip
              rw [if_pos (by omega)] at HP
              rw [endF_no HE1.out.symm rfl] at HP
              obtain rfl := HP.out
              have d4 : decide ((l2 : Int) < (ah : Int)) = true := decide_eq_true (by omega)
              have d5 : decide (l2 < ah) = true := decide_eq_true k4
              have qR0 : W5.cell? ⟨N, 0, none⟩ = some (.int .i64 base) := cell_at HR.out 0
              have qR1 : W5.cell? ⟨N, 1, none⟩ = some (.int .i64 term) := cell_at HR.out 1
              have qR2 : W5.cell? ⟨N, 2, none⟩ = some (.slice a ln c) := cell_at HR.out 2
              have qRz : ∀ j, W5.frozen? ⟨N, j, none⟩ = false := fun j => free_at HR.out j
              have qRl : N < W5.heap.size := HR.out.lt
              go_wp2_with fail
              clear qR0 qR1 qR2 qRz qRl
              refine wp_region_held_drew (S := fun X => (X.cell? ⟨N, 0, none⟩ = some (.int .i64 base) ∧ X.cell? ⟨N, 1, none⟩ = some (.int .i64 term) ∧ X.cell? ⟨N, 2, none⟩ = some (.slice a ln c) ∧ N < X.heap.size)) (by kernel_rfl) ⟨cell_at HR.out 0, cell_at HR.out 1, cell_at HR.out 2, HR.out.lt⟩ (fun hHeld => ?_)
              ((refine wpAnyH_take (i := 0) (v := ?_) (by (simp only [List.getElem?_toArray, List.getElem?_cons_succ, List.getElem?_cons_zero]); rfl) (by kernel_rfl) (by kernel_rfl) (by kernel_rfl) (by exact fun _ _ _ h => h) (Or.inl ⟨by rfl, ?_⟩) (by assumption) ?_); rotate_left; focus (intro wS hSw; (try dsimp only at hSw); go_simp; first | done | with_reducible rfl); try simp only [Act.put, List.setIfInBounds_toArray, List.set_cons_zero, List.set_cons_succ])
              ((refine wpAnyH_take (i := 1) (v := ?_) (by (simp only [List.getElem?_toArray, List.getElem?_cons_succ, List.getElem?_cons_zero]); rfl) (by kernel_rfl) (by kernel_rfl) (by kernel_rfl) (by exact fun _ _ _ h => h) (Or.inl ⟨by rfl, ?_⟩) (by assumption) ?_); rotate_left; focus (intro wS hSw; (try dsimp only at hSw); go_simp; first | done | with_reducible rfl); try simp only [Act.put, List.setIfInBounds_toArray, List.set_cons_zero, List.set_cons_succ])
              ((refine wpAnyH_take (i := 2) (v := ?_) (by (simp only [List.getElem?_toArray, List.getElem?_cons_succ, List.getElem?_cons_zero]); rfl) (by kernel_rfl) (by kernel_rfl) (by kernel_rfl) (by exact fun _ _ _ h => h) (Or.inl ⟨by rfl, ?_⟩) (by assumption) ?_); rotate_left; focus (intro wS hSw; (try dsimp only at hSw); go_simp; first | done | with_reducible rfl); try simp only [Act.put, List.setIfInBounds_toArray, List.set_cons_zero, List.set_cons_succ])
              ((refine wpAnyH_take (i := 3) (v := ?_) (by (simp only [List.getElem?_toArray, List.getElem?_cons_succ, List.getElem?_cons_zero]); rfl) (by kernel_rfl) (by kernel_rfl) (by kernel_rfl) (by exact fun _ _ _ h => h) (Or.inl ⟨by rfl, ?_⟩) (by assumption) ?_); rotate_left; focus (intro wS hSw; (try dsimp only at hSw); go_simp; first | done | with_reducible rfl); try simp only [Act.put, List.setIfInBounds_toArray, List.set_cons_zero, List.set_cons_succ])
              ((refine wpAnyH_take (i := 4) (v := ?_) (by (simp only [List.getElem?_toArray, List.getElem?_cons_succ, List.getElem?_cons_zero]); rfl) (by kernel_rfl) (by kernel_rfl) (by kernel_rfl) (by exact fun _ _ _ h => h) (Or.inl ⟨by rfl, ?_⟩) (by assumption) ?_); rotate_left; focus (intro wS hSw; (try dsimp only at hSw); go_simp; first | done | with_reducible rfl); try simp only [Act.put, List.setIfInBounds_toArray, List.set_cons_zero, List.set_cons_succ])
              ((refine wpAnyH_take (i := 5) (v := ?_) (by (simp only [List.getElem?_toArray, List.getElem?_cons_succ, List.getElem?_cons_zero]); rfl) (by kernel_rfl) (by kernel_rfl) (by kernel_rfl) (by exact fun _ _ _ h => h) (Or.inl ⟨by rfl, ?_⟩) (by assumption) ?_); rotate_left; focus (intro wS hSw; (try dsimp only at hSw); go_simp; first | done | with_reducible rfl); try simp only [Act.put, List.setIfInBounds_toArray, List.set_cons_zero, List.set_cons_succ])
              ((refine wpAnyH_take (i := 8) (v := ?_) (by (simp only [List.getElem?_toArray, List.getElem?_cons_succ, List.getElem?_cons_zero]); rfl) (by kernel_rfl) (by kernel_rfl) (by kernel_rfl) (by exact fun _ _ _ h => h) (Or.inl ⟨by rfl, ?_⟩) (by assumption) ?_); rotate_left; focus (intro wS hSw; (try dsimp only at hSw); go_simp; first | done | with_reducible rfl); try simp only [Act.put, List.setIfInBounds_toArray, List.set_cons_zero, List.set_cons_succ])
              ((refine wpAnyH_take (i := 9) (v := ?_) (by (simp only [List.getElem?_toArray, List.getElem?_cons_succ, List.getElem?_cons_zero]); rfl) (by kernel_rfl) (by kernel_rfl) (by kernel_rfl) (by exact fun _ _ _ h => h) (Or.inl ⟨by rfl, ?_⟩) (by assumption) ?_); rotate_left; focus (intro wS hSw; (try dsimp only at hSw); go_simp; first | done | with_reducible rfl); try simp only [Act.put, List.setIfInBounds_toArray, List.set_cons_zero, List.set_cons_succ])
              refine wpAnyH_ready (rs := [6]) (by kernel_rfl) (by simp) ?_
              refine AllReadyH.cons (by (simp only [List.getElem?_toArray, List.getElem?_cons_succ, List.getElem?_cons_zero]); rfl) (fun K hK => ?_) AllReadyH.nil
              go_simp
              go_fit (HCP.out _ (HR0.out.below HB.out.drew))
              rintro e W6 ⟨v5, rfl, hv5, hB⟩
              replace hB := below_undrew hB
              replace HB := Lib.hid (HB.out.trans (hB.mono HB.out.size))
              replace HR := Lib.hid (HR.out.step hB)
              replace HK1 := Lib.hid (HK1.out.step hB)
              go_wp2_with fail
              refine hK.out _ _ ⟨cell_at HR.out 0, cell_at HR.out 1, cell_at HR.out 2, HR.out.lt⟩ (fun hHeld => ?_)
              clear hK K hB
              try simp only [Act.put, List.setIfInBounds_toArray, List.set_cons_zero, List.set_cons_succ]
              obtain ⟨a5, l5, c5, rfl, Hl5, l51, l52, l53⟩ := hv5.sh
              have HV5 := Lib.hid hv5
              clear hv5
              ((refine wpAnyH_take (i := 7) (v := ?_) (by (simp only [List.getElem?_toArray, List.getElem?_cons_succ, List.getElem?_cons_zero]); rfl) (by kernel_rfl) (by kernel_rfl) (by kernel_rfl) (by exact fun _ _ _ h => h) (Or.inl ⟨by rfl, ?_⟩) (by assumption) ?_); rotate_left; focus (intro wS hSw; (try dsimp only at hSw); go_simp; first | done | with_reducible rfl); try simp only [Act.put, List.setIfInBounds_toArray, List.set_cons_zero, List.set_cons_succ])
              refine wpAnyH_ready (rs := [10]) (by kernel_rfl) (by simp) ?_
              refine AllReadyH.cons (by (simp only [List.getElem?_toArray, List.getElem?_cons_succ, List.getElem?_cons_zero]); rfl) (fun K hK => ?_) AllReadyH.nil
              have qK10 : W6.cell? ⟨(N + 1), 0, none⟩ = some (.int .i64 0) := cell_at HK1.out 0
              have qK11 : W6.cell? ⟨(N + 1), 1, none⟩ = some (.int .i64 0) := cell_at HK1.out 1
              have qK12 : W6.cell? ⟨(N + 1), 2, none⟩ = some (.slice none 0 0) := cell_at HK1.out 2
              have qK1z : ∀ j, W6.frozen? ⟨(N + 1), j, none⟩ = false := fun j => free_at HK1.out j
              have qK1l : (N + 1) < W6.heap.size := HK1.out.lt
              go_simp
              clear qK10 qK11 qK12 qK1z qK1l
              obtain ⟨LS, hLS⟩ : ∃ L : List Value, L = [.int .i64 base, .int .i64 term, .slice a5 l5 c5] := ⟨_, rfl⟩
              obtain ⟨W7, hWS⟩ : ∃ WS, WS = W6.setCells (N + 1) 0 LS := ⟨_, rfl⟩
              have hch := hWS
              rw [hLS] at hch
              simp only [World.setCells, Nat.zero_add, Nat.reduceAdd] at hch
              rw [← hch]
              clear hch
              have hkS := stC_blk HK1.out LS (by rw [hLS]; rfl)
              have hfS := stC_fr (N + 1) LS 0 W6
              rw [← hWS] at hkS hfS
              rw [hLS] at hkS
              replace HB := Lib.hid (HB.out.trans (hfS.below HB.out.size (by have := HLON.out; simp; try omega)))
              replace HR := Lib.hid (show Blk W7 N #[.int .i64 base, .int .i64 term, .slice a ln c] 24 from (hfS.block _ HR.out.lt (by simp; try omega)).trans HR.out)
              replace HV5 := Lib.hid (HV5.out.fr HK1.out hfS)
              replace HK1 := Lib.hid (show Blk W7 (N + 1) #[.int .i64 base, .int .i64 term, .slice a5 l5 c5] 24 from hkS)
              clear hWS hLS hkS hfS
              refine hK.out _ _ ⟨cell_at HR.out 0, cell_at HR.out 1, cell_at HR.out 2, HR.out.lt⟩ (fun hHeld => ?_)
              clear hK K
              try simp only [Act.put, List.setIfInBounds_toArray, List.set_cons_zero, List.set_cons_succ]
              ((refine wpAnyH_take (i := 11) (v := ?_) (by (simp only [List.getElem?_toArray, List.getElem?_cons_succ, List.getElem?_cons_zero]); rfl) (by kernel_rfl) (by kernel_rfl) (by kernel_rfl) (by exact fun _ _ _ h => h) (Or.inl ⟨by rfl, ?_⟩) (by assumption) ?_); rotate_left; focus (intro wS hSw; (try dsimp only at hSw); go_simp; first | done | with_reducible rfl); try simp only [Act.put, List.setIfInBounds_toArray, List.set_cons_zero, List.set_cons_succ])
              ((refine wpAnyH_take (i := 12) (v := ?_) (by (simp only [List.getElem?_toArray, List.getElem?_cons_succ, List.getElem?_cons_zero]); rfl) (by kernel_rfl) (by kernel_rfl) (by kernel_rfl) (by exact fun _ _ _ h => h) (Or.inl ⟨by rfl, ?_⟩) (by assumption) ?_); rotate_left; focus (intro wS hSw; (try dsimp only at hSw); go_simp; first | done | with_reducible rfl); try simp only [Act.put, List.setIfInBounds_toArray, List.set_cons_zero, List.set_cons_succ])
              ((refine wpAnyH_take (i := 13) (v := ?_) (by (simp only [List.getElem?_toArray, List.getElem?_cons_succ, List.getElem?_cons_zero]); rfl) (by kernel_rfl) (by kernel_rfl) (by kernel_rfl) (by exact fun _ _ _ h => h) (Or.inl ⟨by rfl, ?_⟩) (by assumption) ?_); rotate_left; focus (intro wS hSw; (try dsimp only at hSw); go_simp; first | done | with_reducible rfl); try simp only [Act.put, List.setIfInBounds_toArray, List.set_cons_zero, List.set_cons_succ])
              refine wpAnyH_done (by kernel_rfl) ?_ _
              go_wp2_with fail
              have qK10 : W7.cell? ⟨(N + 1), 0, none⟩ = some (.int .i64 base) := cell_at HK1.out 0
              have qK11 : W7.cell? ⟨(N + 1), 1, none⟩ = some (.int .i64 term) := cell_at HK1.out 1
              have qK12 : W7.cell? ⟨(N + 1), 2, none⟩ = some (.slice a5 l5 c5) := cell_at HK1.out 2
              have qK1z : ∀ j, W7.frozen? ⟨(N + 1), j, none⟩ = false := fun j => free_at HK1.out j
              have qK1l : (N + 1) < W7.heap.size := HK1.out.lt
              exact bodyPost_ret (v := .tuple #[.agg #[.int .i64 base, .int .i64 term, .slice a5 l5 c5], .int .i64 base, .bool false, .int .i64 0]) (by simp [results, Try.results20, go_sem, qK10, qK11, qK12]) rfl ⟨⟨_, rfl, HV5.out⟩, HB.out⟩
            · skip
              exact absurd (HYP.out HE1.out.symm (by have h1 := Hl2.out; omega) HE2.out.symm) (by have h1 := Hl2.out; have h2 := Hln.out; have h3 := HEN.out; have h4 := HAH.out; unfold fitF; rw [if_neg (by omega), if_neg (by omega), if_pos (by omega)]; simp)
          · skip
            have d3 : decide (idx < base) = false := decide_eq_false k3
            rw [if_neg (by omega), if_neg (by omega)] at HP
            have hIN : inB base L.length idx = true := by
              have := HEN.out
              unfold inB
              rw [decide_eq_true (show base ≤ idx by omega), decide_eq_true (show idx ≤ base + (L.length : Int) by rw [← Hln.out]; omega)]
              rfl
            have hTR : termR base term L idx = termL base term L idx := by unfold termR; rw [hIN]; rfl
            rw [hTR, hIN] at HTM
            obtain ⟨t, ht⟩ : ∃ t, t = termL base term L idx := ⟨_, rfl⟩
            rw [← ht] at HTM HP
            have HTE := Lib.hid ht
            clear ht hTR hIN
            have qR0 : W5.cell? ⟨N, 0, none⟩ = some (.int .i64 base) := cell_at HR.out 0
            have qR1 : W5.cell? ⟨N, 1, none⟩ = some (.int .i64 term) := cell_at HR.out 1
            have qR2 : W5.cell? ⟨N, 2, none⟩ = some (.slice a ln c) := cell_at HR.out 2
            have qRz : ∀ j, W5.frozen? ⟨N, j, none⟩ = false := fun j => free_at HR.out j
            have qRl : N < W5.heap.size := HR.out.lt
            go_wp2_with fail
            go_at_call 37
            go_fit (HTM.out _ (HR0.out.below HB.out))
            rintro e W6 ⟨rfl, hB⟩
            clear qR0 qR1 qR2 qRz qRl
            replace HB := Lib.hid (HB.out.trans (hB.mono HB.out.size))
            replace HR := Lib.hid (HR.out.step hB)
            replace HK1 := Lib.hid (HK1.out.step hB)
            clear hB
            by_cases k4 : t = first
            · skip
              exact absurd (HYP.out HE1.out.symm (by have h1 := Hl2.out; omega) HE2.out.symm) (by have h1 := Hl2.out; have h2 := Hln.out; have h3 := HEN.out; unfold fitF; rw [if_neg (by omega), if_neg (by omega), if_neg (by omega), if_neg (by rw [← HTE.out]; simpa using k4)]; simp)
            · skip
              rw [if_pos (by simpa using k4)] at HP
              obtain ⟨y, hy⟩ : ∃ y, y = idx - 1 := ⟨_, rfl⟩
              have ww4 : IntKind.i64.wrap (idx - 1) = y := (IntWalk.i64_in _ (by omega)).trans hy.symm
              rw [← hy] at HP
              obtain ⟨mx, hmx⟩ : ∃ mx, mx = max y base := ⟨_, rfl⟩
              rw [← hmx] at HP
              rw [endF_no HE1.out.symm rfl] at HP
              obtain rfl := HP.out
              have d4 : (t != first) = true := by rw [bne_iff_ne]; exact k4
              have d5 : (t = first) = False := eq_false k4
              have ww5 : max y base = mx := hmx.symm
              have ww6 : (if y < base then base else y) = mx := by rw [hmx]; split <;> omega
              have ww7 : (if base ≤ y then y else base) = mx := by rw [hmx]; split <;> omega
              clear k4 hy hmx
              have qR0 : W6.cell? ⟨N, 0, none⟩ = some (.int .i64 base) := cell_at HR.out 0
              have qR1 : W6.cell? ⟨N, 1, none⟩ = some (.int .i64 term) := cell_at HR.out 1
              have qR2 : W6.cell? ⟨N, 2, none⟩ = some (.slice a ln c) := cell_at HR.out 2
              have qRz : ∀ j, W6.frozen? ⟨N, j, none⟩ = false := fun j => free_at HR.out j
              have qRl : N < W6.heap.size := HR.out.lt
              go_wp2_with fail
              clear qR0 qR1 qR2 qRz qRl
              refine wp_region_held_drew (S := fun X => (X.cell? ⟨N, 0, none⟩ = some (.int .i64 base) ∧ X.cell? ⟨N, 1, none⟩ = some (.int .i64 term) ∧ X.cell? ⟨N, 2, none⟩ = some (.slice a ln c) ∧ N < X.heap.size)) (by kernel_rfl) ⟨cell_at HR.out 0, cell_at HR.out 1, cell_at HR.out 2, HR.out.lt⟩ (fun hHeld => ?_)
              ((refine wpAnyH_take (i := 0) (v := ?_) (by (simp only [List.getElem?_toArray, List.getElem?_cons_succ, List.getElem?_cons_zero]); rfl) (by kernel_rfl) (by kernel_rfl) (by kernel_rfl) (by exact fun _ _ _ h => h) (Or.inl ⟨by rfl, ?_⟩) (by assumption) ?_); rotate_left; focus (intro wS hSw; (try dsimp only at hSw); go_simp; first | done | with_reducible rfl); try simp only [Act.put, List.setIfInBounds_toArray, List.set_cons_zero, List.set_cons_succ])
              ((refine wpAnyH_take (i := 1) (v := ?_) (by (simp only [List.getElem?_toArray, List.getElem?_cons_succ, List.getElem?_cons_zero]); rfl) (by kernel_rfl) (by kernel_rfl) (by kernel_rfl) (by exact fun _ _ _ h => h) (Or.inl ⟨by rfl, ?_⟩) (by assumption) ?_); rotate_left; focus (intro wS hSw; (try dsimp only at hSw); go_simp; first | done | with_reducible rfl); try simp only [Act.put, List.setIfInBounds_toArray, List.set_cons_zero, List.set_cons_succ])
              ((refine wpAnyH_take (i := 2) (v := ?_) (by (simp only [List.getElem?_toArray, List.getElem?_cons_succ, List.getElem?_cons_zero]); rfl) (by kernel_rfl) (by kernel_rfl) (by kernel_rfl) (by exact fun _ _ _ h => h) (Or.inl ⟨by rfl, ?_⟩) (by assumption) ?_); rotate_left; focus (intro wS hSw; (try dsimp only at hSw); go_simp; first | done | with_reducible rfl); try simp only [Act.put, List.setIfInBounds_toArray, List.set_cons_zero, List.set_cons_succ])
              ((refine wpAnyH_take (i := 3) (v := ?_) (by (simp only [List.getElem?_toArray, List.getElem?_cons_succ, List.getElem?_cons_zero]); rfl) (by kernel_rfl) (by kernel_rfl) (by kernel_rfl) (by exact fun _ _ _ h => h) (Or.inl ⟨by rfl, ?_⟩) (by assumption) ?_); rotate_left; focus (intro wS hSw; (try dsimp only at hSw); go_simp; first | done | with_reducible rfl); try simp only [Act.put, List.setIfInBounds_toArray, List.set_cons_zero, List.set_cons_succ])
              ((refine wpAnyH_take (i := 4) (v := ?_) (by (simp only [List.getElem?_toArray, List.getElem?_cons_succ, List.getElem?_cons_zero]); rfl) (by kernel_rfl) (by kernel_rfl) (by kernel_rfl) (by exact fun _ _ _ h => h) (Or.inl ⟨by rfl, ?_⟩) (by assumption) ?_); rotate_left; focus (intro wS hSw; (try dsimp only at hSw); go_simp; first | done | with_reducible rfl); try simp only [Act.put, List.setIfInBounds_toArray, List.set_cons_zero, List.set_cons_succ])
              ((refine wpAnyH_take (i := 5) (v := ?_) (by (simp only [List.getElem?_toArray, List.getElem?_cons_succ, List.getElem?_cons_zero]); rfl) (by kernel_rfl) (by kernel_rfl) (by kernel_rfl) (by exact fun _ _ _ h => h) (Or.inl ⟨by rfl, ?_⟩) (by assumption) ?_); rotate_left; focus (intro wS hSw; (try dsimp only at hSw); go_simp; first | done | with_reducible rfl); try simp only [Act.put, List.setIfInBounds_toArray, List.set_cons_zero, List.set_cons_succ])
              ((refine wpAnyH_take (i := 8) (v := ?_) (by (simp only [List.getElem?_toArray, List.getElem?_cons_succ, List.getElem?_cons_zero]); rfl) (by kernel_rfl) (by kernel_rfl) (by kernel_rfl) (by exact fun _ _ _ h => h) (Or.inl ⟨by rfl, ?_⟩) (by assumption) ?_); rotate_left; focus (intro wS hSw; (try dsimp only at hSw); go_simp; first | done | with_reducible rfl); try simp only [Act.put, List.setIfInBounds_toArray, List.set_cons_zero, List.set_cons_succ])
              ((refine wpAnyH_take (i := 9) (v := ?_) (by (simp only [List.getElem?_toArray, List.getElem?_cons_succ, List.getElem?_cons_zero]); rfl) (by kernel_rfl) (by kernel_rfl) (by kernel_rfl) (by exact fun _ _ _ h => h) (Or.inl ⟨by rfl, ?_⟩) (by assumption) ?_); rotate_left; focus (intro wS hSw; (try dsimp only at hSw); go_simp; first | done | with_reducible rfl); try simp only [Act.put, List.setIfInBounds_toArray, List.set_cons_zero, List.set_cons_succ])
              ((refine wpAnyH_take (i := 10) (v := ?_) (by (simp only [List.getElem?_toArray, List.getElem?_cons_succ, List.getElem?_cons_zero]); rfl) (by kernel_rfl) (by kernel_rfl) (by kernel_rfl) (by exact fun _ _ _ h => h) (Or.inl ⟨by rfl, ?_⟩) (by assumption) ?_); rotate_left; focus (intro wS hSw; (try dsimp only at hSw); go_simp; first | done | with_reducible rfl); try simp only [Act.put, List.setIfInBounds_toArray, List.set_cons_zero, List.set_cons_succ])
              ((refine wpAnyH_take (i := 11) (v := ?_) (by (simp only [List.getElem?_toArray, List.getElem?_cons_succ, List.getElem?_cons_zero]); rfl) (by kernel_rfl) (by kernel_rfl) (by kernel_rfl) (by exact fun _ _ _ h => h) (Or.inl ⟨by rfl, ?_⟩) (by assumption) ?_); rotate_left; focus (intro wS hSw; (try dsimp only at hSw); go_simp; first | done | with_reducible rfl); try simp only [Act.put, List.setIfInBounds_toArray, List.set_cons_zero, List.set_cons_succ])
              ((refine wpAnyH_take (i := 12) (v := ?_) (by (simp only [List.getElem?_toArray, List.getElem?_cons_succ, List.getElem?_cons_zero]); rfl) (by kernel_rfl) (by kernel_rfl) (by kernel_rfl) (by exact fun _ _ _ h => h) (Or.inl ⟨by rfl, ?_⟩) (by assumption) ?_); rotate_left; focus (intro wS hSw; (try dsimp only at hSw); go_simp; first | done | with_reducible rfl); try simp only [Act.put, List.setIfInBounds_toArray, List.set_cons_zero, List.set_cons_succ])
              refine wpAnyH_ready (rs := [6]) (by kernel_rfl) (by simp) ?_
              refine AllReadyH.cons (by (simp only [List.getElem?_toArray, List.getElem?_cons_succ, List.getElem?_cons_zero]); rfl) (fun K hK => ?_) AllReadyH.nil
              go_simp
              go_fit (HCP.out _ (HR0.out.below HB.out.drew))
              rintro e W7 ⟨v5, rfl, hv5, hB⟩
              replace hB := below_undrew hB
              replace HB := Lib.hid (HB.out.trans (hB.mono HB.out.size))
              replace HR := Lib.hid (HR.out.step hB)
              replace HK1 := Lib.hid (HK1.out.step hB)
              go_wp2_with fail
              refine hK.out _ _ ⟨cell_at HR.out 0, cell_at HR.out 1, cell_at HR.out 2, HR.out.lt⟩ (fun hHeld => ?_)
              clear hK K hB
              try simp only [Act.put, List.setIfInBounds_toArray, List.set_cons_zero, List.set_cons_succ]
              obtain ⟨a5, l5, c5, rfl, Hl5, l51, l52, l53⟩ := hv5.sh
              have HV5 := Lib.hid hv5
              clear hv5
              ((refine wpAnyH_take (i := 7) (v := ?_) (by (simp only [List.getElem?_toArray, List.getElem?_cons_succ, List.getElem?_cons_zero]); rfl) (by kernel_rfl) (by kernel_rfl) (by kernel_rfl) (by exact fun _ _ _ h => h) (Or.inl ⟨by rfl, ?_⟩) (by assumption) ?_); rotate_left; focus (intro wS hSw; (try dsimp only at hSw); go_simp; first | done | with_reducible rfl); try simp only [Act.put, List.setIfInBounds_toArray, List.set_cons_zero, List.set_cons_succ])
              refine wpAnyH_ready (rs := [13]) (by kernel_rfl) (by simp) ?_
              refine AllReadyH.cons (by (simp only [List.getElem?_toArray, List.getElem?_cons_succ, List.getElem?_cons_zero]); rfl) (fun K hK => ?_) AllReadyH.nil
              have qK10 : W7.cell? ⟨(N + 1), 0, none⟩ = some (.int .i64 0) := cell_at HK1.out 0
              have qK11 : W7.cell? ⟨(N + 1), 1, none⟩ = some (.int .i64 0) := cell_at HK1.out 1
              have qK12 : W7.cell? ⟨(N + 1), 2, none⟩ = some (.slice none 0 0) := cell_at HK1.out 2
              have qK1z : ∀ j, W7.frozen? ⟨(N + 1), j, none⟩ = false := fun j => free_at HK1.out j
              have qK1l : (N + 1) < W7.heap.size := HK1.out.lt
              go_simp
              clear qK10 qK11 qK12 qK1z qK1l
              obtain ⟨LS, hLS⟩ : ∃ L : List Value, L = [.int .i64 base, .int .i64 term, .slice a5 l5 c5] := ⟨_, rfl⟩
              obtain ⟨W8, hWS⟩ : ∃ WS, WS = W7.setCells (N + 1) 0 LS := ⟨_, rfl⟩
              have hch := hWS
              rw [hLS] at hch
              simp only [World.setCells, Nat.zero_add, Nat.reduceAdd] at hch
              rw [← hch]
              clear hch
              have hkS := stC_blk HK1.out LS (by rw [hLS]; rfl)
              have hfS := stC_fr (N + 1) LS 0 W7
              rw [← hWS] at hkS hfS
              rw [hLS] at hkS
              replace HB := Lib.hid (HB.out.trans (hfS.below HB.out.size (by have := HLON.out; simp; try omega)))
              replace HR := Lib.hid (show Blk W8 N #[.int .i64 base, .int .i64 term, .slice a ln c] 24 from (hfS.block _ HR.out.lt (by simp; try omega)).trans HR.out)
              replace HV5 := Lib.hid (HV5.out.fr HK1.out hfS)
              replace HK1 := Lib.hid (show Blk W8 (N + 1) #[.int .i64 base, .int .i64 term, .slice a5 l5 c5] 24 from hkS)
              clear hWS hLS hkS hfS
              refine hK.out _ _ ⟨cell_at HR.out 0, cell_at HR.out 1, cell_at HR.out 2, HR.out.lt⟩ (fun hHeld => ?_)
              clear hK K
              try simp only [Act.put, List.setIfInBounds_toArray, List.set_cons_zero, List.set_cons_succ]
              ((refine wpAnyH_take (i := 14) (v := ?_) (by (simp only [List.getElem?_toArray, List.getElem?_cons_succ, List.getElem?_cons_zero]); rfl) (by kernel_rfl) (by kernel_rfl) (by kernel_rfl) (by exact fun _ _ _ h => h) (Or.inl ⟨by rfl, ?_⟩) (by assumption) ?_); rotate_left; focus (intro wS hSw; (try dsimp only at hSw); go_simp; first | done | with_reducible rfl); try simp only [Act.put, List.setIfInBounds_toArray, List.set_cons_zero, List.set_cons_succ])
              ((refine wpAnyH_take (i := 15) (v := ?_) (by (simp only [List.getElem?_toArray, List.getElem?_cons_succ, List.getElem?_cons_zero]); rfl) (by kernel_rfl) (by kernel_rfl) (by kernel_rfl) (by exact fun _ _ _ h => h) (Or.inl ⟨by rfl, ?_⟩) (by assumption) ?_); rotate_left; focus (intro wS hSw; (try dsimp only at hSw); go_simp; first | done | with_reducible rfl); try simp only [Act.put, List.setIfInBounds_toArray, List.set_cons_zero, List.set_cons_succ])
              ((refine wpAnyH_take (i := 16) (v := ?_) (by (simp only [List.getElem?_toArray, List.getElem?_cons_succ, List.getElem?_cons_zero]); rfl) (by kernel_rfl) (by kernel_rfl) (by kernel_rfl) (by exact fun _ _ _ h => h) (Or.inl ⟨by rfl, ?_⟩) (by assumption) ?_); rotate_left; focus (intro wS hSw; (try dsimp only at hSw); go_simp; first | done | with_reducible rfl); try simp only [Act.put, List.setIfInBounds_toArray, List.set_cons_zero, List.set_cons_succ])
              refine wpAnyH_done (by kernel_rfl) ?_ _
              go_wp2_with fail
              have qK10 : W8.cell? ⟨(N + 1), 0, none⟩ = some (.int .i64 base) := cell_at HK1.out 0
              have qK11 : W8.cell? ⟨(N + 1), 1, none⟩ = some (.int .i64 term) := cell_at HK1.out 1
              have qK12 : W8.cell? ⟨(N + 1), 2, none⟩ = some (.slice a5 l5 c5) := cell_at HK1.out 2
              have qK1z : ∀ j, W8.frozen? ⟨(N + 1), j, none⟩ = false := fun j => free_at HK1.out j
              have qK1l : (N + 1) < W8.heap.size := HK1.out.lt
              exact bodyPost_ret (v := .tuple #[.agg #[.int .i64 base, .int .i64 term, .slice a5 l5 c5], .int .i64 mx, .bool false, .int .i64 0]) (by simp [results, Try.results20, go_sem, qK10, qK11, qK12]) rfl ⟨⟨_, rfl, HV5.out⟩, HB.out⟩
      · skip
        rw [if_pos (by simp)] at HP
        obtain rfl := HP.out
        have qK10 : W4.cell? ⟨(N + 1), 0, none⟩ = some (.int .i64 0) := cell_at HK1.out 0
        have qK11 : W4.cell? ⟨(N + 1), 1, none⟩ = some (.int .i64 0) := cell_at HK1.out 1
        have qK12 : W4.cell? ⟨(N + 1), 2, none⟩ = some (.slice none 0 0) := cell_at HK1.out 2
        have qK1z : ∀ j, W4.frozen? ⟨(N + 1), j, none⟩ = false := fun j => free_at HK1.out j
        have qK1l : (N + 1) < W4.heap.size := HK1.out.lt
        go_wp2_with fail
        clear qK10 qK11 qK12 qK1z qK1l
        obtain ⟨LS, hLS⟩ : ∃ L : List Value, L = [.int .i64 0, .int .i64 0, .slice none 0 0] := ⟨_, rfl⟩
        obtain ⟨W5, hWS⟩ : ∃ WS, WS = W4.setCells (N + 1) 0 LS := ⟨_, rfl⟩
        have hch := hWS
        rw [hLS] at hch
        simp only [World.setCells, Nat.zero_add, Nat.reduceAdd] at hch
        rw [← hch]
        clear hch
        have hkS := stC_blk HK1.out LS (by rw [hLS]; rfl)
        have hfS := stC_fr (N + 1) LS 0 W4
        rw [← hWS] at hkS hfS
        rw [hLS] at hkS
        replace HB := Lib.hid (HB.out.trans (hfS.below HB.out.size (by have := HLON.out; simp; try omega)))
        replace HR := Lib.hid (show Blk W5 N #[.int .i64 base, .int .i64 term, .slice a ln c] 24 from (hfS.block _ HR.out.lt (by simp; try omega)).trans HR.out)
        replace HK1 := Lib.hid (show Blk W5 (N + 1) #[.int .i64 0, .int .i64 0, .slice none 0 0] 24 from hkS)
        clear hWS hLS hkS hfS
        have qK10 : W5.cell? ⟨(N + 1), 0, none⟩ = some (.int .i64 0) := cell_at HK1.out 0
        have qK11 : W5.cell? ⟨(N + 1), 1, none⟩ = some (.int .i64 0) := cell_at HK1.out 1
        have qK12 : W5.cell? ⟨(N + 1), 2, none⟩ = some (.slice none 0 0) := cell_at HK1.out 2
        have qK1z : ∀ j, W5.frozen? ⟨(N + 1), j, none⟩ = false := fun j => free_at HK1.out j
        have qK1l : (N + 1) < W5.heap.size := HK1.out.lt
        exact bodyPost_ret (v := .tuple #[.agg #[.int .i64 0, .int .i64 0, .slice none 0 0], .int .i64 0, .bool false, .int .i64 2]) (by simp [results, Try.results20, go_sem, qK10, qK11, qK12]) rfl ⟨⟨_, rfl, rv_nil _⟩, HB.out⟩
  · skip
    rw [if_pos (by simp)] at HP
    obtain rfl := HP.out
    have qK10 : W3.cell? ⟨(N + 1), 0, none⟩ = some (.int .i64 0) := cell_at HK1.out 0
    have qK11 : W3.cell? ⟨(N + 1), 1, none⟩ = some (.int .i64 0) := cell_at HK1.out 1
    have qK12 : W3.cell? ⟨(N + 1), 2, none⟩ = some (.slice none 0 0) := cell_at HK1.out 2
    have qK1z : ∀ j, W3.frozen? ⟨(N + 1), j, none⟩ = false := fun j => free_at HK1.out j
    have qK1l : (N + 1) < W3.heap.size := HK1.out.lt
    go_wp2_with fail
    clear qK10 qK11 qK12 qK1z qK1l
    obtain ⟨LS, hLS⟩ : ∃ L : List Value, L = [.int .i64 0, .int .i64 0, .slice none 0 0] := ⟨_, rfl⟩
    obtain ⟨W4, hWS⟩ : ∃ WS, WS = W3.setCells (N + 1) 0 LS := ⟨_, rfl⟩
    have hch := hWS
    rw [hLS] at hch
    simp only [World.setCells, Nat.zero_add, Nat.reduceAdd] at hch
    rw [← hch]
    clear hch
    have hkS := stC_blk HK1.out LS (by rw [hLS]; rfl)
    have hfS := stC_fr (N + 1) LS 0 W3
    rw [← hWS] at hkS hfS
    rw [hLS] at hkS
    replace HB := Lib.hid (HB.out.trans (hfS.below HB.out.size (by have := HLON.out; simp; try omega)))
    replace HR := Lib.hid (show Blk W4 N #[.int .i64 base, .int .i64 term, .slice a ln c] 24 from (hfS.block _ HR.out.lt (by simp; try omega)).trans HR.out)
    replace HK1 := Lib.hid (show Blk W4 (N + 1) #[.int .i64 0, .int .i64 0, .slice none 0 0] 24 from hkS)
    clear hWS hLS hkS hfS
    have qK10 : W4.cell? ⟨(N + 1), 0, none⟩ = some (.int .i64 0) := cell_at HK1.out 0
    have qK11 : W4.cell? ⟨(N + 1), 1, none⟩ = some (.int .i64 0) := cell_at HK1.out 1
    have qK12 : W4.cell? ⟨(N + 1), 2, none⟩ = some (.slice none 0 0) := cell_at HK1.out 2
    have qK1z : ∀ j, W4.frozen? ⟨(N + 1), j, none⟩ = false := fun j => free_at HK1.out j
    have qK1l : (N + 1) < W4.heap.size := HK1.out.lt
    exact bodyPost_ret (v := .tuple #[.agg #[.int .i64 0, .int .i64 0, .slice none 0 0], .int .i64 0, .bool false, .int .i64 90]) (by simp [results, Try.results20, go_sem, qK10, qK11, qK12]) rfl ⟨⟨_, rfl, rv_nil _⟩, HB.out⟩
end Go.Proofs.Ytcadinoijclfnaa
