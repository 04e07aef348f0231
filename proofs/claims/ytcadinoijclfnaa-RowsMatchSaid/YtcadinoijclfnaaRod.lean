/-
  Entries added: the document.
-/
import Derived.Test.YtcadinoijclfnaaRoc
import Derived.Deep.DeepFit
namespace Go.Proofs.Ytcadinoijclfnaa
open Go.RowKit
set_option linter.unusedSimpArgs false
set_option linter.unusedVariables false

set_option maxRecDepth 100000 in
set_option maxHeartbeats 8000000 in
theorem radd_any (base term : Int) (v v2 : Value) (L l : List EnD) (w : World) (h : RV w v L) (h2 : RV w v2 l) (hl5 : l.length ≤ 5000) (hd : dlB l) :
    Calls Try.prog 12 #[.agg #[.int .i64 base, .int .i64 term, v], v2] w fun e w' => RwE (addF base term L l) e w' ∧ Below w.heap.size w w' := by
  have HR0 := Lib.hid h
  have HR2 := Lib.hid h2
  obtain ⟨a, ln, c, rfl, Hln, m1, m2, m3⟩ := h.sh
  obtain ⟨a2, l2, c2, rfl, Hl2, n1, n2, n3⟩ := h2.sh
  have HV := Lib.hid h
  obtain ⟨P, hP⟩ : ∃ P, P = addF base term L l := ⟨_, rfl⟩
  rw [← hP]
  have hp := hP
  unfold addF at hp
  have HP := Lib.hid hp
  have HCK := Lib.hid (fun W (h : RV W (.slice a ln c) L) => rcheckR_any base term _ L W h)
  obtain ⟨E1, hE1⟩ : ∃ E1, E1 = okE base term L := ⟨_, rfl⟩
  have hE1c : E1 = 0 ∨ E1 = 90 := by rw [hE1]; exact okE_two _ _ _
  rw [← hE1] at HCK HP
  have HE1 := Lib.hid hE1
  clear h h2 hP hp hE1
  have HB : Hid (Below w.heap.size w w) := Lib.hid (Below.refl _ _)
  go_enter Try.func12, Try.ntmps12
  go_upto_region 1 with fail
  obtain ⟨N, hN⟩ : ∃ n0, n0 = w.heap.size := ⟨_, rfl⟩
  have HLON : Hid (w.heap.size ≤ N) := Lib.hid (by have := HB.out.size; omega)
  obtain ⟨W1, hA0⟩ : ∃ W0, W0 = w.alloc (.cells #[.int .i64 base, .int .i64 term, .slice a ln c] 24) := ⟨_, rfl⟩
  have hB : Below w.heap.size w W1 := by rw [hA0]; exact (Below.refl _ _).alloc (Nat.le_refl _) _
  have hS0 : W1.heap.size = N + 1 := by rw [hA0]; simp [← hN]
  have HR := Lib.hid (show Blk W1 N #[.int .i64 base, .int .i64 term, .slice a ln c] 24 by rw [hA0, hN]; exact blk_new _ _ _)
  replace HB := Lib.hid (HB.out.trans (hB.mono HB.out.size))
  replace HV := Lib.hid (HV.out.below hB)
  clear hB
  obtain ⟨W2, hA1⟩ : ∃ W0, W0 = W1.alloc (.cells #[.int .i64 0, .int .i64 0, .slice none 0 0] 24) := ⟨_, rfl⟩
  have hB : Below W1.heap.size W1 W2 := by rw [hA1]; exact (Below.refl _ _).alloc (Nat.le_refl _) _
  have hS1 : W2.heap.size = N + 2 := by rw [hA1]; simp [hS0]
  have HK1 := Lib.hid (show Blk W2 (N + 1) #[.int .i64 0, .int .i64 0, .slice none 0 0] 24 by rw [hA1, ← hS0]; exact blk_new _ _ _)
  replace HB := Lib.hid (HB.out.trans (hB.mono HB.out.size))
  replace HV := Lib.hid (HV.out.below hB)
  replace HR := Lib.hid (HR.out.step hB)
  clear hB
  have HSN := Lib.hid hS1
  rw [← hN, ← hA0, ← hA1]
  clear hA1 hA0 hN hS0 hS1
  have qR0 : W2.cell? ⟨N, 0, none⟩ = some (.int .i64 base) := cell_at HR.out 0
  have qR1 : W2.cell? ⟨N, 1, none⟩ = some (.int .i64 term) := cell_at HR.out 1
  have qR2 : W2.cell? ⟨N, 2, none⟩ = some (.slice a ln c) := cell_at HR.out 2
  have qRz : ∀ j, W2.frozen? ⟨N, j, none⟩ = false := fun j => free_at HR.out j
  have qRl : N < W2.heap.size := HR.out.lt
  go_wp2_with fail
  go_at_call 21
  go_fit (HCK.out _ HV.out)
  rintro e W3 ⟨rfl, hB⟩
  clear qR0 qR1 qR2 qRz qRl
  replace HB := Lib.hid (HB.out.trans (hB.mono HB.out.size))
  replace HV := Lib.hid (HV.out.below hB)
  replace HR := Lib.hid (HR.out.step hB)
  replace HK1 := Lib.hid (HK1.out.step hB)
  clear hB
  rcases hE1c with rfl | rfl
  · skip
    rw [if_neg (by simp)] at HP
    have hmf := madeF_join (base := base) (term := term) (L := L) (l := l) (Nat.le_refl L.length)
    rw [← hmf, List.take_length] at HP
    obtain ⟨b0, b1, b2, b3⟩ := okE_head HE1.out.symm
    have HMD := Lib.hid (fun W v (h : RV W v (L ++ l)) => rmade_any base term v (L ++ l) W h (fun x hx => by
      rcases List.mem_append.1 hx with h | h
      · exact okE_dl HE1.out.symm x h
      · exact hd x h))
    rw [← HP.out] at HMD
    have hLl : L.length + l.length ≤ 50000 := by omega
    clear hmf hd
    clear HV
    obtain ⟨M, hM⟩ : ∃ n0, n0 = W3.heap.size := ⟨_, rfl⟩
    have HLOM : Hid (w.heap.size ≤ M) := Lib.hid (by have := HB.out.size; omega)
    have HFM : Hid (M ≤ W3.heap.size) := Lib.hid (by omega)
    have HXMHR : Hid (N < M) := Lib.hid (by rw [hM]; exact HR.out.lt)
    have HXMHK1 : Hid ((N + 1) < M) := Lib.hid (by rw [hM]; exact HK1.out.lt)
    clear hM
    have qR0 : W3.cell? ⟨N, 0, none⟩ = some (.int .i64 base) := cell_at HR.out 0
    have qR1 : W3.cell? ⟨N, 1, none⟩ = some (.int .i64 term) := cell_at HR.out 1
    have qR2 : W3.cell? ⟨N, 2, none⟩ = some (.slice a ln c) := cell_at HR.out 2
    have qRz : ∀ j, W3.frozen? ⟨N, j, none⟩ = false := fun j => free_at HR.out j
    have qRl : N < W3.heap.size := HR.out.lt
    obtain ⟨v4, ob4, W4, hrun, hor, hBM⟩ := appR (ty := 22) (or_nil w W3 M HLOM.out) HR0.out HB.out HFM.out (by simp; omega)
    have HRUN := Lib.hid hrun
    go_upto_region 5 with (at_builtin; refine Lib.wpList_append_run _ rfl (.tmp 11) (.tmp 13) 22 22 rfl _ _ rfl rfl _ _ HRUN.out ?_)
    clear qR0 qR1 qR2 qRz qRl
    replace HB := Lib.hid (HB.out.trans (hBM.mono (by have hq := HLOM.out; omega)))
    replace HR := Lib.hid (HR.out.stepM hBM (by have hq := HXMHR.out; omega))
    replace HK1 := Lib.hid (HK1.out.stepM hBM (by have hq := HXMHK1.out; omega))
    replace HFM := Lib.hid (Nat.le_trans HFM.out hBM.size)
    have HOR := Lib.hid hor
    clear HRUN hrun hor hBM
    obtain ⟨a3, n3, c3, rfl, Hn3, e1, e2⟩ := HOR.out.sh
    obtain ⟨v5, ob5, W5, hrun, hor, hBM⟩ := appR (ty := 22) HOR.out HR2.out HB.out HFM.out (by simp; omega)
    have HRUN := Lib.hid hrun
    go_upto_region 6 with (at_builtin; refine Lib.wpList_append_run _ rfl (.tmp 15) (.tmp 16) 22 22 rfl _ _ rfl rfl _ _ HRUN.out ?_)
    replace HB := Lib.hid (HB.out.trans (hBM.mono (by have hq := HLOM.out; omega)))
    replace HR := Lib.hid (HR.out.stepM hBM (by have hq := HXMHR.out; omega))
    replace HK1 := Lib.hid (HK1.out.stepM hBM (by have hq := HXMHK1.out; omega))
    replace HFM := Lib.hid (Nat.le_trans HFM.out hBM.size)
    have HOR := Lib.hid hor
    clear HRUN hrun hor hBM
    obtain ⟨a4, n4, c4, rfl, Hn4, f1, f2⟩ := HOR.out.sh
    have HV4 := Lib.hid (HOR.out.rv HB.out (by simp; omega))
    rw [List.nil_append] at HV4
    have qR0 : W5.cell? ⟨N, 0, none⟩ = some (.int .i64 base) := cell_at HR.out 0
    have qR1 : W5.cell? ⟨N, 1, none⟩ = some (.int .i64 term) := cell_at HR.out 1
    have qR2 : W5.cell? ⟨N, 2, none⟩ = some (.slice a ln c) := cell_at HR.out 2
    have qRz : ∀ j, W5.frozen? ⟨N, j, none⟩ = false := fun j => free_at HR.out j
    have qRl : N < W5.heap.size := HR.out.lt
    go_wp2_with fail
    go_at_call 33
    go_fit (HMD.out _ _ HV4.out)
    rintro e W6 ⟨⟨v5, rfl, hv5⟩, hB⟩
    clear qR0 qR1 qR2 qRz qRl
    replace HB := Lib.hid (HB.out.trans (hB.mono HB.out.size))
    replace HR := Lib.hid (HR.out.step hB)
    replace HK1 := Lib.hid (HK1.out.step hB)
    replace HFM := Lib.hid (Nat.le_trans HFM.out hB.size)
    clear hB
    obtain ⟨a5, l5, c5, rfl, Hl5, l51, l52, l53⟩ := hv5.sh
    have HV5 := Lib.hid hv5
    clear hv5
    have qK10 : W6.cell? ⟨(N + 1), 0, none⟩ = some (.int .i64 0) := cell_at HK1.out 0
    have qK11 : W6.cell? ⟨(N + 1), 1, none⟩ = some (.int .i64 0) := cell_at HK1.out 1
    have qK12 : W6.cell? ⟨(N + 1), 2, none⟩ = some (.slice none 0 0) := cell_at HK1.out 2
    have qK1z : ∀ j, W6.frozen? ⟨(N + 1), j, none⟩ = false := fun j => free_at HK1.out j
    have qK1l : (N + 1) < W6.heap.size := HK1.out.lt
    go_wp2_with fail
    clear qK10 qK11 qK12 qK1z qK1l
    obtain ⟨LS, hLS⟩ : ∃ L : List Value, L = [.int .i64 P.b, .int .i64 P.t, .slice a5 l5 c5] := ⟨_, rfl⟩
    obtain ⟨W7, hWS⟩ : ∃ WS, WS = W6.setCells (N + 1) 0 LS := ⟨_, rfl⟩
    have hch := hWS
    rw [hLS] at hch
    simp only [World.setCells, Nat.zero_add, Nat.reduceAdd] at hch
    rw [← hch]
    clear hch
    have hkS := stC_blk HK1.out LS (by rw [hLS]; rfl)
    have hfS := stC_fr (N + 1) LS 0 W6
    rw [← hWS] at hkS hfS
    rw [hLS] at hkS
    replace HB := Lib.hid (HB.out.trans (hfS.below HB.out.size (by have := HLON.out; simp; try omega)))
    replace HR := Lib.hid (show Blk W7 N #[.int .i64 base, .int .i64 term, .slice a ln c] 24 from (hfS.block _ HR.out.lt (by simp; try omega)).trans HR.out)
    replace HFM := Lib.hid (Nat.le_trans HFM.out hfS.size)
    replace HV5 := Lib.hid (HV5.out.fr HK1.out hfS)
    replace HK1 := Lib.hid (show Blk W7 (N + 1) #[.int .i64 P.b, .int .i64 P.t, .slice a5 l5 c5] 24 from hkS)
    clear hWS hLS hkS hfS
    have qK10 : W7.cell? ⟨(N + 1), 0, none⟩ = some (.int .i64 P.b) := cell_at HK1.out 0
    have qK11 : W7.cell? ⟨(N + 1), 1, none⟩ = some (.int .i64 P.t) := cell_at HK1.out 1
    have qK12 : W7.cell? ⟨(N + 1), 2, none⟩ = some (.slice a5 l5 c5) := cell_at HK1.out 2
    have qK1z : ∀ j, W7.frozen? ⟨(N + 1), j, none⟩ = false := fun j => free_at HK1.out j
    have qK1l : (N + 1) < W7.heap.size := HK1.out.lt
    exact bodyPost_ret (v := .tuple #[.agg #[.int .i64 P.b, .int .i64 P.t, .slice a5 l5 c5], .int .i64 P.e]) (by simp [results, Try.results12, go_sem, qK10, qK11, qK12]) rfl ⟨⟨_, rfl, HV5.out⟩, HB.out⟩
  · rw [if_pos (by simp)] at HP
    obtain rfl := HP.out
    have qK10 : W3.cell? ⟨(N + 1), 0, none⟩ = some (.int .i64 0) := cell_at HK1.out 0
    have qK11 : W3.cell? ⟨(N + 1), 1, none⟩ = some (.int .i64 0) := cell_at HK1.out 1
    have qK12 : W3.cell? ⟨(N + 1), 2, none⟩ = some (.slice none 0 0) := cell_at HK1.out 2
    have qK1z : ∀ j, W3.frozen? ⟨(N + 1), j, none⟩ = false := fun j => free_at HK1.out j
    have qK1l : (N + 1) < W3.heap.size := HK1.out.lt
    go_wp2_with fail
    clear qK10 qK11 qK12 qK1z qK1l
    obtain ⟨LS, hLS⟩ : ∃ L : List Value, L = [.int .i64 0, .int .i64 0, .slice none 0 0] := ⟨_, rfl⟩
    obtain ⟨W4, hWS⟩ : ∃ WS, WS = W3.setCells (N + 1) 0 LS := ⟨_, rfl⟩
    have hch := hWS
    rw [hLS] at hch
    simp only [World.setCells, Nat.zero_add, Nat.reduceAdd] at hch
    rw [← hch]
    clear hch
    have hkS := stC_blk HK1.out LS (by rw [hLS]; rfl)
    have hfS := stC_fr (N + 1) LS 0 W3
    rw [← hWS] at hkS hfS
    rw [hLS] at hkS
    replace HB := Lib.hid (HB.out.trans (hfS.below HB.out.size (by have := HLON.out; simp; try omega)))
    replace HV := Lib.hid (HV.out.fr HK1.out hfS)
    replace HR := Lib.hid (show Blk W4 N #[.int .i64 base, .int .i64 term, .slice a ln c] 24 from (hfS.block _ HR.out.lt (by simp; try omega)).trans HR.out)
    replace HK1 := Lib.hid (show Blk W4 (N + 1) #[.int .i64 0, .int .i64 0, .slice none 0 0] 24 from hkS)
    clear hWS hLS hkS hfS
    have qK10 : W4.cell? ⟨(N + 1), 0, none⟩ = some (.int .i64 0) := cell_at HK1.out 0
    have qK11 : W4.cell? ⟨(N + 1), 1, none⟩ = some (.int .i64 0) := cell_at HK1.out 1
    have qK12 : W4.cell? ⟨(N + 1), 2, none⟩ = some (.slice none 0 0) := cell_at HK1.out 2
    have qK1z : ∀ j, W4.frozen? ⟨(N + 1), j, none⟩ = false := fun j => free_at HK1.out j
    have qK1l : (N + 1) < W4.heap.size := HK1.out.lt
    exact bodyPost_ret (v := .tuple #[.agg #[.int .i64 0, .int .i64 0, .slice none 0 0], .int .i64 90]) (by simp [results, Try.results12, go_sem, qK10, qK11, qK12]) rfl ⟨⟨_, rfl, rv_nil _⟩, HB.out⟩
end Go.Proofs.Ytcadinoijclfnaa
