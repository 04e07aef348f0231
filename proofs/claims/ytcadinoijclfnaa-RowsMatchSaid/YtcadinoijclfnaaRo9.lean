/-
  Entries added, rows cut: the program.
-/
import Derived.Test.YtcadinoijclfnaaRo8
import Derived.Test.YtcadinoijclfnaaLib2
import Derived.Deep.DeepFit
namespace Go.Proofs.Ytcadinoijclfnaa
open Go.RowKit
set_option linter.unusedSimpArgs false
set_option linter.unusedVariables false

structure RwR where
  b : Int
  t : Int
  l : List EnD
  e : Int
def RwE (P : RwR) (e : Ending) (W : World) : Prop := ∃ v', e = .returned (.tuple #[.agg #[.int .i64 P.b, .int .i64 P.t, v'], .int .i64 P.e]) ∧ RV W v' P.l
def addF (base term : Int) (L l : List EnD) : RwR :=
  if okE base term L ≠ 0 then ⟨0, 0, [], 90⟩
  else ⟨zi (joinE base term L.length L l) base, zi (joinE base term L.length L l) term, zl (joinE base term L.length L l) (L.take L.length ++ l), joinE base term L.length L l⟩
def cutF (base term : Int) (L : List EnD) (idx : Int) : RwR :=
  if okE base term L ≠ 0 then ⟨0, 0, [], 90⟩
  else if idx < base then ⟨0, 0, [], 4⟩
  else if base + L.length < idx then ⟨0, 0, [], 4⟩
  else ⟨idx, termL base term L idx, L.drop (idx - base).toNat, 0⟩
theorem fit_drop {L : List EnD} (h : dlB L) (n : Nat) : dlB (L.drop n) := fun x hx => h x (List.mem_of_mem_drop hx)
theorem fit_take {L : List EnD} (h : dlB L) (n : Nat) : dlB (L.take n) := fun x hx => h x (List.mem_of_mem_take hx)
set_option maxRecDepth 100000 in
set_option maxHeartbeats 8000000 in
theorem add_any (base term : Int) (v v2 : Value) (L l : List EnD) (w : World) (h : RV w v L) (h2 : RV w v2 l) (hl5 : l.length ≤ 5000) :
    Calls Try.prog 11 #[.agg #[.int .i64 base, .int .i64 term, v], v2] w fun e w' => RwE (addF base term L l) e w' ∧ Below w.heap.size w w' := by
  obtain ⟨a, ln, c, rfl, Hln, m1, m2, m3⟩ := h.sh
  obtain ⟨a2, l2, c2, rfl, Hl2, n1, n2, n3⟩ := h2.sh
  have HV := Lib.hid h
  have HV2 := Lib.hid h2
  obtain ⟨P, hP⟩ : ∃ P, P = addF base term L l := ⟨_, rfl⟩
  rw [← hP]
  have hp := hP
  unfold addF at hp
  have HP := Lib.hid hp
  have HCK := Lib.hid (fun W (h : RV W (.slice a ln c) L) => checkR_any base term _ L W h)
  obtain ⟨E1, hE1⟩ : ∃ E1, E1 = okE base term L := ⟨_, rfl⟩
  have hE1c : E1 = 0 ∨ E1 = 90 := by rw [hE1]; exact okE_two _ _ _
  rw [← hE1] at HCK HP
  have HE1 := Lib.hid hE1
  have HJN := Lib.hid (fun W (h : RV W (.slice a ln c) L) (h2 : RV W (.slice a2 l2 c2) l) (hL : L.length ≤ 4096) => joinU base term _ _ L l ln W h h2 (by rw [Hln.out]; exact Nat.le_refl _) hL hl5)
  rw [← Hln.out] at HP
  obtain ⟨J, hJ⟩ : ∃ J, J = joinE base term ln L l := ⟨_, rfl⟩
  obtain ⟨Y, hY⟩ : ∃ Y, Y = L.take ln ++ l := ⟨_, rfl⟩
  obtain ⟨zbb, hzb⟩ : ∃ z, z = zi J base := ⟨_, rfl⟩
  obtain ⟨zt, hzt⟩ : ∃ z, z = zi J term := ⟨_, rfl⟩
  rw [← hJ, ← hY, ← hzb, ← hzt] at HP HJN
  clear h h2 hP hp hE1 hJ hY hzb hzt
  have HB : Hid (Below w.heap.size w w) := Lib.hid (Below.refl _ _)
  go_enter Try.func11, Try.ntmps11
  go_upto_region 1 with fail
  obtain ⟨N, hN⟩ : ∃ n0, n0 = w.heap.size := ⟨_, rfl⟩
  have HLON : Hid (w.heap.size ≤ N) := Lib.hid (by have := HB.out.size; omega)
  obtain ⟨W1, hA0⟩ : ∃ W0, W0 = w.alloc (.cells #[.int .i64 base, .int .i64 term, .slice a ln c] 24) := ⟨_, rfl⟩
  have hB : Below w.heap.size w W1 := by rw [hA0]; exact (Below.refl _ _).alloc (Nat.le_refl _) _
  have hS0 : W1.heap.size = N + 1 := by rw [hA0]; simp [← hN]
  have HR := Lib.hid (show Blk W1 N #[.int .i64 base, .int .i64 term, .slice a ln c] 24 by rw [hA0, hN]; exact blk_new _ _ _)
  replace HB := Lib.hid (HB.out.trans (hB.mono HB.out.size))
  replace HV := Lib.hid (HV.out.below hB)
  replace HV2 := Lib.hid (HV2.out.below hB)
  clear hB
  obtain ⟨W2, hA1⟩ : ∃ W0, W0 = W1.alloc (.cells #[.int .i64 0, .int .i64 0, .slice none 0 0] 24) := ⟨_, rfl⟩
  have hB : Below W1.heap.size W1 W2 := by rw [hA1]; exact (Below.refl _ _).alloc (Nat.le_refl _) _
  have hS1 : W2.heap.size = N + 2 := by rw [hA1]; simp [hS0]
  have HK1 := Lib.hid (show Blk W2 (N + 1) #[.int .i64 0, .int .i64 0, .slice none 0 0] 24 by rw [hA1, ← hS0]; exact blk_new _ _ _)
  replace HB := Lib.hid (HB.out.trans (hB.mono HB.out.size))
  replace HV := Lib.hid (HV.out.below hB)
  replace HV2 := Lib.hid (HV2.out.below hB)
  replace HR := Lib.hid (HR.out.step hB)
  clear hB
  have HSN := Lib.hid hS1
  rw [← hN, ← hA0, ← hA1]
  clear hA1 hA0 hN hS0 hS1
  have qR0 : W2.cell? ⟨N, 0, none⟩ = some (.int .i64 base) := cell_at HR.out 0
  have qR1 : W2.cell? ⟨N, 1, none⟩ = some (.int .i64 term) := cell_at HR.out 1
  have qR2 : W2.cell? ⟨N, 2, none⟩ = some (.slice a ln c) := cell_at HR.out 2
  have qRz : ∀ j, W2.frozen? ⟨N, j, none⟩ = false := fun j => free_at HR.out j
  have qRl : N < W2.heap.size := HR.out.lt
  go_wp2_with fail
  go_at_call 25
  go_fit (HCK.out _ HV.out)
  rintro e W3 ⟨rfl, hB⟩
  clear qR0 qR1 qR2 qRz qRl
  replace HB := Lib.hid (HB.out.trans (hB.mono HB.out.size))
  replace HV := Lib.hid (HV.out.below hB)
  replace HV2 := Lib.hid (HV2.out.below hB)
  replace HR := Lib.hid (HR.out.step hB)
  replace HK1 := Lib.hid (HK1.out.step hB)
  clear hB
  rcases hE1c with rfl | rfl
  · skip
    rw [if_neg (by simp)] at HP
    obtain rfl := HP.out
    have qR0 : W3.cell? ⟨N, 0, none⟩ = some (.int .i64 base) := cell_at HR.out 0
    have qR1 : W3.cell? ⟨N, 1, none⟩ = some (.int .i64 term) := cell_at HR.out 1
    have qR2 : W3.cell? ⟨N, 2, none⟩ = some (.slice a ln c) := cell_at HR.out 2
    have qRz : ∀ j, W3.frozen? ⟨N, j, none⟩ = false := fun j => free_at HR.out j
    have qRl : N < W3.heap.size := HR.out.lt
    go_wp2_with fail
    go_at_call 32
    go_fit (HJN.out _ HV.out HV2.out (okE_head HE1.out.symm).2.2.1)
    rintro e W4 ⟨v5, rfl, hv5, hB⟩
    clear qR0 qR1 qR2 qRz qRl
    replace HB := Lib.hid (HB.out.trans (hB.mono HB.out.size))
    replace HV := Lib.hid (HV.out.below hB)
    replace HV2 := Lib.hid (HV2.out.below hB)
    replace HR := Lib.hid (HR.out.step hB)
    replace HK1 := Lib.hid (HK1.out.step hB)
    clear hB
    obtain ⟨a5, l5, c5, rfl, Hl5, l51, l52, l53⟩ := hv5.sh
    have HV5 := Lib.hid hv5
    clear hv5
    have qK10 : W4.cell? ⟨(N + 1), 0, none⟩ = some (.int .i64 0) := cell_at HK1.out 0
    have qK11 : W4.cell? ⟨(N + 1), 1, none⟩ = some (.int .i64 0) := cell_at HK1.out 1
    have qK12 : W4.cell? ⟨(N + 1), 2, none⟩ = some (.slice none 0 0) := cell_at HK1.out 2
    have qK1z : ∀ j, W4.frozen? ⟨(N + 1), j, none⟩ = false := fun j => free_at HK1.out j
    have qK1l : (N + 1) < W4.heap.size := HK1.out.lt
    go_wp2_with fail
    clear qK10 qK11 qK12 qK1z qK1l
    obtain ⟨LS, hLS⟩ : ∃ L : List Value, L = [.int .i64 zbb, .int .i64 zt, .slice a5 l5 c5] := ⟨_, rfl⟩
    obtain ⟨W5, hWS⟩ : ∃ WS, WS = W4.setCells (N + 1) 0 LS := ⟨_, rfl⟩
    have hch := hWS
    rw [hLS] at hch
    simp only [World.setCells, Nat.zero_add, Nat.reduceAdd] at hch
    rw [← hch]
    clear hch
    have hkS := stC_blk HK1.out LS (by rw [hLS]; rfl)
    have hfS := stC_fr (N + 1) LS 0 W4
    rw [← hWS] at hkS hfS
    rw [hLS] at hkS
    replace HB := Lib.hid (HB.out.trans (hfS.below HB.out.size (by have := HLON.out; simp; try omega)))
    replace HV := Lib.hid (HV.out.fr HK1.out hfS)
    replace HV2 := Lib.hid (HV2.out.fr HK1.out hfS)
    replace HR := Lib.hid (show Blk W5 N #[.int .i64 base, .int .i64 term, .slice a ln c] 24 from (hfS.block _ HR.out.lt (by simp; try omega)).trans HR.out)
    replace HV5 := Lib.hid (HV5.out.fr HK1.out hfS)
    replace HK1 := Lib.hid (show Blk W5 (N + 1) #[.int .i64 zbb, .int .i64 zt, .slice a5 l5 c5] 24 from hkS)
    clear hWS hLS hkS hfS
    have qK10 : W5.cell? ⟨(N + 1), 0, none⟩ = some (.int .i64 zbb) := cell_at HK1.out 0
    have qK11 : W5.cell? ⟨(N + 1), 1, none⟩ = some (.int .i64 zt) := cell_at HK1.out 1
    have qK12 : W5.cell? ⟨(N + 1), 2, none⟩ = some (.slice a5 l5 c5) := cell_at HK1.out 2
    have qK1z : ∀ j, W5.frozen? ⟨(N + 1), j, none⟩ = false := fun j => free_at HK1.out j
    have qK1l : (N + 1) < W5.heap.size := HK1.out.lt
    exact bodyPost_ret (v := .tuple #[.agg #[.int .i64 zbb, .int .i64 zt, .slice a5 l5 c5], .int .i64 J]) (by simp [results, Try.results11, go_sem, qK10, qK11, qK12]) rfl ⟨⟨_, rfl, HV5.out⟩, HB.out⟩
  · rw [if_pos (by simp)] at HP
    obtain rfl := HP.out
    have qK10 : W3.cell? ⟨(N + 1), 0, none⟩ = some (.int .i64 0) := cell_at HK1.out 0
    have qK11 : W3.cell? ⟨(N + 1), 1, none⟩ = some (.int .i64 0) := cell_at HK1.out 1
    have qK12 : W3.cell? ⟨(N + 1), 2, none⟩ = some (.slice none 0 0) := cell_at HK1.out 2
    have qK1z : ∀ j, W3.frozen? ⟨(N + 1), j, none⟩ = false := fun j => free_at HK1.out j
    have qK1l : (N + 1) < W3.heap.size := HK1.out.lt
    go_wp2_with fail
    clear qK10 qK11 qK12 qK1z qK1l
    obtain ⟨LS, hLS⟩ : ∃ L : List Value, L = [.int .i64 0, .int .i64 0, .slice none 0 0] := ⟨_, rfl⟩
    obtain ⟨W4, hWS⟩ : ∃ WS, WS = W3.setCells (N + 1) 0 LS := ⟨_, rfl⟩
    have hch := hWS
    rw [hLS] at hch
    simp only [World.setCells, Nat.zero_add, Nat.reduceAdd] at hch
    rw [← hch]
    clear hch
    have hkS := stC_blk HK1.out LS (by rw [hLS]; rfl)
    have hfS := stC_fr (N + 1) LS 0 W3
    rw [← hWS] at hkS hfS
    rw [hLS] at hkS
    replace HB := Lib.hid (HB.out.trans (hfS.below HB.out.size (by have := HLON.out; simp; try omega)))
    replace HV := Lib.hid (HV.out.fr HK1.out hfS)
    replace HV2 := Lib.hid (HV2.out.fr HK1.out hfS)
    replace HR := Lib.hid (show Blk W4 N #[.int .i64 base, .int .i64 term, .slice a ln c] 24 from (hfS.block _ HR.out.lt (by simp; try omega)).trans HR.out)
    replace HK1 := Lib.hid (show Blk W4 (N + 1) #[.int .i64 0, .int .i64 0, .slice none 0 0] 24 from hkS)
    clear hWS hLS hkS hfS
    have qK10 : W4.cell? ⟨(N + 1), 0, none⟩ = some (.int .i64 0) := cell_at HK1.out 0
    have qK11 : W4.cell? ⟨(N + 1), 1, none⟩ = some (.int .i64 0) := cell_at HK1.out 1
    have qK12 : W4.cell? ⟨(N + 1), 2, none⟩ = some (.slice none 0 0) := cell_at HK1.out 2
    have qK1z : ∀ j, W4.frozen? ⟨(N + 1), j, none⟩ = false := fun j => free_at HK1.out j
    have qK1l : (N + 1) < W4.heap.size := HK1.out.lt
    exact bodyPost_ret (v := .tuple #[.agg #[.int .i64 0, .int .i64 0, .slice none 0 0], .int .i64 90]) (by simp [results, Try.results11, go_sem, qK10, qK11, qK12]) rfl ⟨⟨_, rfl, rv_nil _⟩, HB.out⟩
end Go.Proofs.Ytcadinoijclfnaa
