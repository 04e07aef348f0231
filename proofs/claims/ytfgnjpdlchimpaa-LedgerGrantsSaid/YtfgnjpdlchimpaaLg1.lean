/-
  Texts of this claim, put together: LgY2, Por, LgX2, LgRf.
-/
import Derived.Test.YtfgnjpdlchimpaaLc1
import Derived.Test.YtfgnjpdlchimpaaLc2
import Derived.Test.YtfgnjpdlchimpaaLc3
import Derived.Test.YtfgnjpdlchimpaaLc4
import Derived.Test.YtfgnjpdlchimpaaLc5
import Derived.Deep.DeepFit
import Derived.Lib.AppendZeros
import Derived.Deep.RegionLaw
namespace Go.Proofs.Ytfgnjpdlchimpaa
open Go.RowKit
theorem zh {p : Prop} (h : p) : Hid p := Lib.hid h
set_option linter.unusedSimpArgs false
set_option linter.unusedVariables false

set_option maxRecDepth 100000 in
set_option maxHeartbeats 8000000 in
theorem rcopyO_any (v : Value) (s : StE) (w : World) (h : SV w v s) (hf : fewS s) :
    Calls Try.prog 40 #[v] w fun e w' => ∃ v', e = .returned v' ∧ SVO w.heap.size w' v' s ∧ Below w.heap.size w w' := by
  obtain ⟨f1, f2, f3, f4⟩ := hf
  obtain ⟨vt, vl, vs, vd, rfl, ht, hl, hs, hd⟩ := h
  obtain ⟨ta, tn, tc, rfl, Htn, tn1, tn2⟩ := ht.sh
  obtain ⟨la, ln, lc, rfl, Hln, ln1, ln2⟩ := hl.sh
  obtain ⟨sa, sn, sc, rfl, Hsn, sn1, sn2⟩ := hs.sh
  obtain ⟨da, dn, dc, rfl, Hdn, dn1, dn2⟩ := hd.sh
  have HT0 := zh ht
  have HL0 := zh hl
  have HS0 := zh hs
  have HD0 := zh hd
  have HT := zh ht
  have HL := zh hl
  have HS := zh hs
  have HD := zh hd
  clear ht hl hs hd
  have HB : Hid (Below w.heap.size w w):=zh (Below.refl _ _)
  go_enter Try.func40, Try.ntmps40
  go_upto_region 1 with fail
  obtain ⟨N, hN⟩ : ∃ n0, n0 = w.heap.size := ⟨_, rfl⟩
  have HLON : Hid (w.heap.size ≤ N):=zh (by have := HB.out.size; omega)
  obtain ⟨W1, hA0⟩ : ∃ W0, W0 = w.alloc (.cells #[.int .i64 s.term, .int .i64 s.stamp, .int .i64 s.next, .slice ta tn tc, .slice la ln lc, .slice sa sn sc, .slice da dn dc] 27) := ⟨_, rfl⟩
  have hB : Below w.heap.size w W1 := by rw [hA0]; exact (Below.refl _ _).alloc (Nat.le_refl _) _
  have hS0 : W1.heap.size = N + 1 := by rw [hA0]; simp [← hN]
  have HR:=zh (show Blk W1 N #[.int .i64 s.term, .int .i64 s.stamp, .int .i64 s.next, .slice ta tn tc, .slice la ln lc, .slice sa sn sc, .slice da dn dc] 27 by rw [hA0, hN]; exact blk_new _ _ _)
  replace HB:=zh (HB.out.trans (hB.mono HB.out.size))
  replace HT:=zh (HT0.out.below HB.out)
  replace HL:=zh (HL0.out.below HB.out)
  replace HS:=zh (HS0.out.below HB.out)
  replace HD:=zh (HD0.out.below HB.out)
  clear hB
  obtain ⟨W2, hA1⟩ : ∃ W0, W0 = W1.alloc (.cells #[.int .i64 0, .int .i64 0, .int .i64 0, .slice none 0 0, .slice none 0 0, .slice none 0 0, .slice none 0 0] 27) := ⟨_, rfl⟩
  have hB : Below W1.heap.size W1 W2 := by rw [hA1]; exact (Below.refl _ _).alloc (Nat.le_refl _) _
  have hS1 : W2.heap.size = N + 2 := by rw [hA1]; simp [hS0]
  have HK1:=zh (show Blk W2 (N + 1) #[.int .i64 0, .int .i64 0, .int .i64 0, .slice none 0 0, .slice none 0 0, .slice none 0 0, .slice none 0 0] 27 by rw [hA1, ← hS0]; exact blk_new _ _ _)
  replace HB:=zh (HB.out.trans (hB.mono HB.out.size))
  replace HT:=zh (HT0.out.below HB.out)
  replace HL:=zh (HL0.out.below HB.out)
  replace HS:=zh (HS0.out.below HB.out)
  replace HD:=zh (HD0.out.below HB.out)
  replace HR:=zh (HR.out.step hB)
  clear hB
  have HSN := zh hS1
  rw [← hN, ← hA0, ← hA1]
  clear hA1 hA0 hN hS0 hS1
  have qR0 : W2.cell? ⟨N, 0, none⟩ = some (.int .i64 s.term) := cell_at HR.out 0
  have qR1 : W2.cell? ⟨N, 1, none⟩ = some (.int .i64 s.stamp) := cell_at HR.out 1
  have qR2 : W2.cell? ⟨N, 2, none⟩ = some (.int .i64 s.next) := cell_at HR.out 2
  have qR3 : W2.cell? ⟨N, 3, none⟩ = some (.slice ta tn tc) := cell_at HR.out 3
  have qR4 : W2.cell? ⟨N, 4, none⟩ = some (.slice la ln lc) := cell_at HR.out 4
  have qR5 : W2.cell? ⟨N, 5, none⟩ = some (.slice sa sn sc) := cell_at HR.out 5
  have qR6 : W2.cell? ⟨N, 6, none⟩ = some (.slice da dn dc) := cell_at HR.out 6
  have qRz : ∀ j, W2.frozen? ⟨N, j, none⟩ = false := fun j => free_at HR.out j
  have qRl : N < W2.heap.size := HR.out.lt
  go_upto_region 6 with fail
  clear qR0 qR1 qR2 qR3 qR4 qR5 qR6 qRz qRl
  obtain ⟨M, hM⟩ : ∃ n0, n0 = W2.heap.size := ⟨_, rfl⟩
  have HXMHR : Hid (N < M):=zh (by rw [hM]; exact HR.out.lt)
  have HXMHK1 : Hid ((N + 1) < M):=zh (by rw [hM]; exact HK1.out.lt)
  have HLOM : Hid (w.heap.size ≤ M):=zh (by have := HB.out.size; omega)
  obtain ⟨W3, hA0⟩ : ∃ W0, W0 = W2.alloc (.cells #[.int .i64 s.term, .int .i64 s.stamp, .int .i64 s.next, .slice none 0 0, .slice none 0 0, .slice none 0 0, .slice none 0 0] 27) := ⟨_, rfl⟩
  have hB : Below W2.heap.size W2 W3 := by rw [hA0]; exact (Below.refl _ _).alloc (Nat.le_refl _) _
  have hS0 : W3.heap.size = M + 1 := by rw [hA0]; simp [← hM]
  have HM:=zh (show Blk W3 M #[.int .i64 s.term, .int .i64 s.stamp, .int .i64 s.next, .slice none 0 0, .slice none 0 0, .slice none 0 0, .slice none 0 0] 27 by rw [hA0, hM]; exact blk_new _ _ _)
  replace HB:=zh (HB.out.trans (hB.mono HB.out.size))
  replace HT:=zh (HT0.out.below HB.out)
  replace HL:=zh (HL0.out.below HB.out)
  replace HS:=zh (HS0.out.below HB.out)
  replace HD:=zh (HD0.out.below HB.out)
  replace HR:=zh (HR.out.step hB)
  replace HK1:=zh (HK1.out.step hB)
  clear hB
  have HSM := zh hS0
  rw [← hM, ← hA0]
  clear hA0 hM hS0
  have qR0 : W3.cell? ⟨N, 0, none⟩ = some (.int .i64 s.term) := cell_at HR.out 0
  have qR1 : W3.cell? ⟨N, 1, none⟩ = some (.int .i64 s.stamp) := cell_at HR.out 1
  have qR2 : W3.cell? ⟨N, 2, none⟩ = some (.int .i64 s.next) := cell_at HR.out 2
  have qR3 : W3.cell? ⟨N, 3, none⟩ = some (.slice ta tn tc) := cell_at HR.out 3
  have qR4 : W3.cell? ⟨N, 4, none⟩ = some (.slice la ln lc) := cell_at HR.out 4
  have qR5 : W3.cell? ⟨N, 5, none⟩ = some (.slice sa sn sc) := cell_at HR.out 5
  have qR6 : W3.cell? ⟨N, 6, none⟩ = some (.slice da dn dc) := cell_at HR.out 6
  have qRz : ∀ j, W3.frozen? ⟨N, j, none⟩ = false := fun j => free_at HR.out j
  have qRl : N < W3.heap.size := HR.out.lt
  have qM0 : W3.cell? ⟨M, 0, none⟩ = some (.int .i64 s.term) := cell_at HM.out 0
  have qM1 : W3.cell? ⟨M, 1, none⟩ = some (.int .i64 s.stamp) := cell_at HM.out 1
  have qM2 : W3.cell? ⟨M, 2, none⟩ = some (.int .i64 s.next) := cell_at HM.out 2
  have qM3 : W3.cell? ⟨M, 3, none⟩ = some (.slice none 0 0) := cell_at HM.out 3
  have qM4 : W3.cell? ⟨M, 4, none⟩ = some (.slice none 0 0) := cell_at HM.out 4
  have qM5 : W3.cell? ⟨M, 5, none⟩ = some (.slice none 0 0) := cell_at HM.out 5
  have qM6 : W3.cell? ⟨M, 6, none⟩ = some (.slice none 0 0) := cell_at HM.out 6
  have qMz : ∀ j, W3.frozen? ⟨M, j, none⟩ = false := fun j => free_at HM.out j
  have qMl : M < W3.heap.size := HM.out.lt
  have HL1 : Hid (w.heap.size ≤ W3.heap.size) := zh HB.out.size
  obtain ⟨v1, ob1, W4, hrun, hor, hBM⟩ := tn_app (ty := 22) (tn9o_nil W3 _) (tv_tn HT.out) (Nat.le_refl _) (by simp; omega)
  rw [List.nil_append] at hor
  obtain ⟨b1, m1, k1, rfl, Hb1, x1, y1⟩ := hor.v.sh
  have HRUN := zh hrun
  have p0 : W4.cell? ⟨M, 3, none⟩ = some (.slice none 0 0) := cell_at (HM.out.step hBM) 3
  have pz : ∀ j, W4.frozen? ⟨M, j, none⟩ = false := fun j => free_at (HM.out.step hBM) j
  have pl : M < W4.heap.size := (HM.out.step hBM).lt
  have FO1:=zh (show M < _ from HM.out.lt)
  have FO1k:=zh (show N + 1 < _ from HK1.out.lt)
  have O1 := zh hor
  go_upto_region 7 with (at_builtin; refine Lib.wpList_append_run _ rfl (.tmp 10) (.tmp 12) 22 22 rfl _ _ rfl rfl _ _ HRUN.out ?_)
  clear p0 pz pl
  clear qR0 qR1 qR2 qR3 qR4 qR5 qR6 qRz qRl qM0 qM1 qM2 qM3 qM4 qM5 qM6 qMz qMl
  replace HB:=zh (HB.out.trans (hBM.mono HB.out.size))
  replace HT:=zh (HT0.out.below HB.out)
  replace HL:=zh (HL0.out.below HB.out)
  replace HS:=zh (HS0.out.below HB.out)
  replace HD:=zh (HD0.out.below HB.out)
  replace HR:=zh (HR.out.step hBM)
  replace HK1:=zh (HK1.out.step hBM)
  replace HM:=zh (HM.out.step hBM)
  clear HRUN hrun hor hBM
  obtain ⟨W5, hWS⟩ : ∃ WS, WS = W4.setCell ⟨M, 3, none⟩ (.slice b1 m1 k1) := ⟨_, rfl⟩
  rw [← hWS]
  have hfS : Fr [M] W4 W5 := by rw [hWS]; exact (Fr.refl _ _).setCell _ (.inl (by simp)) _
  have hkS : Blk W5 M #[.int .i64 s.term, .int .i64 s.stamp, .int .i64 s.next, .slice b1 m1 k1, .slice none 0 0, .slice none 0 0, .slice none 0 0] 27 := by rw [hWS]; exact HM.out.set 3 _
  replace HB:=zh (HB.out.trans (hfS.below HB.out.size (by have := HLOM.out; simp; try omega)))
  replace HT:=zh (HT0.out.below HB.out)
  replace HL:=zh (HL0.out.below HB.out)
  replace HS:=zh (HS0.out.below HB.out)
  replace HD:=zh (HD0.out.below HB.out)
  replace HR:=zh (show Blk W5 N #[.int .i64 s.term, .int .i64 s.stamp, .int .i64 s.next, .slice ta tn tc, .slice la ln lc, .slice sa sn sc, .slice da dn dc] 27 from (hfS.block _ HR.out.lt (by have hx0 := HXMHR.out; have hx1 := HXMHK1.out; simp; try omega)).trans HR.out)
  replace HK1:=zh (show Blk W5 (N + 1) #[.int .i64 0, .int .i64 0, .int .i64 0, .slice none 0 0, .slice none 0 0, .slice none 0 0, .slice none 0 0] 27 from (hfS.block _ HK1.out.lt (by have hx0 := HXMHR.out; have hx1 := HXMHK1.out; simp; try omega)).trans HK1.out)
  replace O1:=zh (O1.out.fr hfS (by have := FO1.out; omega))
  replace HM:=zh (show Blk W5 M #[.int .i64 s.term, .int .i64 s.stamp, .int .i64 s.next, .slice b1 m1 k1, .slice none 0 0, .slice none 0 0, .slice none 0 0] 27 from hkS)
  clear hWS hfS hkS
  have qR0 : W5.cell? ⟨N, 0, none⟩ = some (.int .i64 s.term) := cell_at HR.out 0
  have qR1 : W5.cell? ⟨N, 1, none⟩ = some (.int .i64 s.stamp) := cell_at HR.out 1
  have qR2 : W5.cell? ⟨N, 2, none⟩ = some (.int .i64 s.next) := cell_at HR.out 2
  have qR3 : W5.cell? ⟨N, 3, none⟩ = some (.slice ta tn tc) := cell_at HR.out 3
  have qR4 : W5.cell? ⟨N, 4, none⟩ = some (.slice la ln lc) := cell_at HR.out 4
  have qR5 : W5.cell? ⟨N, 5, none⟩ = some (.slice sa sn sc) := cell_at HR.out 5
  have qR6 : W5.cell? ⟨N, 6, none⟩ = some (.slice da dn dc) := cell_at HR.out 6
  have qRz : ∀ j, W5.frozen? ⟨N, j, none⟩ = false := fun j => free_at HR.out j
  have qRl : N < W5.heap.size := HR.out.lt
  have qM0 : W5.cell? ⟨M, 0, none⟩ = some (.int .i64 s.term) := cell_at HM.out 0
  have qM1 : W5.cell? ⟨M, 1, none⟩ = some (.int .i64 s.stamp) := cell_at HM.out 1
  have qM2 : W5.cell? ⟨M, 2, none⟩ = some (.int .i64 s.next) := cell_at HM.out 2
  have qM3 : W5.cell? ⟨M, 3, none⟩ = some (.slice b1 m1 k1) := cell_at HM.out 3
  have qM4 : W5.cell? ⟨M, 4, none⟩ = some (.slice none 0 0) := cell_at HM.out 4
  have qM5 : W5.cell? ⟨M, 5, none⟩ = some (.slice none 0 0) := cell_at HM.out 5
  have qM6 : W5.cell? ⟨M, 6, none⟩ = some (.slice none 0 0) := cell_at HM.out 6
  have qMz : ∀ j, W5.frozen? ⟨M, j, none⟩ = false := fun j => free_at HM.out j
  have qMl : M < W5.heap.size := HM.out.lt
  have HL2 : Hid (w.heap.size ≤ W5.heap.size) := zh HB.out.size
  obtain ⟨v2, ob2, W6, hrun, hor, hBM⟩ := le_app (ty := 23) (leo_nil W5 _) HL.out (Nat.le_refl _) (by simp; omega)
  rw [List.nil_append] at hor
  obtain ⟨b2, m2, k2, rfl, Hb2, x2, y2⟩ := hor.v.sh
  have HRUN := zh hrun
  have p0 : W6.cell? ⟨M, 4, none⟩ = some (.slice none 0 0) := cell_at (HM.out.step hBM) 4
  have pz : ∀ j, W6.frozen? ⟨M, j, none⟩ = false := fun j => free_at (HM.out.step hBM) j
  have pl : M < W6.heap.size := (HM.out.step hBM).lt
  have FO2:=zh (show M < _ from HM.out.lt)
  have FO2k:=zh (show N + 1 < _ from HK1.out.lt)
  have O2 := zh hor
  go_upto_region 8 with (at_builtin; refine Lib.wpList_append_run _ rfl (.tmp 16) (.tmp 18) 23 23 rfl _ _ rfl rfl _ _ HRUN.out ?_)
  clear p0 pz pl
  clear qR0 qR1 qR2 qR3 qR4 qR5 qR6 qRz qRl qM0 qM1 qM2 qM3 qM4 qM5 qM6 qMz qMl
  replace HB:=zh (HB.out.trans (hBM.mono HB.out.size))
  replace HT:=zh (HT0.out.below HB.out)
  replace HL:=zh (HL0.out.below HB.out)
  replace HS:=zh (HS0.out.below HB.out)
  replace HD:=zh (HD0.out.below HB.out)
  replace HR:=zh (HR.out.step hBM)
  replace HK1:=zh (HK1.out.step hBM)
  replace HM:=zh (HM.out.step hBM)
  replace O1:=zh (O1.out.step hBM)
  clear HRUN hrun hor hBM
  obtain ⟨W7, hWS⟩ : ∃ WS, WS = W6.setCell ⟨M, 4, none⟩ (.slice b2 m2 k2) := ⟨_, rfl⟩
  rw [← hWS]
  have hfS : Fr [M] W6 W7 := by rw [hWS]; exact (Fr.refl _ _).setCell _ (.inl (by simp)) _
  have hkS : Blk W7 M #[.int .i64 s.term, .int .i64 s.stamp, .int .i64 s.next, .slice b1 m1 k1, .slice b2 m2 k2, .slice none 0 0, .slice none 0 0] 27 := by rw [hWS]; exact HM.out.set 4 _
  replace HB:=zh (HB.out.trans (hfS.below HB.out.size (by have := HLOM.out; simp; try omega)))
  replace HT:=zh (HT0.out.below HB.out)
  replace HL:=zh (HL0.out.below HB.out)
  replace HS:=zh (HS0.out.below HB.out)
  replace HD:=zh (HD0.out.below HB.out)
  replace HR:=zh (show Blk W7 N #[.int .i64 s.term, .int .i64 s.stamp, .int .i64 s.next, .slice ta tn tc, .slice la ln lc, .slice sa sn sc, .slice da dn dc] 27 from (hfS.block _ HR.out.lt (by have hx0 := HXMHR.out; have hx1 := HXMHK1.out; simp; try omega)).trans HR.out)
  replace HK1:=zh (show Blk W7 (N + 1) #[.int .i64 0, .int .i64 0, .int .i64 0, .slice none 0 0, .slice none 0 0, .slice none 0 0, .slice none 0 0] 27 from (hfS.block _ HK1.out.lt (by have hx0 := HXMHR.out; have hx1 := HXMHK1.out; simp; try omega)).trans HK1.out)
  replace O1:=zh (O1.out.fr hfS (by have := FO1.out; omega))
  replace O2:=zh (O2.out.fr hfS (by have := FO2.out; omega))
  replace HM:=zh (show Blk W7 M #[.int .i64 s.term, .int .i64 s.stamp, .int .i64 s.next, .slice b1 m1 k1, .slice b2 m2 k2, .slice none 0 0, .slice none 0 0] 27 from hkS)
  clear hWS hfS hkS
  have qR0 : W7.cell? ⟨N, 0, none⟩ = some (.int .i64 s.term) := cell_at HR.out 0
  have qR1 : W7.cell? ⟨N, 1, none⟩ = some (.int .i64 s.stamp) := cell_at HR.out 1
  have qR2 : W7.cell? ⟨N, 2, none⟩ = some (.int .i64 s.next) := cell_at HR.out 2
  have qR3 : W7.cell? ⟨N, 3, none⟩ = some (.slice ta tn tc) := cell_at HR.out 3
  have qR4 : W7.cell? ⟨N, 4, none⟩ = some (.slice la ln lc) := cell_at HR.out 4
  have qR5 : W7.cell? ⟨N, 5, none⟩ = some (.slice sa sn sc) := cell_at HR.out 5
  have qR6 : W7.cell? ⟨N, 6, none⟩ = some (.slice da dn dc) := cell_at HR.out 6
  have qRz : ∀ j, W7.frozen? ⟨N, j, none⟩ = false := fun j => free_at HR.out j
  have qRl : N < W7.heap.size := HR.out.lt
  have qM0 : W7.cell? ⟨M, 0, none⟩ = some (.int .i64 s.term) := cell_at HM.out 0
  have qM1 : W7.cell? ⟨M, 1, none⟩ = some (.int .i64 s.stamp) := cell_at HM.out 1
  have qM2 : W7.cell? ⟨M, 2, none⟩ = some (.int .i64 s.next) := cell_at HM.out 2
  have qM3 : W7.cell? ⟨M, 3, none⟩ = some (.slice b1 m1 k1) := cell_at HM.out 3
  have qM4 : W7.cell? ⟨M, 4, none⟩ = some (.slice b2 m2 k2) := cell_at HM.out 4
  have qM5 : W7.cell? ⟨M, 5, none⟩ = some (.slice none 0 0) := cell_at HM.out 5
  have qM6 : W7.cell? ⟨M, 6, none⟩ = some (.slice none 0 0) := cell_at HM.out 6
  have qMz : ∀ j, W7.frozen? ⟨M, j, none⟩ = false := fun j => free_at HM.out j
  have qMl : M < W7.heap.size := HM.out.lt
  have HL3 : Hid (w.heap.size ≤ W7.heap.size) := zh HB.out.size
  obtain ⟨v3, ob3, W8, hrun, hor, hBM⟩ := se_app (ty := 24) (seo_nil W7 _) HS.out (Nat.le_refl _) (by simp; omega)
  rw [List.nil_append] at hor
  obtain ⟨b3, m3, k3, rfl, Hb3, x3, y3⟩ := hor.v.sh
  have HRUN := zh hrun
  have p0 : W8.cell? ⟨M, 5, none⟩ = some (.slice none 0 0) := cell_at (HM.out.step hBM) 5
  have pz : ∀ j, W8.frozen? ⟨M, j, none⟩ = false := fun j => free_at (HM.out.step hBM) j
  have pl : M < W8.heap.size := (HM.out.step hBM).lt
  have FO3:=zh (show M < _ from HM.out.lt)
  have FO3k:=zh (show N + 1 < _ from HK1.out.lt)
  have O3 := zh hor
  go_upto_region 9 with (at_builtin; refine Lib.wpList_append_run _ rfl (.tmp 22) (.tmp 24) 24 24 rfl _ _ rfl rfl _ _ HRUN.out ?_)
  clear p0 pz pl
  clear qR0 qR1 qR2 qR3 qR4 qR5 qR6 qRz qRl qM0 qM1 qM2 qM3 qM4 qM5 qM6 qMz qMl
  replace HB:=zh (HB.out.trans (hBM.mono HB.out.size))
  replace HT:=zh (HT0.out.below HB.out)
  replace HL:=zh (HL0.out.below HB.out)
  replace HS:=zh (HS0.out.below HB.out)
  replace HD:=zh (HD0.out.below HB.out)
  replace HR:=zh (HR.out.step hBM)
  replace HK1:=zh (HK1.out.step hBM)
  replace HM:=zh (HM.out.step hBM)
  replace O1:=zh (O1.out.step hBM)
  replace O2:=zh (O2.out.step hBM)
  clear HRUN hrun hor hBM
  obtain ⟨W9, hWS⟩ : ∃ WS, WS = W8.setCell ⟨M, 5, none⟩ (.slice b3 m3 k3) := ⟨_, rfl⟩
  rw [← hWS]
  have hfS : Fr [M] W8 W9 := by rw [hWS]; exact (Fr.refl _ _).setCell _ (.inl (by simp)) _
  have hkS : Blk W9 M #[.int .i64 s.term, .int .i64 s.stamp, .int .i64 s.next, .slice b1 m1 k1, .slice b2 m2 k2, .slice b3 m3 k3, .slice none 0 0] 27 := by rw [hWS]; exact HM.out.set 5 _
  replace HB:=zh (HB.out.trans (hfS.below HB.out.size (by have := HLOM.out; simp; try omega)))
  replace HT:=zh (HT0.out.below HB.out)
  replace HL:=zh (HL0.out.below HB.out)
  replace HS:=zh (HS0.out.below HB.out)
  replace HD:=zh (HD0.out.below HB.out)
  replace HR:=zh (show Blk W9 N #[.int .i64 s.term, .int .i64 s.stamp, .int .i64 s.next, .slice ta tn tc, .slice la ln lc, .slice sa sn sc, .slice da dn dc] 27 from (hfS.block _ HR.out.lt (by have hx0 := HXMHR.out; have hx1 := HXMHK1.out; simp; try omega)).trans HR.out)
  replace HK1:=zh (show Blk W9 (N + 1) #[.int .i64 0, .int .i64 0, .int .i64 0, .slice none 0 0, .slice none 0 0, .slice none 0 0, .slice none 0 0] 27 from (hfS.block _ HK1.out.lt (by have hx0 := HXMHR.out; have hx1 := HXMHK1.out; simp; try omega)).trans HK1.out)
  replace O1:=zh (O1.out.fr hfS (by have := FO1.out; omega))
  replace O2:=zh (O2.out.fr hfS (by have := FO2.out; omega))
  replace O3:=zh (O3.out.fr hfS (by have := FO3.out; omega))
  replace HM:=zh (show Blk W9 M #[.int .i64 s.term, .int .i64 s.stamp, .int .i64 s.next, .slice b1 m1 k1, .slice b2 m2 k2, .slice b3 m3 k3, .slice none 0 0] 27 from hkS)
  clear hWS hfS hkS
  have qR0 : W9.cell? ⟨N, 0, none⟩ = some (.int .i64 s.term) := cell_at HR.out 0
  have qR1 : W9.cell? ⟨N, 1, none⟩ = some (.int .i64 s.stamp) := cell_at HR.out 1
  have qR2 : W9.cell? ⟨N, 2, none⟩ = some (.int .i64 s.next) := cell_at HR.out 2
  have qR3 : W9.cell? ⟨N, 3, none⟩ = some (.slice ta tn tc) := cell_at HR.out 3
  have qR4 : W9.cell? ⟨N, 4, none⟩ = some (.slice la ln lc) := cell_at HR.out 4
  have qR5 : W9.cell? ⟨N, 5, none⟩ = some (.slice sa sn sc) := cell_at HR.out 5
  have qR6 : W9.cell? ⟨N, 6, none⟩ = some (.slice da dn dc) := cell_at HR.out 6
  have qRz : ∀ j, W9.frozen? ⟨N, j, none⟩ = false := fun j => free_at HR.out j
  have qRl : N < W9.heap.size := HR.out.lt
  have qM0 : W9.cell? ⟨M, 0, none⟩ = some (.int .i64 s.term) := cell_at HM.out 0
  have qM1 : W9.cell? ⟨M, 1, none⟩ = some (.int .i64 s.stamp) := cell_at HM.out 1
  have qM2 : W9.cell? ⟨M, 2, none⟩ = some (.int .i64 s.next) := cell_at HM.out 2
  have qM3 : W9.cell? ⟨M, 3, none⟩ = some (.slice b1 m1 k1) := cell_at HM.out 3
  have qM4 : W9.cell? ⟨M, 4, none⟩ = some (.slice b2 m2 k2) := cell_at HM.out 4
  have qM5 : W9.cell? ⟨M, 5, none⟩ = some (.slice b3 m3 k3) := cell_at HM.out 5
  have qM6 : W9.cell? ⟨M, 6, none⟩ = some (.slice none 0 0) := cell_at HM.out 6
  have qMz : ∀ j, W9.frozen? ⟨M, j, none⟩ = false := fun j => free_at HM.out j
  have qMl : M < W9.heap.size := HM.out.lt
  have HL4 : Hid (w.heap.size ≤ W9.heap.size) := zh HB.out.size
  obtain ⟨v4, ob4, W10, hrun, hor, hBM⟩ := dk_app (ty := 25) (dko_nil W9 _) HD.out (Nat.le_refl _) (by simp; omega)
  rw [List.nil_append] at hor
  obtain ⟨b4, m4, k4, rfl, Hb4, x4, y4⟩ := hor.v.sh
  have HRUN := zh hrun
  have p0 : W10.cell? ⟨M, 6, none⟩ = some (.slice none 0 0) := cell_at (HM.out.step hBM) 6
  have pz : ∀ j, W10.frozen? ⟨M, j, none⟩ = false := fun j => free_at (HM.out.step hBM) j
  have pl : M < W10.heap.size := (HM.out.step hBM).lt
  have FO4:=zh (show M < _ from HM.out.lt)
  have FO4k:=zh (show N + 1 < _ from HK1.out.lt)
  have O4 := zh hor
  go_upto_region 10 with (at_builtin; refine Lib.wpList_append_run _ rfl (.tmp 28) (.tmp 30) 25 25 rfl _ _ rfl rfl _ _ HRUN.out ?_)
  clear p0 pz pl
  clear qR0 qR1 qR2 qR3 qR4 qR5 qR6 qRz qRl qM0 qM1 qM2 qM3 qM4 qM5 qM6 qMz qMl
  replace HB:=zh (HB.out.trans (hBM.mono HB.out.size))
  replace HT:=zh (HT0.out.below HB.out)
  replace HL:=zh (HL0.out.below HB.out)
  replace HS:=zh (HS0.out.below HB.out)
  replace HD:=zh (HD0.out.below HB.out)
  replace HR:=zh (HR.out.step hBM)
  replace HK1:=zh (HK1.out.step hBM)
  replace HM:=zh (HM.out.step hBM)
  replace O1:=zh (O1.out.step hBM)
  replace O2:=zh (O2.out.step hBM)
  replace O3:=zh (O3.out.step hBM)
  clear HRUN hrun hor hBM
  obtain ⟨W11, hWS⟩ : ∃ WS, WS = W10.setCell ⟨M, 6, none⟩ (.slice b4 m4 k4) := ⟨_, rfl⟩
  rw [← hWS]
  have hfS : Fr [M] W10 W11 := by rw [hWS]; exact (Fr.refl _ _).setCell _ (.inl (by simp)) _
  have hkS : Blk W11 M #[.int .i64 s.term, .int .i64 s.stamp, .int .i64 s.next, .slice b1 m1 k1, .slice b2 m2 k2, .slice b3 m3 k3, .slice b4 m4 k4] 27 := by rw [hWS]; exact HM.out.set 6 _
  replace HB:=zh (HB.out.trans (hfS.below HB.out.size (by have := HLOM.out; simp; try omega)))
  replace HT:=zh (HT0.out.below HB.out)
  replace HL:=zh (HL0.out.below HB.out)
  replace HS:=zh (HS0.out.below HB.out)
  replace HD:=zh (HD0.out.below HB.out)
  replace HR:=zh (show Blk W11 N #[.int .i64 s.term, .int .i64 s.stamp, .int .i64 s.next, .slice ta tn tc, .slice la ln lc, .slice sa sn sc, .slice da dn dc] 27 from (hfS.block _ HR.out.lt (by have hx0 := HXMHR.out; have hx1 := HXMHK1.out; simp; try omega)).trans HR.out)
  replace HK1:=zh (show Blk W11 (N + 1) #[.int .i64 0, .int .i64 0, .int .i64 0, .slice none 0 0, .slice none 0 0, .slice none 0 0, .slice none 0 0] 27 from (hfS.block _ HK1.out.lt (by have hx0 := HXMHR.out; have hx1 := HXMHK1.out; simp; try omega)).trans HK1.out)
  replace O1:=zh (O1.out.fr hfS (by have := FO1.out; omega))
  replace O2:=zh (O2.out.fr hfS (by have := FO2.out; omega))
  replace O3:=zh (O3.out.fr hfS (by have := FO3.out; omega))
  replace O4:=zh (O4.out.fr hfS (by have := FO4.out; omega))
  replace HM:=zh (show Blk W11 M #[.int .i64 s.term, .int .i64 s.stamp, .int .i64 s.next, .slice b1 m1 k1, .slice b2 m2 k2, .slice b3 m3 k3, .slice b4 m4 k4] 27 from hkS)
  clear hWS hfS hkS
  have qM0 : W11.cell? ⟨M, 0, none⟩ = some (.int .i64 s.term) := cell_at HM.out 0
  have qM1 : W11.cell? ⟨M, 1, none⟩ = some (.int .i64 s.stamp) := cell_at HM.out 1
  have qM2 : W11.cell? ⟨M, 2, none⟩ = some (.int .i64 s.next) := cell_at HM.out 2
  have qM3 : W11.cell? ⟨M, 3, none⟩ = some (.slice b1 m1 k1) := cell_at HM.out 3
  have qM4 : W11.cell? ⟨M, 4, none⟩ = some (.slice b2 m2 k2) := cell_at HM.out 4
  have qM5 : W11.cell? ⟨M, 5, none⟩ = some (.slice b3 m3 k3) := cell_at HM.out 5
  have qM6 : W11.cell? ⟨M, 6, none⟩ = some (.slice b4 m4 k4) := cell_at HM.out 6
  have qMz : ∀ j, W11.frozen? ⟨M, j, none⟩ = false := fun j => free_at HM.out j
  have qMl : M < W11.heap.size := HM.out.lt
  have qK10 : W11.cell? ⟨(N + 1), 0, none⟩ = some (.int .i64 0) := cell_at HK1.out 0
  have qK11 : W11.cell? ⟨(N + 1), 1, none⟩ = some (.int .i64 0) := cell_at HK1.out 1
  have qK12 : W11.cell? ⟨(N + 1), 2, none⟩ = some (.int .i64 0) := cell_at HK1.out 2
  have qK13 : W11.cell? ⟨(N + 1), 3, none⟩ = some (.slice none 0 0) := cell_at HK1.out 3
  have qK14 : W11.cell? ⟨(N + 1), 4, none⟩ = some (.slice none 0 0) := cell_at HK1.out 4
  have qK15 : W11.cell? ⟨(N + 1), 5, none⟩ = some (.slice none 0 0) := cell_at HK1.out 5
  have qK16 : W11.cell? ⟨(N + 1), 6, none⟩ = some (.slice none 0 0) := cell_at HK1.out 6
  have qK1z : ∀ j, W11.frozen? ⟨(N + 1), j, none⟩ = false := fun j => free_at HK1.out j
  have qK1l : (N + 1) < W11.heap.size := HK1.out.lt
  go_wp2_with fail
  replace FO1 := FO1k
  replace FO2 := FO2k
  replace FO3 := FO3k
  replace FO4 := FO4k
  clear qM0 qM1 qM2 qM3 qM4 qM5 qM6 qMz qMl qK10 qK11 qK12 qK13 qK14 qK15 qK16 qK1z qK1l
  obtain ⟨LS, hLS⟩ : ∃ L : List Value, L = [.int .i64 s.term, .int .i64 s.stamp, .int .i64 s.next, .slice b1 m1 k1, .slice b2 m2 k2, .slice b3 m3 k3, .slice b4 m4 k4] := ⟨_, rfl⟩
  obtain ⟨W12, hWS⟩ : ∃ WS, WS = W11.setCells (N + 1) 0 LS := ⟨_, rfl⟩
  have hch := hWS
  rw [hLS] at hch
  simp only [World.setCells, Nat.zero_add, Nat.reduceAdd] at hch
  rw [← hch]
  clear hch
  have hkS := stC_blk HK1.out LS (by rw [hLS]; rfl)
  have hfS := stC_fr (N + 1) LS 0 W11
  rw [← hWS] at hkS hfS
  rw [hLS] at hkS
  replace HB:=zh (HB.out.trans (hfS.below HB.out.size (by have := HLON.out; simp; try omega)))
  replace HT:=zh (HT0.out.below HB.out)
  replace HL:=zh (HL0.out.below HB.out)
  replace HS:=zh (HS0.out.below HB.out)
  replace HD:=zh (HD0.out.below HB.out)
  replace HR:=zh (show Blk W12 N #[.int .i64 s.term, .int .i64 s.stamp, .int .i64 s.next, .slice ta tn tc, .slice la ln lc, .slice sa sn sc, .slice da dn dc] 27 from (hfS.block _ HR.out.lt (by have hx0 := HXMHR.out; have hx1 := HXMHK1.out; simp; try omega)).trans HR.out)
  replace HM:=zh (show Blk W12 M #[.int .i64 s.term, .int .i64 s.stamp, .int .i64 s.next, .slice b1 m1 k1, .slice b2 m2 k2, .slice b3 m3 k3, .slice b4 m4 k4] 27 from (hfS.block _ HM.out.lt (by have hx0 := HXMHR.out; have hx1 := HXMHK1.out; simp; try omega)).trans HM.out)
  replace O1:=zh (O1.out.fr hfS (by have := FO1.out; omega))
  replace O2:=zh (O2.out.fr hfS (by have := FO2.out; omega))
  replace O3:=zh (O3.out.fr hfS (by have := FO3.out; omega))
  replace O4:=zh (O4.out.fr hfS (by have := FO4.out; omega))
  replace HK1:=zh (show Blk W12 (N + 1) #[.int .i64 s.term, .int .i64 s.stamp, .int .i64 s.next, .slice b1 m1 k1, .slice b2 m2 k2, .slice b3 m3 k3, .slice b4 m4 k4] 27 from hkS)
  clear hWS hLS hkS hfS
  have qK10 : W12.cell? ⟨(N + 1), 0, none⟩ = some (.int .i64 s.term) := cell_at HK1.out 0
  have qK11 : W12.cell? ⟨(N + 1), 1, none⟩ = some (.int .i64 s.stamp) := cell_at HK1.out 1
  have qK12 : W12.cell? ⟨(N + 1), 2, none⟩ = some (.int .i64 s.next) := cell_at HK1.out 2
  have qK13 : W12.cell? ⟨(N + 1), 3, none⟩ = some (.slice b1 m1 k1) := cell_at HK1.out 3
  have qK14 : W12.cell? ⟨(N + 1), 4, none⟩ = some (.slice b2 m2 k2) := cell_at HK1.out 4
  have qK15 : W12.cell? ⟨(N + 1), 5, none⟩ = some (.slice b3 m3 k3) := cell_at HK1.out 5
  have qK16 : W12.cell? ⟨(N + 1), 6, none⟩ = some (.slice b4 m4 k4) := cell_at HK1.out 6
  have qK1z : ∀ j, W12.frozen? ⟨(N + 1), j, none⟩ = false := fun j => free_at HK1.out j
  have qK1l : (N + 1) < W12.heap.size := HK1.out.lt
  exact bodyPost_ret (v := .agg #[.int .i64 s.term, .int .i64 s.stamp, .int .i64 s.next, .slice b1 m1 k1, .slice b2 m2 k2, .slice b3 m3 k3, .slice b4 m4 k4]) (by simp [results, Try.results40, go_sem, qK10, qK11, qK12, qK13, qK14, qK15, qK16]) rfl ⟨_, rfl, ⟨_, _, _, _, _, _, _, _, rfl, O1.out.le HL1.out, O2.out.le HL2.out, O3.out.le HL3.out, O4.out.le HL4.out⟩, HB.out⟩
end Go.Proofs.Ytfgnjpdlchimpaa
namespace Go.Proofs.Ytfgnjpdlchimpaa
open Go.RowKit
set_option linter.unusedSimpArgs false
set_option linter.unusedVariables false

set_option maxRecDepth 100000 in
set_option maxHeartbeats 8000000 in
theorem rsweep_any (v : Value) (L : List TnE) (oa : Option Addr) (on oc ob oo : Nat) (T : Nat → Int) (w : World) (h : TV w v L) (hI : IntsIn w oa on oc ob oo T) (hn5 : L.length ≤ 200) : Calls Try.prog 78 #[v, .slice oa on oc] w fun e w' => ∃ v', e = .returned v' ∧ TV w' v' (swL on T L) ∧ Below w.heap.size w w' := by
  have HVW := zh h
  have HOK := zh h.ok
  have HII := zh hI
  have om1 := hI.le
  have om2 := hI.max
  unfold maxLen at om2
  obtain ⟨C, hC⟩ : ∃ C, C = chk L := ⟨_, rfl⟩
  have HC := zh hC
  obtain ⟨Y, hY⟩ : ∃ Y, Y = swL on T L := ⟨_, rfl⟩
  rw [← hY]
  have HY := zh hY
  have HCK:=zh (rcheck_any v L w h)
  rw [← hC] at HCK
  clear hC hY
  obtain ⟨i0, hi, hz0, hz1, hz2⟩ := info_parts tnZero
  have HI := zh hi
  have HZ0 := zh hz0
  have HZ1 := zh hz1
  have HZ2 := zh hz2
  clear hi hz0 hz1 hz2 hI
  cases C
  · have hYx : Y = L := by rw [HY.out]; unfold swL; rw [← HC.out]; rfl
    have HYX := zh hYx
    clear hYx h
    go_enter Try.func78, Try.ntmps78
    go_wp2_with fail
    go_at_call 30
    refine Calls.mono HCK.out ?_
    rintro e W2 ⟨rfl, hB⟩
    have HB2 := zh hB
    clear hB
    go_wp2_with fail
    go_ret
    exact ⟨_, rfl, by rw [HYX.out]; exact HVW.out.below HB2.out, HB2.out⟩
  · have hYx : Y = L.filter fun x => !swB on T x := by rw [HY.out]; unfold swL; rw [← HC.out]; rfl
    have HYX := zh hYx
    clear hYx
    obtain ⟨a, b, o, cap, rfl, h⟩ := h
    have m1 := h.le
    have m2 := h.max
    unfold maxLen at m2
    have H1 := zh h
    clear h
    obtain ⟨n, hn⟩ : ∃ n, n = L.length := ⟨_, rfl⟩
    have HN := zh hn
    rw [← hn] at m1 H1 hn5 HCK HVW
    rw [← hn]
    clear hn
    go_enter Try.func78, Try.ntmps78
    go_wp2_with fail
    go_at_call 30
    refine Calls.mono HCK.out ?_
    rintro e W2 ⟨rfl, hB⟩
    have HB2 := zh hB
    clear hB HCK
    go_wp2_with fail
    go_loopw [5, 6] (fun u i wr => ∃ (k : Nat) (ob : Option Nat) (A : List TnE), k ≤ n ∧ i = .int .i64 k ∧ Row wr u ob 54 5 A.length (listL A) ∧ A = (L.take k).filter (fun y => !swB on T y) ∧ (∀ g, ob = some g → w.heap.size ≤ g) ∧ Below w.heap.size w wr) (fun _ i _ => n - (intOf i).toNat)
    case atStart => exact ⟨0, none, [], Nat.zero_le _, rfl, Row.nil _ _ _, rfl, (fun g e => by cases e), HB2.out⟩
    case round =>
      obtain ⟨k, ob9, A, hk, rfl, hrow, hA, hg, hB⟩ := hrel
      have hAl : A.length ≤ k := by rw [hA]; exact Nat.le_trans (List.length_filter_le _ _) (by simp; omega)
      have HROW := zh hrow
      have HG := zh hg
      have HB := zh hB
      have HA := zh hA
      obtain ⟨va, vc, rfl, v1, v2, _⟩ := hrow.shape
      unfold maxLen at v2
      clear hrow hg hB hA
      by_cases hlt : k < n
      · have hs1 := H1.out.below HB.out
        obtain ⟨e0, e1⟩ := hs1.at_ (by omega)
        subst e0
        obtain ⟨c0, c1, c2, c3, c4⟩ := hs1.cell k hlt
        have hgm : gt L k ∈ L := List.mem_of_getElem? (gt_lt (by rw [← HN.out]; exact hlt))
        have hid1 := chk_id HC.out.symm hgm
        have hid2 := (HOK.out _ hgm).1.2
        have hfs : (L.take (k + 1)).filter (fun y => !swB on T y) = A ++ (if swB on T (gt L k) then [] else [gt L k]) := by
          rw [HA.out, List.take_add_one, gt_lt (by rw [← HN.out]; exact hlt), List.filter_append]
          cases hsw : swB on T (gt L k) <;> simp [hsw]
        obtain ⟨y, hy⟩ : ∃ y, y = gt L k := ⟨_, rfl⟩
        rw [← hy] at c0 c1 c2 c3 c4 hfs hid1 hid2
        have HFS := zh hfs
        clear hs1 hy hfs hgm
        obtain ⟨q, hq⟩ : ∃ q : Nat, y.id = (q : Int) + 1 := ⟨(y.id - 1).toNat, by omega⟩
        have HO : Hid (outN on T y = if q < on then T q else 0):=zh (by unfold outN; rw [hq]; simp only [Int.add_sub_cancel, Int.toNat_natCast]; by_cases hh : q < on <;> simp [hh])
        have hw : IntKind.i64.wrap (q : Int) = (q : Int) := IntWalk.i64_in _ (by omega)
        obtain ⟨yi, yr, yb, yk, yg⟩ := y
        simp only at hq c0 c1 c2 c3 c4
        subst hq
        by_cases hqo : q < on
        · obtain ⟨oe0, oe1⟩ := (HII.out.below HB.out).at_ (by omega)
          subst oe0
          have o0 := (HII.out.below HB.out).cell q hqo
          obtain ⟨t, ht⟩ : ∃ t, t = T q := ⟨_, rfl⟩
          rw [← ht] at o0
          have HT:=zh (HO.out.trans (by rw [if_pos hqo, ← ht]) : outN on T ⟨(q : Int) + 1, yr, yb, yk, yg⟩ = t)
          have d1 : ((q : Int) < on) = True := eq_true (by omega)
          have d2 : (q < on) = True := eq_true hqo
          clear ht HO
          have hcs : (yg = true ∧ t ≤ 0) ∨ (yg = false) ∨ (yg = true ∧ 0 < t) := by cases yg <;> simp <;> omega
          rcases hcs with ⟨rfl, g1⟩ | rfl | ⟨rfl, g1⟩
          · have HF2 : Hid ((L.take (k + 1)).filter (fun y => !swB on T y) = A):=zh (by rw [HFS.out, show swB on T ⟨(q : Int) + 1, yr, yb, yk, true⟩ = true by unfold swB; rw [HT.out]; simp [g1]]; simp)
            have t1 : decide (0 < t) = false := decide_eq_false (by omega)
            go_wp2_with fail
            go_roundw
            case rel => exact ⟨k + 1, ob9, A, by omega, by go_num, HROW.out, HF2.out.symm, HG.out, HB.out⟩
            case measure => first | (simp [intOf]; done) | (simp [intOf]; omega)
          · have HF2 : Hid ((L.take (k + 1)).filter (fun y => !swB on T y) = A ++ [⟨(q : Int) + 1, yr, yb, yk, false⟩]):=zh (by rw [HFS.out, show swB on T ⟨(q : Int) + 1, yr, yb, yk, false⟩ = false by unfold swB; simp]; simp)
            go_upto_region 11 with fail
            obtain ⟨y, hy⟩ : ∃ y : TnE, y = ⟨(q : Int) + 1, yr, yb, yk, false⟩ := ⟨_, rfl⟩
            have b0 : wr.cell? ⟨b, o + k * 5, none⟩ = some (.int .i64 y.id) := by rw [hy]; exact c0
            have b1 : wr.cell? ⟨b, o + k * 5 + 1, none⟩ = some (.int .i64 y.rate) := by rw [hy]; exact c1
            have b2 : wr.cell? ⟨b, o + k * 5 + 2, none⟩ = some (.int .i64 y.burst) := by rw [hy]; exact c2
            have b3 : wr.cell? ⟨b, o + k * 5 + 3, none⟩ = some (.int .i64 y.bkt) := by rw [hy]; exact c3
            have b4 : wr.cell? ⟨b, o + k * 5 + 4, none⟩ = some (.bool y.gone) := by rw [hy]; exact c4
            rw [← hy] at HF2
            clear c0 c1 c2 c3 c4 hy
            go_wp2_with (at_builtin; refine wpList_append_row _ rfl (.tmp 46) (.tmp 51) 22 rfl 54 i0 _ 5 40 Try.underlying22 HI.out HZ0.out HZ1.out HZ2.out rfl (by decide) _ ob9 A.length (listL A) rfl (HROW.out.alloc _) ⟨wr.heap.size, 0, none⟩ 1 1 (y).cells rfl (by decide) rfl ?c1 ?c2 ?c3 ?c4 ?_)
            case c1 => first | exact one_tn wr y _ | (intro j u hj; simpa [TnE.cells] using hj)
            case c2 => exact tnc_one y
            case c3 => (unfold maxLen; omega)
            case c4 => omega
            intro v3q ob3q W3q hrow3 hg3 hob3
            have hG := grow2 (A := A) (y := y) HB.out HG.out (by first | exact hrow3 | simpa using hrow3) _ hg3 (by first | exact hob3 | (rcases hob3 with h | h; exact .inl (by rw [h]); exact .inr h))
            obtain ⟨va3q, vc3q, hv3, v13q, _, h39⟩ := hG.1.shape
            have h49 : va3q = some ⟨ob3q, 0, none⟩ := h39
            subst hv3 h49
            have HR3q := zh hG.1
            have HG3q := zh hG.2.1
            have HB3q := zh hG.2.2
            clear hG hrow3 hg3 hob3 h39
            go_wp2_with fail
            go_roundw
            case rel => exact ⟨k + 1, some ob3q, A ++ [y], by omega, by go_num, HR3q.out, HF2.out.symm, HG3q.out, HB3q.out⟩
            case measure => first | (simp [intOf]; done) | (simp [intOf]; omega)
          · have HF2 : Hid ((L.take (k + 1)).filter (fun y => !swB on T y) = A ++ [⟨(q : Int) + 1, yr, yb, yk, true⟩]):=zh (by rw [HFS.out, show swB on T ⟨(q : Int) + 1, yr, yb, yk, true⟩ = false by unfold swB; rw [HT.out]; simp; omega]; simp)
            have t1 : decide (0 < t) = true := decide_eq_true g1
            go_upto_region 11 with fail
            obtain ⟨y, hy⟩ : ∃ y : TnE, y = ⟨(q : Int) + 1, yr, yb, yk, true⟩ := ⟨_, rfl⟩
            have b0 : wr.cell? ⟨b, o + k * 5, none⟩ = some (.int .i64 y.id) := by rw [hy]; exact c0
            have b1 : wr.cell? ⟨b, o + k * 5 + 1, none⟩ = some (.int .i64 y.rate) := by rw [hy]; exact c1
            have b2 : wr.cell? ⟨b, o + k * 5 + 2, none⟩ = some (.int .i64 y.burst) := by rw [hy]; exact c2
            have b3 : wr.cell? ⟨b, o + k * 5 + 3, none⟩ = some (.int .i64 y.bkt) := by rw [hy]; exact c3
            have b4 : wr.cell? ⟨b, o + k * 5 + 4, none⟩ = some (.bool y.gone) := by rw [hy]; exact c4
            rw [← hy] at HF2
            clear c0 c1 c2 c3 c4 hy
            go_wp2_with (at_builtin; refine wpList_append_row _ rfl (.tmp 46) (.tmp 51) 22 rfl 54 i0 _ 5 40 Try.underlying22 HI.out HZ0.out HZ1.out HZ2.out rfl (by decide) _ ob9 A.length (listL A) rfl (HROW.out.alloc _) ⟨wr.heap.size, 0, none⟩ 1 1 (y).cells rfl (by decide) rfl ?c1 ?c2 ?c3 ?c4 ?_)
            case c1 => first | exact one_tn wr y _ | (intro j u hj; simpa [TnE.cells] using hj)
            case c2 => exact tnc_one y
            case c3 => (unfold maxLen; omega)
            case c4 => omega
            intro v3q ob3q W3q hrow3 hg3 hob3
            have hG := grow2 (A := A) (y := y) HB.out HG.out (by first | exact hrow3 | simpa using hrow3) _ hg3 (by first | exact hob3 | (rcases hob3 with h | h; exact .inl (by rw [h]); exact .inr h))
            obtain ⟨va3q, vc3q, hv3, v13q, _, h39⟩ := hG.1.shape
            have h49 : va3q = some ⟨ob3q, 0, none⟩ := h39
            subst hv3 h49
            have HR3q := zh hG.1
            have HG3q := zh hG.2.1
            have HB3q := zh hG.2.2
            clear hG hrow3 hg3 hob3 h39
            go_wp2_with fail
            go_roundw
            case rel => exact ⟨k + 1, some ob3q, A ++ [y], by omega, by go_num, HR3q.out, HF2.out.symm, HG3q.out, HB3q.out⟩
            case measure => first | (simp [intOf]; done) | (simp [intOf]; omega)
        · have HT:=zh (HO.out.trans (by rw [if_neg hqo]) : outN on T ⟨(q : Int) + 1, yr, yb, yk, yg⟩ = 0)
          obtain ⟨t, ht⟩ : ∃ t, t = (0 : Int) := ⟨_, rfl⟩
          rw [← ht] at HT
          have HT0 := zh ht
          have d1 : ((q : Int) < on) = False := eq_false (by omega)
          have d2 : (q < on) = False := eq_false hqo
          clear HO
          have hcs : (yg = true ∧ t ≤ 0) ∨ (yg = false) ∨ (yg = true ∧ 0 < t) := by cases yg <;> simp <;> omega
          rcases hcs with ⟨rfl, g1⟩ | rfl | ⟨rfl, g1⟩
          · have HF2 : Hid ((L.take (k + 1)).filter (fun y => !swB on T y) = A):=zh (by rw [HFS.out, show swB on T ⟨(q : Int) + 1, yr, yb, yk, true⟩ = true by unfold swB; rw [HT.out]; simp [g1]]; simp)
            have t1 : decide (0 < t) = false := decide_eq_false (by omega)
            subst ht
            go_wp2_with fail
            go_roundw
            case rel => exact ⟨k + 1, ob9, A, by omega, by go_num, HROW.out, HF2.out.symm, HG.out, HB.out⟩
            case measure => first | (simp [intOf]; done) | (simp [intOf]; omega)
          · have HF2 : Hid ((L.take (k + 1)).filter (fun y => !swB on T y) = A ++ [⟨(q : Int) + 1, yr, yb, yk, false⟩]):=zh (by rw [HFS.out, show swB on T ⟨(q : Int) + 1, yr, yb, yk, false⟩ = false by unfold swB; simp]; simp)
            subst ht
            go_upto_region 11 with fail
            obtain ⟨y, hy⟩ : ∃ y : TnE, y = ⟨(q : Int) + 1, yr, yb, yk, false⟩ := ⟨_, rfl⟩
            have b0 : wr.cell? ⟨b, o + k * 5, none⟩ = some (.int .i64 y.id) := by rw [hy]; exact c0
            have b1 : wr.cell? ⟨b, o + k * 5 + 1, none⟩ = some (.int .i64 y.rate) := by rw [hy]; exact c1
            have b2 : wr.cell? ⟨b, o + k * 5 + 2, none⟩ = some (.int .i64 y.burst) := by rw [hy]; exact c2
            have b3 : wr.cell? ⟨b, o + k * 5 + 3, none⟩ = some (.int .i64 y.bkt) := by rw [hy]; exact c3
            have b4 : wr.cell? ⟨b, o + k * 5 + 4, none⟩ = some (.bool y.gone) := by rw [hy]; exact c4
            rw [← hy] at HF2
            clear c0 c1 c2 c3 c4 hy
            go_wp2_with (at_builtin; refine wpList_append_row _ rfl (.tmp 46) (.tmp 51) 22 rfl 54 i0 _ 5 40 Try.underlying22 HI.out HZ0.out HZ1.out HZ2.out rfl (by decide) _ ob9 A.length (listL A) rfl (HROW.out.alloc _) ⟨wr.heap.size, 0, none⟩ 1 1 (y).cells rfl (by decide) rfl ?c1 ?c2 ?c3 ?c4 ?_)
            case c1 => first | exact one_tn wr y _ | (intro j u hj; simpa [TnE.cells] using hj)
            case c2 => exact tnc_one y
            case c3 => (unfold maxLen; omega)
            case c4 => omega
            intro v3q ob3q W3q hrow3 hg3 hob3
            have hG := grow2 (A := A) (y := y) HB.out HG.out (by first | exact hrow3 | simpa using hrow3) _ hg3 (by first | exact hob3 | (rcases hob3 with h | h; exact .inl (by rw [h]); exact .inr h))
            obtain ⟨va3q, vc3q, hv3, v13q, _, h39⟩ := hG.1.shape
            have h49 : va3q = some ⟨ob3q, 0, none⟩ := h39
            subst hv3 h49
            have HR3q := zh hG.1
            have HG3q := zh hG.2.1
            have HB3q := zh hG.2.2
            clear hG hrow3 hg3 hob3 h39
            go_wp2_with fail
            go_roundw
            case rel => exact ⟨k + 1, some ob3q, A ++ [y], by omega, by go_num, HR3q.out, HF2.out.symm, HG3q.out, HB3q.out⟩
            case measure => first | (simp [intOf]; done) | (simp [intOf]; omega)
          · exact absurd ht (by omega)
      · obtain rfl : k = n := by omega
        have hAY : A = Y := by rw [HYX.out, HA.out, HN.out, List.take_length]
        have HAY := zh hAY
        have HOKY : Hid (okL Y):=zh (by rw [HYX.out]; exact fun x hx => HOK.out x (List.mem_filter.1 hx).1)
        clear hAY
        go_wp2_with fail
        go_ret
        exact ⟨_, rfl, (by rw [← HAY.out]; exact (tvo_row (m := w.heap.size) HROW.out (by rw [HAY.out]; exact HOKY.out) HG.out).tv), HB.out⟩
end Go.Proofs.Ytfgnjpdlchimpaa
namespace Go.Proofs.Ytfgnjpdlchimpaa
open Go.RowKit
set_option linter.unusedSimpArgs false
set_option linter.unusedVariables false

set_option maxRecDepth 100000 in
set_option maxHeartbeats 8000000 in
theorem rswept_any (vt vl vs vd : Value) (s : StE) (w : World) (ht : TV w vt s.ts) (hl : LeV w vl s.ls) (hs : SeV w vs s.ss) (hd : DkV w vd s.ds) (hf : fewS s) (hz : sizeB s.ls) :
    Calls Try.prog 42 #[.agg #[.int .i64 s.term, .int .i64 s.stamp, .int .i64 s.next, vt, vl, vs, vd]] w fun e w' => ∃ vt', e = .returned (.agg #[.int .i64 s.term, .int .i64 s.stamp, .int .i64 s.next, vt', vl, vs, vd]) ∧ TV w' vt' (sweptS s).ts ∧ Below w.heap.size w w' := by
  have HFEW := zh hf
  obtain ⟨f1, f2, f3, f4⟩ := hf
  obtain ⟨ta, tn, tc, rfl, Htn, tn1, tn2⟩ := ht.sh
  obtain ⟨la, ln, lc, rfl, Hln, ln1, ln2⟩ := hl.sh
  obtain ⟨sa, sn, sc, rfl, Hsn, sn1, sn2⟩ := hs.sh
  obtain ⟨da, dn, dc, rfl, Hdn, dn1, dn2⟩ := hd.sh
  have HT0 := zh ht
  have HL0 := zh hl
  have HS0 := zh hs
  have HD0 := zh hd
  have HT := zh ht
  have HL := zh hl
  have HS := zh hs
  have HD := zh hd
  clear ht hl hs hd
  rw [← Hln.out] at f2
  rw [← Htn.out] at f1
  have HSV : Hid (∀ W, TV W (.slice ta tn tc) s.ts → LeV W (.slice la ln lc) s.ls → SeV W (.slice sa sn sc) s.ss → DkV W (.slice da dn dc) s.ds → SV W (.agg #[.int .i64 s.term, .int .i64 s.stamp, .int .i64 s.next, .slice ta tn tc, .slice la ln lc, .slice sa sn sc, .slice da dn dc]) s):=zh (fun W h1 h2 h3 h4 => ⟨_, _, _, _, rfl, h1, h2, h3, h4⟩)
  have HZB:=zh (fun t => outL_bd s.ls t hz)
  have HOF:=zh (fun t : Int => show -9223372036854775808 ≤ outL s.ls t ∧ outL s.ls t ≤ 9223372036854775807 by have := HZB.out t; rw [← Hln.out] at this; omega)
  have HOU:=zh (fun t W v (h : SV W v s) => rout_any v s t W h HFEW.out hz)
  clear hz
  have HB : Hid (Below w.heap.size w w):=zh (Below.refl _ _)
  go_enter Try.func42, Try.ntmps42
  go_upto_region 1 with fail
  obtain ⟨N, hN⟩ : ∃ n0, n0 = w.heap.size := ⟨_, rfl⟩
  have HLON : Hid (w.heap.size ≤ N):=zh (by have := HB.out.size; omega)
  obtain ⟨W1, hA0⟩ : ∃ W0, W0 = w.alloc (.cells #[.int .i64 s.term, .int .i64 s.stamp, .int .i64 s.next, .slice ta tn tc, .slice la ln lc, .slice sa sn sc, .slice da dn dc] 27) := ⟨_, rfl⟩
  have hB : Below w.heap.size w W1 := by rw [hA0]; exact (Below.refl _ _).alloc (Nat.le_refl _) _
  have hS0 : W1.heap.size = N + 1 := by rw [hA0]; simp [← hN]
  have HR:=zh (show Blk W1 N #[.int .i64 s.term, .int .i64 s.stamp, .int .i64 s.next, .slice ta tn tc, .slice la ln lc, .slice sa sn sc, .slice da dn dc] 27 by rw [hA0, hN]; exact blk_new _ _ _)
  replace HB:=zh (HB.out.trans (hB.mono HB.out.size))
  replace HT:=zh (HT0.out.below HB.out)
  replace HL:=zh (HL0.out.below HB.out)
  replace HS:=zh (HS0.out.below HB.out)
  replace HD:=zh (HD0.out.below HB.out)
  clear hB
  obtain ⟨W2, hA1⟩ : ∃ W0, W0 = W1.alloc (.cells #[.int .i64 0, .int .i64 0, .int .i64 0, .slice none 0 0, .slice none 0 0, .slice none 0 0, .slice none 0 0] 27) := ⟨_, rfl⟩
  have hB : Below W1.heap.size W1 W2 := by rw [hA1]; exact (Below.refl _ _).alloc (Nat.le_refl _) _
  have hS1 : W2.heap.size = N + 2 := by rw [hA1]; simp [hS0]
  have HZR:=zh (show Blk W2 (N + 1) #[.int .i64 0, .int .i64 0, .int .i64 0, .slice none 0 0, .slice none 0 0, .slice none 0 0, .slice none 0 0] 27 by rw [hA1, ← hS0]; exact blk_new _ _ _)
  replace HB:=zh (HB.out.trans (hB.mono HB.out.size))
  replace HT:=zh (HT0.out.below HB.out)
  replace HL:=zh (HL0.out.below HB.out)
  replace HS:=zh (HS0.out.below HB.out)
  replace HD:=zh (HD0.out.below HB.out)
  replace HR:=zh (HR.out.step hB)
  clear hB
  have HSN := zh hS1
  rw [← hN, ← hA0, ← hA1]
  clear hA1 hA0 hN hS0 hS1
  obtain ⟨M, hM⟩ : ∃ M, M = W2.heap.size := ⟨_, rfl⟩
  have HLOM : Hid (w.heap.size ≤ M):=zh (by rw [hM]; exact HB.out.size)
  have HFM0 : Hid (M ≤ W2.heap.size):=zh (by omega)
  have HMQ := zh hM
  clear hM
  go_wp2_with fail
  go_loopw [3, 4, 5] (fun o k _ wr => ∃ (i : Nat) (vo : Value) (ob : Option Nat), i ≤ 16 ∧ k = .int .i64 ((i : Int) + 1) ∧ o = vo ∧ InO M wr vo ob (outsL s.ls i) ∧ Below M W2 wr) (fun _ k _ _ => 17 - (intOf k).toNat)
  case atStart => exact ⟨0, _, _, Nat.zero_le _, rfl, rfl, ino_nil W2 M, Below.refl _ _⟩
  case round =>
    obtain ⟨i, vo, ob, hi, rfl, rfl, hor, hBM⟩ := hrel
    have HOR := zh hor
    have HBC := zh hBM
    have HFM : Hid (M ≤ wr.heap.size):=zh (Nat.le_trans HFM0.out hBM.size)
    have hB : Below W2.heap.size W2 wr := by rw [← HMQ.out]; exact hBM
    clear hor hBM
    replace HB:=zh (HB.out.trans (hB.mono HB.out.size))
    replace HT:=zh (HT0.out.below HB.out)
    replace HL:=zh (HL0.out.below HB.out)
    replace HS:=zh (HS0.out.below HB.out)
    replace HD:=zh (HD0.out.below HB.out)
    replace HR:=zh (HR.out.step hB)
    replace HZR:=zh (HZR.out.step hB)
    clear hB
    by_cases hlt : i < 16
    · skip
      have b9 : (((i : Int) + 1) ≤ 16) = True := eq_true (by omega)
      have ww5 : IntKind.i64.wrap (((i : Int) + 1) + 1) = ((i : Int) + 1) + 1 := IntWalk.i64_in _ (by omega)
      have HX:=zh (HOF.out ((i : Int) + 1))
      have HSU:=zh (outsL_succ s.ls i)
      have HO1:=zh (fun W v (h : SV W v s) => HOU.out ((i : Int) + 1) W v h)
      obtain ⟨z, hz⟩ : ∃ z, z = outL s.ls ((i : Int) + 1) := ⟨_, rfl⟩
      rw [← hz] at HX HSU HO1
      clear hz
      have qR0 : wr.cell? ⟨N, 0, none⟩ = some (.int .i64 s.term) := cell_at HR.out 0
      have qR1 : wr.cell? ⟨N, 1, none⟩ = some (.int .i64 s.stamp) := cell_at HR.out 1
      have qR2 : wr.cell? ⟨N, 2, none⟩ = some (.int .i64 s.next) := cell_at HR.out 2
      have qR3 : wr.cell? ⟨N, 3, none⟩ = some (.slice ta tn tc) := cell_at HR.out 3
      have qR4 : wr.cell? ⟨N, 4, none⟩ = some (.slice la ln lc) := cell_at HR.out 4
      have qR5 : wr.cell? ⟨N, 5, none⟩ = some (.slice sa sn sc) := cell_at HR.out 5
      have qR6 : wr.cell? ⟨N, 6, none⟩ = some (.slice da dn dc) := cell_at HR.out 6
      have qRz : ∀ j, wr.frozen? ⟨N, j, none⟩ = false := fun j => free_at HR.out j
      have qRl : N < wr.heap.size := HR.out.lt
      go_wp2_with fail
      go_at_call 15
      go_fit (HO1.out _ _ (HSV.out _ HT.out HL.out HS.out HD.out))
      rintro e W3 ⟨rfl, hB⟩
      clear qR0 qR1 qR2 qR3 qR4 qR5 qR6 qRz qRl
      replace HB:=zh (HB.out.trans (hB.mono HB.out.size))
      replace HT:=zh (HT0.out.below HB.out)
      replace HL:=zh (HL0.out.below HB.out)
      replace HS:=zh (HS0.out.below HB.out)
      replace HD:=zh (HD0.out.below HB.out)
      replace HR:=zh (HR.out.step hB)
      replace HZR:=zh (HZR.out.step hB)
      replace HOR:=zh (HOR.out.step hB)
      replace HBC:=zh (HBC.out.trans (hB.mono HFM.out))
      replace HFM:=zh (Nat.le_trans HFM.out hB.size)
      clear hB
      have hA : Below W3.heap.size W3 (W3.alloc (.cells #[.int .i64 z] 3)) := (Below.refl _ _).alloc (Nat.le_refl _) _
      obtain ⟨v4, ob4, W4, hrun, hor, hBM0⟩ := in_app (ty := 45) (HOR.out.step hA) (inv_one (blk_new W3 _ _) HX.out) (Nat.le_trans HFM.out hA.size) (by rw [outsL_len]; simp only [List.length_cons, List.length_nil]; omega)
      have hBM : Below M W3 W4 := (hA.mono HFM.out).trans hBM0
      have HRUN := zh hrun
      clear hA hBM0
      go_wp2_with (at_builtin; refine Lib.wpList_append_run _ rfl (.tmp 13) (.tmp 15) 45 45 rfl _ _ rfl rfl _ _ HRUN.out ?_)
      replace HBC:=zh (HBC.out.trans hBM)
      replace HFM:=zh (Nat.le_trans HFM.out hBM.size)
      clear HOR
      have HOR := zh hor
      clear HRUN hrun hor hBM
      replace HOR:=zh (by have h := HOR.out; rw [← HSU.out] at h; exact h)
      go_wp2_with fail
      go_roundw
      case rel => exact ⟨i + 1, _, _, by omega, by go_num, rfl, HOR.out, HBC.out⟩
      case measure => first | (simp [intOf]; done) | (simp [intOf]; omega)
    · skip
      obtain rfl : i = 16 := by omega
      have b9 : ((((16 : Nat) : Int) + 1) ≤ 16) = False := eq_false (by omega)
      have hv := HOR.out.v
      obtain ⟨oa, on, oc, rfl, Hon, on1, on2⟩ := hv.sh
      obtain ⟨ib, io, hI⟩ := hv.ints
      rw [outsL_len] at Hon
      obtain rfl : on = 16 := Hon.out
      have HSP:=zh (rsweep_any (.slice ta tn tc) s.ts oa 16 oc ib io _ wr HT.out hI (by rw [← Htn.out]; exact f1))
      rw [swL_outs] at HSP
      clear hv hI
      have qR0 : wr.cell? ⟨N, 0, none⟩ = some (.int .i64 s.term) := cell_at HR.out 0
      have qR1 : wr.cell? ⟨N, 1, none⟩ = some (.int .i64 s.stamp) := cell_at HR.out 1
      have qR2 : wr.cell? ⟨N, 2, none⟩ = some (.int .i64 s.next) := cell_at HR.out 2
      have qR3 : wr.cell? ⟨N, 3, none⟩ = some (.slice ta tn tc) := cell_at HR.out 3
      have qR4 : wr.cell? ⟨N, 4, none⟩ = some (.slice la ln lc) := cell_at HR.out 4
      have qR5 : wr.cell? ⟨N, 5, none⟩ = some (.slice sa sn sc) := cell_at HR.out 5
      have qR6 : wr.cell? ⟨N, 6, none⟩ = some (.slice da dn dc) := cell_at HR.out 6
      have qRz : ∀ j, wr.frozen? ⟨N, j, none⟩ = false := fun j => free_at HR.out j
      have qRl : N < wr.heap.size := HR.out.lt
      go_wp2_with fail
      go_at_call 78
      go_fit HSP.out
      rintro e W3 ⟨vq, rfl, hvq, hB⟩
      clear qR0 qR1 qR2 qR3 qR4 qR5 qR6 qRz qRl
      replace HB:=zh (HB.out.trans (hB.mono HB.out.size))
      replace HT:=zh (HT0.out.below HB.out)
      replace HL:=zh (HL0.out.below HB.out)
      replace HS:=zh (HS0.out.below HB.out)
      replace HD:=zh (HD0.out.below HB.out)
      replace HR:=zh (HR.out.step hB)
      replace HZR:=zh (HZR.out.step hB)
      clear hB
      obtain ⟨b1, m1, k1, rfl, Hb1, x1, y1⟩ := hvq.sh
      have HQ := zh hvq
      have HQ0 := zh hvq
      clear hvq
      have qR0 : W3.cell? ⟨N, 0, none⟩ = some (.int .i64 s.term) := cell_at HR.out 0
      have qR1 : W3.cell? ⟨N, 1, none⟩ = some (.int .i64 s.stamp) := cell_at HR.out 1
      have qR2 : W3.cell? ⟨N, 2, none⟩ = some (.int .i64 s.next) := cell_at HR.out 2
      have qR3 : W3.cell? ⟨N, 3, none⟩ = some (.slice ta tn tc) := cell_at HR.out 3
      have qR4 : W3.cell? ⟨N, 4, none⟩ = some (.slice la ln lc) := cell_at HR.out 4
      have qR5 : W3.cell? ⟨N, 5, none⟩ = some (.slice sa sn sc) := cell_at HR.out 5
      have qR6 : W3.cell? ⟨N, 6, none⟩ = some (.slice da dn dc) := cell_at HR.out 6
      have qRz : ∀ j, W3.frozen? ⟨N, j, none⟩ = false := fun j => free_at HR.out j
      have qRl : N < W3.heap.size := HR.out.lt
      have qZR0 : W3.cell? ⟨(N + 1), 0, none⟩ = some (.int .i64 0) := cell_at HZR.out 0
      have qZR1 : W3.cell? ⟨(N + 1), 1, none⟩ = some (.int .i64 0) := cell_at HZR.out 1
      have qZR2 : W3.cell? ⟨(N + 1), 2, none⟩ = some (.int .i64 0) := cell_at HZR.out 2
      have qZR3 : W3.cell? ⟨(N + 1), 3, none⟩ = some (.slice none 0 0) := cell_at HZR.out 3
      have qZR4 : W3.cell? ⟨(N + 1), 4, none⟩ = some (.slice none 0 0) := cell_at HZR.out 4
      have qZR5 : W3.cell? ⟨(N + 1), 5, none⟩ = some (.slice none 0 0) := cell_at HZR.out 5
      have qZR6 : W3.cell? ⟨(N + 1), 6, none⟩ = some (.slice none 0 0) := cell_at HZR.out 6
      have qZRz : ∀ j, W3.frozen? ⟨(N + 1), j, none⟩ = false := fun j => free_at HZR.out j
      have qZRl : (N + 1) < W3.heap.size := HZR.out.lt
      go_upto_region 8 with fail
      clear qR0 qR1 qR2 qR3 qR4 qR5 qR6 qRz qRl qZR0 qZR1 qZR2 qZR3 qZR4 qZR5 qZR6 qZRz qZRl
      obtain ⟨W4, hWS⟩ : ∃ WS, WS = W3.setCell ⟨N, 3, none⟩ (.slice b1 m1 k1) := ⟨_, rfl⟩
      rw [← hWS]
      have hfS : Fr [N] W3 W4 := by rw [hWS]; exact (Fr.refl _ _).setCell _ (.inl (by simp)) _
      have hkS : Blk W4 N #[.int .i64 s.term, .int .i64 s.stamp, .int .i64 s.next, .slice b1 m1 k1, .slice la ln lc, .slice sa sn sc, .slice da dn dc] 27 := by rw [hWS]; exact HR.out.set 3 _
      replace HB:=zh (HB.out.trans (hfS.below HB.out.size (by have := HLON.out; simp; try omega)))
      replace HT:=zh (HT0.out.below HB.out)
      replace HL:=zh (HL0.out.below HB.out)
      replace HS:=zh (HS0.out.below HB.out)
      replace HD:=zh (HD0.out.below HB.out)
      replace HZR:=zh (show Blk W4 (N + 1) #[.int .i64 0, .int .i64 0, .int .i64 0, .slice none 0 0, .slice none 0 0, .slice none 0 0, .slice none 0 0] 27 from (hfS.block _ HZR.out.lt (by simp; try omega)).trans HZR.out)
      replace HQ:=zh (HQ.out.fr HR.out hfS)
      replace HR:=zh (show Blk W4 N #[.int .i64 s.term, .int .i64 s.stamp, .int .i64 s.next, .slice b1 m1 k1, .slice la ln lc, .slice sa sn sc, .slice da dn dc] 27 from hkS)
      clear hWS hfS hkS
      have qR0 : W4.cell? ⟨N, 0, none⟩ = some (.int .i64 s.term) := cell_at HR.out 0
      have qR1 : W4.cell? ⟨N, 1, none⟩ = some (.int .i64 s.stamp) := cell_at HR.out 1
      have qR2 : W4.cell? ⟨N, 2, none⟩ = some (.int .i64 s.next) := cell_at HR.out 2
      have qR3 : W4.cell? ⟨N, 3, none⟩ = some (.slice b1 m1 k1) := cell_at HR.out 3
      have qR4 : W4.cell? ⟨N, 4, none⟩ = some (.slice la ln lc) := cell_at HR.out 4
      have qR5 : W4.cell? ⟨N, 5, none⟩ = some (.slice sa sn sc) := cell_at HR.out 5
      have qR6 : W4.cell? ⟨N, 6, none⟩ = some (.slice da dn dc) := cell_at HR.out 6
      have qRz : ∀ j, W4.frozen? ⟨N, j, none⟩ = false := fun j => free_at HR.out j
      have qRl : N < W4.heap.size := HR.out.lt
      have qZR0 : W4.cell? ⟨(N + 1), 0, none⟩ = some (.int .i64 0) := cell_at HZR.out 0
      have qZR1 : W4.cell? ⟨(N + 1), 1, none⟩ = some (.int .i64 0) := cell_at HZR.out 1
      have qZR2 : W4.cell? ⟨(N + 1), 2, none⟩ = some (.int .i64 0) := cell_at HZR.out 2
      have qZR3 : W4.cell? ⟨(N + 1), 3, none⟩ = some (.slice none 0 0) := cell_at HZR.out 3
      have qZR4 : W4.cell? ⟨(N + 1), 4, none⟩ = some (.slice none 0 0) := cell_at HZR.out 4
      have qZR5 : W4.cell? ⟨(N + 1), 5, none⟩ = some (.slice none 0 0) := cell_at HZR.out 5
      have qZR6 : W4.cell? ⟨(N + 1), 6, none⟩ = some (.slice none 0 0) := cell_at HZR.out 6
      have qZRz : ∀ j, W4.frozen? ⟨(N + 1), j, none⟩ = false := fun j => free_at HZR.out j
      have qZRl : (N + 1) < W4.heap.size := HZR.out.lt
      go_wp2_with fail
      clear qR0 qR1 qR2 qR3 qR4 qR5 qR6 qRz qRl qZR0 qZR1 qZR2 qZR3 qZR4 qZR5 qZR6 qZRz qZRl
      obtain ⟨LS, hLS⟩ : ∃ L : List Value, L = [.int .i64 s.term, .int .i64 s.stamp, .int .i64 s.next, .slice b1 m1 k1, .slice la ln lc, .slice sa sn sc, .slice da dn dc] := ⟨_, rfl⟩
      obtain ⟨W5, hWS⟩ : ∃ WS, WS = W4.setCells (N + 1) 0 LS := ⟨_, rfl⟩
      have hch := hWS
      rw [hLS] at hch
      simp only [World.setCells, Nat.zero_add, Nat.reduceAdd] at hch
      rw [← hch]
      clear hch
      have hkS := stC_blk HZR.out LS (by rw [hLS]; rfl)
      have hfS := stC_fr (N + 1) LS 0 W4
      rw [← hWS] at hkS hfS
      rw [hLS] at hkS
      replace HB:=zh (HB.out.trans (hfS.below HB.out.size (by have := HLON.out; simp; try omega)))
      replace HT:=zh (HT0.out.below HB.out)
      replace HL:=zh (HL0.out.below HB.out)
      replace HS:=zh (HS0.out.below HB.out)
      replace HD:=zh (HD0.out.below HB.out)
      replace HR:=zh (show Blk W5 N #[.int .i64 s.term, .int .i64 s.stamp, .int .i64 s.next, .slice b1 m1 k1, .slice la ln lc, .slice sa sn sc, .slice da dn dc] 27 from (hfS.block _ HR.out.lt (by simp; try omega)).trans HR.out)
      replace HQ:=zh (HQ.out.fr HZR.out hfS)
      replace HZR:=zh (show Blk W5 (N + 1) #[.int .i64 s.term, .int .i64 s.stamp, .int .i64 s.next, .slice b1 m1 k1, .slice la ln lc, .slice sa sn sc, .slice da dn dc] 27 from hkS)
      clear hWS hLS hkS hfS
      have qZR0 : W5.cell? ⟨(N + 1), 0, none⟩ = some (.int .i64 s.term) := cell_at HZR.out 0
      have qZR1 : W5.cell? ⟨(N + 1), 1, none⟩ = some (.int .i64 s.stamp) := cell_at HZR.out 1
      have qZR2 : W5.cell? ⟨(N + 1), 2, none⟩ = some (.int .i64 s.next) := cell_at HZR.out 2
      have qZR3 : W5.cell? ⟨(N + 1), 3, none⟩ = some (.slice b1 m1 k1) := cell_at HZR.out 3
      have qZR4 : W5.cell? ⟨(N + 1), 4, none⟩ = some (.slice la ln lc) := cell_at HZR.out 4
      have qZR5 : W5.cell? ⟨(N + 1), 5, none⟩ = some (.slice sa sn sc) := cell_at HZR.out 5
      have qZR6 : W5.cell? ⟨(N + 1), 6, none⟩ = some (.slice da dn dc) := cell_at HZR.out 6
      have qZRz : ∀ j, W5.frozen? ⟨(N + 1), j, none⟩ = false := fun j => free_at HZR.out j
      have qZRl : (N + 1) < W5.heap.size := HZR.out.lt
      exact bodyPost_ret (v := .agg #[.int .i64 s.term, .int .i64 s.stamp, .int .i64 s.next, .slice b1 m1 k1, .slice la ln lc, .slice sa sn sc, .slice da dn dc]) (by simp [results, Try.results42, go_sem, qZR0, qZR1, qZR2, qZR3, qZR4, qZR5, qZR6]) rfl ⟨_, rfl, HQ.out, HB.out⟩
end Go.Proofs.Ytfgnjpdlchimpaa
namespace Go.Proofs.Ytfgnjpdlchimpaa
open Go.RowKit
set_option linter.unusedSimpArgs false
set_option linter.unusedVariables false

set_option maxRecDepth 100000 in
set_option maxHeartbeats 8000000 in
theorem refused_any (v : Value) (s : StE) (er : Int) (w : World) (h : SV w v s) (hf : fewS s) :
    Calls Try.prog 49 #[v, .int .i64 er] w fun e w' => ((chkS s = false ∧ e = .returned (.tuple #[v, ansG er 0 0 0 0])) ∨ (chkS s = true ∧ ∃ vt vl vs vd ol os od, e = .returned (.tuple #[.agg #[.int .i64 s.term, .int .i64 s.stamp, .int .i64 s.next, vt, vl, vs, vd], ansG er 0 0 0 0]) ∧ TV w' vt (sweptS s).ts ∧ LeO w.heap.size w' vl ol s.ls ∧ SeO w.heap.size w' vs os s.ss ∧ DkO w.heap.size w' vd od s.ds)) ∧ Below w.heap.size w w' := by
  have HFEW := zh hf
  obtain ⟨f1, f2, f3, f4⟩ := hf
  obtain ⟨vt, vl, vs, vd, rfl, ht, hl, hs, hd⟩ := h
  obtain ⟨ta, tn, tc, rfl, Htn, tn1, tn2⟩ := ht.sh
  obtain ⟨la, ln, lc, rfl, Hln, ln1, ln2⟩ := hl.sh
  obtain ⟨sa, sn, sc, rfl, Hsn, sn1, sn2⟩ := hs.sh
  obtain ⟨da, dn, dc, rfl, Hdn, dn1, dn2⟩ := hd.sh
  have HT0 := zh ht
  have HL0 := zh hl
  have HS0 := zh hs
  have HD0 := zh hd
  have HT := zh ht
  have HL := zh hl
  have HS := zh hs
  have HD := zh hd
  clear ht hl hs hd
  rw [← Hln.out] at f2
  rw [← Htn.out] at f1
  have HSV : Hid (∀ W, TV W (.slice ta tn tc) s.ts → LeV W (.slice la ln lc) s.ls → SeV W (.slice sa sn sc) s.ss → DkV W (.slice da dn dc) s.ds → SV W (.agg #[.int .i64 s.term, .int .i64 s.stamp, .int .i64 s.next, .slice ta tn tc, .slice la ln lc, .slice sa sn sc, .slice da dn dc]) s):=zh (fun W h1 h2 h3 h4 => ⟨_, _, _, _, rfl, h1, h2, h3, h4⟩)
  have HCK:=zh (fun W v (h : SV W v s) => rcheckS_any v s W h HFEW.out)
  have HTW:=zh (fun W v (h : SV W v s) => rcopyO_any v s W h HFEW.out)
  obtain ⟨C, hC⟩ : ∃ C, C = chkS s := ⟨_, rfl⟩
  have HSZ:=zh (fun h : C = true => lesB_size (s := s) (by rw [hC] at h; unfold chkS at h; simp only [Bool.and_eq_true] at h; exact h.1.2))
  rw [← hC] at HCK
  have HCE := zh hC
  clear hC
  have HB : Hid (Below w.heap.size w w):=zh (Below.refl _ _)
  rw [← HCE.out]
  go_enter Try.func49, Try.ntmps49
  go_upto_region 1 with fail
  obtain ⟨N, hN⟩ : ∃ n0, n0 = w.heap.size := ⟨_, rfl⟩
  have HLON : Hid (w.heap.size ≤ N):=zh (by have := HB.out.size; omega)
  obtain ⟨W1, hA0⟩ : ∃ W0, W0 = w.alloc (.cells #[.int .i64 s.term, .int .i64 s.stamp, .int .i64 s.next, .slice ta tn tc, .slice la ln lc, .slice sa sn sc, .slice da dn dc] 27) := ⟨_, rfl⟩
  have hB : Below w.heap.size w W1 := by rw [hA0]; exact (Below.refl _ _).alloc (Nat.le_refl _) _
  have hS0 : W1.heap.size = N + 1 := by rw [hA0]; simp [← hN]
  have HR:=zh (show Blk W1 N #[.int .i64 s.term, .int .i64 s.stamp, .int .i64 s.next, .slice ta tn tc, .slice la ln lc, .slice sa sn sc, .slice da dn dc] 27 by rw [hA0, hN]; exact blk_new _ _ _)
  replace HB:=zh (HB.out.trans (hB.mono HB.out.size))
  replace HT:=zh (HT0.out.below HB.out)
  replace HL:=zh (HL0.out.below HB.out)
  replace HS:=zh (HS0.out.below HB.out)
  replace HD:=zh (HD0.out.below HB.out)
  clear hB
  obtain ⟨W2, hA1⟩ : ∃ W0, W0 = W1.alloc (.cells #[.int .i64 0, .int .i64 0, .int .i64 0, .slice none 0 0, .slice none 0 0, .slice none 0 0, .slice none 0 0] 27) := ⟨_, rfl⟩
  have hB : Below W1.heap.size W1 W2 := by rw [hA1]; exact (Below.refl _ _).alloc (Nat.le_refl _) _
  have hS1 : W2.heap.size = N + 2 := by rw [hA1]; simp [hS0]
  have HO:=zh (show Blk W2 (N + 1) #[.int .i64 0, .int .i64 0, .int .i64 0, .slice none 0 0, .slice none 0 0, .slice none 0 0, .slice none 0 0] 27 by rw [hA1, ← hS0]; exact blk_new _ _ _)
  replace HB:=zh (HB.out.trans (hB.mono HB.out.size))
  replace HT:=zh (HT0.out.below HB.out)
  replace HL:=zh (HL0.out.below HB.out)
  replace HS:=zh (HS0.out.below HB.out)
  replace HD:=zh (HD0.out.below HB.out)
  replace HR:=zh (HR.out.step hB)
  clear hB
  obtain ⟨W3, hA2⟩ : ∃ W0, W0 = W2.alloc (.cells #[.int .i64 0, .int .i64 0, .int .i64 0, .int .i64 0, .int .i64 0] 41) := ⟨_, rfl⟩
  have hB : Below W2.heap.size W2 W3 := by rw [hA2]; exact (Below.refl _ _).alloc (Nat.le_refl _) _
  have hS2 : W3.heap.size = N + 3 := by rw [hA2]; simp [hS1]
  have HA:=zh (show Blk W3 (N + 1 + 1) #[.int .i64 0, .int .i64 0, .int .i64 0, .int .i64 0, .int .i64 0] 41 by rw [hA2, ← hS1]; exact blk_new _ _ _)
  replace HB:=zh (HB.out.trans (hB.mono HB.out.size))
  replace HT:=zh (HT0.out.below HB.out)
  replace HL:=zh (HL0.out.below HB.out)
  replace HS:=zh (HS0.out.below HB.out)
  replace HD:=zh (HD0.out.below HB.out)
  replace HR:=zh (HR.out.step hB)
  replace HO:=zh (HO.out.step hB)
  clear hB
  have HSN := zh hS2
  rw [← hN, ← hA0, ← hA1, ← hA2]
  clear hA2 hA1 hA0 hN hS0 hS1 hS2
  have qR0 : W3.cell? ⟨N, 0, none⟩ = some (.int .i64 s.term) := cell_at HR.out 0
  have qR1 : W3.cell? ⟨N, 1, none⟩ = some (.int .i64 s.stamp) := cell_at HR.out 1
  have qR2 : W3.cell? ⟨N, 2, none⟩ = some (.int .i64 s.next) := cell_at HR.out 2
  have qR3 : W3.cell? ⟨N, 3, none⟩ = some (.slice ta tn tc) := cell_at HR.out 3
  have qR4 : W3.cell? ⟨N, 4, none⟩ = some (.slice la ln lc) := cell_at HR.out 4
  have qR5 : W3.cell? ⟨N, 5, none⟩ = some (.slice sa sn sc) := cell_at HR.out 5
  have qR6 : W3.cell? ⟨N, 6, none⟩ = some (.slice da dn dc) := cell_at HR.out 6
  have qRl : N < W3.heap.size := HR.out.lt
  go_wp2_with fail
  go_at_call 13
  go_fit (HCK.out _ _ (HSV.out _ HT.out HL.out HS.out HD.out))
  rintro e W4 ⟨rfl, hB⟩
  clear qR0 qR1 qR2 qR3 qR4 qR5 qR6 qRl
  replace HB:=zh (HB.out.trans (hB.mono HB.out.size))
  replace HT:=zh (HT0.out.below HB.out)
  replace HL:=zh (HL0.out.below HB.out)
  replace HS:=zh (HS0.out.below HB.out)
  replace HD:=zh (HD0.out.below HB.out)
  replace HR:=zh (HR.out.step hB)
  replace HO:=zh (HO.out.step hB)
  replace HA:=zh (HA.out.step hB)
  clear hB
  cases C
  · skip
    have qR0 : W4.cell? ⟨N, 0, none⟩ = some (.int .i64 s.term) := cell_at HR.out 0
    have qR1 : W4.cell? ⟨N, 1, none⟩ = some (.int .i64 s.stamp) := cell_at HR.out 1
    have qR2 : W4.cell? ⟨N, 2, none⟩ = some (.int .i64 s.next) := cell_at HR.out 2
    have qR3 : W4.cell? ⟨N, 3, none⟩ = some (.slice ta tn tc) := cell_at HR.out 3
    have qR4 : W4.cell? ⟨N, 4, none⟩ = some (.slice la ln lc) := cell_at HR.out 4
    have qR5 : W4.cell? ⟨N, 5, none⟩ = some (.slice sa sn sc) := cell_at HR.out 5
    have qR6 : W4.cell? ⟨N, 6, none⟩ = some (.slice da dn dc) := cell_at HR.out 6
    have qRl : N < W4.heap.size := HR.out.lt
    have qO0 : W4.cell? ⟨(N + 1), 0, none⟩ = some (.int .i64 0) := cell_at HO.out 0
    have qO1 : W4.cell? ⟨(N + 1), 1, none⟩ = some (.int .i64 0) := cell_at HO.out 1
    have qO2 : W4.cell? ⟨(N + 1), 2, none⟩ = some (.int .i64 0) := cell_at HO.out 2
    have qO3 : W4.cell? ⟨(N + 1), 3, none⟩ = some (.slice none 0 0) := cell_at HO.out 3
    have qO4 : W4.cell? ⟨(N + 1), 4, none⟩ = some (.slice none 0 0) := cell_at HO.out 4
    have qO5 : W4.cell? ⟨(N + 1), 5, none⟩ = some (.slice none 0 0) := cell_at HO.out 5
    have qO6 : W4.cell? ⟨(N + 1), 6, none⟩ = some (.slice none 0 0) := cell_at HO.out 6
    have qOz : ∀ j, W4.frozen? ⟨(N + 1), j, none⟩ = false := fun j => free_at HO.out j
    have qOl : (N + 1) < W4.heap.size := HO.out.lt
    have qA0 : W4.cell? ⟨(N + 1 + 1), 0, none⟩ = some (.int .i64 0) := cell_at HA.out 0
    have qA1 : W4.cell? ⟨(N + 1 + 1), 1, none⟩ = some (.int .i64 0) := cell_at HA.out 1
    have qA2 : W4.cell? ⟨(N + 1 + 1), 2, none⟩ = some (.int .i64 0) := cell_at HA.out 2
    have qA3 : W4.cell? ⟨(N + 1 + 1), 3, none⟩ = some (.int .i64 0) := cell_at HA.out 3
    have qA4 : W4.cell? ⟨(N + 1 + 1), 4, none⟩ = some (.int .i64 0) := cell_at HA.out 4
    have qAz : ∀ j, W4.frozen? ⟨(N + 1 + 1), j, none⟩ = false := fun j => free_at HA.out j
    have qAl : (N + 1 + 1) < W4.heap.size := HA.out.lt
    go_wp2_with fail
    clear qR0 qR1 qR2 qR3 qR4 qR5 qR6 qRl qO0 qO1 qO2 qO3 qO4 qO5 qO6 qOz qOl qA0 qA1 qA2 qA3 qA4 qAz qAl
    obtain ⟨LS, hLS⟩ : ∃ L : List Value, L = [.int .i64 s.term, .int .i64 s.stamp, .int .i64 s.next, .slice ta tn tc, .slice la ln lc, .slice sa sn sc, .slice da dn dc] := ⟨_, rfl⟩
    obtain ⟨W5, hWS⟩ : ∃ WS, WS = W4.setCells (N + 1) 0 LS := ⟨_, rfl⟩
    have hch := hWS
    rw [hLS] at hch
    simp only [World.setCells, Nat.zero_add, Nat.reduceAdd] at hch
    rw [← hch]
    clear hch
    have hkS := stC_blk HO.out LS (by rw [hLS]; rfl)
    have hfS := stC_fr (N + 1) LS 0 W4
    rw [← hWS] at hkS hfS
    rw [hLS] at hkS
    replace HB:=zh (HB.out.trans (hfS.below HB.out.size (by have := HLON.out; simp; try omega)))
    replace HT:=zh (HT0.out.below HB.out)
    replace HL:=zh (HL0.out.below HB.out)
    replace HS:=zh (HS0.out.below HB.out)
    replace HD:=zh (HD0.out.below HB.out)
    replace HR:=zh (show Blk W5 N #[.int .i64 s.term, .int .i64 s.stamp, .int .i64 s.next, .slice ta tn tc, .slice la ln lc, .slice sa sn sc, .slice da dn dc] 27 from (hfS.block _ HR.out.lt (by simp; try omega)).trans HR.out)
    replace HA:=zh (show Blk W5 (N + 1 + 1) #[.int .i64 0, .int .i64 0, .int .i64 0, .int .i64 0, .int .i64 0] 41 from (hfS.block _ HA.out.lt (by simp; try omega)).trans HA.out)
    replace HO:=zh (show Blk W5 (N + 1) #[.int .i64 s.term, .int .i64 s.stamp, .int .i64 s.next, .slice ta tn tc, .slice la ln lc, .slice sa sn sc, .slice da dn dc] 27 from hkS)
    clear hWS hLS hkS hfS
    obtain ⟨LS, hLS⟩ : ∃ L : List Value, L = [.int .i64 er, .int .i64 0, .int .i64 0, .int .i64 0, .int .i64 0] := ⟨_, rfl⟩
    obtain ⟨W6, hWS⟩ : ∃ WS, WS = W5.setCells (N + 1 + 1) 0 LS := ⟨_, rfl⟩
    have hch := hWS
    rw [hLS] at hch
    simp only [World.setCells, Nat.zero_add, Nat.reduceAdd] at hch
    rw [← hch]
    clear hch
    have hkS := stC_blk HA.out LS (by rw [hLS]; rfl)
    have hfS := stC_fr (N + 1 + 1) LS 0 W5
    rw [← hWS] at hkS hfS
    rw [hLS] at hkS
    replace HB:=zh (HB.out.trans (hfS.below HB.out.size (by have := HLON.out; simp; try omega)))
    replace HT:=zh (HT0.out.below HB.out)
    replace HL:=zh (HL0.out.below HB.out)
    replace HS:=zh (HS0.out.below HB.out)
    replace HD:=zh (HD0.out.below HB.out)
    replace HR:=zh (show Blk W6 N #[.int .i64 s.term, .int .i64 s.stamp, .int .i64 s.next, .slice ta tn tc, .slice la ln lc, .slice sa sn sc, .slice da dn dc] 27 from (hfS.block _ HR.out.lt (by simp; try omega)).trans HR.out)
    replace HO:=zh (show Blk W6 (N + 1) #[.int .i64 s.term, .int .i64 s.stamp, .int .i64 s.next, .slice ta tn tc, .slice la ln lc, .slice sa sn sc, .slice da dn dc] 27 from (hfS.block _ HO.out.lt (by simp; try omega)).trans HO.out)
    replace HA:=zh (show Blk W6 (N + 1 + 1) #[.int .i64 er, .int .i64 0, .int .i64 0, .int .i64 0, .int .i64 0] 41 from hkS)
    clear hWS hLS hkS hfS
    have qO0 : W6.cell? ⟨(N + 1), 0, none⟩ = some (.int .i64 s.term) := cell_at HO.out 0
    have qO1 : W6.cell? ⟨(N + 1), 1, none⟩ = some (.int .i64 s.stamp) := cell_at HO.out 1
    have qO2 : W6.cell? ⟨(N + 1), 2, none⟩ = some (.int .i64 s.next) := cell_at HO.out 2
    have qO3 : W6.cell? ⟨(N + 1), 3, none⟩ = some (.slice ta tn tc) := cell_at HO.out 3
    have qO4 : W6.cell? ⟨(N + 1), 4, none⟩ = some (.slice la ln lc) := cell_at HO.out 4
    have qO5 : W6.cell? ⟨(N + 1), 5, none⟩ = some (.slice sa sn sc) := cell_at HO.out 5
    have qO6 : W6.cell? ⟨(N + 1), 6, none⟩ = some (.slice da dn dc) := cell_at HO.out 6
    have qOz : ∀ j, W6.frozen? ⟨(N + 1), j, none⟩ = false := fun j => free_at HO.out j
    have qOl : (N + 1) < W6.heap.size := HO.out.lt
    have qA0 : W6.cell? ⟨(N + 1 + 1), 0, none⟩ = some (.int .i64 er) := cell_at HA.out 0
    have qA1 : W6.cell? ⟨(N + 1 + 1), 1, none⟩ = some (.int .i64 0) := cell_at HA.out 1
    have qA2 : W6.cell? ⟨(N + 1 + 1), 2, none⟩ = some (.int .i64 0) := cell_at HA.out 2
    have qA3 : W6.cell? ⟨(N + 1 + 1), 3, none⟩ = some (.int .i64 0) := cell_at HA.out 3
    have qA4 : W6.cell? ⟨(N + 1 + 1), 4, none⟩ = some (.int .i64 0) := cell_at HA.out 4
    have qAz : ∀ j, W6.frozen? ⟨(N + 1 + 1), j, none⟩ = false := fun j => free_at HA.out j
    have qAl : (N + 1 + 1) < W6.heap.size := HA.out.lt
    exact bodyPost_ret (v := .tuple #[.agg #[.int .i64 s.term, .int .i64 s.stamp, .int .i64 s.next, .slice ta tn tc, .slice la ln lc, .slice sa sn sc, .slice da dn dc], .agg #[.int .i64 er, .int .i64 0, .int .i64 0, .int .i64 0, .int .i64 0]]) (by simp [results, Try.results49, go_sem, qO0, qO1, qO2, qO3, qO4, qO5, qO6, qA0, qA1, qA2, qA3, qA4]) rfl ⟨rfl, HB.out⟩
  · skip
    have qR0 : W4.cell? ⟨N, 0, none⟩ = some (.int .i64 s.term) := cell_at HR.out 0
    have qR1 : W4.cell? ⟨N, 1, none⟩ = some (.int .i64 s.stamp) := cell_at HR.out 1
    have qR2 : W4.cell? ⟨N, 2, none⟩ = some (.int .i64 s.next) := cell_at HR.out 2
    have qR3 : W4.cell? ⟨N, 3, none⟩ = some (.slice ta tn tc) := cell_at HR.out 3
    have qR4 : W4.cell? ⟨N, 4, none⟩ = some (.slice la ln lc) := cell_at HR.out 4
    have qR5 : W4.cell? ⟨N, 5, none⟩ = some (.slice sa sn sc) := cell_at HR.out 5
    have qR6 : W4.cell? ⟨N, 6, none⟩ = some (.slice da dn dc) := cell_at HR.out 6
    have qRl : N < W4.heap.size := HR.out.lt
    have FOO := zh HA.out.lt
    have HB0L : Hid (w.heap.size ≤ W4.heap.size) := zh HB.out.size
    go_wp2_with fail
    go_at_call 40
    go_fit (HTW.out _ _ (HSV.out _ HT.out HL.out HS.out HD.out))
    rintro e W5 ⟨v2, rfl, hso, hB⟩
    clear qR0 qR1 qR2 qR3 qR4 qR5 qR6 qRl
    replace HB:=zh (HB.out.trans (hB.mono HB.out.size))
    replace HT:=zh (HT0.out.below HB.out)
    replace HL:=zh (HL0.out.below HB.out)
    replace HS:=zh (HS0.out.below HB.out)
    replace HD:=zh (HD0.out.below HB.out)
    replace HR:=zh (HR.out.step hB)
    replace HO:=zh (HO.out.step hB)
    replace HA:=zh (HA.out.step hB)
    clear hB
    obtain ⟨vt2, vl2, vs2, vd2, ot, ol, os, od, rfl, o1, o2, o3, o4⟩ := hso
    obtain ⟨b1, m1, k1, rfl, Hb1, x1, y1⟩ := o1.v.sh
    obtain ⟨b2, m2, k2, rfl, Hb2, x2, y2⟩ := o2.v.sh
    obtain ⟨b3, m3, k3, rfl, Hb3, x3, y3⟩ := o3.v.sh
    obtain ⟨b4, m4, k4, rfl, Hb4, x4, y4⟩ := o4.v.sh
    have O1 := zh o1
    have FO1:=zh (show (N + 1 + 1) < W4.heap.size from FOO.out)
    have O2 := zh o2
    have FO2:=zh (show (N + 1 + 1) < W4.heap.size from FOO.out)
    have O3 := zh o3
    have FO3:=zh (show (N + 1 + 1) < W4.heap.size from FOO.out)
    have O4 := zh o4
    have FO4:=zh (show (N + 1 + 1) < W4.heap.size from FOO.out)
    clear o1 o2 o3 o4
    have qR0 : W5.cell? ⟨N, 0, none⟩ = some (.int .i64 s.term) := cell_at HR.out 0
    have qR1 : W5.cell? ⟨N, 1, none⟩ = some (.int .i64 s.stamp) := cell_at HR.out 1
    have qR2 : W5.cell? ⟨N, 2, none⟩ = some (.int .i64 s.next) := cell_at HR.out 2
    have qR3 : W5.cell? ⟨N, 3, none⟩ = some (.slice ta tn tc) := cell_at HR.out 3
    have qR4 : W5.cell? ⟨N, 4, none⟩ = some (.slice la ln lc) := cell_at HR.out 4
    have qR5 : W5.cell? ⟨N, 5, none⟩ = some (.slice sa sn sc) := cell_at HR.out 5
    have qR6 : W5.cell? ⟨N, 6, none⟩ = some (.slice da dn dc) := cell_at HR.out 6
    have qRl : N < W5.heap.size := HR.out.lt
    have HSP:=zh (rswept_any _ _ _ _ (s) W5 (tn_tv O1.out.v) O2.out.v O3.out.v O4.out.v HFEW.out (HSZ.out (by first | rfl | trivial)))
    go_wp2_with fail
    go_at_call 42
    go_fit HSP.out
    rintro e W6 ⟨vq, rfl, hvq, hB⟩
    clear qR0 qR1 qR2 qR3 qR4 qR5 qR6 qRl
    replace HB:=zh (HB.out.trans (hB.mono HB.out.size))
    replace HT:=zh (HT0.out.below HB.out)
    replace HL:=zh (HL0.out.below HB.out)
    replace HS:=zh (HS0.out.below HB.out)
    replace HD:=zh (HD0.out.below HB.out)
    replace HR:=zh (HR.out.step hB)
    replace HO:=zh (HO.out.step hB)
    replace HA:=zh (HA.out.step hB)
    replace O1:=zh (O1.out.step hB)
    replace O2:=zh (O2.out.step hB)
    replace O3:=zh (O3.out.step hB)
    replace O4:=zh (O4.out.step hB)
    clear hB
    obtain ⟨b8, m8, k8, rfl, Hb8, x8, y8⟩ := hvq.sh
    have HQ := zh hvq
    clear hvq HSP
    have qO0 : W6.cell? ⟨(N + 1), 0, none⟩ = some (.int .i64 0) := cell_at HO.out 0
    have qO1 : W6.cell? ⟨(N + 1), 1, none⟩ = some (.int .i64 0) := cell_at HO.out 1
    have qO2 : W6.cell? ⟨(N + 1), 2, none⟩ = some (.int .i64 0) := cell_at HO.out 2
    have qO3 : W6.cell? ⟨(N + 1), 3, none⟩ = some (.slice none 0 0) := cell_at HO.out 3
    have qO4 : W6.cell? ⟨(N + 1), 4, none⟩ = some (.slice none 0 0) := cell_at HO.out 4
    have qO5 : W6.cell? ⟨(N + 1), 5, none⟩ = some (.slice none 0 0) := cell_at HO.out 5
    have qO6 : W6.cell? ⟨(N + 1), 6, none⟩ = some (.slice none 0 0) := cell_at HO.out 6
    have qOz : ∀ j, W6.frozen? ⟨(N + 1), j, none⟩ = false := fun j => free_at HO.out j
    have qOl : (N + 1) < W6.heap.size := HO.out.lt
    have qA0 : W6.cell? ⟨(N + 1 + 1), 0, none⟩ = some (.int .i64 0) := cell_at HA.out 0
    have qA1 : W6.cell? ⟨(N + 1 + 1), 1, none⟩ = some (.int .i64 0) := cell_at HA.out 1
    have qA2 : W6.cell? ⟨(N + 1 + 1), 2, none⟩ = some (.int .i64 0) := cell_at HA.out 2
    have qA3 : W6.cell? ⟨(N + 1 + 1), 3, none⟩ = some (.int .i64 0) := cell_at HA.out 3
    have qA4 : W6.cell? ⟨(N + 1 + 1), 4, none⟩ = some (.int .i64 0) := cell_at HA.out 4
    have qAz : ∀ j, W6.frozen? ⟨(N + 1 + 1), j, none⟩ = false := fun j => free_at HA.out j
    have qAl : (N + 1 + 1) < W6.heap.size := HA.out.lt
    have qR0 : W6.cell? ⟨N, 0, none⟩ = some (.int .i64 s.term) := cell_at HR.out 0
    have qR1 : W6.cell? ⟨N, 1, none⟩ = some (.int .i64 s.stamp) := cell_at HR.out 1
    have qR2 : W6.cell? ⟨N, 2, none⟩ = some (.int .i64 s.next) := cell_at HR.out 2
    have qR3 : W6.cell? ⟨N, 3, none⟩ = some (.slice ta tn tc) := cell_at HR.out 3
    have qR4 : W6.cell? ⟨N, 4, none⟩ = some (.slice la ln lc) := cell_at HR.out 4
    have qR5 : W6.cell? ⟨N, 5, none⟩ = some (.slice sa sn sc) := cell_at HR.out 5
    have qR6 : W6.cell? ⟨N, 6, none⟩ = some (.slice da dn dc) := cell_at HR.out 6
    have qRl : N < W6.heap.size := HR.out.lt
    go_wp2_with fail
    clear qO0 qO1 qO2 qO3 qO4 qO5 qO6 qOz qOl qA0 qA1 qA2 qA3 qA4 qAz qAl qR0 qR1 qR2 qR3 qR4 qR5 qR6 qRl
    obtain ⟨LS, hLS⟩ : ∃ L : List Value, L = [.int .i64 s.term, .int .i64 s.stamp, .int .i64 s.next, .slice b8 m8 k8, .slice b2 m2 k2, .slice b3 m3 k3, .slice b4 m4 k4] := ⟨_, rfl⟩
    obtain ⟨W7, hWS⟩ : ∃ WS, WS = W6.setCells (N + 1) 0 LS := ⟨_, rfl⟩
    have hch := hWS
    rw [hLS] at hch
    simp only [World.setCells, Nat.zero_add, Nat.reduceAdd] at hch
    rw [← hch]
    clear hch
    have hkS := stC_blk HO.out LS (by rw [hLS]; rfl)
    have hfS := stC_fr (N + 1) LS 0 W6
    rw [← hWS] at hkS hfS
    rw [hLS] at hkS
    replace HB:=zh (HB.out.trans (hfS.below HB.out.size (by have := HLON.out; simp; try omega)))
    replace HT:=zh (HT0.out.below HB.out)
    replace HL:=zh (HL0.out.below HB.out)
    replace HS:=zh (HS0.out.below HB.out)
    replace HD:=zh (HD0.out.below HB.out)
    replace HR:=zh (show Blk W7 N #[.int .i64 s.term, .int .i64 s.stamp, .int .i64 s.next, .slice ta tn tc, .slice la ln lc, .slice sa sn sc, .slice da dn dc] 27 from (hfS.block _ HR.out.lt (by simp; try omega)).trans HR.out)
    replace HA:=zh (show Blk W7 (N + 1 + 1) #[.int .i64 0, .int .i64 0, .int .i64 0, .int .i64 0, .int .i64 0] 41 from (hfS.block _ HA.out.lt (by simp; try omega)).trans HA.out)
    replace O1:=zh (O1.out.fr hfS (by have := FO1.out; omega))
    replace O2:=zh (O2.out.fr hfS (by have := FO2.out; omega))
    replace O3:=zh (O3.out.fr hfS (by have := FO3.out; omega))
    replace O4:=zh (O4.out.fr hfS (by have := FO4.out; omega))
    replace HQ:=zh (HQ.out.fr HO.out hfS)
    replace HO:=zh (show Blk W7 (N + 1) #[.int .i64 s.term, .int .i64 s.stamp, .int .i64 s.next, .slice b8 m8 k8, .slice b2 m2 k2, .slice b3 m3 k3, .slice b4 m4 k4] 27 from hkS)
    clear hWS hLS hkS hfS
    obtain ⟨LS, hLS⟩ : ∃ L : List Value, L = [.int .i64 er, .int .i64 0, .int .i64 0, .int .i64 0, .int .i64 0] := ⟨_, rfl⟩
    obtain ⟨W8, hWS⟩ : ∃ WS, WS = W7.setCells (N + 1 + 1) 0 LS := ⟨_, rfl⟩
    have hch := hWS
    rw [hLS] at hch
    simp only [World.setCells, Nat.zero_add, Nat.reduceAdd] at hch
    rw [← hch]
    clear hch
    have hkS := stC_blk HA.out LS (by rw [hLS]; rfl)
    have hfS := stC_fr (N + 1 + 1) LS 0 W7
    rw [← hWS] at hkS hfS
    rw [hLS] at hkS
    replace HB:=zh (HB.out.trans (hfS.below HB.out.size (by have := HLON.out; simp; try omega)))
    replace HT:=zh (HT0.out.below HB.out)
    replace HL:=zh (HL0.out.below HB.out)
    replace HS:=zh (HS0.out.below HB.out)
    replace HD:=zh (HD0.out.below HB.out)
    replace HR:=zh (show Blk W8 N #[.int .i64 s.term, .int .i64 s.stamp, .int .i64 s.next, .slice ta tn tc, .slice la ln lc, .slice sa sn sc, .slice da dn dc] 27 from (hfS.block _ HR.out.lt (by simp; try omega)).trans HR.out)
    replace HO:=zh (show Blk W8 (N + 1) #[.int .i64 s.term, .int .i64 s.stamp, .int .i64 s.next, .slice b8 m8 k8, .slice b2 m2 k2, .slice b3 m3 k3, .slice b4 m4 k4] 27 from (hfS.block _ HO.out.lt (by simp; try omega)).trans HO.out)
    replace O1:=zh (O1.out.fr hfS (by have := FO1.out; omega))
    replace O2:=zh (O2.out.fr hfS (by have := FO2.out; omega))
    replace O3:=zh (O3.out.fr hfS (by have := FO3.out; omega))
    replace O4:=zh (O4.out.fr hfS (by have := FO4.out; omega))
    replace HQ:=zh (HQ.out.fr HA.out hfS)
    replace HA:=zh (show Blk W8 (N + 1 + 1) #[.int .i64 er, .int .i64 0, .int .i64 0, .int .i64 0, .int .i64 0] 41 from hkS)
    clear hWS hLS hkS hfS
    have qO0 : W8.cell? ⟨(N + 1), 0, none⟩ = some (.int .i64 s.term) := cell_at HO.out 0
    have qO1 : W8.cell? ⟨(N + 1), 1, none⟩ = some (.int .i64 s.stamp) := cell_at HO.out 1
    have qO2 : W8.cell? ⟨(N + 1), 2, none⟩ = some (.int .i64 s.next) := cell_at HO.out 2
    have qO3 : W8.cell? ⟨(N + 1), 3, none⟩ = some (.slice b8 m8 k8) := cell_at HO.out 3
    have qO4 : W8.cell? ⟨(N + 1), 4, none⟩ = some (.slice b2 m2 k2) := cell_at HO.out 4
    have qO5 : W8.cell? ⟨(N + 1), 5, none⟩ = some (.slice b3 m3 k3) := cell_at HO.out 5
    have qO6 : W8.cell? ⟨(N + 1), 6, none⟩ = some (.slice b4 m4 k4) := cell_at HO.out 6
    have qOz : ∀ j, W8.frozen? ⟨(N + 1), j, none⟩ = false := fun j => free_at HO.out j
    have qOl : (N + 1) < W8.heap.size := HO.out.lt
    have qA0 : W8.cell? ⟨(N + 1 + 1), 0, none⟩ = some (.int .i64 er) := cell_at HA.out 0
    have qA1 : W8.cell? ⟨(N + 1 + 1), 1, none⟩ = some (.int .i64 0) := cell_at HA.out 1
    have qA2 : W8.cell? ⟨(N + 1 + 1), 2, none⟩ = some (.int .i64 0) := cell_at HA.out 2
    have qA3 : W8.cell? ⟨(N + 1 + 1), 3, none⟩ = some (.int .i64 0) := cell_at HA.out 3
    have qA4 : W8.cell? ⟨(N + 1 + 1), 4, none⟩ = some (.int .i64 0) := cell_at HA.out 4
    have qAz : ∀ j, W8.frozen? ⟨(N + 1 + 1), j, none⟩ = false := fun j => free_at HA.out j
    have qAl : (N + 1 + 1) < W8.heap.size := HA.out.lt
    exact bodyPost_ret (v := .tuple #[.agg #[.int .i64 s.term, .int .i64 s.stamp, .int .i64 s.next, .slice b8 m8 k8, .slice b2 m2 k2, .slice b3 m3 k3, .slice b4 m4 k4], .agg #[.int .i64 er, .int .i64 0, .int .i64 0, .int .i64 0, .int .i64 0]]) (by simp [results, Try.results49, go_sem, qO0, qO1, qO2, qO3, qO4, qO5, qO6, qA0, qA1, qA2, qA3, qA4]) rfl ⟨⟨_, _, _, _, rfl, HQ.out, ⟨_, O2.out.le HB0L.out⟩, ⟨_, O3.out.le HB0L.out⟩, ⟨_, O4.out.le HB0L.out⟩⟩, HB.out⟩
end Go.Proofs.Ytfgnjpdlchimpaa
