/-
 Texts of this claim, put together: LgL4.
-/
import Derived.Test.YtfgnjpdlchimpaaLc3
import Derived.Test.YtfgnjpdlchimpaaLc5
import Derived.Test.YtfgnjpdlchimpaaLe1
import Derived.Test.YtfgnjpdlchimpaaLr1
import Derived.Deep.DeepFit
import Derived.Lib.AppendZeros
namespace Go.Proofs.Ytfgnjpdlchimpaa
open Go.RowKit
set_option linter.unusedSimpArgs false
set_option linter.unusedVariables false

set_option maxRecDepth 100000 in
set_option maxHeartbeats 16000000 in
theorem ledgerReports_walk (v vi : Value) (s : StE) (sh ep le sp : Int) (cl : Bool) (l : List Int) (w : World) (h : SV w v s) (hi : InV w vi l) (hsp : -9223372036854775808 ≤ sp ∧ sp ≤ 9223372036854775807) :
  Calls Try.prog 6 #[v, .int .i64 sh, .int .i64 ep, .int .i64 le, .int .i64 sp, .bool cl, vi] w fun e w' => e = .returned (.bool true) ∧ Below w.heap.size w w' := by
 obtain ⟨vt, vl, vs, vd, rfl, ht, hl, hs, hd⟩ := h
 obtain ⟨ta, tn, tc, rfl, Htn, tn1, tn2⟩ := ht.sh
 obtain ⟨la, ln, lc, rfl, Hln, ln1, ln2⟩ := hl.sh
 obtain ⟨sa, sn, sc, rfl, Hsn, sn1, sn2⟩ := hs.sh
 obtain ⟨da, dn, dc, rfl, Hdn, dn1, dn2⟩ := hd.sh
 have HT0 := zh ht
 have HL0 := zh hl
 have HS0 := zh hs
 have HD0 := zh hd
 have HT := zh ht
 have HL := zh hl
 have HS := zh hs
 have HD := zh hd
 clear ht hl hs hd
 have HSV : Hid (∀ W, TV W (.slice ta tn tc) s.ts → LeV W (.slice la ln lc) s.ls → SeV W (.slice sa sn sc) s.ss → DkV W (.slice da dn dc) s.ds → SV W (.agg #[.int .i64 s.term, .int .i64 s.stamp, .int .i64 s.next, .slice ta tn tc, .slice la ln lc, .slice sa sn sc, .slice da dn dc]) s):=zh (fun W h1 h2 h3 h4 => ⟨_, _, _, _, rfl, h1, h2, h3, h4⟩)
 have HGT:=zh (fun W v (h : SV W v s) => greatS_any v s W h)
 obtain ⟨G, hG⟩ : ∃ G, G = (decide (60 < s.ts.length) || decide (100 < s.ls.length) || decide (60 < s.ss.length) || decide (60 < s.ds.length)) := ⟨_, rfl⟩
 rw [← hG] at HGT
 have HFEW : Hid (G = false → fewS s):=zh (fun h => by
  rw [h] at hG
  have hG := hG.symm
  simp only [Bool.or_eq_false_iff, decide_eq_false_iff_not] at hG
  unfold fewS
  omega)
 have HWK := zh wakes_any
 clear hG
 obtain ⟨ia, iN, ic, rfl, Hin, in1, in2⟩ := hi.sh
 have HI0 := zh hi
 have HI := zh hi
 clear hi
 have HB : Hid (Below w.heap.size w w):=zh (Below.refl _ _)
 go_enter Try.func6, Try.ntmps6
 go_upto_region 1 with fail
 obtain ⟨N, hN⟩ : ∃ n0, n0 = w.heap.size := ⟨_, rfl⟩
 have HLON : Hid (w.heap.size ≤ N):=zh (by have := HB.out.size; omega)
 obtain ⟨W1, hA0⟩ : ∃ W0, W0 = w.alloc (.cells #[.int .i64 s.term, .int .i64 s.stamp, .int .i64 s.next, .slice ta tn tc, .slice la ln lc, .slice sa sn sc, .slice da dn dc] 27) := ⟨_, rfl⟩
 have hB : Below w.heap.size w W1 := by rw [hA0]; exact (Below.refl _ _).alloc (Nat.le_refl _) _
 have hS0 : W1.heap.size = N + 1 := by rw [hA0]; simp [← hN]
 have HR:=zh (show Blk W1 N #[.int .i64 s.term, .int .i64 s.stamp, .int .i64 s.next, .slice ta tn tc, .slice la ln lc, .slice sa sn sc, .slice da dn dc] 27 by rw [hA0, hN]; exact blk_new _ _ _)
 replace HB:=zh (HB.out.trans (hB.mono HB.out.size))
 replace HT:=zh (HT0.out.below HB.out)
 replace HL:=zh (HL0.out.below HB.out)
 replace HS:=zh (HS0.out.below HB.out)
 replace HD:=zh (HD0.out.below HB.out)
 replace HI:=zh (HI0.out.below HB.out)
 clear hB
 rw [← hN, ← hA0]
 clear hA0 hN hS0
 have qR0 : W1.cell? ⟨N, 0, none⟩ = some (.int .i64 s.term) := cell_at HR.out 0
 have qR1 : W1.cell? ⟨N, 1, none⟩ = some (.int .i64 s.stamp) := cell_at HR.out 1
 have qR2 : W1.cell? ⟨N, 2, none⟩ = some (.int .i64 s.next) := cell_at HR.out 2
 have qR3 : W1.cell? ⟨N, 3, none⟩ = some (.slice ta tn tc) := cell_at HR.out 3
 have qR4 : W1.cell? ⟨N, 4, none⟩ = some (.slice la ln lc) := cell_at HR.out 4
 have qR5 : W1.cell? ⟨N, 5, none⟩ = some (.slice sa sn sc) := cell_at HR.out 5
 have qR6 : W1.cell? ⟨N, 6, none⟩ = some (.slice da dn dc) := cell_at HR.out 6
 have qRl : N < W1.heap.size := HR.out.lt
 go_wp2_with fail
 go_at_call 9
 go_fit (HGT.out _ _ (HSV.out _ HT.out HL.out HS.out HD.out))
 rintro e W2 ⟨rfl, hB⟩
 clear qR0 qR1 qR2 qR3 qR4 qR5 qR6 qRl
 replace HB:=zh (HB.out.trans (hB.mono HB.out.size))
 replace HT:=zh (HT0.out.below HB.out)
 replace HL:=zh (HL0.out.below HB.out)
 replace HS:=zh (HS0.out.below HB.out)
 replace HD:=zh (HD0.out.below HB.out)
 replace HI:=zh (HI0.out.below HB.out)
 replace HR:=zh (HR.out.step hB)
 clear hB
 cases G
 rotate_left
 ·skip
  go_wp2_with fail
  go_at_call 10
  go_fit (HWK.out _)
  rintro e W3 ⟨rfl, hB⟩
  replace HB:=zh (HB.out.trans (hB.mono HB.out.size))
  replace HT:=zh (HT0.out.below HB.out)
  replace HL:=zh (HL0.out.below HB.out)
  replace HS:=zh (HS0.out.below HB.out)
  replace HD:=zh (HD0.out.below HB.out)
  replace HI:=zh (HI0.out.below HB.out)
  replace HR:=zh (HR.out.step hB)
  clear hB
  go_wp2_with fail
  go_ret
  exact ⟨rfl, HB.out⟩
 by_cases hbig : 100 < iN
 ·skip
  have tb : decide ((100 : Int) < (iN : Int)) = true := decide_eq_true (by omega)
  go_wp2_with fail
  go_at_call 10
  go_fit (HWK.out _)
  rintro e W3 ⟨rfl, hB⟩
  replace HB:=zh (HB.out.trans (hB.mono HB.out.size))
  replace HT:=zh (HT0.out.below HB.out)
  replace HL:=zh (HL0.out.below HB.out)
  replace HS:=zh (HS0.out.below HB.out)
  replace HD:=zh (HD0.out.below HB.out)
  replace HI:=zh (HI0.out.below HB.out)
  replace HR:=zh (HR.out.step hB)
  clear hB
  go_wp2_with fail
  go_ret
  exact ⟨rfl, HB.out⟩
 have tb : decide ((100 : Int) < (iN : Int)) = false := decide_eq_false (by omega)
 have hfew := HFEW.out rfl
 have HRP:=zh (fun W v (h : SV W v s) => report_any v s sh ep le sp cl W h hfew hsp)
 have HRD:=zh (fun W v (h : SV W v s) => rreport_any v s sh ep le sp cl W h hfew hsp)
 have HXP:=zh (fun W v vi (h : SV W v s) (hi : InV W vi l) => expire_any v vi s l W h hi hfew)
 have HXD:=zh (fun W v vi (h : SV W v s) (hi : InV W vi l) => rexpire_any v vi s l W h hi hfew)
 obtain ⟨s2, hs2⟩ : ∃ t, t = rpS s sh ep le sp cl := ⟨_, rfl⟩
 obtain ⟨E, hE⟩ : ∃ t, t = rpE s sh ep le sp := ⟨_, rfl⟩
 rw [← hs2, ← hE] at HRP HRD
 obtain ⟨s3, hs3⟩ : ∃ t, t = exS s l := ⟨_, rfl⟩
 rw [← hs3] at HXP HXD
 clear hfew hs2 hs3 hE
 have qR0 : W2.cell? ⟨N, 0, none⟩ = some (.int .i64 s.term) := cell_at HR.out 0
 have qR1 : W2.cell? ⟨N, 1, none⟩ = some (.int .i64 s.stamp) := cell_at HR.out 1
 have qR2 : W2.cell? ⟨N, 2, none⟩ = some (.int .i64 s.next) := cell_at HR.out 2
 have qR3 : W2.cell? ⟨N, 3, none⟩ = some (.slice ta tn tc) := cell_at HR.out 3
 have qR4 : W2.cell? ⟨N, 4, none⟩ = some (.slice la ln lc) := cell_at HR.out 4
 have qR5 : W2.cell? ⟨N, 5, none⟩ = some (.slice sa sn sc) := cell_at HR.out 5
 have qR6 : W2.cell? ⟨N, 6, none⟩ = some (.slice da dn dc) := cell_at HR.out 6
 have qRl : N < W2.heap.size := HR.out.lt
 go_wp2_with fail
 go_at_call 22
 go_fit (HRP.out _ _ (HSV.out _ HT.out HL.out HS.out HD.out))
 rintro e W3 ⟨v1, rfl, hv1, hB⟩
 clear qR0 qR1 qR2 qR3 qR4 qR5 qR6 qRl
 replace HB:=zh (HB.out.trans (hB.mono HB.out.size))
 replace HT:=zh (HT0.out.below HB.out)
 replace HL:=zh (HL0.out.below HB.out)
 replace HS:=zh (HS0.out.below HB.out)
 replace HD:=zh (HD0.out.below HB.out)
 replace HI:=zh (HI0.out.below HB.out)
 replace HR:=zh (HR.out.step hB)
 clear hB
 obtain ⟨xt1, xl1, xs1, xd1, rfl, ht1, hl1, hs1, hd1⟩ := hv1
 obtain ⟨at1, nt1, ct1, rfl, _, _, _⟩ := ht1.sh
 obtain ⟨al1, nl1, cl1, rfl, _, _, _⟩ := hl1.sh
 obtain ⟨as1, ns1, cs1, rfl, _, _, _⟩ := hs1.sh
 obtain ⟨ad1, nd1, cd1, rfl, _, _, _⟩ := hd1.sh
 have V1:=zh (show SV _ (.agg #[.int .i64 s2.term, .int .i64 s2.stamp, .int .i64 s2.next, .slice at1 nt1 ct1, .slice al1 nl1 cl1, .slice as1 ns1 cs1, .slice ad1 nd1 cd1]) s2 from ⟨_, _, _, _, rfl, ht1, hl1, hs1, hd1⟩)
 clear ht1 hl1 hs1 hd1
 go_upto_region 4 with fail
 obtain ⟨A9, hA9⟩ : ∃ n0, n0 = W3.heap.size := ⟨_, rfl⟩
 have HXA9HR : Hid (N < A9):=zh (by rw [hA9]; exact HR.out.lt)
 have HLOA9 : Hid (w.heap.size ≤ A9):=zh (by have := HB.out.size; omega)
 obtain ⟨W4, hA0⟩ : ∃ W0, W0 = W3.alloc (.cells #[.int .i64 s2.term, .int .i64 s2.stamp, .int .i64 s2.next, .slice at1 nt1 ct1, .slice al1 nl1 cl1, .slice as1 ns1 cs1, .slice ad1 nd1 cd1] 27) := ⟨_, rfl⟩
 have hB : Below W3.heap.size W3 W4 := by rw [hA0]; exact (Below.refl _ _).alloc (Nat.le_refl _) _
 have hS0 : W4.heap.size = A9 + 1 := by rw [hA0]; simp [← hA9]
 have HA1:=zh (show Blk W4 A9 #[.int .i64 s2.term, .int .i64 s2.stamp, .int .i64 s2.next, .slice at1 nt1 ct1, .slice al1 nl1 cl1, .slice as1 ns1 cs1, .slice ad1 nd1 cd1] 27 by rw [hA0, hA9]; exact blk_new _ _ _)
 replace HB:=zh (HB.out.trans (hB.mono HB.out.size))
 replace HT:=zh (HT0.out.below HB.out)
 replace HL:=zh (HL0.out.below HB.out)
 replace HS:=zh (HS0.out.below HB.out)
 replace HD:=zh (HD0.out.below HB.out)
 replace HI:=zh (HI0.out.below HB.out)
 replace HR:=zh (HR.out.step hB)
 replace V1:=zh (V1.out.below hB)
 clear hB
 rw [← hA9, ← hA0]
 clear hA0 hA9 hS0
 have qR0 : W4.cell? ⟨N, 0, none⟩ = some (.int .i64 s.term) := cell_at HR.out 0
 have qR1 : W4.cell? ⟨N, 1, none⟩ = some (.int .i64 s.stamp) := cell_at HR.out 1
 have qR2 : W4.cell? ⟨N, 2, none⟩ = some (.int .i64 s.next) := cell_at HR.out 2
 have qR3 : W4.cell? ⟨N, 3, none⟩ = some (.slice ta tn tc) := cell_at HR.out 3
 have qR4 : W4.cell? ⟨N, 4, none⟩ = some (.slice la ln lc) := cell_at HR.out 4
 have qR5 : W4.cell? ⟨N, 5, none⟩ = some (.slice sa sn sc) := cell_at HR.out 5
 have qR6 : W4.cell? ⟨N, 6, none⟩ = some (.slice da dn dc) := cell_at HR.out 6
 have qRl : N < W4.heap.size := HR.out.lt
 go_wp2_with fail
 go_at_call 23
 go_fit (HRD.out _ _ (HSV.out _ HT.out HL.out HS.out HD.out))
 rintro e W5 ⟨v2, rfl, hv2, hB⟩
 clear qR0 qR1 qR2 qR3 qR4 qR5 qR6 qRl
 replace HB:=zh (HB.out.trans (hB.mono HB.out.size))
 replace HT:=zh (HT0.out.below HB.out)
 replace HL:=zh (HL0.out.below HB.out)
 replace HS:=zh (HS0.out.below HB.out)
 replace HD:=zh (HD0.out.below HB.out)
 replace HI:=zh (HI0.out.below HB.out)
 replace HR:=zh (HR.out.step hB)
 replace V1:=zh (V1.out.below hB)
 replace HA1:=zh (HA1.out.step hB)
 clear hB
 obtain ⟨xt2, xl2, xs2, xd2, rfl, ht2, hl2, hs2, hd2⟩ := hv2
 obtain ⟨at2, nt2, ct2, rfl, _, _, _⟩ := ht2.sh
 obtain ⟨al2, nl2, cl2, rfl, _, _, _⟩ := hl2.sh
 obtain ⟨as2, ns2, cs2, rfl, _, _, _⟩ := hs2.sh
 obtain ⟨ad2, nd2, cd2, rfl, _, _, _⟩ := hd2.sh
 have V2:=zh (show SV _ (.agg #[.int .i64 s2.term, .int .i64 s2.stamp, .int .i64 s2.next, .slice at2 nt2 ct2, .slice al2 nl2 cl2, .slice as2 ns2 cs2, .slice ad2 nd2 cd2]) s2 from ⟨_, _, _, _, rfl, ht2, hl2, hs2, hd2⟩)
 clear ht2 hl2 hs2 hd2
 go_upto_region 5 with fail
 obtain ⟨B9, hB9⟩ : ∃ n0, n0 = W5.heap.size := ⟨_, rfl⟩
 have HXB9HR : Hid (N < B9):=zh (by rw [hB9]; exact HR.out.lt)
 have HXB9HA1 : Hid (A9 < B9):=zh (by rw [hB9]; exact HA1.out.lt)
 have HLOB9 : Hid (w.heap.size ≤ B9):=zh (by have := HB.out.size; omega)
 obtain ⟨W6, hA0⟩ : ∃ W0, W0 = W5.alloc (.cells #[.int .i64 s2.term, .int .i64 s2.stamp, .int .i64 s2.next, .slice at2 nt2 ct2, .slice al2 nl2 cl2, .slice as2 ns2 cs2, .slice ad2 nd2 cd2] 27) := ⟨_, rfl⟩
 have hB : Below W5.heap.size W5 W6 := by rw [hA0]; exact (Below.refl _ _).alloc (Nat.le_refl _) _
 have hS0 : W6.heap.size = B9 + 1 := by rw [hA0]; simp [← hB9]
 have HB1:=zh (show Blk W6 B9 #[.int .i64 s2.term, .int .i64 s2.stamp, .int .i64 s2.next, .slice at2 nt2 ct2, .slice al2 nl2 cl2, .slice as2 ns2 cs2, .slice ad2 nd2 cd2] 27 by rw [hA0, hB9]; exact blk_new _ _ _)
 replace HB:=zh (HB.out.trans (hB.mono HB.out.size))
 replace HT:=zh (HT0.out.below HB.out)
 replace HL:=zh (HL0.out.below HB.out)
 replace HS:=zh (HS0.out.below HB.out)
 replace HD:=zh (HD0.out.below HB.out)
 replace HI:=zh (HI0.out.below HB.out)
 replace HR:=zh (HR.out.step hB)
 replace V1:=zh (V1.out.below hB)
 replace HA1:=zh (HA1.out.step hB)
 replace V2:=zh (V2.out.below hB)
 clear hB
 rw [← hB9, ← hA0]
 clear hA0 hB9 hS0
 have qA10 : W6.cell? ⟨A9, 0, none⟩ = some (.int .i64 s2.term) := cell_at HA1.out 0
 have qA11 : W6.cell? ⟨A9, 1, none⟩ = some (.int .i64 s2.stamp) := cell_at HA1.out 1
 have qA12 : W6.cell? ⟨A9, 2, none⟩ = some (.int .i64 s2.next) := cell_at HA1.out 2
 have qA13 : W6.cell? ⟨A9, 3, none⟩ = some (.slice at1 nt1 ct1) := cell_at HA1.out 3
 have qA14 : W6.cell? ⟨A9, 4, none⟩ = some (.slice al1 nl1 cl1) := cell_at HA1.out 4
 have qA15 : W6.cell? ⟨A9, 5, none⟩ = some (.slice as1 ns1 cs1) := cell_at HA1.out 5
 have qA16 : W6.cell? ⟨A9, 6, none⟩ = some (.slice ad1 nd1 cd1) := cell_at HA1.out 6
 have qA1l : A9 < W6.heap.size := HA1.out.lt
 have qB10 : W6.cell? ⟨B9, 0, none⟩ = some (.int .i64 s2.term) := cell_at HB1.out 0
 have qB11 : W6.cell? ⟨B9, 1, none⟩ = some (.int .i64 s2.stamp) := cell_at HB1.out 1
 have qB12 : W6.cell? ⟨B9, 2, none⟩ = some (.int .i64 s2.next) := cell_at HB1.out 2
 have qB13 : W6.cell? ⟨B9, 3, none⟩ = some (.slice at2 nt2 ct2) := cell_at HB1.out 3
 have qB14 : W6.cell? ⟨B9, 4, none⟩ = some (.slice al2 nl2 cl2) := cell_at HB1.out 4
 have qB15 : W6.cell? ⟨B9, 5, none⟩ = some (.slice as2 ns2 cs2) := cell_at HB1.out 5
 have qB16 : W6.cell? ⟨B9, 6, none⟩ = some (.slice ad2 nd2 cd2) := cell_at HB1.out 6
 have qB1l : B9 < W6.heap.size := HB1.out.lt
 have qR0 : W6.cell? ⟨N, 0, none⟩ = some (.int .i64 s.term) := cell_at HR.out 0
 have qR1 : W6.cell? ⟨N, 1, none⟩ = some (.int .i64 s.stamp) := cell_at HR.out 1
 have qR2 : W6.cell? ⟨N, 2, none⟩ = some (.int .i64 s.next) := cell_at HR.out 2
 have qR3 : W6.cell? ⟨N, 3, none⟩ = some (.slice ta tn tc) := cell_at HR.out 3
 have qR4 : W6.cell? ⟨N, 4, none⟩ = some (.slice la ln lc) := cell_at HR.out 4
 have qR5 : W6.cell? ⟨N, 5, none⟩ = some (.slice sa sn sc) := cell_at HR.out 5
 have qR6 : W6.cell? ⟨N, 6, none⟩ = some (.slice da dn dc) := cell_at HR.out 6
 have qRl : N < W6.heap.size := HR.out.lt
 go_wp2_with fail
 have hee : (E == E) = true := by simp
 clear qA10 qA11 qA12 qA13 qA14 qA15 qA16 qA1l qB10 qB11 qB12 qB13 qB14 qB15 qB16 qB1l qR0 qR1 qR2 qR3 qR4 qR5 qR6 qRl
 refine wp_region_held_drew (S := fun X => (X.cell? ⟨N, 0, none⟩ = some (.int .i64 s.term) ∧ X.cell? ⟨N, 1, none⟩ = some (.int .i64 s.stamp) ∧ X.cell? ⟨N, 2, none⟩ = some (.int .i64 s.next) ∧ X.cell? ⟨N, 3, none⟩ = some (.slice ta tn tc) ∧ X.cell? ⟨N, 4, none⟩ = some (.slice la ln lc) ∧ X.cell? ⟨N, 5, none⟩ = some (.slice sa sn sc) ∧ X.cell? ⟨N, 6, none⟩ = some (.slice da dn dc) ∧ N < X.heap.size) ∧ (X.cell? ⟨A9, 0, none⟩ = some (.int .i64 s2.term) ∧ X.cell? ⟨A9, 1, none⟩ = some (.int .i64 s2.stamp) ∧ X.cell? ⟨A9, 2, none⟩ = some (.int .i64 s2.next) ∧ X.cell? ⟨A9, 3, none⟩ = some (.slice at1 nt1 ct1) ∧ X.cell? ⟨A9, 4, none⟩ = some (.slice al1 nl1 cl1) ∧ X.cell? ⟨A9, 5, none⟩ = some (.slice as1 ns1 cs1) ∧ X.cell? ⟨A9, 6, none⟩ = some (.slice ad1 nd1 cd1) ∧ A9 < X.heap.size) ∧ (X.cell? ⟨B9, 0, none⟩ = some (.int .i64 s2.term) ∧ X.cell? ⟨B9, 1, none⟩ = some (.int .i64 s2.stamp) ∧ X.cell? ⟨B9, 2, none⟩ = some (.int .i64 s2.next) ∧ X.cell? ⟨B9, 3, none⟩ = some (.slice at2 nt2 ct2) ∧ X.cell? ⟨B9, 4, none⟩ = some (.slice al2 nl2 cl2) ∧ X.cell? ⟨B9, 5, none⟩ = some (.slice as2 ns2 cs2) ∧ X.cell? ⟨B9, 6, none⟩ = some (.slice ad2 nd2 cd2) ∧ B9 < X.heap.size)) (by kernel_rfl) ⟨⟨cell_at HR.out 0, cell_at HR.out 1, cell_at HR.out 2, cell_at HR.out 3, cell_at HR.out 4, cell_at HR.out 5, cell_at HR.out 6, HR.out.lt⟩, ⟨cell_at HA1.out 0, cell_at HA1.out 1, cell_at HA1.out 2, cell_at HA1.out 3, cell_at HA1.out 4, cell_at HA1.out 5, cell_at HA1.out 6, HA1.out.lt⟩, ⟨cell_at HB1.out 0, cell_at HB1.out 1, cell_at HB1.out 2, cell_at HB1.out 3, cell_at HB1.out 4, cell_at HB1.out 5, cell_at HB1.out 6, HB1.out.lt⟩⟩ (fun hHeld => ?_)
 ((refine wpAnyH_take (i := 0) (v := ?_) (by (simp only [List.getElem?_toArray, List.getElem?_cons_succ, List.getElem?_cons_zero]); rfl) (by kernel_rfl) (by kernel_rfl) (by kernel_rfl) (by exact fun _ _ _ h => h) (Or.inl ⟨by rfl, ?_⟩) (by assumption) ?_); rotate_left; focus (intro wS hSw; (try dsimp only at hSw); go_simp; first | done | with_reducible rfl); try simp only [Act.put, List.setIfInBounds_toArray, List.set_cons_zero, List.set_cons_succ])
 ((refine wpAnyH_take (i := 1) (v := ?_) (by (simp only [List.getElem?_toArray, List.getElem?_cons_succ, List.getElem?_cons_zero]); rfl) (by kernel_rfl) (by kernel_rfl) (by kernel_rfl) (by exact fun _ _ _ h => h) (Or.inl ⟨by rfl, ?_⟩) (by assumption) ?_); rotate_left; focus (intro wS hSw; (try dsimp only at hSw); go_simp; first | done | with_reducible rfl); try simp only [Act.put, List.setIfInBounds_toArray, List.set_cons_zero, List.set_cons_succ])
 refine wpAnyH_ready (rs := [2]) (by kernel_rfl) (by simp) ?_
 refine AllReadyH.cons (by (simp only [List.getElem?_toArray, List.getElem?_cons_succ, List.getElem?_cons_zero]); rfl) (fun K hK => ?_) AllReadyH.nil
 go_simp
 go_fit (sameS_any _ _ s2 _ (V1.out.below (Below.refl _ _).drew) (V2.out.below (Below.refl _ _).drew))
 rintro e W7 ⟨rfl, hB⟩
 replace hB := below_undrew hB
 replace HB:=zh (HB.out.trans (hB.mono HB.out.size))
 replace HT:=zh (HT0.out.below HB.out)
 replace HL:=zh (HL0.out.below HB.out)
 replace HS:=zh (HS0.out.below HB.out)
 replace HD:=zh (HD0.out.below HB.out)
 replace HI:=zh (HI0.out.below HB.out)
 replace HR:=zh (HR.out.step hB)
 replace V1:=zh (V1.out.below hB)
 replace HA1:=zh (HA1.out.step hB)
 replace V2:=zh (V2.out.below hB)
 replace HB1:=zh (HB1.out.step hB)
 go_wp2_with fail
 refine hK.out _ _ ⟨⟨cell_at HR.out 0, cell_at HR.out 1, cell_at HR.out 2, cell_at HR.out 3, cell_at HR.out 4, cell_at HR.out 5, cell_at HR.out 6, HR.out.lt⟩, ⟨cell_at HA1.out 0, cell_at HA1.out 1, cell_at HA1.out 2, cell_at HA1.out 3, cell_at HA1.out 4, cell_at HA1.out 5, cell_at HA1.out 6, HA1.out.lt⟩, ⟨cell_at HB1.out 0, cell_at HB1.out 1, cell_at HB1.out 2, cell_at HB1.out 3, cell_at HB1.out 4, cell_at HB1.out 5, cell_at HB1.out 6, HB1.out.lt⟩⟩ (fun hHeld => ?_)
 clear hK K hB
 try simp only [Act.put, List.setIfInBounds_toArray, List.set_cons_zero, List.set_cons_succ]
 ((refine wpAnyH_take (i := 3) (v := ?_) (by (simp only [List.getElem?_toArray, List.getElem?_cons_succ, List.getElem?_cons_zero]); rfl) (by kernel_rfl) (by kernel_rfl) (by kernel_rfl) (by exact fun _ _ _ h => h) (Or.inl ⟨by rfl, ?_⟩) (by assumption) ?_); rotate_left; focus (intro wS hSw; (try dsimp only at hSw); go_simp; first | done | with_reducible rfl); try simp only [Act.put, List.setIfInBounds_toArray, List.set_cons_zero, List.set_cons_succ])
 ((refine wpAnyH_take (i := 4) (v := ?_) (by (simp only [List.getElem?_toArray, List.getElem?_cons_succ, List.getElem?_cons_zero]); rfl) (by kernel_rfl) (by kernel_rfl) (by kernel_rfl) (by exact fun _ _ _ h => h) (Or.inl ⟨by (go_simp; try rfl), ?_⟩) (by assumption) ?_); rotate_left; focus (intro wS hSw; (try dsimp only at hSw); go_simp; first | done | with_reducible rfl); try simp only [Act.put, List.setIfInBounds_toArray, List.set_cons_zero, List.set_cons_succ])
 ((refine wpAnyH_take (i := 5) (v := ?_) (by (simp only [List.getElem?_toArray, List.getElem?_cons_succ, List.getElem?_cons_zero]); rfl) (by kernel_rfl) (by kernel_rfl) (by kernel_rfl) (by exact fun _ _ _ h => h) (Or.inl ⟨by (go_simp; try rfl), ?_⟩) (by assumption) ?_); rotate_left; focus (intro wS hSw; (try dsimp only at hSw); go_simp; first | done | with_reducible rfl); try simp only [Act.put, List.setIfInBounds_toArray, List.set_cons_zero, List.set_cons_succ])
 ((refine wpAnyH_take (i := 6) (v := ?_) (by (simp only [List.getElem?_toArray, List.getElem?_cons_succ, List.getElem?_cons_zero]); rfl) (by kernel_rfl) (by kernel_rfl) (by kernel_rfl) (by exact fun _ _ _ h => h) (Or.inl ⟨by (go_simp; try rfl), ?_⟩) (by assumption) ?_); rotate_left; focus (intro wS hSw; (try dsimp only at hSw); go_simp; first | done | with_reducible rfl); try simp only [Act.put, List.setIfInBounds_toArray, List.set_cons_zero, List.set_cons_succ])
 ((refine wpAnyH_take (i := 7) (v := ?_) (by (simp only [List.getElem?_toArray, List.getElem?_cons_succ, List.getElem?_cons_zero]); rfl) (by kernel_rfl) (by kernel_rfl) (by kernel_rfl) (by exact fun _ _ _ h => h) (Or.inl ⟨by rfl, ?_⟩) (by assumption) ?_); rotate_left; focus (intro wS hSw; (try dsimp only at hSw); go_simp; first | done | with_reducible rfl); try simp only [Act.put, List.setIfInBounds_toArray, List.set_cons_zero, List.set_cons_succ])
 ((refine wpAnyH_take (i := 8) (v := ?_) (by (simp only [List.getElem?_toArray, List.getElem?_cons_succ, List.getElem?_cons_zero]); rfl) (by kernel_rfl) (by kernel_rfl) (by kernel_rfl) (by exact fun _ _ _ h => h) (Or.inl ⟨by rfl, ?_⟩) (by assumption) ?_); rotate_left; focus (intro wS hSw; (try dsimp only at hSw); go_simp; first | done | with_reducible rfl); try simp only [Act.put, List.setIfInBounds_toArray, List.set_cons_zero, List.set_cons_succ])
 ((refine wpAnyH_take (i := 9) (v := ?_) (by (simp only [List.getElem?_toArray, List.getElem?_cons_succ, List.getElem?_cons_zero]); rfl) (by kernel_rfl) (by kernel_rfl) (by kernel_rfl) (by exact fun _ _ _ h => h) (Or.inl ⟨by (go_simp; try rfl), ?_⟩) (by assumption) ?_); rotate_left; focus (intro wS hSw; (try dsimp only at hSw); go_simp; first | done | with_reducible rfl); try simp only [Act.put, List.setIfInBounds_toArray, List.set_cons_zero, List.set_cons_succ])
 ((refine wpAnyH_take (i := 10) (v := ?_) (by (simp only [List.getElem?_toArray, List.getElem?_cons_succ, List.getElem?_cons_zero]); rfl) (by kernel_rfl) (by kernel_rfl) (by kernel_rfl) (by exact fun _ _ _ h => h) (Or.inl ⟨by (go_simp; try rfl), ?_⟩) (by assumption) ?_); rotate_left; focus (intro wS hSw; (try dsimp only at hSw); go_simp; first | done | with_reducible rfl); try simp only [Act.put, List.setIfInBounds_toArray, List.set_cons_zero, List.set_cons_succ])
 ((refine wpAnyH_take (i := 12) (v := ?_) (by (simp only [List.getElem?_toArray, List.getElem?_cons_succ, List.getElem?_cons_zero]); rfl) (by kernel_rfl) (by kernel_rfl) (by kernel_rfl) (by exact fun _ _ _ h => h) (Or.inl ⟨by (go_simp; try rfl), ?_⟩) (by assumption) ?_); rotate_left; focus (intro wS hSw; (try dsimp only at hSw); go_simp; first | done | with_reducible rfl); try simp only [Act.put, List.setIfInBounds_toArray, List.set_cons_zero, List.set_cons_succ])
 ((refine wpAnyH_take (i := 13) (v := ?_) (by (simp only [List.getElem?_toArray, List.getElem?_cons_succ, List.getElem?_cons_zero]); rfl) (by kernel_rfl) (by kernel_rfl) (by kernel_rfl) (by exact fun _ _ _ h => h) (Or.inl ⟨by (go_simp; try rfl), ?_⟩) (by assumption) ?_); rotate_left; focus (intro wS hSw; (try dsimp only at hSw); go_simp; first | done | with_reducible rfl); try simp only [Act.put, List.setIfInBounds_toArray, List.set_cons_zero, List.set_cons_succ])
 refine wpAnyH_ready (rs := [11]) (by kernel_rfl) (by simp) ?_
 refine AllReadyH.cons (by (simp only [List.getElem?_toArray, List.getElem?_cons_succ, List.getElem?_cons_zero]); rfl) (fun K hK => ?_) AllReadyH.nil
 go_simp
 go_fit (HXP.out _ _ _ (HSV.out _ HT.out HL.out HS.out HD.out) HI.out)
 rintro e W8 ⟨va, rfl, hva, hB⟩
 replace HB:=zh (HB.out.trans (hB.mono HB.out.size))
 replace HT:=zh (HT0.out.below HB.out)
 replace HL:=zh (HL0.out.below HB.out)
 replace HS:=zh (HS0.out.below HB.out)
 replace HD:=zh (HD0.out.below HB.out)
 replace HI:=zh (HI0.out.below HB.out)
 replace HR:=zh (HR.out.step hB)
 replace V1:=zh (V1.out.below hB)
 replace HA1:=zh (HA1.out.step hB)
 replace V2:=zh (V2.out.below hB)
 replace HB1:=zh (HB1.out.step hB)
 have HVA := zh hva
 clear hva
 go_wp2_with fail
 refine hK.out _ _ ⟨⟨cell_at HR.out 0, cell_at HR.out 1, cell_at HR.out 2, cell_at HR.out 3, cell_at HR.out 4, cell_at HR.out 5, cell_at HR.out 6, HR.out.lt⟩, ⟨cell_at HA1.out 0, cell_at HA1.out 1, cell_at HA1.out 2, cell_at HA1.out 3, cell_at HA1.out 4, cell_at HA1.out 5, cell_at HA1.out 6, HA1.out.lt⟩, ⟨cell_at HB1.out 0, cell_at HB1.out 1, cell_at HB1.out 2, cell_at HB1.out 3, cell_at HB1.out 4, cell_at HB1.out 5, cell_at HB1.out 6, HB1.out.lt⟩⟩ (fun hHeld => ?_)
 clear hK K hB
 try simp only [Act.put, List.setIfInBounds_toArray, List.set_cons_zero, List.set_cons_succ]
 refine wpAnyH_ready (rs := [14]) (by kernel_rfl) (by simp) ?_
 refine AllReadyH.cons (by (simp only [List.getElem?_toArray, List.getElem?_cons_succ, List.getElem?_cons_zero]); rfl) (fun K hK => ?_) AllReadyH.nil
 go_simp
 go_fit (HXD.out _ _ _ (HSV.out _ HT.out HL.out HS.out HD.out) HI.out)
 rintro e W9 ⟨vb, rfl, hvb, hB⟩
 replace HB:=zh (HB.out.trans (hB.mono HB.out.size))
 replace HT:=zh (HT0.out.below HB.out)
 replace HL:=zh (HL0.out.below HB.out)
 replace HS:=zh (HS0.out.below HB.out)
 replace HD:=zh (HD0.out.below HB.out)
 replace HI:=zh (HI0.out.below HB.out)
 replace HR:=zh (HR.out.step hB)
 replace V1:=zh (V1.out.below hB)
 replace HA1:=zh (HA1.out.step hB)
 replace V2:=zh (V2.out.below hB)
 replace HB1:=zh (HB1.out.step hB)
 replace HVA:=zh (HVA.out.below hB)
 have HVB := zh hvb
 clear hvb
 go_wp2_with fail
 refine hK.out _ _ ⟨⟨cell_at HR.out 0, cell_at HR.out 1, cell_at HR.out 2, cell_at HR.out 3, cell_at HR.out 4, cell_at HR.out 5, cell_at HR.out 6, HR.out.lt⟩, ⟨cell_at HA1.out 0, cell_at HA1.out 1, cell_at HA1.out 2, cell_at HA1.out 3, cell_at HA1.out 4, cell_at HA1.out 5, cell_at HA1.out 6, HA1.out.lt⟩, ⟨cell_at HB1.out 0, cell_at HB1.out 1, cell_at HB1.out 2, cell_at HB1.out 3, cell_at HB1.out 4, cell_at HB1.out 5, cell_at HB1.out 6, HB1.out.lt⟩⟩ (fun hHeld => ?_)
 clear hK K hB
 try simp only [Act.put, List.setIfInBounds_toArray, List.set_cons_zero, List.set_cons_succ]
 refine wpAnyH_ready (rs := [15]) (by kernel_rfl) (by simp) ?_
 refine AllReadyH.cons (by (simp only [List.getElem?_toArray, List.getElem?_cons_succ, List.getElem?_cons_zero]); rfl) (fun K hK => ?_) AllReadyH.nil
 go_simp
 go_fit (sameS_any _ _ s3 _ HVA.out HVB.out)
 rintro e W10 ⟨rfl, hB⟩
 replace HB:=zh (HB.out.trans (hB.mono HB.out.size))
 replace HT:=zh (HT0.out.below HB.out)
 replace HL:=zh (HL0.out.below HB.out)
 replace HS:=zh (HS0.out.below HB.out)
 replace HD:=zh (HD0.out.below HB.out)
 replace HI:=zh (HI0.out.below HB.out)
 replace HR:=zh (HR.out.step hB)
 replace V1:=zh (V1.out.below hB)
 replace HA1:=zh (HA1.out.step hB)
 replace V2:=zh (V2.out.below hB)
 replace HB1:=zh (HB1.out.step hB)
 replace HVA:=zh (HVA.out.below hB)
 replace HVB:=zh (HVB.out.below hB)
 go_wp2_with fail
 refine hK.out _ _ ⟨⟨cell_at HR.out 0, cell_at HR.out 1, cell_at HR.out 2, cell_at HR.out 3, cell_at HR.out 4, cell_at HR.out 5, cell_at HR.out 6, HR.out.lt⟩, ⟨cell_at HA1.out 0, cell_at HA1.out 1, cell_at HA1.out 2, cell_at HA1.out 3, cell_at HA1.out 4, cell_at HA1.out 5, cell_at HA1.out 6, HA1.out.lt⟩, ⟨cell_at HB1.out 0, cell_at HB1.out 1, cell_at HB1.out 2, cell_at HB1.out 3, cell_at HB1.out 4, cell_at HB1.out 5, cell_at HB1.out 6, HB1.out.lt⟩⟩ (fun hHeld => ?_)
 clear hK K hB
 try simp only [Act.put, List.setIfInBounds_toArray, List.set_cons_zero, List.set_cons_succ]
 ((refine wpAnyH_take (i := 16) (v := ?_) (by (simp only [List.getElem?_toArray, List.getElem?_cons_succ, List.getElem?_cons_zero]); rfl) (by kernel_rfl) (by kernel_rfl) (by kernel_rfl) (by exact fun _ _ _ h => h) (Or.inl ⟨by rfl, ?_⟩) (by assumption) ?_); rotate_left; focus (intro wS hSw; (try dsimp only at hSw); go_simp; first | done | with_reducible rfl); try simp only [Act.put, List.setIfInBounds_toArray, List.set_cons_zero, List.set_cons_succ])
 ((refine wpAnyH_take (i := 17) (v := ?_) (by (simp only [List.getElem?_toArray, List.getElem?_cons_succ, List.getElem?_cons_zero]); rfl) (by kernel_rfl) (by kernel_rfl) (by kernel_rfl) (by exact fun _ _ _ h => h) (Or.inl ⟨by rfl, ?_⟩) (by assumption) ?_); rotate_left; focus (intro wS hSw; (try dsimp only at hSw); go_simp; first | done | with_reducible rfl); try simp only [Act.put, List.setIfInBounds_toArray, List.set_cons_zero, List.set_cons_succ])
 refine wpAnyH_ready (rs := [18]) (by kernel_rfl) (by simp) ?_
 refine AllReadyH.cons (by (simp only [List.getElem?_toArray, List.getElem?_cons_succ, List.getElem?_cons_zero]); rfl) (fun K hK => ?_) AllReadyH.nil
 go_simp
 go_fit (HWK.out _)
 rintro e W11 ⟨rfl, hB⟩
 replace HB:=zh (HB.out.trans (hB.mono HB.out.size))
 replace HT:=zh (HT0.out.below HB.out)
 replace HL:=zh (HL0.out.below HB.out)
 replace HS:=zh (HS0.out.below HB.out)
 replace HD:=zh (HD0.out.below HB.out)
 replace HI:=zh (HI0.out.below HB.out)
 replace HR:=zh (HR.out.step hB)
 replace V1:=zh (V1.out.below hB)
 replace HA1:=zh (HA1.out.step hB)
 replace V2:=zh (V2.out.below hB)
 replace HB1:=zh (HB1.out.step hB)
 replace HVA:=zh (HVA.out.below hB)
 replace HVB:=zh (HVB.out.below hB)
 go_wp2_with fail
 refine hK.out _ _ ⟨⟨cell_at HR.out 0, cell_at HR.out 1, cell_at HR.out 2, cell_at HR.out 3, cell_at HR.out 4, cell_at HR.out 5, cell_at HR.out 6, HR.out.lt⟩, ⟨cell_at HA1.out 0, cell_at HA1.out 1, cell_at HA1.out 2, cell_at HA1.out 3, cell_at HA1.out 4, cell_at HA1.out 5, cell_at HA1.out 6, HA1.out.lt⟩, ⟨cell_at HB1.out 0, cell_at HB1.out 1, cell_at HB1.out 2, cell_at HB1.out 3, cell_at HB1.out 4, cell_at HB1.out 5, cell_at HB1.out 6, HB1.out.lt⟩⟩ (fun hHeld => ?_)
 clear hK K hB
 try simp only [Act.put, List.setIfInBounds_toArray, List.set_cons_zero, List.set_cons_succ]
 ((refine wpAnyH_take (i := 19) (v := ?_) (by (simp only [List.getElem?_toArray, List.getElem?_cons_succ, List.getElem?_cons_zero]); rfl) (by kernel_rfl) (by kernel_rfl) (by kernel_rfl) (by exact fun _ _ _ h => h) (Or.inl ⟨by rfl, ?_⟩) (by assumption) ?_); rotate_left; focus (intro wS hSw; (try dsimp only at hSw); go_simp; first | done | with_reducible rfl); try simp only [Act.put, List.setIfInBounds_toArray, List.set_cons_zero, List.set_cons_succ])
 ((refine wpAnyH_take (i := 20) (v := ?_) (by (simp only [List.getElem?_toArray, List.getElem?_cons_succ, List.getElem?_cons_zero]); rfl) (by kernel_rfl) (by kernel_rfl) (by kernel_rfl) (by exact fun _ _ _ h => h) (Or.inl ⟨by rfl, ?_⟩) (by assumption) ?_); rotate_left; focus (intro wS hSw; (try dsimp only at hSw); go_simp; first | done | with_reducible rfl); try simp only [Act.put, List.setIfInBounds_toArray, List.set_cons_zero, List.set_cons_succ])
 refine wpAnyH_done (by kernel_rfl) ?_ _
 try simp only [Act.put, List.setIfInBounds_toArray, List.set_cons_zero, List.set_cons_succ]
 go_wp2_with fail
 go_ret
 exact ⟨rfl, HB.out⟩
theorem ledgerReports_dt (x : Dt) (sh ep le sp : Int) (cl : Bool) (a : Option Addr) (len cap : Nat) (xs : List Dt) (w : World) (hx : Fits Try.prog w 27 x) (hi : SliceFits Try.prog w 3 a len cap xs) (hsp : -9223372036854775808 ≤ sp ∧ sp ≤ 9223372036854775807) : Calls Try.prog 6 #[.agg x.cells.toArray, .int .i64 sh, .int .i64 ep, .int .i64 le, .int .i64 sp, .bool cl, .slice a len cap] w fun e w' => e = .returned (.bool true) ∧ Below w.heap.size w w' := by
 obtain ⟨s, l, e, h⟩ := state_inv hx
 obtain ⟨L, _, hL⟩ := inv_cells w hi
 rw [e]
 exact ledgerReports_walk _ _ s sh ep le sp cl L w h hL hsp
end Go.Proofs.Ytfgnjpdlchimpaa
