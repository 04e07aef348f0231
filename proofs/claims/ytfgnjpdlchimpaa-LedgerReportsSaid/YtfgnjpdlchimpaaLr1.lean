/-
 Texts of this claim, put together: LgWd, LgT2, Por, LgX2, LgY2, Bk4, Bk5, LgRd, LgEd.
-/
import Derived.Test.YtfgnjpdlchimpaaLc1
import Derived.Test.YtfgnjpdlchimpaaLc2
import Derived.Test.YtfgnjpdlchimpaaLc3
import Derived.Test.YtfgnjpdlchimpaaLc4
import Derived.Test.YtfgnjpdlchimpaaLc5
import Derived.Test.YtfgnjpdlchimpaaLe1
import Derived.Deep.DeepFit
import Derived.Lib.AppendZeros
import Derived.Deep.RegionLaw
namespace Go.Proofs.Ytfgnjpdlchimpaa
open Go.RowKit
set_option linter.unusedSimpArgs false
set_option linter.unusedVariables false

set_option maxRecDepth 100000 in
set_option maxHeartbeats 8000000 in
theorem rwithout_any (vt vl vs vd : Value) (s : StE) (key : Int) (w : World) (ht : TV w vt s.ts) (hl : LeV w vl s.ls) (hs : SeV w vs s.ss) (hd : DkV w vd s.ds) (hf : fewS s) :
  Calls Try.prog 56 #[.agg #[.int .i64 s.term, .int .i64 s.stamp, .int .i64 s.next, vt, vl, vs, vd], .int .i64 key] w fun e w' => ∃ vl', e = .returned (.agg #[.int .i64 s.term, .int .i64 s.stamp, .int .i64 s.next, vt, vl', vs, vd]) ∧ LeV w' vl' (wo key s.ls) ∧ Below w.heap.size w w' := by
 have HFEW := zh hf
 obtain ⟨f1, f2, f3, f4⟩ := hf
 obtain ⟨ta, tn, tc, rfl, Htn, tn1, tn2⟩ := ht.sh
 obtain ⟨la, ln, lc, rfl, Hln, ln1, ln2⟩ := hl.sh
 obtain ⟨sa, sn, sc, rfl, Hsn, sn1, sn2⟩ := hs.sh
 obtain ⟨da, dn, dc, rfl, Hdn, dn1, dn2⟩ := hd.sh
 have HT0 := zh ht
 have HL0 := zh hl
 have HS0 := zh hs
 have HD0 := zh hd
 have HT := zh ht
 have HL := zh hl
 have HS := zh hs
 have HD := zh hd
 clear ht hl hs hd
 rw [← Hln.out] at f2
 have HOK := zh HL.out.ok
 have HB : Hid (Below w.heap.size w w):=zh (Below.refl _ _)
 go_enter Try.func56, Try.ntmps56
 go_upto_region 1 with fail
 obtain ⟨N, hN⟩ : ∃ n0, n0 = w.heap.size := ⟨_, rfl⟩
 have HLON : Hid (w.heap.size ≤ N):=zh (by have := HB.out.size; omega)
 obtain ⟨W1, hA0⟩ : ∃ W0, W0 = w.alloc (.cells #[.int .i64 s.term, .int .i64 s.stamp, .int .i64 s.next, .slice ta tn tc, .slice la ln lc, .slice sa sn sc, .slice da dn dc] 27) := ⟨_, rfl⟩
 have hB : Below w.heap.size w W1 := by rw [hA0]; exact (Below.refl _ _).alloc (Nat.le_refl _) _
 have hS0 : W1.heap.size = N + 1 := by rw [hA0]; simp [← hN]
 have HR:=zh (show Blk W1 N #[.int .i64 s.term, .int .i64 s.stamp, .int .i64 s.next, .slice ta tn tc, .slice la ln lc, .slice sa sn sc, .slice da dn dc] 27 by rw [hA0, hN]; exact blk_new _ _ _)
 replace HB:=zh (HB.out.trans (hB.mono HB.out.size))
 replace HL:=zh (HL0.out.below HB.out)
 clear hB
 obtain ⟨W2, hA1⟩ : ∃ W0, W0 = W1.alloc (.cells #[.int .i64 0, .int .i64 0, .int .i64 0, .slice none 0 0, .slice none 0 0, .slice none 0 0, .slice none 0 0] 27) := ⟨_, rfl⟩
 have hB : Below W1.heap.size W1 W2 := by rw [hA1]; exact (Below.refl _ _).alloc (Nat.le_refl _) _
 have hS1 : W2.heap.size = N + 2 := by rw [hA1]; simp [hS0]
 have HZR:=zh (show Blk W2 (N + 1) #[.int .i64 0, .int .i64 0, .int .i64 0, .slice none 0 0, .slice none 0 0, .slice none 0 0, .slice none 0 0] 27 by rw [hA1, ← hS0]; exact blk_new _ _ _)
 replace HB:=zh (HB.out.trans (hB.mono HB.out.size))
 replace HL:=zh (HL0.out.below HB.out)
 replace HR:=zh (HR.out.step hB)
 clear hB
 rw [← hN, ← hA0, ← hA1]
 clear hA1 hA0 hN hS0 hS1
 obtain ⟨M, hM⟩ : ∃ M, M = W2.heap.size := ⟨_, rfl⟩
 have HLOM : Hid (w.heap.size ≤ M):=zh (by rw [hM]; exact HB.out.size)
 have HFM0 : Hid (M ≤ W2.heap.size):=zh (by omega)
 have HMQ := zh hM
 clear hM
 go_wp2_with fail
 go_loopw [5, 6] (fun o k wr => ∃ (i : Nat) (vo : Value) (ob : Option Nat), i ≤ ln ∧ k = .int .i64 i ∧ o = vo ∧ LeO M wr vo ob (wo key (s.ls.take i)) ∧ Below M W2 wr) (fun _ k _ => ln - (intOf k).toNat)
 case atStart => exact ⟨0, _, _, Nat.zero_le _, rfl, rfl, leo_nil W2 M, Below.refl _ _⟩
 case round =>
  obtain ⟨i, vo, ob, hi, rfl, rfl, hor, hBM⟩ := hrel
  have HOR := zh hor
  have HBC := zh hBM
  have HFM : Hid (M ≤ wr.heap.size):=zh (Nat.le_trans HFM0.out hBM.size)
  have hB : Below W2.heap.size W2 wr := by rw [← HMQ.out]; exact hBM
  clear hor hBM
  replace HB:=zh (HB.out.trans (hB.mono HB.out.size))
  replace HL:=zh (HL0.out.below HB.out)
  replace HR:=zh (HR.out.step hB)
  replace HZR:=zh (HZR.out.step hB)
  clear hB
  by_cases hlt : i < ln
  ·skip
   have b9 : (i < ln) = True := eq_true hlt
   obtain ⟨g, o, x, ea, g1, g2, q0, q1, q2, q3, q4, q5, q6⟩ := HL.out.at i hlt
   subst ea
   have ww5 : IntKind.i64.wrap ((i : Int) + 1) = (i : Int) + 1 := IntWalk.i64_in _ (by omega)
   have HFT:=zh (filter_take (fun y => !decide (y.id = key)) g2)
   have HXO:=zh (HOK.out x (List.mem_of_getElem? g2))
   clear g2
   have qR0 : wr.cell? ⟨N, 0, none⟩ = some (.int .i64 s.term) := cell_at HR.out 0
   have qR1 : wr.cell? ⟨N, 1, none⟩ = some (.int .i64 s.stamp) := cell_at HR.out 1
   have qR2 : wr.cell? ⟨N, 2, none⟩ = some (.int .i64 s.next) := cell_at HR.out 2
   have qR3 : wr.cell? ⟨N, 3, none⟩ = some (.slice ta tn tc) := cell_at HR.out 3
   have qR4 : wr.cell? ⟨N, 4, none⟩ = some (.slice (some ⟨g, o, none⟩) ln lc) := cell_at HR.out 4
   have qR5 : wr.cell? ⟨N, 5, none⟩ = some (.slice sa sn sc) := cell_at HR.out 5
   have qR6 : wr.cell? ⟨N, 6, none⟩ = some (.slice da dn dc) := cell_at HR.out 6
   have qRz : ∀ j, wr.frozen? ⟨N, j, none⟩ = false := fun j => free_at HR.out j
   have qRl : N < wr.heap.size := HR.out.lt
   cases hd : (x.id == key)
   ·skip
    have hne : ¬ x.id = key := by simpa using hd
    have d1 : (x.id != key) = true := by simp [hne]
    have d2 : (x.id = key) = False := eq_false hne
    have HFU : Hid (wo key (s.ls.take (i + 1)) = wo key (s.ls.take i) ++ [x]):=zh (by have h := HFT.out; rw [show (!decide (x.id = key)) = true by simp [hne]] at h; exact h)
    clear hne
    have hA : Below wr.heap.size wr (wr.alloc (.cells #[.int .i64 x.id, .int .i64 x.tenant, .int .i64 x.shaper, .int .i64 x.epoch, .int .i64 x.number, .int .i64 x.size, .int .i64 x.spent] 31)) := (Below.refl _ _).alloc (Nat.le_refl _) _
    obtain ⟨v3, ob3, W3, hrun, hor, hBM0⟩ := le_app (ty := 23) (HOR.out.step hA) (lev_one (blk_new wr _ _) HXO.out) (Nat.le_trans HFM.out hA.size) (by have := filter_le s.ls (fun y => !decide (y.id = key)) i; rw [← Hln.out] at this; show (((s.ls.take i).filter _).length) + _ ≤ _; simp only [List.length_cons, List.length_nil]; omega)
    have hBM : Below M wr W3 := (hA.mono HFM.out).trans hBM0
    have HRUN := zh hrun
    clear hA hBM0
    go_wp2_with (at_builtin; refine Lib.wpList_append_run _ rfl (.tmp 22) (.tmp 28) 23 23 rfl _ _ rfl rfl _ _ HRUN.out ?_)
    clear qR0 qR1 qR2 qR3 qR4 qR5 qR6 qRz qRl
    replace HBC:=zh (HBC.out.trans hBM)
    replace HFM:=zh (Nat.le_trans HFM.out hBM.size)
    clear HOR
    have HOR := zh hor
    clear HRUN hrun hor hBM
    replace HOR:=zh (by have h := HOR.out; rw [← HFU.out] at h; exact h)
    go_wp2_with fail
    go_roundw
    case rel => exact ⟨i + 1, _, _, by omega, by go_num, rfl, HOR.out, HBC.out⟩
    case measure => first | (simp [intOf]; done) | (simp [intOf]; omega)
   ·skip
    have he : x.id = key := by simpa using hd
    have d1 : (x.id != key) = false := by simp [he]
    have HFU : Hid (wo key (s.ls.take (i + 1)) = wo key (s.ls.take i)):=zh (by have h := HFT.out; rw [show (!decide (x.id = key)) = false by simp [he]] at h; exact h.trans (List.append_nil _))
    replace HOR:=zh (by have h := HOR.out; rw [← HFU.out] at h; exact h)
    have HEQ := zh he
    clear he
    go_wp2_with fail
    go_roundw
    case rel => exact ⟨i + 1, _, _, by omega, by go_num, rfl, HOR.out, HBC.out⟩
    case measure => first | (simp [intOf]; done) | (simp [intOf]; omega)
  ·skip
   obtain rfl : ln = i := by omega
   have b9 : (ln < ln) = False := eq_false (by omega)
   have hv := HOR.out.v
   rw [Hln.out, List.take_length] at hv
   obtain ⟨b5, m5, k5, rfl, Hb5, x5, y5⟩ := hv.sh
   have HQ := zh hv
   clear hv
   have qR0 : wr.cell? ⟨N, 0, none⟩ = some (.int .i64 s.term) := cell_at HR.out 0
   have qR1 : wr.cell? ⟨N, 1, none⟩ = some (.int .i64 s.stamp) := cell_at HR.out 1
   have qR2 : wr.cell? ⟨N, 2, none⟩ = some (.int .i64 s.next) := cell_at HR.out 2
   have qR3 : wr.cell? ⟨N, 3, none⟩ = some (.slice ta tn tc) := cell_at HR.out 3
   have qR4 : wr.cell? ⟨N, 4, none⟩ = some (.slice la ln lc) := cell_at HR.out 4
   have qR5 : wr.cell? ⟨N, 5, none⟩ = some (.slice sa sn sc) := cell_at HR.out 5
   have qR6 : wr.cell? ⟨N, 6, none⟩ = some (.slice da dn dc) := cell_at HR.out 6
   have qRz : ∀ j, wr.frozen? ⟨N, j, none⟩ = false := fun j => free_at HR.out j
   have qRl : N < wr.heap.size := HR.out.lt
   have qZR0 : wr.cell? ⟨(N + 1), 0, none⟩ = some (.int .i64 0) := cell_at HZR.out 0
   have qZR1 : wr.cell? ⟨(N + 1), 1, none⟩ = some (.int .i64 0) := cell_at HZR.out 1
   have qZR2 : wr.cell? ⟨(N + 1), 2, none⟩ = some (.int .i64 0) := cell_at HZR.out 2
   have qZR3 : wr.cell? ⟨(N + 1), 3, none⟩ = some (.slice none 0 0) := cell_at HZR.out 3
   have qZR4 : wr.cell? ⟨(N + 1), 4, none⟩ = some (.slice none 0 0) := cell_at HZR.out 4
   have qZR5 : wr.cell? ⟨(N + 1), 5, none⟩ = some (.slice none 0 0) := cell_at HZR.out 5
   have qZR6 : wr.cell? ⟨(N + 1), 6, none⟩ = some (.slice none 0 0) := cell_at HZR.out 6
   have qZRz : ∀ j, wr.frozen? ⟨(N + 1), j, none⟩ = false := fun j => free_at HZR.out j
   have qZRl : (N + 1) < wr.heap.size := HZR.out.lt
   go_upto_region 8 with fail
   clear qR0 qR1 qR2 qR3 qR4 qR5 qR6 qRz qRl qZR0 qZR1 qZR2 qZR3 qZR4 qZR5 qZR6 qZRz qZRl
   obtain ⟨W3, hWS⟩ : ∃ WS, WS = wr.setCell ⟨N, 4, none⟩ (.slice b5 m5 k5) := ⟨_, rfl⟩
   rw [← hWS]
   have hfS : Fr [N] wr W3 := by rw [hWS]; exact (Fr.refl _ _).setCell _ (.inl (by simp)) _
   have hkS : Blk W3 N #[.int .i64 s.term, .int .i64 s.stamp, .int .i64 s.next, .slice ta tn tc, .slice b5 m5 k5, .slice sa sn sc, .slice da dn dc] 27 := by rw [hWS]; exact HR.out.set 4 _
   replace HB:=zh (HB.out.trans (hfS.below HB.out.size (by have := HLON.out; simp; try omega)))
   replace HZR:=zh (show Blk W3 (N + 1) #[.int .i64 0, .int .i64 0, .int .i64 0, .slice none 0 0, .slice none 0 0, .slice none 0 0, .slice none 0 0] 27 from (hfS.block _ HZR.out.lt (by simp; try omega)).trans HZR.out)
   replace HQ:=zh (HQ.out.fr HR.out hfS)
   replace HR:=zh (show Blk W3 N #[.int .i64 s.term, .int .i64 s.stamp, .int .i64 s.next, .slice ta tn tc, .slice b5 m5 k5, .slice sa sn sc, .slice da dn dc] 27 from hkS)
   clear hWS hfS hkS
   have qR0 : W3.cell? ⟨N, 0, none⟩ = some (.int .i64 s.term) := cell_at HR.out 0
   have qR1 : W3.cell? ⟨N, 1, none⟩ = some (.int .i64 s.stamp) := cell_at HR.out 1
   have qR2 : W3.cell? ⟨N, 2, none⟩ = some (.int .i64 s.next) := cell_at HR.out 2
   have qR3 : W3.cell? ⟨N, 3, none⟩ = some (.slice ta tn tc) := cell_at HR.out 3
   have qR4 : W3.cell? ⟨N, 4, none⟩ = some (.slice b5 m5 k5) := cell_at HR.out 4
   have qR5 : W3.cell? ⟨N, 5, none⟩ = some (.slice sa sn sc) := cell_at HR.out 5
   have qR6 : W3.cell? ⟨N, 6, none⟩ = some (.slice da dn dc) := cell_at HR.out 6
   have qRz : ∀ j, W3.frozen? ⟨N, j, none⟩ = false := fun j => free_at HR.out j
   have qRl : N < W3.heap.size := HR.out.lt
   have qZR0 : W3.cell? ⟨(N + 1), 0, none⟩ = some (.int .i64 0) := cell_at HZR.out 0
   have qZR1 : W3.cell? ⟨(N + 1), 1, none⟩ = some (.int .i64 0) := cell_at HZR.out 1
   have qZR2 : W3.cell? ⟨(N + 1), 2, none⟩ = some (.int .i64 0) := cell_at HZR.out 2
   have qZR3 : W3.cell? ⟨(N + 1), 3, none⟩ = some (.slice none 0 0) := cell_at HZR.out 3
   have qZR4 : W3.cell? ⟨(N + 1), 4, none⟩ = some (.slice none 0 0) := cell_at HZR.out 4
   have qZR5 : W3.cell? ⟨(N + 1), 5, none⟩ = some (.slice none 0 0) := cell_at HZR.out 5
   have qZR6 : W3.cell? ⟨(N + 1), 6, none⟩ = some (.slice none 0 0) := cell_at HZR.out 6
   have qZRz : ∀ j, W3.frozen? ⟨(N + 1), j, none⟩ = false := fun j => free_at HZR.out j
   have qZRl : (N + 1) < W3.heap.size := HZR.out.lt
   go_wp2_with fail
   clear qR0 qR1 qR2 qR3 qR4 qR5 qR6 qRz qRl qZR0 qZR1 qZR2 qZR3 qZR4 qZR5 qZR6 qZRz qZRl
   obtain ⟨LS, hLS⟩ : ∃ L : List Value, L = [.int .i64 s.term, .int .i64 s.stamp, .int .i64 s.next, .slice ta tn tc, .slice b5 m5 k5, .slice sa sn sc, .slice da dn dc] := ⟨_, rfl⟩
   obtain ⟨W4, hWS⟩ : ∃ WS, WS = W3.setCells (N + 1) 0 LS := ⟨_, rfl⟩
   have hch := hWS
   rw [hLS] at hch
   simp only [World.setCells, Nat.zero_add, Nat.reduceAdd] at hch
   rw [← hch]
   clear hch
   have hkS := stC_blk HZR.out LS (by rw [hLS]; rfl)
   have hfS := stC_fr (N + 1) LS 0 W3
   rw [← hWS] at hkS hfS
   rw [hLS] at hkS
   replace HB:=zh (HB.out.trans (hfS.below HB.out.size (by have := HLON.out; simp; try omega)))
   replace HR:=zh (show Blk W4 N #[.int .i64 s.term, .int .i64 s.stamp, .int .i64 s.next, .slice ta tn tc, .slice b5 m5 k5, .slice sa sn sc, .slice da dn dc] 27 from (hfS.block _ HR.out.lt (by simp; try omega)).trans HR.out)
   replace HQ:=zh (HQ.out.fr HZR.out hfS)
   replace HZR:=zh (show Blk W4 (N + 1) #[.int .i64 s.term, .int .i64 s.stamp, .int .i64 s.next, .slice ta tn tc, .slice b5 m5 k5, .slice sa sn sc, .slice da dn dc] 27 from hkS)
   clear hWS hLS hkS hfS
   have qZR0 : W4.cell? ⟨(N + 1), 0, none⟩ = some (.int .i64 s.term) := cell_at HZR.out 0
   have qZR1 : W4.cell? ⟨(N + 1), 1, none⟩ = some (.int .i64 s.stamp) := cell_at HZR.out 1
   have qZR2 : W4.cell? ⟨(N + 1), 2, none⟩ = some (.int .i64 s.next) := cell_at HZR.out 2
   have qZR3 : W4.cell? ⟨(N + 1), 3, none⟩ = some (.slice ta tn tc) := cell_at HZR.out 3
   have qZR4 : W4.cell? ⟨(N + 1), 4, none⟩ = some (.slice b5 m5 k5) := cell_at HZR.out 4
   have qZR5 : W4.cell? ⟨(N + 1), 5, none⟩ = some (.slice sa sn sc) := cell_at HZR.out 5
   have qZR6 : W4.cell? ⟨(N + 1), 6, none⟩ = some (.slice da dn dc) := cell_at HZR.out 6
   have qZRz : ∀ j, W4.frozen? ⟨(N + 1), j, none⟩ = false := fun j => free_at HZR.out j
   have qZRl : (N + 1) < W4.heap.size := HZR.out.lt
   exact bodyPost_ret (v := .agg #[.int .i64 s.term, .int .i64 s.stamp, .int .i64 s.next, .slice ta tn tc, .slice b5 m5 k5, .slice sa sn sc, .slice da dn dc]) (by simp [results, Try.results56, go_sem, qZR0, qZR1, qZR2, qZR3, qZR4, qZR5, qZR6]) rfl ⟨_, rfl, HQ.out, HB.out⟩
end Go.Proofs.Ytfgnjpdlchimpaa
namespace Go.Proofs.Ytfgnjpdlchimpaa
open Go.RowKit
set_option linter.unusedSimpArgs false
set_option linter.unusedVariables false

theorem FrB.blk {W W' : World} {ot : Option Nat} (hf : FrB W.heap.size ot.toList W W') (k : Nat) (hk : k < W.heap.size) (hne : ∀ g2, ot = some g2 → k ≠ g2) : W'.heap[k]? = W.heap[k]? := hf.block k hk (by cases ot with | none => simp | some g => simpa using hne g rfl)
def mapK {α : Type} (f : α → α) (L : List α) (k : Nat) : List α := (L.take k).map f ++ L.drop k
theorem mapK_zero {α : Type} (f : α → α) (L : List α) : mapK f L 0 = L := by simp [mapK]
theorem mapK_len {α : Type} (f : α → α) (L : List α) (k : Nat) (hk : k ≤ L.length) : (mapK f L k).length = L.length := by simp [mapK]; omega
theorem mapK_end {α : Type} (f : α → α) (L : List α) : mapK f L L.length = L.map f := by simp [mapK]
theorem mapK_at {α : Type} (f : α → α) (L : List α) (k : Nat) (x : α) (h : L[k]? = some x) : (mapK f L k)[k]? = some x := by
 have hk := (List.getElem?_eq_some_iff.1 h).1
 unfold mapK
 rw [List.getElem?_append_right (by simp; omega)]
 simp only [List.length_map, List.length_take]
 rw [show k - min k L.length = 0 by omega, List.getElem?_drop, Nat.add_zero, h]
theorem mapK_succ {α : Type} (f : α → α) (L : List α) (k : Nat) (x : α) (h : L[k]? = some x) : mapK f L (k + 1) = (mapK f L k).set k (f x) := by
 have hk := (List.getElem?_eq_some_iff.1 h).1
 have hx : L[k] = x := by have := List.getElem?_eq_getElem hk; rw [this] at h; exact Option.some.inj h
 unfold mapK
 rw [List.take_add_one, h, List.map_append, List.drop_eq_getElem_cons hk, hx]
 rw [List.set_append_right _ _ (by simp; omega)]
 simp only [List.length_map, List.length_take]
 rw [show k - min k L.length = 0 by omega]
 simp
theorem set_id {α : Type} : ∀ (L : List α) (k : Nat) (x : α), L[k]? = some x → L.set k x = L
 | [], _, _, h => by simp at h
 | y :: r, 0, x, h => by simp at h; subst h; rfl
 | y :: r, k + 1, x, h => by simp at h; simp [set_id r k x h]
theorem FrB.mono0 {n n' : Nat} {l : List Nat} {a b : World} (h : FrB n' l a b) (hn : n ≤ n') : FrB n l a b := ⟨h.os, h.tape, h.output, h.size, fun i hi hm => h.block i (by omega) hm⟩
end Go.Proofs.Ytfgnjpdlchimpaa
namespace Go.Proofs.Ytfgnjpdlchimpaa
open Go.RowKit
set_option linter.unusedSimpArgs false
set_option linter.unusedVariables false

set_option maxRecDepth 100000 in
set_option maxHeartbeats 8000000 in
theorem rsweep_any (v : Value) (L : List TnE) (oa : Option Addr) (on oc ob oo : Nat) (T : Nat → Int) (w : World) (h : TV w v L) (hI : IntsIn w oa on oc ob oo T) (hn5 : L.length ≤ 200) : Calls Try.prog 78 #[v, .slice oa on oc] w fun e w' => ∃ v', e = .returned v' ∧ TV w' v' (swL on T L) ∧ Below w.heap.size w w' := by
 have HVW := zh h
 have HOK := zh h.ok
 have HII := zh hI
 have om1 := hI.le
 have om2 := hI.max
 unfold maxLen at om2
 obtain ⟨C, hC⟩ : ∃ C, C = chk L := ⟨_, rfl⟩
 have HC := zh hC
 obtain ⟨Y, hY⟩ : ∃ Y, Y = swL on T L := ⟨_, rfl⟩
 rw [← hY]
 have HY := zh hY
 have HCK:=zh (rcheck_any v L w h)
 rw [← hC] at HCK
 clear hC hY
 obtain ⟨i0, hi, hz0, hz1, hz2⟩ := info_parts tnZero
 have HI := zh hi
 have HZ0 := zh hz0
 have HZ1 := zh hz1
 have HZ2 := zh hz2
 clear hi hz0 hz1 hz2 hI
 cases C
 ·have hYx : Y = L := by rw [HY.out]; unfold swL; rw [← HC.out]; rfl
  have HYX := zh hYx
  clear hYx h
  go_enter Try.func78, Try.ntmps78
  go_wp2_with fail
  go_at_call 30
  refine Calls.mono HCK.out ?_
  rintro e W2 ⟨rfl, hB⟩
  have HB2 := zh hB
  clear hB
  go_wp2_with fail
  go_ret
  exact ⟨_, rfl, by rw [HYX.out]; exact HVW.out.below HB2.out, HB2.out⟩
 ·have hYx : Y = L.filter fun x => !swB on T x := by rw [HY.out]; unfold swL; rw [← HC.out]; rfl
  have HYX := zh hYx
  clear hYx
  obtain ⟨a, b, o, cap, rfl, h⟩ := h
  have m1 := h.le
  have m2 := h.max
  unfold maxLen at m2
  have H1 := zh h
  clear h
  obtain ⟨n, hn⟩ : ∃ n, n = L.length := ⟨_, rfl⟩
  have HN := zh hn
  rw [← hn] at m1 H1 hn5 HCK HVW
  rw [← hn]
  clear hn
  go_enter Try.func78, Try.ntmps78
  go_wp2_with fail
  go_at_call 30
  refine Calls.mono HCK.out ?_
  rintro e W2 ⟨rfl, hB⟩
  have HB2 := zh hB
  clear hB HCK
  go_wp2_with fail
  go_loopw [5, 6] (fun u i wr => ∃ (k : Nat) (ob : Option Nat) (A : List TnE), k ≤ n ∧ i = .int .i64 k ∧ Row wr u ob 54 5 A.length (listL A) ∧ A = (L.take k).filter (fun y => !swB on T y) ∧ (∀ g, ob = some g → w.heap.size ≤ g) ∧ Below w.heap.size w wr) (fun _ i _ => n - (intOf i).toNat)
  case atStart => exact ⟨0, none, [], Nat.zero_le _, rfl, Row.nil _ _ _, rfl, (fun g e => by cases e), HB2.out⟩
  case round =>
   obtain ⟨k, ob9, A, hk, rfl, hrow, hA, hg, hB⟩ := hrel
   have hAl : A.length ≤ k := by rw [hA]; exact Nat.le_trans (List.length_filter_le _ _) (by simp; omega)
   have HROW := zh hrow
   have HG := zh hg
   have HB := zh hB
   have HA := zh hA
   obtain ⟨va, vc, rfl, v1, v2, _⟩ := hrow.shape
   unfold maxLen at v2
   clear hrow hg hB hA
   by_cases hlt : k < n
   ·have hs1 := H1.out.below HB.out
    obtain ⟨e0, e1⟩ := hs1.at_ (by omega)
    subst e0
    obtain ⟨c0, c1, c2, c3, c4⟩ := hs1.cell k hlt
    have hgm : gt L k ∈ L := List.mem_of_getElem? (gt_lt (by rw [← HN.out]; exact hlt))
    have hid1 := chk_id HC.out.symm hgm
    have hid2 := (HOK.out _ hgm).1.2
    have hfs : (L.take (k + 1)).filter (fun y => !swB on T y) = A ++ (if swB on T (gt L k) then [] else [gt L k]) := by
     rw [HA.out, List.take_add_one, gt_lt (by rw [← HN.out]; exact hlt), List.filter_append]
     cases hsw : swB on T (gt L k) <;> simp [hsw]
    obtain ⟨y, hy⟩ : ∃ y, y = gt L k := ⟨_, rfl⟩
    rw [← hy] at c0 c1 c2 c3 c4 hfs hid1 hid2
    have HFS := zh hfs
    clear hs1 hy hfs hgm
    obtain ⟨q, hq⟩ : ∃ q : Nat, y.id = (q : Int) + 1 := ⟨(y.id - 1).toNat, by omega⟩
    have HO : Hid (outN on T y = if q < on then T q else 0):=zh (by unfold outN; rw [hq]; simp only [Int.add_sub_cancel, Int.toNat_natCast]; by_cases hh : q < on <;> simp [hh])
    have hw : IntKind.i64.wrap (q : Int) = (q : Int) := IntWalk.i64_in _ (by omega)
    obtain ⟨yi, yr, yb, yk, yg⟩ := y
    simp only at hq c0 c1 c2 c3 c4
    subst hq
    by_cases hqo : q < on
    ·obtain ⟨oe0, oe1⟩ := (HII.out.below HB.out).at_ (by omega)
     subst oe0
     have o0 := (HII.out.below HB.out).cell q hqo
     obtain ⟨t, ht⟩ : ∃ t, t = T q := ⟨_, rfl⟩
     rw [← ht] at o0
     have HT:=zh (HO.out.trans (by rw [if_pos hqo, ← ht]) : outN on T ⟨(q : Int) + 1, yr, yb, yk, yg⟩ = t)
     have d1 : ((q : Int) < on) = True := eq_true (by omega)
     have d2 : (q < on) = True := eq_true hqo
     clear ht HO
     have hcs : (yg = true ∧ t ≤ 0) ∨ (yg = false) ∨ (yg = true ∧ 0 < t) := by cases yg <;> simp <;> omega
     rcases hcs with ⟨rfl, g1⟩ | rfl | ⟨rfl, g1⟩
     ·have HF2 : Hid ((L.take (k + 1)).filter (fun y => !swB on T y) = A):=zh (by rw [HFS.out, show swB on T ⟨(q : Int) + 1, yr, yb, yk, true⟩ = true by unfold swB; rw [HT.out]; simp [g1]]; simp)
      have t1 : decide (0 < t) = false := decide_eq_false (by omega)
      go_wp2_with fail
      go_roundw
      case rel => exact ⟨k + 1, ob9, A, by omega, by go_num, HROW.out, HF2.out.symm, HG.out, HB.out⟩
      case measure => first | (simp [intOf]; done) | (simp [intOf]; omega)
     ·have HF2 : Hid ((L.take (k + 1)).filter (fun y => !swB on T y) = A ++ [⟨(q : Int) + 1, yr, yb, yk, false⟩]):=zh (by rw [HFS.out, show swB on T ⟨(q : Int) + 1, yr, yb, yk, false⟩ = false by unfold swB; simp]; simp)
      go_upto_region 11 with fail
      obtain ⟨y, hy⟩ : ∃ y : TnE, y = ⟨(q : Int) + 1, yr, yb, yk, false⟩ := ⟨_, rfl⟩
      have b0 : wr.cell? ⟨b, o + k * 5, none⟩ = some (.int .i64 y.id) := by rw [hy]; exact c0
      have b1 : wr.cell? ⟨b, o + k * 5 + 1, none⟩ = some (.int .i64 y.rate) := by rw [hy]; exact c1
      have b2 : wr.cell? ⟨b, o + k * 5 + 2, none⟩ = some (.int .i64 y.burst) := by rw [hy]; exact c2
      have b3 : wr.cell? ⟨b, o + k * 5 + 3, none⟩ = some (.int .i64 y.bkt) := by rw [hy]; exact c3
      have b4 : wr.cell? ⟨b, o + k * 5 + 4, none⟩ = some (.bool y.gone) := by rw [hy]; exact c4
      rw [← hy] at HF2
      clear c0 c1 c2 c3 c4 hy
      go_wp2_with (at_builtin; refine wpList_append_row _ rfl (.tmp 46) (.tmp 51) 22 rfl 54 i0 _ 5 40 Try.underlying22 HI.out HZ0.out HZ1.out HZ2.out rfl (by decide) _ ob9 A.length (listL A) rfl (HROW.out.alloc _) ⟨wr.heap.size, 0, none⟩ 1 1 (y).cells rfl (by decide) rfl ?c1 ?c2 ?c3 ?c4 ?_)
      case c1 => first | exact one_tn wr y _ | (intro j u hj; simpa [TnE.cells] using hj)
      case c2 => exact tnc_one y
      case c3 => (unfold maxLen; omega)
      case c4 => omega
      intro v3q ob3q W3q hrow3 hg3 hob3
      have hG := grow2 (A := A) (y := y) HB.out HG.out (by first | exact hrow3 | simpa using hrow3) _ hg3 (by first | exact hob3 | (rcases hob3 with h | h; exact .inl (by rw [h]); exact .inr h))
      obtain ⟨va3q, vc3q, hv3, v13q, _, h39⟩ := hG.1.shape
      have h49 : va3q = some ⟨ob3q, 0, none⟩ := h39
      subst hv3 h49
      have HR3q := zh hG.1
      have HG3q := zh hG.2.1
      have HB3q := zh hG.2.2
      clear hG hrow3 hg3 hob3 h39
      go_wp2_with fail
      go_roundw
      case rel => exact ⟨k + 1, some ob3q, A ++ [y], by omega, by go_num, HR3q.out, HF2.out.symm, HG3q.out, HB3q.out⟩
      case measure => first | (simp [intOf]; done) | (simp [intOf]; omega)
     ·have HF2 : Hid ((L.take (k + 1)).filter (fun y => !swB on T y) = A ++ [⟨(q : Int) + 1, yr, yb, yk, true⟩]):=zh (by rw [HFS.out, show swB on T ⟨(q : Int) + 1, yr, yb, yk, true⟩ = false by unfold swB; rw [HT.out]; simp; omega]; simp)
      have t1 : decide (0 < t) = true := decide_eq_true g1
      go_upto_region 11 with fail
      obtain ⟨y, hy⟩ : ∃ y : TnE, y = ⟨(q : Int) + 1, yr, yb, yk, true⟩ := ⟨_, rfl⟩
      have b0 : wr.cell? ⟨b, o + k * 5, none⟩ = some (.int .i64 y.id) := by rw [hy]; exact c0
      have b1 : wr.cell? ⟨b, o + k * 5 + 1, none⟩ = some (.int .i64 y.rate) := by rw [hy]; exact c1
      have b2 : wr.cell? ⟨b, o + k * 5 + 2, none⟩ = some (.int .i64 y.burst) := by rw [hy]; exact c2
      have b3 : wr.cell? ⟨b, o + k * 5 + 3, none⟩ = some (.int .i64 y.bkt) := by rw [hy]; exact c3
      have b4 : wr.cell? ⟨b, o + k * 5 + 4, none⟩ = some (.bool y.gone) := by rw [hy]; exact c4
      rw [← hy] at HF2
      clear c0 c1 c2 c3 c4 hy
      go_wp2_with (at_builtin; refine wpList_append_row _ rfl (.tmp 46) (.tmp 51) 22 rfl 54 i0 _ 5 40 Try.underlying22 HI.out HZ0.out HZ1.out HZ2.out rfl (by decide) _ ob9 A.length (listL A) rfl (HROW.out.alloc _) ⟨wr.heap.size, 0, none⟩ 1 1 (y).cells rfl (by decide) rfl ?c1 ?c2 ?c3 ?c4 ?_)
      case c1 => first | exact one_tn wr y _ | (intro j u hj; simpa [TnE.cells] using hj)
      case c2 => exact tnc_one y
      case c3 => (unfold maxLen; omega)
      case c4 => omega
      intro v3q ob3q W3q hrow3 hg3 hob3
      have hG := grow2 (A := A) (y := y) HB.out HG.out (by first | exact hrow3 | simpa using hrow3) _ hg3 (by first | exact hob3 | (rcases hob3 with h | h; exact .inl (by rw [h]); exact .inr h))
      obtain ⟨va3q, vc3q, hv3, v13q, _, h39⟩ := hG.1.shape
      have h49 : va3q = some ⟨ob3q, 0, none⟩ := h39
      subst hv3 h49
      have HR3q := zh hG.1
      have HG3q := zh hG.2.1
      have HB3q := zh hG.2.2
      clear hG hrow3 hg3 hob3 h39
      go_wp2_with fail
      go_roundw
      case rel => exact ⟨k + 1, some ob3q, A ++ [y], by omega, by go_num, HR3q.out, HF2.out.symm, HG3q.out, HB3q.out⟩
      case measure => first | (simp [intOf]; done) | (simp [intOf]; omega)
    ·have HT:=zh (HO.out.trans (by rw [if_neg hqo]) : outN on T ⟨(q : Int) + 1, yr, yb, yk, yg⟩ = 0)
     obtain ⟨t, ht⟩ : ∃ t, t = (0 : Int) := ⟨_, rfl⟩
     rw [← ht] at HT
     have HT0 := zh ht
     have d1 : ((q : Int) < on) = False := eq_false (by omega)
     have d2 : (q < on) = False := eq_false hqo
     clear HO
     have hcs : (yg = true ∧ t ≤ 0) ∨ (yg = false) ∨ (yg = true ∧ 0 < t) := by cases yg <;> simp <;> omega
     rcases hcs with ⟨rfl, g1⟩ | rfl | ⟨rfl, g1⟩
     ·have HF2 : Hid ((L.take (k + 1)).filter (fun y => !swB on T y) = A):=zh (by rw [HFS.out, show swB on T ⟨(q : Int) + 1, yr, yb, yk, true⟩ = true by unfold swB; rw [HT.out]; simp [g1]]; simp)
      have t1 : decide (0 < t) = false := decide_eq_false (by omega)
      subst ht
      go_wp2_with fail
      go_roundw
      case rel => exact ⟨k + 1, ob9, A, by omega, by go_num, HROW.out, HF2.out.symm, HG.out, HB.out⟩
      case measure => first | (simp [intOf]; done) | (simp [intOf]; omega)
     ·have HF2 : Hid ((L.take (k + 1)).filter (fun y => !swB on T y) = A ++ [⟨(q : Int) + 1, yr, yb, yk, false⟩]):=zh (by rw [HFS.out, show swB on T ⟨(q : Int) + 1, yr, yb, yk, false⟩ = false by unfold swB; simp]; simp)
      subst ht
      go_upto_region 11 with fail
      obtain ⟨y, hy⟩ : ∃ y : TnE, y = ⟨(q : Int) + 1, yr, yb, yk, false⟩ := ⟨_, rfl⟩
      have b0 : wr.cell? ⟨b, o + k * 5, none⟩ = some (.int .i64 y.id) := by rw [hy]; exact c0
      have b1 : wr.cell? ⟨b, o + k * 5 + 1, none⟩ = some (.int .i64 y.rate) := by rw [hy]; exact c1
      have b2 : wr.cell? ⟨b, o + k * 5 + 2, none⟩ = some (.int .i64 y.burst) := by rw [hy]; exact c2
      have b3 : wr.cell? ⟨b, o + k * 5 + 3, none⟩ = some (.int .i64 y.bkt) := by rw [hy]; exact c3
      have b4 : wr.cell? ⟨b, o + k * 5 + 4, none⟩ = some (.bool y.gone) := by rw [hy]; exact c4
      rw [← hy] at HF2
      clear c0 c1 c2 c3 c4 hy
      go_wp2_with (at_builtin; refine wpList_append_row _ rfl (.tmp 46) (.tmp 51) 22 rfl 54 i0 _ 5 40 Try.underlying22 HI.out HZ0.out HZ1.out HZ2.out rfl (by decide) _ ob9 A.length (listL A) rfl (HROW.out.alloc _) ⟨wr.heap.size, 0, none⟩ 1 1 (y).cells rfl (by decide) rfl ?c1 ?c2 ?c3 ?c4 ?_)
      case c1 => first | exact one_tn wr y _ | (intro j u hj; simpa [TnE.cells] using hj)
      case c2 => exact tnc_one y
      case c3 => (unfold maxLen; omega)
      case c4 => omega
      intro v3q ob3q W3q hrow3 hg3 hob3
      have hG := grow2 (A := A) (y := y) HB.out HG.out (by first | exact hrow3 | simpa using hrow3) _ hg3 (by first | exact hob3 | (rcases hob3 with h | h; exact .inl (by rw [h]); exact .inr h))
      obtain ⟨va3q, vc3q, hv3, v13q, _, h39⟩ := hG.1.shape
      have h49 : va3q = some ⟨ob3q, 0, none⟩ := h39
      subst hv3 h49
      have HR3q := zh hG.1
      have HG3q := zh hG.2.1
      have HB3q := zh hG.2.2
      clear hG hrow3 hg3 hob3 h39
      go_wp2_with fail
      go_roundw
      case rel => exact ⟨k + 1, some ob3q, A ++ [y], by omega, by go_num, HR3q.out, HF2.out.symm, HG3q.out, HB3q.out⟩
      case measure => first | (simp [intOf]; done) | (simp [intOf]; omega)
     ·exact absurd ht (by omega)
   ·obtain rfl : k = n := by omega
    have hAY : A = Y := by rw [HYX.out, HA.out, HN.out, List.take_length]
    have HAY := zh hAY
    have HOKY : Hid (okL Y):=zh (by rw [HYX.out]; exact fun x hx => HOK.out x (List.mem_filter.1 hx).1)
    clear hAY
    go_wp2_with fail
    go_ret
    exact ⟨_, rfl, (by rw [← HAY.out]; exact (tvo_row (m := w.heap.size) HROW.out (by rw [HAY.out]; exact HOKY.out) HG.out).tv), HB.out⟩
end Go.Proofs.Ytfgnjpdlchimpaa
namespace Go.Proofs.Ytfgnjpdlchimpaa
open Go.RowKit
set_option linter.unusedSimpArgs false
set_option linter.unusedVariables false

set_option maxRecDepth 100000 in
set_option maxHeartbeats 8000000 in
theorem rswept_any (vt vl vs vd : Value) (s : StE) (w : World) (ht : TV w vt s.ts) (hl : LeV w vl s.ls) (hs : SeV w vs s.ss) (hd : DkV w vd s.ds) (hf : fewS s) (hz : sizeB s.ls) :
  Calls Try.prog 42 #[.agg #[.int .i64 s.term, .int .i64 s.stamp, .int .i64 s.next, vt, vl, vs, vd]] w fun e w' => ∃ vt', e = .returned (.agg #[.int .i64 s.term, .int .i64 s.stamp, .int .i64 s.next, vt', vl, vs, vd]) ∧ TV w' vt' (sweptS s).ts ∧ Below w.heap.size w w' := by
 have HFEW := zh hf
 obtain ⟨f1, f2, f3, f4⟩ := hf
 obtain ⟨ta, tn, tc, rfl, Htn, tn1, tn2⟩ := ht.sh
 obtain ⟨la, ln, lc, rfl, Hln, ln1, ln2⟩ := hl.sh
 obtain ⟨sa, sn, sc, rfl, Hsn, sn1, sn2⟩ := hs.sh
 obtain ⟨da, dn, dc, rfl, Hdn, dn1, dn2⟩ := hd.sh
 have HT0 := zh ht
 have HL0 := zh hl
 have HS0 := zh hs
 have HD0 := zh hd
 have HT := zh ht
 have HL := zh hl
 have HS := zh hs
 have HD := zh hd
 clear ht hl hs hd
 rw [← Hln.out] at f2
 rw [← Htn.out] at f1
 have HSV : Hid (∀ W, TV W (.slice ta tn tc) s.ts → LeV W (.slice la ln lc) s.ls → SeV W (.slice sa sn sc) s.ss → DkV W (.slice da dn dc) s.ds → SV W (.agg #[.int .i64 s.term, .int .i64 s.stamp, .int .i64 s.next, .slice ta tn tc, .slice la ln lc, .slice sa sn sc, .slice da dn dc]) s):=zh (fun W h1 h2 h3 h4 => ⟨_, _, _, _, rfl, h1, h2, h3, h4⟩)
 have HZB:=zh (fun t => outL_bd s.ls t hz)
 have HOF:=zh (fun t : Int => show -9223372036854775808 ≤ outL s.ls t ∧ outL s.ls t ≤ 9223372036854775807 by have := HZB.out t; rw [← Hln.out] at this; omega)
 have HOU:=zh (fun t W v (h : SV W v s) => rout_any v s t W h HFEW.out hz)
 clear hz
 have HB : Hid (Below w.heap.size w w):=zh (Below.refl _ _)
 go_enter Try.func42, Try.ntmps42
 go_upto_region 1 with fail
 obtain ⟨N, hN⟩ : ∃ n0, n0 = w.heap.size := ⟨_, rfl⟩
 have HLON : Hid (w.heap.size ≤ N):=zh (by have := HB.out.size; omega)
 obtain ⟨W1, hA0⟩ : ∃ W0, W0 = w.alloc (.cells #[.int .i64 s.term, .int .i64 s.stamp, .int .i64 s.next, .slice ta tn tc, .slice la ln lc, .slice sa sn sc, .slice da dn dc] 27) := ⟨_, rfl⟩
 have hB : Below w.heap.size w W1 := by rw [hA0]; exact (Below.refl _ _).alloc (Nat.le_refl _) _
 have hS0 : W1.heap.size = N + 1 := by rw [hA0]; simp [← hN]
 have HR:=zh (show Blk W1 N #[.int .i64 s.term, .int .i64 s.stamp, .int .i64 s.next, .slice ta tn tc, .slice la ln lc, .slice sa sn sc, .slice da dn dc] 27 by rw [hA0, hN]; exact blk_new _ _ _)
 replace HB:=zh (HB.out.trans (hB.mono HB.out.size))
 replace HT:=zh (HT0.out.below HB.out)
 replace HL:=zh (HL0.out.below HB.out)
 replace HS:=zh (HS0.out.below HB.out)
 replace HD:=zh (HD0.out.below HB.out)
 clear hB
 obtain ⟨W2, hA1⟩ : ∃ W0, W0 = W1.alloc (.cells #[.int .i64 0, .int .i64 0, .int .i64 0, .slice none 0 0, .slice none 0 0, .slice none 0 0, .slice none 0 0] 27) := ⟨_, rfl⟩
 have hB : Below W1.heap.size W1 W2 := by rw [hA1]; exact (Below.refl _ _).alloc (Nat.le_refl _) _
 have hS1 : W2.heap.size = N + 2 := by rw [hA1]; simp [hS0]
 have HZR:=zh (show Blk W2 (N + 1) #[.int .i64 0, .int .i64 0, .int .i64 0, .slice none 0 0, .slice none 0 0, .slice none 0 0, .slice none 0 0] 27 by rw [hA1, ← hS0]; exact blk_new _ _ _)
 replace HB:=zh (HB.out.trans (hB.mono HB.out.size))
 replace HT:=zh (HT0.out.below HB.out)
 replace HL:=zh (HL0.out.below HB.out)
 replace HS:=zh (HS0.out.below HB.out)
 replace HD:=zh (HD0.out.below HB.out)
 replace HR:=zh (HR.out.step hB)
 clear hB
 rw [← hN, ← hA0, ← hA1]
 clear hA1 hA0 hN hS0 hS1
 obtain ⟨M, hM⟩ : ∃ M, M = W2.heap.size := ⟨_, rfl⟩
 have HLOM : Hid (w.heap.size ≤ M):=zh (by rw [hM]; exact HB.out.size)
 have HFM0 : Hid (M ≤ W2.heap.size):=zh (by omega)
 have HMQ := zh hM
 clear hM
 go_wp2_with fail
 go_loopw [3, 4, 5] (fun o k _ wr => ∃ (i : Nat) (vo : Value) (ob : Option Nat), i ≤ 16 ∧ k = .int .i64 ((i : Int) + 1) ∧ o = vo ∧ InO M wr vo ob (outsL s.ls i) ∧ Below M W2 wr) (fun _ k _ _ => 17 - (intOf k).toNat)
 case atStart => exact ⟨0, _, _, Nat.zero_le _, rfl, rfl, ino_nil W2 M, Below.refl _ _⟩
 case round =>
  obtain ⟨i, vo, ob, hi, rfl, rfl, hor, hBM⟩ := hrel
  have HOR := zh hor
  have HBC := zh hBM
  have HFM : Hid (M ≤ wr.heap.size):=zh (Nat.le_trans HFM0.out hBM.size)
  have hB : Below W2.heap.size W2 wr := by rw [← HMQ.out]; exact hBM
  clear hor hBM
  replace HB:=zh (HB.out.trans (hB.mono HB.out.size))
  replace HT:=zh (HT0.out.below HB.out)
  replace HL:=zh (HL0.out.below HB.out)
  replace HS:=zh (HS0.out.below HB.out)
  replace HD:=zh (HD0.out.below HB.out)
  replace HR:=zh (HR.out.step hB)
  replace HZR:=zh (HZR.out.step hB)
  clear hB
  by_cases hlt : i < 16
  ·skip
   have b9 : (((i : Int) + 1) ≤ 16) = True := eq_true (by omega)
   have ww5 : IntKind.i64.wrap (((i : Int) + 1) + 1) = ((i : Int) + 1) + 1 := IntWalk.i64_in _ (by omega)
   have HX:=zh (HOF.out ((i : Int) + 1))
   have HSU:=zh (outsL_succ s.ls i)
   have HO1:=zh (fun W v (h : SV W v s) => HOU.out ((i : Int) + 1) W v h)
   obtain ⟨z, hz⟩ : ∃ z, z = outL s.ls ((i : Int) + 1) := ⟨_, rfl⟩
   rw [← hz] at HX HSU HO1
   clear hz
   have qR0 : wr.cell? ⟨N, 0, none⟩ = some (.int .i64 s.term) := cell_at HR.out 0
   have qR1 : wr.cell? ⟨N, 1, none⟩ = some (.int .i64 s.stamp) := cell_at HR.out 1
   have qR2 : wr.cell? ⟨N, 2, none⟩ = some (.int .i64 s.next) := cell_at HR.out 2
   have qR3 : wr.cell? ⟨N, 3, none⟩ = some (.slice ta tn tc) := cell_at HR.out 3
   have qR4 : wr.cell? ⟨N, 4, none⟩ = some (.slice la ln lc) := cell_at HR.out 4
   have qR5 : wr.cell? ⟨N, 5, none⟩ = some (.slice sa sn sc) := cell_at HR.out 5
   have qR6 : wr.cell? ⟨N, 6, none⟩ = some (.slice da dn dc) := cell_at HR.out 6
   have qRz : ∀ j, wr.frozen? ⟨N, j, none⟩ = false := fun j => free_at HR.out j
   have qRl : N < wr.heap.size := HR.out.lt
   go_wp2_with fail
   go_at_call 15
   go_fit (HO1.out _ _ (HSV.out _ HT.out HL.out HS.out HD.out))
   rintro e W3 ⟨rfl, hB⟩
   clear qR0 qR1 qR2 qR3 qR4 qR5 qR6 qRz qRl
   replace HB:=zh (HB.out.trans (hB.mono HB.out.size))
   replace HT:=zh (HT0.out.below HB.out)
   replace HL:=zh (HL0.out.below HB.out)
   replace HS:=zh (HS0.out.below HB.out)
   replace HD:=zh (HD0.out.below HB.out)
   replace HR:=zh (HR.out.step hB)
   replace HZR:=zh (HZR.out.step hB)
   replace HOR:=zh (HOR.out.step hB)
   replace HBC:=zh (HBC.out.trans (hB.mono HFM.out))
   replace HFM:=zh (Nat.le_trans HFM.out hB.size)
   clear hB
   have hA : Below W3.heap.size W3 (W3.alloc (.cells #[.int .i64 z] 3)) := (Below.refl _ _).alloc (Nat.le_refl _) _
   obtain ⟨v4, ob4, W4, hrun, hor, hBM0⟩ := in_app (ty := 45) (HOR.out.step hA) (inv_one (blk_new W3 _ _) HX.out) (Nat.le_trans HFM.out hA.size) (by rw [outsL_len]; simp only [List.length_cons, List.length_nil]; omega)
   have hBM : Below M W3 W4 := (hA.mono HFM.out).trans hBM0
   have HRUN := zh hrun
   clear hA hBM0
   go_wp2_with (at_builtin; refine Lib.wpList_append_run _ rfl (.tmp 13) (.tmp 15) 45 45 rfl _ _ rfl rfl _ _ HRUN.out ?_)
   replace HBC:=zh (HBC.out.trans hBM)
   replace HFM:=zh (Nat.le_trans HFM.out hBM.size)
   clear HOR
   have HOR := zh hor
   clear HRUN hrun hor hBM
   replace HOR:=zh (by have h := HOR.out; rw [← HSU.out] at h; exact h)
   go_wp2_with fail
   go_roundw
   case rel => exact ⟨i + 1, _, _, by omega, by go_num, rfl, HOR.out, HBC.out⟩
   case measure => first | (simp [intOf]; done) | (simp [intOf]; omega)
  ·skip
   obtain rfl : i = 16 := by omega
   have b9 : ((((16 : Nat) : Int) + 1) ≤ 16) = False := eq_false (by omega)
   have hv := HOR.out.v
   obtain ⟨oa, on, oc, rfl, Hon, on1, on2⟩ := hv.sh
   obtain ⟨ib, io, hI⟩ := hv.ints
   rw [outsL_len] at Hon
   obtain rfl : on = 16 := Hon.out
   have HSP:=zh (rsweep_any (.slice ta tn tc) s.ts oa 16 oc ib io _ wr HT.out hI (by rw [← Htn.out]; exact f1))
   rw [swL_outs] at HSP
   clear hv hI
   have qR0 : wr.cell? ⟨N, 0, none⟩ = some (.int .i64 s.term) := cell_at HR.out 0
   have qR1 : wr.cell? ⟨N, 1, none⟩ = some (.int .i64 s.stamp) := cell_at HR.out 1
   have qR2 : wr.cell? ⟨N, 2, none⟩ = some (.int .i64 s.next) := cell_at HR.out 2
   have qR3 : wr.cell? ⟨N, 3, none⟩ = some (.slice ta tn tc) := cell_at HR.out 3
   have qR4 : wr.cell? ⟨N, 4, none⟩ = some (.slice la ln lc) := cell_at HR.out 4
   have qR5 : wr.cell? ⟨N, 5, none⟩ = some (.slice sa sn sc) := cell_at HR.out 5
   have qR6 : wr.cell? ⟨N, 6, none⟩ = some (.slice da dn dc) := cell_at HR.out 6
   have qRz : ∀ j, wr.frozen? ⟨N, j, none⟩ = false := fun j => free_at HR.out j
   have qRl : N < wr.heap.size := HR.out.lt
   go_wp2_with fail
   go_at_call 78
   go_fit HSP.out
   rintro e W3 ⟨vq, rfl, hvq, hB⟩
   clear qR0 qR1 qR2 qR3 qR4 qR5 qR6 qRz qRl
   replace HB:=zh (HB.out.trans (hB.mono HB.out.size))
   replace HT:=zh (HT0.out.below HB.out)
   replace HL:=zh (HL0.out.below HB.out)
   replace HS:=zh (HS0.out.below HB.out)
   replace HD:=zh (HD0.out.below HB.out)
   replace HR:=zh (HR.out.step hB)
   replace HZR:=zh (HZR.out.step hB)
   clear hB
   obtain ⟨b1, m1, k1, rfl, Hb1, x1, y1⟩ := hvq.sh
   have HQ := zh hvq
   have HQ0 := zh hvq
   clear hvq
   have qR0 : W3.cell? ⟨N, 0, none⟩ = some (.int .i64 s.term) := cell_at HR.out 0
   have qR1 : W3.cell? ⟨N, 1, none⟩ = some (.int .i64 s.stamp) := cell_at HR.out 1
   have qR2 : W3.cell? ⟨N, 2, none⟩ = some (.int .i64 s.next) := cell_at HR.out 2
   have qR3 : W3.cell? ⟨N, 3, none⟩ = some (.slice ta tn tc) := cell_at HR.out 3
   have qR4 : W3.cell? ⟨N, 4, none⟩ = some (.slice la ln lc) := cell_at HR.out 4
   have qR5 : W3.cell? ⟨N, 5, none⟩ = some (.slice sa sn sc) := cell_at HR.out 5
   have qR6 : W3.cell? ⟨N, 6, none⟩ = some (.slice da dn dc) := cell_at HR.out 6
   have qRz : ∀ j, W3.frozen? ⟨N, j, none⟩ = false := fun j => free_at HR.out j
   have qRl : N < W3.heap.size := HR.out.lt
   have qZR0 : W3.cell? ⟨(N + 1), 0, none⟩ = some (.int .i64 0) := cell_at HZR.out 0
   have qZR1 : W3.cell? ⟨(N + 1), 1, none⟩ = some (.int .i64 0) := cell_at HZR.out 1
   have qZR2 : W3.cell? ⟨(N + 1), 2, none⟩ = some (.int .i64 0) := cell_at HZR.out 2
   have qZR3 : W3.cell? ⟨(N + 1), 3, none⟩ = some (.slice none 0 0) := cell_at HZR.out 3
   have qZR4 : W3.cell? ⟨(N + 1), 4, none⟩ = some (.slice none 0 0) := cell_at HZR.out 4
   have qZR5 : W3.cell? ⟨(N + 1), 5, none⟩ = some (.slice none 0 0) := cell_at HZR.out 5
   have qZR6 : W3.cell? ⟨(N + 1), 6, none⟩ = some (.slice none 0 0) := cell_at HZR.out 6
   have qZRz : ∀ j, W3.frozen? ⟨(N + 1), j, none⟩ = false := fun j => free_at HZR.out j
   have qZRl : (N + 1) < W3.heap.size := HZR.out.lt
   go_upto_region 8 with fail
   clear qR0 qR1 qR2 qR3 qR4 qR5 qR6 qRz qRl qZR0 qZR1 qZR2 qZR3 qZR4 qZR5 qZR6 qZRz qZRl
   obtain ⟨W4, hWS⟩ : ∃ WS, WS = W3.setCell ⟨N, 3, none⟩ (.slice b1 m1 k1) := ⟨_, rfl⟩
   rw [← hWS]
   have hfS : Fr [N] W3 W4 := by rw [hWS]; exact (Fr.refl _ _).setCell _ (.inl (by simp)) _
   have hkS : Blk W4 N #[.int .i64 s.term, .int .i64 s.stamp, .int .i64 s.next, .slice b1 m1 k1, .slice la ln lc, .slice sa sn sc, .slice da dn dc] 27 := by rw [hWS]; exact HR.out.set 3 _
   replace HB:=zh (HB.out.trans (hfS.below HB.out.size (by have := HLON.out; simp; try omega)))
   replace HT:=zh (HT0.out.below HB.out)
   replace HL:=zh (HL0.out.below HB.out)
   replace HS:=zh (HS0.out.below HB.out)
   replace HD:=zh (HD0.out.below HB.out)
   replace HZR:=zh (show Blk W4 (N + 1) #[.int .i64 0, .int .i64 0, .int .i64 0, .slice none 0 0, .slice none 0 0, .slice none 0 0, .slice none 0 0] 27 from (hfS.block _ HZR.out.lt (by simp; try omega)).trans HZR.out)
   replace HQ:=zh (HQ.out.fr HR.out hfS)
   replace HR:=zh (show Blk W4 N #[.int .i64 s.term, .int .i64 s.stamp, .int .i64 s.next, .slice b1 m1 k1, .slice la ln lc, .slice sa sn sc, .slice da dn dc] 27 from hkS)
   clear hWS hfS hkS
   have qR0 : W4.cell? ⟨N, 0, none⟩ = some (.int .i64 s.term) := cell_at HR.out 0
   have qR1 : W4.cell? ⟨N, 1, none⟩ = some (.int .i64 s.stamp) := cell_at HR.out 1
   have qR2 : W4.cell? ⟨N, 2, none⟩ = some (.int .i64 s.next) := cell_at HR.out 2
   have qR3 : W4.cell? ⟨N, 3, none⟩ = some (.slice b1 m1 k1) := cell_at HR.out 3
   have qR4 : W4.cell? ⟨N, 4, none⟩ = some (.slice la ln lc) := cell_at HR.out 4
   have qR5 : W4.cell? ⟨N, 5, none⟩ = some (.slice sa sn sc) := cell_at HR.out 5
   have qR6 : W4.cell? ⟨N, 6, none⟩ = some (.slice da dn dc) := cell_at HR.out 6
   have qRz : ∀ j, W4.frozen? ⟨N, j, none⟩ = false := fun j => free_at HR.out j
   have qRl : N < W4.heap.size := HR.out.lt
   have qZR0 : W4.cell? ⟨(N + 1), 0, none⟩ = some (.int .i64 0) := cell_at HZR.out 0
   have qZR1 : W4.cell? ⟨(N + 1), 1, none⟩ = some (.int .i64 0) := cell_at HZR.out 1
   have qZR2 : W4.cell? ⟨(N + 1), 2, none⟩ = some (.int .i64 0) := cell_at HZR.out 2
   have qZR3 : W4.cell? ⟨(N + 1), 3, none⟩ = some (.slice none 0 0) := cell_at HZR.out 3
   have qZR4 : W4.cell? ⟨(N + 1), 4, none⟩ = some (.slice none 0 0) := cell_at HZR.out 4
   have qZR5 : W4.cell? ⟨(N + 1), 5, none⟩ = some (.slice none 0 0) := cell_at HZR.out 5
   have qZR6 : W4.cell? ⟨(N + 1), 6, none⟩ = some (.slice none 0 0) := cell_at HZR.out 6
   have qZRz : ∀ j, W4.frozen? ⟨(N + 1), j, none⟩ = false := fun j => free_at HZR.out j
   have qZRl : (N + 1) < W4.heap.size := HZR.out.lt
   go_wp2_with fail
   clear qR0 qR1 qR2 qR3 qR4 qR5 qR6 qRz qRl qZR0 qZR1 qZR2 qZR3 qZR4 qZR5 qZR6 qZRz qZRl
   obtain ⟨LS, hLS⟩ : ∃ L : List Value, L = [.int .i64 s.term, .int .i64 s.stamp, .int .i64 s.next, .slice b1 m1 k1, .slice la ln lc, .slice sa sn sc, .slice da dn dc] := ⟨_, rfl⟩
   obtain ⟨W5, hWS⟩ : ∃ WS, WS = W4.setCells (N + 1) 0 LS := ⟨_, rfl⟩
   have hch := hWS
   rw [hLS] at hch
   simp only [World.setCells, Nat.zero_add, Nat.reduceAdd] at hch
   rw [← hch]
   clear hch
   have hkS := stC_blk HZR.out LS (by rw [hLS]; rfl)
   have hfS := stC_fr (N + 1) LS 0 W4
   rw [← hWS] at hkS hfS
   rw [hLS] at hkS
   replace HB:=zh (HB.out.trans (hfS.below HB.out.size (by have := HLON.out; simp; try omega)))
   replace HT:=zh (HT0.out.below HB.out)
   replace HL:=zh (HL0.out.below HB.out)
   replace HS:=zh (HS0.out.below HB.out)
   replace HD:=zh (HD0.out.below HB.out)
   replace HR:=zh (show Blk W5 N #[.int .i64 s.term, .int .i64 s.stamp, .int .i64 s.next, .slice b1 m1 k1, .slice la ln lc, .slice sa sn sc, .slice da dn dc] 27 from (hfS.block _ HR.out.lt (by simp; try omega)).trans HR.out)
   replace HQ:=zh (HQ.out.fr HZR.out hfS)
   replace HZR:=zh (show Blk W5 (N + 1) #[.int .i64 s.term, .int .i64 s.stamp, .int .i64 s.next, .slice b1 m1 k1, .slice la ln lc, .slice sa sn sc, .slice da dn dc] 27 from hkS)
   clear hWS hLS hkS hfS
   have qZR0 : W5.cell? ⟨(N + 1), 0, none⟩ = some (.int .i64 s.term) := cell_at HZR.out 0
   have qZR1 : W5.cell? ⟨(N + 1), 1, none⟩ = some (.int .i64 s.stamp) := cell_at HZR.out 1
   have qZR2 : W5.cell? ⟨(N + 1), 2, none⟩ = some (.int .i64 s.next) := cell_at HZR.out 2
   have qZR3 : W5.cell? ⟨(N + 1), 3, none⟩ = some (.slice b1 m1 k1) := cell_at HZR.out 3
   have qZR4 : W5.cell? ⟨(N + 1), 4, none⟩ = some (.slice la ln lc) := cell_at HZR.out 4
   have qZR5 : W5.cell? ⟨(N + 1), 5, none⟩ = some (.slice sa sn sc) := cell_at HZR.out 5
   have qZR6 : W5.cell? ⟨(N + 1), 6, none⟩ = some (.slice da dn dc) := cell_at HZR.out 6
   have qZRz : ∀ j, W5.frozen? ⟨(N + 1), j, none⟩ = false := fun j => free_at HZR.out j
   have qZRl : (N + 1) < W5.heap.size := HZR.out.lt
   exact bodyPost_ret (v := .agg #[.int .i64 s.term, .int .i64 s.stamp, .int .i64 s.next, .slice b1 m1 k1, .slice la ln lc, .slice sa sn sc, .slice da dn dc]) (by simp [results, Try.results42, go_sem, qZR0, qZR1, qZR2, qZR3, qZR4, qZR5, qZR6]) rfl ⟨_, rfl, HQ.out, HB.out⟩
end Go.Proofs.Ytfgnjpdlchimpaa
namespace Go.Proofs.Ytfgnjpdlchimpaa
open Go.RowKit
set_option linter.unusedSimpArgs false
set_option linter.unusedVariables false

set_option maxRecDepth 100000 in
set_option maxHeartbeats 8000000 in
theorem rcopyO_any (v : Value) (s : StE) (w : World) (h : SV w v s) (hf : fewS s) :
  Calls Try.prog 40 #[v] w fun e w' => ∃ v', e = .returned v' ∧ SVO w.heap.size w' v' s ∧ Below w.heap.size w w' := by
 obtain ⟨f1, f2, f3, f4⟩ := hf
 obtain ⟨vt, vl, vs, vd, rfl, ht, hl, hs, hd⟩ := h
 obtain ⟨ta, tn, tc, rfl, Htn, tn1, tn2⟩ := ht.sh
 obtain ⟨la, ln, lc, rfl, Hln, ln1, ln2⟩ := hl.sh
 obtain ⟨sa, sn, sc, rfl, Hsn, sn1, sn2⟩ := hs.sh
 obtain ⟨da, dn, dc, rfl, Hdn, dn1, dn2⟩ := hd.sh
 have HT0 := zh ht
 have HL0 := zh hl
 have HS0 := zh hs
 have HD0 := zh hd
 have HT := zh ht
 have HL := zh hl
 have HS := zh hs
 have HD := zh hd
 clear ht hl hs hd
 have HB : Hid (Below w.heap.size w w):=zh (Below.refl _ _)
 go_enter Try.func40, Try.ntmps40
 go_upto_region 1 with fail
 obtain ⟨N, hN⟩ : ∃ n0, n0 = w.heap.size := ⟨_, rfl⟩
 have HLON : Hid (w.heap.size ≤ N):=zh (by have := HB.out.size; omega)
 obtain ⟨W1, hA0⟩ : ∃ W0, W0 = w.alloc (.cells #[.int .i64 s.term, .int .i64 s.stamp, .int .i64 s.next, .slice ta tn tc, .slice la ln lc, .slice sa sn sc, .slice da dn dc] 27) := ⟨_, rfl⟩
 have hB : Below w.heap.size w W1 := by rw [hA0]; exact (Below.refl _ _).alloc (Nat.le_refl _) _
 have hS0 : W1.heap.size = N + 1 := by rw [hA0]; simp [← hN]
 have HR:=zh (show Blk W1 N #[.int .i64 s.term, .int .i64 s.stamp, .int .i64 s.next, .slice ta tn tc, .slice la ln lc, .slice sa sn sc, .slice da dn dc] 27 by rw [hA0, hN]; exact blk_new _ _ _)
 replace HB:=zh (HB.out.trans (hB.mono HB.out.size))
 replace HT:=zh (HT0.out.below HB.out)
 replace HL:=zh (HL0.out.below HB.out)
 replace HS:=zh (HS0.out.below HB.out)
 replace HD:=zh (HD0.out.below HB.out)
 clear hB
 obtain ⟨W2, hA1⟩ : ∃ W0, W0 = W1.alloc (.cells #[.int .i64 0, .int .i64 0, .int .i64 0, .slice none 0 0, .slice none 0 0, .slice none 0 0, .slice none 0 0] 27) := ⟨_, rfl⟩
 have hB : Below W1.heap.size W1 W2 := by rw [hA1]; exact (Below.refl _ _).alloc (Nat.le_refl _) _
 have hS1 : W2.heap.size = N + 2 := by rw [hA1]; simp [hS0]
 have HK1:=zh (show Blk W2 (N + 1) #[.int .i64 0, .int .i64 0, .int .i64 0, .slice none 0 0, .slice none 0 0, .slice none 0 0, .slice none 0 0] 27 by rw [hA1, ← hS0]; exact blk_new _ _ _)
 replace HB:=zh (HB.out.trans (hB.mono HB.out.size))
 replace HT:=zh (HT0.out.below HB.out)
 replace HL:=zh (HL0.out.below HB.out)
 replace HS:=zh (HS0.out.below HB.out)
 replace HD:=zh (HD0.out.below HB.out)
 replace HR:=zh (HR.out.step hB)
 clear hB
 rw [← hN, ← hA0, ← hA1]
 clear hA1 hA0 hN hS0 hS1
 have qR0 : W2.cell? ⟨N, 0, none⟩ = some (.int .i64 s.term) := cell_at HR.out 0
 have qR1 : W2.cell? ⟨N, 1, none⟩ = some (.int .i64 s.stamp) := cell_at HR.out 1
 have qR2 : W2.cell? ⟨N, 2, none⟩ = some (.int .i64 s.next) := cell_at HR.out 2
 have qR3 : W2.cell? ⟨N, 3, none⟩ = some (.slice ta tn tc) := cell_at HR.out 3
 have qR4 : W2.cell? ⟨N, 4, none⟩ = some (.slice la ln lc) := cell_at HR.out 4
 have qR5 : W2.cell? ⟨N, 5, none⟩ = some (.slice sa sn sc) := cell_at HR.out 5
 have qR6 : W2.cell? ⟨N, 6, none⟩ = some (.slice da dn dc) := cell_at HR.out 6
 have qRz : ∀ j, W2.frozen? ⟨N, j, none⟩ = false := fun j => free_at HR.out j
 have qRl : N < W2.heap.size := HR.out.lt
 go_upto_region 6 with fail
 clear qR0 qR1 qR2 qR3 qR4 qR5 qR6 qRz qRl
 obtain ⟨M, hM⟩ : ∃ n0, n0 = W2.heap.size := ⟨_, rfl⟩
 have HXMHR : Hid (N < M):=zh (by rw [hM]; exact HR.out.lt)
 have HXMHK1 : Hid ((N + 1) < M):=zh (by rw [hM]; exact HK1.out.lt)
 have HLOM : Hid (w.heap.size ≤ M):=zh (by have := HB.out.size; omega)
 obtain ⟨W3, hA0⟩ : ∃ W0, W0 = W2.alloc (.cells #[.int .i64 s.term, .int .i64 s.stamp, .int .i64 s.next, .slice none 0 0, .slice none 0 0, .slice none 0 0, .slice none 0 0] 27) := ⟨_, rfl⟩
 have hB : Below W2.heap.size W2 W3 := by rw [hA0]; exact (Below.refl _ _).alloc (Nat.le_refl _) _
 have hS0 : W3.heap.size = M + 1 := by rw [hA0]; simp [← hM]
 have HM:=zh (show Blk W3 M #[.int .i64 s.term, .int .i64 s.stamp, .int .i64 s.next, .slice none 0 0, .slice none 0 0, .slice none 0 0, .slice none 0 0] 27 by rw [hA0, hM]; exact blk_new _ _ _)
 replace HB:=zh (HB.out.trans (hB.mono HB.out.size))
 replace HT:=zh (HT0.out.below HB.out)
 replace HL:=zh (HL0.out.below HB.out)
 replace HS:=zh (HS0.out.below HB.out)
 replace HD:=zh (HD0.out.below HB.out)
 replace HR:=zh (HR.out.step hB)
 replace HK1:=zh (HK1.out.step hB)
 clear hB
 rw [← hM, ← hA0]
 clear hA0 hM hS0
 have qR0 : W3.cell? ⟨N, 0, none⟩ = some (.int .i64 s.term) := cell_at HR.out 0
 have qR1 : W3.cell? ⟨N, 1, none⟩ = some (.int .i64 s.stamp) := cell_at HR.out 1
 have qR2 : W3.cell? ⟨N, 2, none⟩ = some (.int .i64 s.next) := cell_at HR.out 2
 have qR3 : W3.cell? ⟨N, 3, none⟩ = some (.slice ta tn tc) := cell_at HR.out 3
 have qR4 : W3.cell? ⟨N, 4, none⟩ = some (.slice la ln lc) := cell_at HR.out 4
 have qR5 : W3.cell? ⟨N, 5, none⟩ = some (.slice sa sn sc) := cell_at HR.out 5
 have qR6 : W3.cell? ⟨N, 6, none⟩ = some (.slice da dn dc) := cell_at HR.out 6
 have qRz : ∀ j, W3.frozen? ⟨N, j, none⟩ = false := fun j => free_at HR.out j
 have qRl : N < W3.heap.size := HR.out.lt
 have qM0 : W3.cell? ⟨M, 0, none⟩ = some (.int .i64 s.term) := cell_at HM.out 0
 have qM1 : W3.cell? ⟨M, 1, none⟩ = some (.int .i64 s.stamp) := cell_at HM.out 1
 have qM2 : W3.cell? ⟨M, 2, none⟩ = some (.int .i64 s.next) := cell_at HM.out 2
 have qM3 : W3.cell? ⟨M, 3, none⟩ = some (.slice none 0 0) := cell_at HM.out 3
 have qM4 : W3.cell? ⟨M, 4, none⟩ = some (.slice none 0 0) := cell_at HM.out 4
 have qM5 : W3.cell? ⟨M, 5, none⟩ = some (.slice none 0 0) := cell_at HM.out 5
 have qM6 : W3.cell? ⟨M, 6, none⟩ = some (.slice none 0 0) := cell_at HM.out 6
 have qMz : ∀ j, W3.frozen? ⟨M, j, none⟩ = false := fun j => free_at HM.out j
 have qMl : M < W3.heap.size := HM.out.lt
 have HL1 : Hid (w.heap.size ≤ W3.heap.size) := zh HB.out.size
 obtain ⟨v1, ob1, W4, hrun, hor, hBM⟩ := tn_app (ty := 22) (tn9o_nil W3 _) (tv_tn HT.out) (Nat.le_refl _) (by simp; omega)
 rw [List.nil_append] at hor
 obtain ⟨b1, m1, k1, rfl, Hb1, x1, y1⟩ := hor.v.sh
 have HRUN := zh hrun
 have p0 : W4.cell? ⟨M, 3, none⟩ = some (.slice none 0 0) := cell_at (HM.out.step hBM) 3
 have pz : ∀ j, W4.frozen? ⟨M, j, none⟩ = false := fun j => free_at (HM.out.step hBM) j
 have pl : M < W4.heap.size := (HM.out.step hBM).lt
 have FO1:=zh (show M < _ from HM.out.lt)
 have FO1k:=zh (show N + 1 < _ from HK1.out.lt)
 have O1 := zh hor
 go_upto_region 7 with (at_builtin; refine Lib.wpList_append_run _ rfl (.tmp 10) (.tmp 12) 22 22 rfl _ _ rfl rfl _ _ HRUN.out ?_)
 clear p0 pz pl
 clear qR0 qR1 qR2 qR3 qR4 qR5 qR6 qRz qRl qM0 qM1 qM2 qM3 qM4 qM5 qM6 qMz qMl
 replace HB:=zh (HB.out.trans (hBM.mono HB.out.size))
 replace HT:=zh (HT0.out.below HB.out)
 replace HL:=zh (HL0.out.below HB.out)
 replace HS:=zh (HS0.out.below HB.out)
 replace HD:=zh (HD0.out.below HB.out)
 replace HR:=zh (HR.out.step hBM)
 replace HK1:=zh (HK1.out.step hBM)
 replace HM:=zh (HM.out.step hBM)
 clear HRUN hrun hor hBM
 obtain ⟨W5, hWS⟩ : ∃ WS, WS = W4.setCell ⟨M, 3, none⟩ (.slice b1 m1 k1) := ⟨_, rfl⟩
 rw [← hWS]
 have hfS : Fr [M] W4 W5 := by rw [hWS]; exact (Fr.refl _ _).setCell _ (.inl (by simp)) _
 have hkS : Blk W5 M #[.int .i64 s.term, .int .i64 s.stamp, .int .i64 s.next, .slice b1 m1 k1, .slice none 0 0, .slice none 0 0, .slice none 0 0] 27 := by rw [hWS]; exact HM.out.set 3 _
 replace HB:=zh (HB.out.trans (hfS.below HB.out.size (by have := HLOM.out; simp; try omega)))
 replace HT:=zh (HT0.out.below HB.out)
 replace HL:=zh (HL0.out.below HB.out)
 replace HS:=zh (HS0.out.below HB.out)
 replace HD:=zh (HD0.out.below HB.out)
 replace HR:=zh (show Blk W5 N #[.int .i64 s.term, .int .i64 s.stamp, .int .i64 s.next, .slice ta tn tc, .slice la ln lc, .slice sa sn sc, .slice da dn dc] 27 from (hfS.block _ HR.out.lt (by have hx0 := HXMHR.out; have hx1 := HXMHK1.out; simp; try omega)).trans HR.out)
 replace HK1:=zh (show Blk W5 (N + 1) #[.int .i64 0, .int .i64 0, .int .i64 0, .slice none 0 0, .slice none 0 0, .slice none 0 0, .slice none 0 0] 27 from (hfS.block _ HK1.out.lt (by have hx0 := HXMHR.out; have hx1 := HXMHK1.out; simp; try omega)).trans HK1.out)
 replace O1:=zh (O1.out.fr hfS (by have := FO1.out; omega))
 replace HM:=zh (show Blk W5 M #[.int .i64 s.term, .int .i64 s.stamp, .int .i64 s.next, .slice b1 m1 k1, .slice none 0 0, .slice none 0 0, .slice none 0 0] 27 from hkS)
 clear hWS hfS hkS
 have qR0 : W5.cell? ⟨N, 0, none⟩ = some (.int .i64 s.term) := cell_at HR.out 0
 have qR1 : W5.cell? ⟨N, 1, none⟩ = some (.int .i64 s.stamp) := cell_at HR.out 1
 have qR2 : W5.cell? ⟨N, 2, none⟩ = some (.int .i64 s.next) := cell_at HR.out 2
 have qR3 : W5.cell? ⟨N, 3, none⟩ = some (.slice ta tn tc) := cell_at HR.out 3
 have qR4 : W5.cell? ⟨N, 4, none⟩ = some (.slice la ln lc) := cell_at HR.out 4
 have qR5 : W5.cell? ⟨N, 5, none⟩ = some (.slice sa sn sc) := cell_at HR.out 5
 have qR6 : W5.cell? ⟨N, 6, none⟩ = some (.slice da dn dc) := cell_at HR.out 6
 have qRz : ∀ j, W5.frozen? ⟨N, j, none⟩ = false := fun j => free_at HR.out j
 have qRl : N < W5.heap.size := HR.out.lt
 have qM0 : W5.cell? ⟨M, 0, none⟩ = some (.int .i64 s.term) := cell_at HM.out 0
 have qM1 : W5.cell? ⟨M, 1, none⟩ = some (.int .i64 s.stamp) := cell_at HM.out 1
 have qM2 : W5.cell? ⟨M, 2, none⟩ = some (.int .i64 s.next) := cell_at HM.out 2
 have qM3 : W5.cell? ⟨M, 3, none⟩ = some (.slice b1 m1 k1) := cell_at HM.out 3
 have qM4 : W5.cell? ⟨M, 4, none⟩ = some (.slice none 0 0) := cell_at HM.out 4
 have qM5 : W5.cell? ⟨M, 5, none⟩ = some (.slice none 0 0) := cell_at HM.out 5
 have qM6 : W5.cell? ⟨M, 6, none⟩ = some (.slice none 0 0) := cell_at HM.out 6
 have qMz : ∀ j, W5.frozen? ⟨M, j, none⟩ = false := fun j => free_at HM.out j
 have qMl : M < W5.heap.size := HM.out.lt
 have HL2 : Hid (w.heap.size ≤ W5.heap.size) := zh HB.out.size
 obtain ⟨v2, ob2, W6, hrun, hor, hBM⟩ := le_app (ty := 23) (leo_nil W5 _) HL.out (Nat.le_refl _) (by simp; omega)
 rw [List.nil_append] at hor
 obtain ⟨b2, m2, k2, rfl, Hb2, x2, y2⟩ := hor.v.sh
 have HRUN := zh hrun
 have p0 : W6.cell? ⟨M, 4, none⟩ = some (.slice none 0 0) := cell_at (HM.out.step hBM) 4
 have pz : ∀ j, W6.frozen? ⟨M, j, none⟩ = false := fun j => free_at (HM.out.step hBM) j
 have pl : M < W6.heap.size := (HM.out.step hBM).lt
 have FO2:=zh (show M < _ from HM.out.lt)
 have FO2k:=zh (show N + 1 < _ from HK1.out.lt)
 have O2 := zh hor
 go_upto_region 8 with (at_builtin; refine Lib.wpList_append_run _ rfl (.tmp 16) (.tmp 18) 23 23 rfl _ _ rfl rfl _ _ HRUN.out ?_)
 clear p0 pz pl
 clear qR0 qR1 qR2 qR3 qR4 qR5 qR6 qRz qRl qM0 qM1 qM2 qM3 qM4 qM5 qM6 qMz qMl
 replace HB:=zh (HB.out.trans (hBM.mono HB.out.size))
 replace HT:=zh (HT0.out.below HB.out)
 replace HL:=zh (HL0.out.below HB.out)
 replace HS:=zh (HS0.out.below HB.out)
 replace HD:=zh (HD0.out.below HB.out)
 replace HR:=zh (HR.out.step hBM)
 replace HK1:=zh (HK1.out.step hBM)
 replace HM:=zh (HM.out.step hBM)
 replace O1:=zh (O1.out.step hBM)
 clear HRUN hrun hor hBM
 obtain ⟨W7, hWS⟩ : ∃ WS, WS = W6.setCell ⟨M, 4, none⟩ (.slice b2 m2 k2) := ⟨_, rfl⟩
 rw [← hWS]
 have hfS : Fr [M] W6 W7 := by rw [hWS]; exact (Fr.refl _ _).setCell _ (.inl (by simp)) _
 have hkS : Blk W7 M #[.int .i64 s.term, .int .i64 s.stamp, .int .i64 s.next, .slice b1 m1 k1, .slice b2 m2 k2, .slice none 0 0, .slice none 0 0] 27 := by rw [hWS]; exact HM.out.set 4 _
 replace HB:=zh (HB.out.trans (hfS.below HB.out.size (by have := HLOM.out; simp; try omega)))
 replace HT:=zh (HT0.out.below HB.out)
 replace HL:=zh (HL0.out.below HB.out)
 replace HS:=zh (HS0.out.below HB.out)
 replace HD:=zh (HD0.out.below HB.out)
 replace HR:=zh (show Blk W7 N #[.int .i64 s.term, .int .i64 s.stamp, .int .i64 s.next, .slice ta tn tc, .slice la ln lc, .slice sa sn sc, .slice da dn dc] 27 from (hfS.block _ HR.out.lt (by have hx0 := HXMHR.out; have hx1 := HXMHK1.out; simp; try omega)).trans HR.out)
 replace HK1:=zh (show Blk W7 (N + 1) #[.int .i64 0, .int .i64 0, .int .i64 0, .slice none 0 0, .slice none 0 0, .slice none 0 0, .slice none 0 0] 27 from (hfS.block _ HK1.out.lt (by have hx0 := HXMHR.out; have hx1 := HXMHK1.out; simp; try omega)).trans HK1.out)
 replace O1:=zh (O1.out.fr hfS (by have := FO1.out; omega))
 replace O2:=zh (O2.out.fr hfS (by have := FO2.out; omega))
 replace HM:=zh (show Blk W7 M #[.int .i64 s.term, .int .i64 s.stamp, .int .i64 s.next, .slice b1 m1 k1, .slice b2 m2 k2, .slice none 0 0, .slice none 0 0] 27 from hkS)
 clear hWS hfS hkS
 have qR0 : W7.cell? ⟨N, 0, none⟩ = some (.int .i64 s.term) := cell_at HR.out 0
 have qR1 : W7.cell? ⟨N, 1, none⟩ = some (.int .i64 s.stamp) := cell_at HR.out 1
 have qR2 : W7.cell? ⟨N, 2, none⟩ = some (.int .i64 s.next) := cell_at HR.out 2
 have qR3 : W7.cell? ⟨N, 3, none⟩ = some (.slice ta tn tc) := cell_at HR.out 3
 have qR4 : W7.cell? ⟨N, 4, none⟩ = some (.slice la ln lc) := cell_at HR.out 4
 have qR5 : W7.cell? ⟨N, 5, none⟩ = some (.slice sa sn sc) := cell_at HR.out 5
 have qR6 : W7.cell? ⟨N, 6, none⟩ = some (.slice da dn dc) := cell_at HR.out 6
 have qRz : ∀ j, W7.frozen? ⟨N, j, none⟩ = false := fun j => free_at HR.out j
 have qRl : N < W7.heap.size := HR.out.lt
 have qM0 : W7.cell? ⟨M, 0, none⟩ = some (.int .i64 s.term) := cell_at HM.out 0
 have qM1 : W7.cell? ⟨M, 1, none⟩ = some (.int .i64 s.stamp) := cell_at HM.out 1
 have qM2 : W7.cell? ⟨M, 2, none⟩ = some (.int .i64 s.next) := cell_at HM.out 2
 have qM3 : W7.cell? ⟨M, 3, none⟩ = some (.slice b1 m1 k1) := cell_at HM.out 3
 have qM4 : W7.cell? ⟨M, 4, none⟩ = some (.slice b2 m2 k2) := cell_at HM.out 4
 have qM5 : W7.cell? ⟨M, 5, none⟩ = some (.slice none 0 0) := cell_at HM.out 5
 have qM6 : W7.cell? ⟨M, 6, none⟩ = some (.slice none 0 0) := cell_at HM.out 6
 have qMz : ∀ j, W7.frozen? ⟨M, j, none⟩ = false := fun j => free_at HM.out j
 have qMl : M < W7.heap.size := HM.out.lt
 have HL3 : Hid (w.heap.size ≤ W7.heap.size) := zh HB.out.size
 obtain ⟨v3, ob3, W8, hrun, hor, hBM⟩ := se_app (ty := 24) (seo_nil W7 _) HS.out (Nat.le_refl _) (by simp; omega)
 rw [List.nil_append] at hor
 obtain ⟨b3, m3, k3, rfl, Hb3, x3, y3⟩ := hor.v.sh
 have HRUN := zh hrun
 have p0 : W8.cell? ⟨M, 5, none⟩ = some (.slice none 0 0) := cell_at (HM.out.step hBM) 5
 have pz : ∀ j, W8.frozen? ⟨M, j, none⟩ = false := fun j => free_at (HM.out.step hBM) j
 have pl : M < W8.heap.size := (HM.out.step hBM).lt
 have FO3:=zh (show M < _ from HM.out.lt)
 have FO3k:=zh (show N + 1 < _ from HK1.out.lt)
 have O3 := zh hor
 go_upto_region 9 with (at_builtin; refine Lib.wpList_append_run _ rfl (.tmp 22) (.tmp 24) 24 24 rfl _ _ rfl rfl _ _ HRUN.out ?_)
 clear p0 pz pl
 clear qR0 qR1 qR2 qR3 qR4 qR5 qR6 qRz qRl qM0 qM1 qM2 qM3 qM4 qM5 qM6 qMz qMl
 replace HB:=zh (HB.out.trans (hBM.mono HB.out.size))
 replace HT:=zh (HT0.out.below HB.out)
 replace HL:=zh (HL0.out.below HB.out)
 replace HS:=zh (HS0.out.below HB.out)
 replace HD:=zh (HD0.out.below HB.out)
 replace HR:=zh (HR.out.step hBM)
 replace HK1:=zh (HK1.out.step hBM)
 replace HM:=zh (HM.out.step hBM)
 replace O1:=zh (O1.out.step hBM)
 replace O2:=zh (O2.out.step hBM)
 clear HRUN hrun hor hBM
 obtain ⟨W9, hWS⟩ : ∃ WS, WS = W8.setCell ⟨M, 5, none⟩ (.slice b3 m3 k3) := ⟨_, rfl⟩
 rw [← hWS]
 have hfS : Fr [M] W8 W9 := by rw [hWS]; exact (Fr.refl _ _).setCell _ (.inl (by simp)) _
 have hkS : Blk W9 M #[.int .i64 s.term, .int .i64 s.stamp, .int .i64 s.next, .slice b1 m1 k1, .slice b2 m2 k2, .slice b3 m3 k3, .slice none 0 0] 27 := by rw [hWS]; exact HM.out.set 5 _
 replace HB:=zh (HB.out.trans (hfS.below HB.out.size (by have := HLOM.out; simp; try omega)))
 replace HT:=zh (HT0.out.below HB.out)
 replace HL:=zh (HL0.out.below HB.out)
 replace HS:=zh (HS0.out.below HB.out)
 replace HD:=zh (HD0.out.below HB.out)
 replace HR:=zh (show Blk W9 N #[.int .i64 s.term, .int .i64 s.stamp, .int .i64 s.next, .slice ta tn tc, .slice la ln lc, .slice sa sn sc, .slice da dn dc] 27 from (hfS.block _ HR.out.lt (by have hx0 := HXMHR.out; have hx1 := HXMHK1.out; simp; try omega)).trans HR.out)
 replace HK1:=zh (show Blk W9 (N + 1) #[.int .i64 0, .int .i64 0, .int .i64 0, .slice none 0 0, .slice none 0 0, .slice none 0 0, .slice none 0 0] 27 from (hfS.block _ HK1.out.lt (by have hx0 := HXMHR.out; have hx1 := HXMHK1.out; simp; try omega)).trans HK1.out)
 replace O1:=zh (O1.out.fr hfS (by have := FO1.out; omega))
 replace O2:=zh (O2.out.fr hfS (by have := FO2.out; omega))
 replace O3:=zh (O3.out.fr hfS (by have := FO3.out; omega))
 replace HM:=zh (show Blk W9 M #[.int .i64 s.term, .int .i64 s.stamp, .int .i64 s.next, .slice b1 m1 k1, .slice b2 m2 k2, .slice b3 m3 k3, .slice none 0 0] 27 from hkS)
 clear hWS hfS hkS
 have qR0 : W9.cell? ⟨N, 0, none⟩ = some (.int .i64 s.term) := cell_at HR.out 0
 have qR1 : W9.cell? ⟨N, 1, none⟩ = some (.int .i64 s.stamp) := cell_at HR.out 1
 have qR2 : W9.cell? ⟨N, 2, none⟩ = some (.int .i64 s.next) := cell_at HR.out 2
 have qR3 : W9.cell? ⟨N, 3, none⟩ = some (.slice ta tn tc) := cell_at HR.out 3
 have qR4 : W9.cell? ⟨N, 4, none⟩ = some (.slice la ln lc) := cell_at HR.out 4
 have qR5 : W9.cell? ⟨N, 5, none⟩ = some (.slice sa sn sc) := cell_at HR.out 5
 have qR6 : W9.cell? ⟨N, 6, none⟩ = some (.slice da dn dc) := cell_at HR.out 6
 have qRz : ∀ j, W9.frozen? ⟨N, j, none⟩ = false := fun j => free_at HR.out j
 have qRl : N < W9.heap.size := HR.out.lt
 have qM0 : W9.cell? ⟨M, 0, none⟩ = some (.int .i64 s.term) := cell_at HM.out 0
 have qM1 : W9.cell? ⟨M, 1, none⟩ = some (.int .i64 s.stamp) := cell_at HM.out 1
 have qM2 : W9.cell? ⟨M, 2, none⟩ = some (.int .i64 s.next) := cell_at HM.out 2
 have qM3 : W9.cell? ⟨M, 3, none⟩ = some (.slice b1 m1 k1) := cell_at HM.out 3
 have qM4 : W9.cell? ⟨M, 4, none⟩ = some (.slice b2 m2 k2) := cell_at HM.out 4
 have qM5 : W9.cell? ⟨M, 5, none⟩ = some (.slice b3 m3 k3) := cell_at HM.out 5
 have qM6 : W9.cell? ⟨M, 6, none⟩ = some (.slice none 0 0) := cell_at HM.out 6
 have qMz : ∀ j, W9.frozen? ⟨M, j, none⟩ = false := fun j => free_at HM.out j
 have qMl : M < W9.heap.size := HM.out.lt
 have HL4 : Hid (w.heap.size ≤ W9.heap.size) := zh HB.out.size
 obtain ⟨v4, ob4, W10, hrun, hor, hBM⟩ := dk_app (ty := 25) (dko_nil W9 _) HD.out (Nat.le_refl _) (by simp; omega)
 rw [List.nil_append] at hor
 obtain ⟨b4, m4, k4, rfl, Hb4, x4, y4⟩ := hor.v.sh
 have HRUN := zh hrun
 have p0 : W10.cell? ⟨M, 6, none⟩ = some (.slice none 0 0) := cell_at (HM.out.step hBM) 6
 have pz : ∀ j, W10.frozen? ⟨M, j, none⟩ = false := fun j => free_at (HM.out.step hBM) j
 have pl : M < W10.heap.size := (HM.out.step hBM).lt
 have FO4:=zh (show M < _ from HM.out.lt)
 have FO4k:=zh (show N + 1 < _ from HK1.out.lt)
 have O4 := zh hor
 go_upto_region 10 with (at_builtin; refine Lib.wpList_append_run _ rfl (.tmp 28) (.tmp 30) 25 25 rfl _ _ rfl rfl _ _ HRUN.out ?_)
 clear p0 pz pl
 clear qR0 qR1 qR2 qR3 qR4 qR5 qR6 qRz qRl qM0 qM1 qM2 qM3 qM4 qM5 qM6 qMz qMl
 replace HB:=zh (HB.out.trans (hBM.mono HB.out.size))
 replace HT:=zh (HT0.out.below HB.out)
 replace HL:=zh (HL0.out.below HB.out)
 replace HS:=zh (HS0.out.below HB.out)
 replace HD:=zh (HD0.out.below HB.out)
 replace HR:=zh (HR.out.step hBM)
 replace HK1:=zh (HK1.out.step hBM)
 replace HM:=zh (HM.out.step hBM)
 replace O1:=zh (O1.out.step hBM)
 replace O2:=zh (O2.out.step hBM)
 replace O3:=zh (O3.out.step hBM)
 clear HRUN hrun hor hBM
 obtain ⟨W11, hWS⟩ : ∃ WS, WS = W10.setCell ⟨M, 6, none⟩ (.slice b4 m4 k4) := ⟨_, rfl⟩
 rw [← hWS]
 have hfS : Fr [M] W10 W11 := by rw [hWS]; exact (Fr.refl _ _).setCell _ (.inl (by simp)) _
 have hkS : Blk W11 M #[.int .i64 s.term, .int .i64 s.stamp, .int .i64 s.next, .slice b1 m1 k1, .slice b2 m2 k2, .slice b3 m3 k3, .slice b4 m4 k4] 27 := by rw [hWS]; exact HM.out.set 6 _
 replace HB:=zh (HB.out.trans (hfS.below HB.out.size (by have := HLOM.out; simp; try omega)))
 replace HT:=zh (HT0.out.below HB.out)
 replace HL:=zh (HL0.out.below HB.out)
 replace HS:=zh (HS0.out.below HB.out)
 replace HD:=zh (HD0.out.below HB.out)
 replace HR:=zh (show Blk W11 N #[.int .i64 s.term, .int .i64 s.stamp, .int .i64 s.next, .slice ta tn tc, .slice la ln lc, .slice sa sn sc, .slice da dn dc] 27 from (hfS.block _ HR.out.lt (by have hx0 := HXMHR.out; have hx1 := HXMHK1.out; simp; try omega)).trans HR.out)
 replace HK1:=zh (show Blk W11 (N + 1) #[.int .i64 0, .int .i64 0, .int .i64 0, .slice none 0 0, .slice none 0 0, .slice none 0 0, .slice none 0 0] 27 from (hfS.block _ HK1.out.lt (by have hx0 := HXMHR.out; have hx1 := HXMHK1.out; simp; try omega)).trans HK1.out)
 replace O1:=zh (O1.out.fr hfS (by have := FO1.out; omega))
 replace O2:=zh (O2.out.fr hfS (by have := FO2.out; omega))
 replace O3:=zh (O3.out.fr hfS (by have := FO3.out; omega))
 replace O4:=zh (O4.out.fr hfS (by have := FO4.out; omega))
 replace HM:=zh (show Blk W11 M #[.int .i64 s.term, .int .i64 s.stamp, .int .i64 s.next, .slice b1 m1 k1, .slice b2 m2 k2, .slice b3 m3 k3, .slice b4 m4 k4] 27 from hkS)
 clear hWS hfS hkS
 have qM0 : W11.cell? ⟨M, 0, none⟩ = some (.int .i64 s.term) := cell_at HM.out 0
 have qM1 : W11.cell? ⟨M, 1, none⟩ = some (.int .i64 s.stamp) := cell_at HM.out 1
 have qM2 : W11.cell? ⟨M, 2, none⟩ = some (.int .i64 s.next) := cell_at HM.out 2
 have qM3 : W11.cell? ⟨M, 3, none⟩ = some (.slice b1 m1 k1) := cell_at HM.out 3
 have qM4 : W11.cell? ⟨M, 4, none⟩ = some (.slice b2 m2 k2) := cell_at HM.out 4
 have qM5 : W11.cell? ⟨M, 5, none⟩ = some (.slice b3 m3 k3) := cell_at HM.out 5
 have qM6 : W11.cell? ⟨M, 6, none⟩ = some (.slice b4 m4 k4) := cell_at HM.out 6
 have qMz : ∀ j, W11.frozen? ⟨M, j, none⟩ = false := fun j => free_at HM.out j
 have qMl : M < W11.heap.size := HM.out.lt
 have qK10 : W11.cell? ⟨(N + 1), 0, none⟩ = some (.int .i64 0) := cell_at HK1.out 0
 have qK11 : W11.cell? ⟨(N + 1), 1, none⟩ = some (.int .i64 0) := cell_at HK1.out 1
 have qK12 : W11.cell? ⟨(N + 1), 2, none⟩ = some (.int .i64 0) := cell_at HK1.out 2
 have qK13 : W11.cell? ⟨(N + 1), 3, none⟩ = some (.slice none 0 0) := cell_at HK1.out 3
 have qK14 : W11.cell? ⟨(N + 1), 4, none⟩ = some (.slice none 0 0) := cell_at HK1.out 4
 have qK15 : W11.cell? ⟨(N + 1), 5, none⟩ = some (.slice none 0 0) := cell_at HK1.out 5
 have qK16 : W11.cell? ⟨(N + 1), 6, none⟩ = some (.slice none 0 0) := cell_at HK1.out 6
 have qK1z : ∀ j, W11.frozen? ⟨(N + 1), j, none⟩ = false := fun j => free_at HK1.out j
 have qK1l : (N + 1) < W11.heap.size := HK1.out.lt
 go_wp2_with fail
 replace FO1 := FO1k
 replace FO2 := FO2k
 replace FO3 := FO3k
 replace FO4 := FO4k
 clear qM0 qM1 qM2 qM3 qM4 qM5 qM6 qMz qMl qK10 qK11 qK12 qK13 qK14 qK15 qK16 qK1z qK1l
 obtain ⟨LS, hLS⟩ : ∃ L : List Value, L = [.int .i64 s.term, .int .i64 s.stamp, .int .i64 s.next, .slice b1 m1 k1, .slice b2 m2 k2, .slice b3 m3 k3, .slice b4 m4 k4] := ⟨_, rfl⟩
 obtain ⟨W12, hWS⟩ : ∃ WS, WS = W11.setCells (N + 1) 0 LS := ⟨_, rfl⟩
 have hch := hWS
 rw [hLS] at hch
 simp only [World.setCells, Nat.zero_add, Nat.reduceAdd] at hch
 rw [← hch]
 clear hch
 have hkS := stC_blk HK1.out LS (by rw [hLS]; rfl)
 have hfS := stC_fr (N + 1) LS 0 W11
 rw [← hWS] at hkS hfS
 rw [hLS] at hkS
 replace HB:=zh (HB.out.trans (hfS.below HB.out.size (by have := HLON.out; simp; try omega)))
 replace HT:=zh (HT0.out.below HB.out)
 replace HL:=zh (HL0.out.below HB.out)
 replace HS:=zh (HS0.out.below HB.out)
 replace HD:=zh (HD0.out.below HB.out)
 replace HR:=zh (show Blk W12 N #[.int .i64 s.term, .int .i64 s.stamp, .int .i64 s.next, .slice ta tn tc, .slice la ln lc, .slice sa sn sc, .slice da dn dc] 27 from (hfS.block _ HR.out.lt (by have hx0 := HXMHR.out; have hx1 := HXMHK1.out; simp; try omega)).trans HR.out)
 replace HM:=zh (show Blk W12 M #[.int .i64 s.term, .int .i64 s.stamp, .int .i64 s.next, .slice b1 m1 k1, .slice b2 m2 k2, .slice b3 m3 k3, .slice b4 m4 k4] 27 from (hfS.block _ HM.out.lt (by have hx0 := HXMHR.out; have hx1 := HXMHK1.out; simp; try omega)).trans HM.out)
 replace O1:=zh (O1.out.fr hfS (by have := FO1.out; omega))
 replace O2:=zh (O2.out.fr hfS (by have := FO2.out; omega))
 replace O3:=zh (O3.out.fr hfS (by have := FO3.out; omega))
 replace O4:=zh (O4.out.fr hfS (by have := FO4.out; omega))
 replace HK1:=zh (show Blk W12 (N + 1) #[.int .i64 s.term, .int .i64 s.stamp, .int .i64 s.next, .slice b1 m1 k1, .slice b2 m2 k2, .slice b3 m3 k3, .slice b4 m4 k4] 27 from hkS)
 clear hWS hLS hkS hfS
 have qK10 : W12.cell? ⟨(N + 1), 0, none⟩ = some (.int .i64 s.term) := cell_at HK1.out 0
 have qK11 : W12.cell? ⟨(N + 1), 1, none⟩ = some (.int .i64 s.stamp) := cell_at HK1.out 1
 have qK12 : W12.cell? ⟨(N + 1), 2, none⟩ = some (.int .i64 s.next) := cell_at HK1.out 2
 have qK13 : W12.cell? ⟨(N + 1), 3, none⟩ = some (.slice b1 m1 k1) := cell_at HK1.out 3
 have qK14 : W12.cell? ⟨(N + 1), 4, none⟩ = some (.slice b2 m2 k2) := cell_at HK1.out 4
 have qK15 : W12.cell? ⟨(N + 1), 5, none⟩ = some (.slice b3 m3 k3) := cell_at HK1.out 5
 have qK16 : W12.cell? ⟨(N + 1), 6, none⟩ = some (.slice b4 m4 k4) := cell_at HK1.out 6
 have qK1z : ∀ j, W12.frozen? ⟨(N + 1), j, none⟩ = false := fun j => free_at HK1.out j
 have qK1l : (N + 1) < W12.heap.size := HK1.out.lt
 exact bodyPost_ret (v := .agg #[.int .i64 s.term, .int .i64 s.stamp, .int .i64 s.next, .slice b1 m1 k1, .slice b2 m2 k2, .slice b3 m3 k3, .slice b4 m4 k4]) (by simp [results, Try.results40, go_sem, qK10, qK11, qK12, qK13, qK14, qK15, qK16]) rfl ⟨_, rfl, ⟨_, _, _, _, _, _, _, _, rfl, O1.out.le HL1.out, O2.out.le HL2.out, O3.out.le HL3.out, O4.out.le HL4.out⟩, HB.out⟩
end Go.Proofs.Ytfgnjpdlchimpaa
namespace Go.Proofs.Ytfgnjpdlchimpaa
open Go.RowKit
set_option linter.unusedSimpArgs false
set_option linter.unusedVariables false

set_option maxRecDepth 100000 in
theorem fin_room {b R T D : Int} (hb : 0 ≤ b) (hR : 0 ≤ R) (hT : 0 ≤ T) (hD : 0 ≤ D) (h : D ≤ b ∨ (0 < R ∧ (D - b) / R < T)) : within (b + R * T) D = D := by
 have hp : 0 ≤ R * T := Int.mul_nonneg hR hT
 rcases h with h | ⟨h1, h2⟩
 ·unfold within; omega
 ·have h3 : D - b < T * R := Int.lt_mul_of_ediv_lt h1 h2
  rw [Int.mul_comm] at h3
  unfold within; omega
set_option maxRecDepth 100000 in
theorem fin_sum {b R T D : Int} (hb : 0 ≤ b) (hR : 0 ≤ R) (hT : 0 ≤ T) (h0 : b < D) (h : R = 0 ∨ (0 < R ∧ T ≤ (D - b) / R)) : within (b + R * T) D = b + R * T := by
 have hp : 0 ≤ R * T := Int.mul_nonneg hR hT
 rcases h with rfl | ⟨h1, h2⟩
 ·unfold within; omega
 ·have h3 : T * R ≤ D - b := (Int.le_ediv_iff_mul_le h1).1 h2
  rw [Int.mul_comm] at h3
  unfold within; omega

set_option maxRecDepth 100000 in
theorem creditS_eq (b rate burst out ticks : Int) : creditS b rate burst out ticks = within (max b 0 + within rate 1000000 * within ticks 1099511627776) (room burst out) := rfl

set_option maxRecDepth 100000 in
theorem fin_room' {b rate burst out ticks : Int} (B R T : Int) (eB : max b 0 = B) (eR : within rate 1000000 = R) (eT : within ticks 1099511627776 = T) (h : room burst out ≤ B ∨ (0 < R ∧ (room burst out - B) / R < T)) : room burst out = creditS b rate burst out ticks := by
 have h1 := within_bd rate 1000000 (by omega)
 have h2 := within_bd ticks 1099511627776 (by omega)
 have h4 := room_bd burst out
 rw [creditS_eq, eB, eR, eT]
 exact (fin_room (by omega) (eR ▸ h1.1) (eT ▸ h2.1) h4.1 h).symm
set_option maxRecDepth 100000 in
theorem fin_sum' {b rate burst out ticks : Int} {x : Int} (B R T : Int) (hx : x = B + R * T) (eB : max b 0 = B) (eR : within rate 1000000 = R) (eT : within ticks 1099511627776 = T) (h0 : B < room burst out) (h : R = 0 ∨ (0 < R ∧ T ≤ (room burst out - B) / R)) : x = creditS b rate burst out ticks := by
 have h1 := within_bd rate 1000000 (by omega)
 have h2 := within_bd ticks 1099511627776 (by omega)
 rw [hx, creditS_eq, eB, eR, eT]
 exact (fin_sum (by omega) (eR ▸ h1.1) (eT ▸ h2.1) h0 h).symm

set_option maxRecDepth 100000 in
theorem prod_in (rate ticks : Int) (r1 : 0 ≤ rate) (r2 : rate ≤ 1000000) (t1 : 0 ≤ ticks) (t2 : ticks ≤ 1099511627776) : 0 ≤ rate * ticks ∧ rate * ticks ≤ 1099511627776000000 :=
 ⟨Int.mul_nonneg r1 t1, Int.le_trans (Int.mul_le_mul r2 t2 t1 (by omega)) (by omega)⟩
set_option maxRecDepth 100000 in
theorem clamp_cases (n most : Int) (h : 0 ≤ most) : (n < 0 ∧ Hid (within n most = 0)) ∨ (0 ≤ n ∧ n ≤ most ∧ Hid (within n most = n)) ∨ (0 ≤ n ∧ most < n ∧ Hid (within n most = most)) := by
 rcases (show n < 0 ∨ (0 ≤ n ∧ n ≤ most) ∨ (0 ≤ n ∧ most < n) by omega) with h1 | ⟨h1, h2⟩ | ⟨h1, h2⟩
 ·exact .inl ⟨h1, zh (by unfold within; omega)⟩
 ·exact .inr (.inl ⟨h1, h2, zh (by unfold within; omega)⟩)
 ·exact .inr (.inr ⟨h1, h2, zh (by unfold within; omega)⟩)
set_option maxRecDepth 100000 in
theorem sign_cases (n : Int) : (n < 0 ∧ Hid (max n 0 = 0)) ∨ (0 ≤ n ∧ Hid (max n 0 = n)) := by
 rcases (show n < 0 ∨ 0 ≤ n by omega) with h1 | h1
 ·exact .inl ⟨h1, zh (by omega)⟩
 ·exact .inr ⟨h1, zh (by omega)⟩

set_option maxRecDepth 100000 in
set_option maxHeartbeats 8000000 in
set_option maxRecDepth 100000 in
theorem rcredit_any (b rate burst out ticks : Int) (hb : b ≤ 9223372036854775807) (ho : out ≤ 9223372036854775807) (w : World) : Calls Try.prog 41 #[.int .i64 b, .int .i64 rate, .int .i64 burst, .int .i64 out, .int .i64 ticks] w fun e w' => e = .returned (.int .i64 (creditS b rate burst out ticks)) ∧ w = w' := by
 have h4 := room_bd burst out
 rcases sign_cases b with ⟨b1, eB⟩ | ⟨b1, eB⟩
 all_goals
  rcases clamp_cases rate 1000000 (by omega) with ⟨r1, eR⟩ | ⟨r1, r2, eR⟩ | ⟨r1, r2, eR⟩
  all_goals
   rcases clamp_cases ticks 1099511627776 (by omega) with ⟨t1, eT⟩ | ⟨t1, t2, eT⟩ | ⟨t1, t2, eT⟩
   all_goals
    have hp := prod_in rate ticks
    try replace hp := hp (by assumption) (by assumption) (by assumption) (by assumption)
    try (obtain ⟨hp1, hp2⟩ := hp)
    try clear hp
    go_enter Try.func41, Try.ntmps41
    go_wp2_with (refine (rroom_any _ _ ho _).mono ?_; rintro e w' ⟨rfl, rfl⟩)
    any_goals (go_ret; refine ⟨ret_int ?_, rfl⟩)
    all_goals first
     | exact fin_room' _ _ _ eB.out eR.out eT.out (.inl (by omega))
     | exact fin_room' _ _ _ eB.out eR.out eT.out (.inr (by first | omega | (simp only [Int.sub_zero] at *; omega)))
     | exact fin_sum' _ _ _ (by omega) eB.out eR.out eT.out (by omega) (by first | omega | (simp only [Int.sub_zero] at *; omega))
end Go.Proofs.Ytfgnjpdlchimpaa
namespace Go.Proofs.Ytfgnjpdlchimpaa
open Go.RowKit
set_option linter.unusedSimpArgs false
set_option linter.unusedVariables false

set_option maxRecDepth 100000 in
theorem backS_fin (b burst out size : Int) : backS b burst out size = cut (min (max b 0) 1000000000 + 1000 * within size 1000000) burst out := by
 have := room_bd burst out
 unfold backS cut within; omega

set_option maxHeartbeats 1000000 in
set_option maxRecDepth 100000 in
theorem rback_any (b burst out size : Int) (ho : out ≤ 9223372036854775807) (w : World) : Calls Try.prog 57 #[.int .i64 b, .int .i64 burst, .int .i64 out, .int .i64 size] w fun e w' => e = .returned (.int .i64 (backS b burst out size)) ∧ w = w' := by
 have Hfin:=zh (backS_fin b burst out size)
 go_enter Try.func57, Try.ntmps57
 go_wp2_with (refine (rcut_any _ _ _ ho _).mono ?_; rintro e w' ⟨rfl, rfl⟩)
 all_goals
  go_ret
  refine ⟨ret_int ?_, rfl⟩
  rw [Hfin.out]
  congr 1
  unfold within; omega

set_option maxHeartbeats 400000 in
set_option maxRecDepth 100000 in
theorem rmay_any (n m : Int) (w : World) : Calls Try.prog 64 #[.int .i64 n, .int .i64 m] w fun e w' => e = .returned (.bool (mayB n m)) ∧ w = w' := by
 go_enter Try.func64, Try.ntmps64
 go_wp2_with fail
 all_goals
  go_ret
  exact ⟨ret_bool (by unfold mayB; rw [Bool.eq_iff_iff]; simp; omega), rfl⟩

end Go.Proofs.Ytfgnjpdlchimpaa
namespace Go.Proofs.Ytfgnjpdlchimpaa
open Go.RowKit
set_option linter.unusedSimpArgs false
set_option linter.unusedVariables false

theorem Blk.frBL {W W' : World} {M2 n0 : Nat} {v2 : Value} {ol : Option Nat} {cs : Array Value} {t : TypeId} {L2 : List LeE} (h : Blk W n0 cs t) (hr : LeO M2 W v2 ol L2) (hf : FrB W.heap.size ol.toList W W') (ht : t ≠ 31) : Blk W' n0 cs t := (hf.blk n0 h.lt (fun g e => by subst e; exact row_blk_ne hr.1 h ht)).trans h
theorem TnO.frBL {W W' : World} {M M2 : Nat} {v v2 : Value} {ob ol : Option Nat} {L : List TnE} {L2 : List LeE} (h : TnO M W v ob L) (hr : LeO M2 W v2 ol L2) (hf : FrB W.heap.size ol.toList W W') : TnO M W' v ob L := ⟨row_keep h.1 hr.1 (by decide) hf.blk, h.2.1, h.2.2⟩
theorem SeO.frBL {W W' : World} {M M2 : Nat} {v v2 : Value} {ob ol : Option Nat} {L : List SeE} {L2 : List LeE} (h : SeO M W v ob L) (hr : LeO M2 W v2 ol L2) (hf : FrB W.heap.size ol.toList W W') : SeO M W' v ob L := ⟨row_keep h.1 hr.1 (by decide) hf.blk, h.2.1, h.2.2⟩
theorem DkO.frBL {W W' : World} {M M2 : Nat} {v v2 : Value} {ob ol : Option Nat} {L : List DkE} {L2 : List LeE} (h : DkO M W v ob L) (hr : LeO M2 W v2 ol L2) (hf : FrB W.heap.size ol.toList W W') : DkO M W' v ob L := ⟨row_keep h.1 hr.1 (by decide) hf.blk, h.2.1, h.2.2⟩
theorem spL_size {s : StE} {le sp : Int} {x : LeE} (hc : chkS s = true) (hx : fndL le s.ls = some x) (h1 : x.spent ≤ sp) (h2 : sp < x.size) : sizeB (spL le sp s.ls) := by
 have hlb := (chkS_parts hc).2.1
 have hm := List.mem_of_find?_eq_some hx
 obtain ⟨i, hi, he⟩ := List.mem_iff_getElem.1 hm
 have hxi : s.ls[i]? = some x := by rw [List.getElem?_eq_getElem hi, he]
 have hk : x.id = le := by have := List.find?_some hx; simpa using this
 rw [← hk, spL_set s.ls s.ts s.next 0 sp i x (lesB_R hlb) hxi]
 exact sizeB_set sp (lesB_size hlb) hxi h1 h2
set_option maxRecDepth 100000 in
set_option maxHeartbeats 16000000 in
theorem rreport_any (v : Value) (s : StE) (sh ep le sp : Int) (cl : Bool) (w : World) (h : SV w v s) (hf : fewS s) (hsp : -9223372036854775808 ≤ sp ∧ sp ≤ 9223372036854775807) :
  Calls Try.prog 23 #[v, .int .i64 sh, .int .i64 ep, .int .i64 le, .int .i64 sp, .bool cl] w fun e w' => ∃ v', e = .returned (.tuple #[v', .int .i64 (rpE s sh ep le sp)]) ∧ SV w' v' (rpS s sh ep le sp cl) ∧ Below w.heap.size w w' := by
 have HFEW := zh hf
 obtain ⟨f1, f2, f3, f4⟩ := hf
 obtain ⟨vt, vl, vs, vd, rfl, ht, hl, hs, hd⟩ := h
 obtain ⟨ta, tn, tc, rfl, Htn, tn1, tn2⟩ := ht.sh
 obtain ⟨la, ln, lc, rfl, Hln, ln1, ln2⟩ := hl.sh
 obtain ⟨sa, sn, sc, rfl, Hsn, sn1, sn2⟩ := hs.sh
 obtain ⟨da, dn, dc, rfl, Hdn, dn1, dn2⟩ := hd.sh
 have HT0 := zh ht
 have HL0 := zh hl
 have HS0 := zh hs
 have HD0 := zh hd
 have HT := zh ht
 have HL := zh hl
 have HS := zh hs
 have HD := zh hd
 clear ht hl hs hd
 rw [← Hln.out] at f2
 rw [← Htn.out] at f1
 have HSV : Hid (∀ W, TV W (.slice ta tn tc) s.ts → LeV W (.slice la ln lc) s.ls → SeV W (.slice sa sn sc) s.ss → DkV W (.slice da dn dc) s.ds → SV W (.agg #[.int .i64 s.term, .int .i64 s.stamp, .int .i64 s.next, .slice ta tn tc, .slice la ln lc, .slice sa sn sc, .slice da dn dc]) s):=zh (fun W h1 h2 h3 h4 => ⟨_, _, _, _, rfl, h1, h2, h3, h4⟩)
 have HCK:=zh (fun W v (h : SV W v s) => rcheckS_any v s W h HFEW.out)
 have HTW:=zh (fun W v (h : SV W v s) => rcopyO_any v s W h HFEW.out)
 obtain ⟨C, hC⟩ : ∃ C, C = chkS s := ⟨_, rfl⟩
 have HSZ:=zh (fun h : C = true => lesB_size (s := s) (by rw [hC] at h; unfold chkS at h; simp only [Bool.and_eq_true] at h; exact h.1.2))
 rw [← hC] at HCK
 have HCE := zh hC
 clear hC
 obtain ⟨R, hR⟩ : ∃ R, R = rpS s sh ep le sp cl := ⟨_, rfl⟩
 rw [← hR]
 unfold rpS at hR
 obtain ⟨E, hE⟩ : ∃ E, E = rpE s sh ep le sp := ⟨_, rfl⟩
 rw [← hE]
 rw [← HCE.out, ← hE] at hR
 have HR9 := zh hR
 have HE9 := zh hE
 have HEF:=zh (fun h : C = false => show rpE s sh ep le sp = 2 by unfold rpE; rw [← HCE.out, h]; rfl)
 have HFI:=zh (fun W v (h : SV W v s) => rfindS_any v s le W h HFEW.out)
 have HFC : Hid (C = true → fndS s le = fndL le s.ls):=zh (fun h => by unfold fndS; rw [← HCE.out, h]; rfl)
 clear hR hE
 have HB : Hid (Below w.heap.size w w):=zh (Below.refl _ _)
 go_enter Try.func23, Try.ntmps23
 go_upto_region 1 with fail
 obtain ⟨N, hN⟩ : ∃ n0, n0 = w.heap.size := ⟨_, rfl⟩
 have HLON : Hid (w.heap.size ≤ N):=zh (by have := HB.out.size; omega)
 obtain ⟨W1, hA0⟩ : ∃ W0, W0 = w.alloc (.cells #[.int .i64 s.term, .int .i64 s.stamp, .int .i64 s.next, .slice ta tn tc, .slice la ln lc, .slice sa sn sc, .slice da dn dc] 27) := ⟨_, rfl⟩
 have hB : Below w.heap.size w W1 := by rw [hA0]; exact (Below.refl _ _).alloc (Nat.le_refl _) _
 have hS0 : W1.heap.size = N + 1 := by rw [hA0]; simp [← hN]
 have HR:=zh (show Blk W1 N #[.int .i64 s.term, .int .i64 s.stamp, .int .i64 s.next, .slice ta tn tc, .slice la ln lc, .slice sa sn sc, .slice da dn dc] 27 by rw [hA0, hN]; exact blk_new _ _ _)
 replace HB:=zh (HB.out.trans (hB.mono HB.out.size))
 replace HT:=zh (HT0.out.below HB.out)
 replace HL:=zh (HL0.out.below HB.out)
 replace HS:=zh (HS0.out.below HB.out)
 replace HD:=zh (HD0.out.below HB.out)
 clear hB
 obtain ⟨W2, hA1⟩ : ∃ W0, W0 = W1.alloc (.cells #[.int .i64 0, .int .i64 0, .int .i64 0, .slice none 0 0, .slice none 0 0, .slice none 0 0, .slice none 0 0] 27) := ⟨_, rfl⟩
 have hB : Below W1.heap.size W1 W2 := by rw [hA1]; exact (Below.refl _ _).alloc (Nat.le_refl _) _
 have hS1 : W2.heap.size = N + 2 := by rw [hA1]; simp [hS0]
 have HO:=zh (show Blk W2 (N + 1) #[.int .i64 0, .int .i64 0, .int .i64 0, .slice none 0 0, .slice none 0 0, .slice none 0 0, .slice none 0 0] 27 by rw [hA1, ← hS0]; exact blk_new _ _ _)
 replace HB:=zh (HB.out.trans (hB.mono HB.out.size))
 replace HT:=zh (HT0.out.below HB.out)
 replace HL:=zh (HL0.out.below HB.out)
 replace HS:=zh (HS0.out.below HB.out)
 replace HD:=zh (HD0.out.below HB.out)
 replace HR:=zh (HR.out.step hB)
 clear hB
 rw [← hN, ← hA0, ← hA1]
 clear hA1 hA0 hN hS0 hS1
 have qR0 : W2.cell? ⟨N, 0, none⟩ = some (.int .i64 s.term) := cell_at HR.out 0
 have qR1 : W2.cell? ⟨N, 1, none⟩ = some (.int .i64 s.stamp) := cell_at HR.out 1
 have qR2 : W2.cell? ⟨N, 2, none⟩ = some (.int .i64 s.next) := cell_at HR.out 2
 have qR3 : W2.cell? ⟨N, 3, none⟩ = some (.slice ta tn tc) := cell_at HR.out 3
 have qR4 : W2.cell? ⟨N, 4, none⟩ = some (.slice la ln lc) := cell_at HR.out 4
 have qR5 : W2.cell? ⟨N, 5, none⟩ = some (.slice sa sn sc) := cell_at HR.out 5
 have qR6 : W2.cell? ⟨N, 6, none⟩ = some (.slice da dn dc) := cell_at HR.out 6
 have qRl : N < W2.heap.size := HR.out.lt
 go_wp2_with fail
 go_at_call 13
 go_fit (HCK.out _ _ (HSV.out _ HT.out HL.out HS.out HD.out))
 rintro e W3 ⟨rfl, hB⟩
 clear qR0 qR1 qR2 qR3 qR4 qR5 qR6 qRl
 replace HB:=zh (HB.out.trans (hB.mono HB.out.size))
 replace HT:=zh (HT0.out.below HB.out)
 replace HL:=zh (HL0.out.below HB.out)
 replace HS:=zh (HS0.out.below HB.out)
 replace HD:=zh (HD0.out.below HB.out)
 replace HR:=zh (HR.out.step hB)
 replace HO:=zh (HO.out.step hB)
 clear hB
 cases C
 ·skip
  obtain rfl : E = 2 := HE9.out.trans (HEF.out (by first | rfl | trivial))
  have qR0 : W3.cell? ⟨N, 0, none⟩ = some (.int .i64 s.term) := cell_at HR.out 0
  have qR1 : W3.cell? ⟨N, 1, none⟩ = some (.int .i64 s.stamp) := cell_at HR.out 1
  have qR2 : W3.cell? ⟨N, 2, none⟩ = some (.int .i64 s.next) := cell_at HR.out 2
  have qR3 : W3.cell? ⟨N, 3, none⟩ = some (.slice ta tn tc) := cell_at HR.out 3
  have qR4 : W3.cell? ⟨N, 4, none⟩ = some (.slice la ln lc) := cell_at HR.out 4
  have qR5 : W3.cell? ⟨N, 5, none⟩ = some (.slice sa sn sc) := cell_at HR.out 5
  have qR6 : W3.cell? ⟨N, 6, none⟩ = some (.slice da dn dc) := cell_at HR.out 6
  have qRl : N < W3.heap.size := HR.out.lt
  have qO0 : W3.cell? ⟨(N + 1), 0, none⟩ = some (.int .i64 0) := cell_at HO.out 0
  have qO1 : W3.cell? ⟨(N + 1), 1, none⟩ = some (.int .i64 0) := cell_at HO.out 1
  have qO2 : W3.cell? ⟨(N + 1), 2, none⟩ = some (.int .i64 0) := cell_at HO.out 2
  have qO3 : W3.cell? ⟨(N + 1), 3, none⟩ = some (.slice none 0 0) := cell_at HO.out 3
  have qO4 : W3.cell? ⟨(N + 1), 4, none⟩ = some (.slice none 0 0) := cell_at HO.out 4
  have qO5 : W3.cell? ⟨(N + 1), 5, none⟩ = some (.slice none 0 0) := cell_at HO.out 5
  have qO6 : W3.cell? ⟨(N + 1), 6, none⟩ = some (.slice none 0 0) := cell_at HO.out 6
  have qOz : ∀ j, W3.frozen? ⟨(N + 1), j, none⟩ = false := fun j => free_at HO.out j
  have qOl : (N + 1) < W3.heap.size := HO.out.lt
  go_wp2_with fail
  clear qR0 qR1 qR2 qR3 qR4 qR5 qR6 qRl qO0 qO1 qO2 qO3 qO4 qO5 qO6 qOz qOl
  obtain ⟨LS, hLS⟩ : ∃ L : List Value, L = [.int .i64 s.term, .int .i64 s.stamp, .int .i64 s.next, .slice ta tn tc, .slice la ln lc, .slice sa sn sc, .slice da dn dc] := ⟨_, rfl⟩
  obtain ⟨W4, hWS⟩ : ∃ WS, WS = W3.setCells (N + 1) 0 LS := ⟨_, rfl⟩
  have hch := hWS
  rw [hLS] at hch
  simp only [World.setCells, Nat.zero_add, Nat.reduceAdd] at hch
  rw [← hch]
  clear hch
  have hkS := stC_blk HO.out LS (by rw [hLS]; rfl)
  have hfS := stC_fr (N + 1) LS 0 W3
  rw [← hWS] at hkS hfS
  rw [hLS] at hkS
  replace HB:=zh (HB.out.trans (hfS.below HB.out.size (by have := HLON.out; simp; try omega)))
  replace HT:=zh (HT0.out.below HB.out)
  replace HL:=zh (HL0.out.below HB.out)
  replace HS:=zh (HS0.out.below HB.out)
  replace HD:=zh (HD0.out.below HB.out)
  replace HR:=zh (show Blk W4 N #[.int .i64 s.term, .int .i64 s.stamp, .int .i64 s.next, .slice ta tn tc, .slice la ln lc, .slice sa sn sc, .slice da dn dc] 27 from (hfS.block _ HR.out.lt (by simp; try omega)).trans HR.out)
  replace HO:=zh (show Blk W4 (N + 1) #[.int .i64 s.term, .int .i64 s.stamp, .int .i64 s.next, .slice ta tn tc, .slice la ln lc, .slice sa sn sc, .slice da dn dc] 27 from hkS)
  clear hWS hLS hkS hfS
  have qO0 : W4.cell? ⟨(N + 1), 0, none⟩ = some (.int .i64 s.term) := cell_at HO.out 0
  have qO1 : W4.cell? ⟨(N + 1), 1, none⟩ = some (.int .i64 s.stamp) := cell_at HO.out 1
  have qO2 : W4.cell? ⟨(N + 1), 2, none⟩ = some (.int .i64 s.next) := cell_at HO.out 2
  have qO3 : W4.cell? ⟨(N + 1), 3, none⟩ = some (.slice ta tn tc) := cell_at HO.out 3
  have qO4 : W4.cell? ⟨(N + 1), 4, none⟩ = some (.slice la ln lc) := cell_at HO.out 4
  have qO5 : W4.cell? ⟨(N + 1), 5, none⟩ = some (.slice sa sn sc) := cell_at HO.out 5
  have qO6 : W4.cell? ⟨(N + 1), 6, none⟩ = some (.slice da dn dc) := cell_at HO.out 6
  have qOz : ∀ j, W4.frozen? ⟨(N + 1), j, none⟩ = false := fun j => free_at HO.out j
  have qOl : (N + 1) < W4.heap.size := HO.out.lt
  exact bodyPost_ret (v := .tuple #[.agg #[.int .i64 s.term, .int .i64 s.stamp, .int .i64 s.next, .slice ta tn tc, .slice la ln lc, .slice sa sn sc, .slice da dn dc], .int .i64 2]) (by simp [results, Try.results23, go_sem, qO0, qO1, qO2, qO3, qO4, qO5, qO6]) rfl ⟨_, rfl, (by rw [show R = s from HR9.out]; exact ⟨_, _, _, _, rfl, HT.out, HL.out, HS.out, HD.out⟩), HB.out⟩
 replace HR9 : Hid (R = if E = 0 then sweptS (rpL s le sp cl) else sweptS s) := HR9
 have HSZ9:=zh (HSZ.out (by first | rfl | trivial))
 have HCHK : Hid (chkS s = true) := zh HCE.out.symm
 have hfc := HFC.out (by first | rfl | trivial)
 rw [hfc] at HFI
 obtain ⟨x, hx⟩ : ∃ x, x = (fndL le s.ls).getD zLe := ⟨_, rfl⟩
 obtain ⟨ok, hok⟩ : ∃ b, b = (fndL le s.ls).isSome := ⟨_, rfl⟩
 rw [← hx, ← hok] at HFI
 unfold LeE.agg at HFI
 have HNO : Hid (ok = false → E = 180):=zh (fun h => by
  have : fndL le s.ls = none := by cases hq : fndL le s.ls with | none => rfl | some y => rw [hq, h] at hok; cases hok
  exact HE9.out.trans (rpE_no sh ep le sp HCHK.out this))
 have HYS : Hid (ok = true → fndL le s.ls = some x):=zh (fun h => by
  cases hq : fndL le s.ls with
  | none => rw [hq, h] at hok; cases hok
  | some y => rw [hx, hq]; rfl)
 clear hfc hx hok HFC HEF HCE
 have qR0 : W3.cell? ⟨N, 0, none⟩ = some (.int .i64 s.term) := cell_at HR.out 0
 have qR1 : W3.cell? ⟨N, 1, none⟩ = some (.int .i64 s.stamp) := cell_at HR.out 1
 have qR2 : W3.cell? ⟨N, 2, none⟩ = some (.int .i64 s.next) := cell_at HR.out 2
 have qR3 : W3.cell? ⟨N, 3, none⟩ = some (.slice ta tn tc) := cell_at HR.out 3
 have qR4 : W3.cell? ⟨N, 4, none⟩ = some (.slice la ln lc) := cell_at HR.out 4
 have qR5 : W3.cell? ⟨N, 5, none⟩ = some (.slice sa sn sc) := cell_at HR.out 5
 have qR6 : W3.cell? ⟨N, 6, none⟩ = some (.slice da dn dc) := cell_at HR.out 6
 have qRl : N < W3.heap.size := HR.out.lt
 go_wp2_with fail
 go_at_call 12
 go_fit (HFI.out _ _ (HSV.out _ HT.out HL.out HS.out HD.out))
 rintro e W4 ⟨rfl, hB⟩
 clear qR0 qR1 qR2 qR3 qR4 qR5 qR6 qRl
 replace HB:=zh (HB.out.trans (hB.mono HB.out.size))
 replace HT:=zh (HT0.out.below HB.out)
 replace HL:=zh (HL0.out.below HB.out)
 replace HS:=zh (HS0.out.below HB.out)
 replace HD:=zh (HD0.out.below HB.out)
 replace HR:=zh (HR.out.step hB)
 replace HO:=zh (HO.out.step hB)
 clear hB
 go_upto_region 4 with fail
 obtain ⟨X9, hX9⟩ : ∃ n0, n0 = W4.heap.size := ⟨_, rfl⟩
 have HXX9HR : Hid (N < X9):=zh (by rw [hX9]; exact HR.out.lt)
 have HXX9HO : Hid ((N + 1) < X9):=zh (by rw [hX9]; exact HO.out.lt)
 have HLOX9 : Hid (w.heap.size ≤ X9):=zh (by have := HB.out.size; omega)
 obtain ⟨W5, hA0⟩ : ∃ W0, W0 = W4.alloc (.cells #[.int .i64 x.id, .int .i64 x.tenant, .int .i64 x.shaper, .int .i64 x.epoch, .int .i64 x.number, .int .i64 x.size, .int .i64 x.spent] 31) := ⟨_, rfl⟩
 have hB : Below W4.heap.size W4 W5 := by rw [hA0]; exact (Below.refl _ _).alloc (Nat.le_refl _) _
 have hS0 : W5.heap.size = X9 + 1 := by rw [hA0]; simp [← hX9]
 have HX9:=zh (show Blk W5 X9 #[.int .i64 x.id, .int .i64 x.tenant, .int .i64 x.shaper, .int .i64 x.epoch, .int .i64 x.number, .int .i64 x.size, .int .i64 x.spent] 31 by rw [hA0, hX9]; exact blk_new _ _ _)
 replace HB:=zh (HB.out.trans (hB.mono HB.out.size))
 replace HT:=zh (HT0.out.below HB.out)
 replace HL:=zh (HL0.out.below HB.out)
 replace HS:=zh (HS0.out.below HB.out)
 replace HD:=zh (HD0.out.below HB.out)
 replace HR:=zh (HR.out.step hB)
 replace HO:=zh (HO.out.step hB)
 clear hB
 rw [← hX9, ← hA0]
 clear hA0 hX9 hS0
 cases ok
 ·skip
  obtain rfl : E = 180 := HNO.out (by first | rfl | trivial)
  have qX90 : W5.cell? ⟨X9, 0, none⟩ = some (.int .i64 x.id) := cell_at HX9.out 0
  have qX91 : W5.cell? ⟨X9, 1, none⟩ = some (.int .i64 x.tenant) := cell_at HX9.out 1
  have qX92 : W5.cell? ⟨X9, 2, none⟩ = some (.int .i64 x.shaper) := cell_at HX9.out 2
  have qX93 : W5.cell? ⟨X9, 3, none⟩ = some (.int .i64 x.epoch) := cell_at HX9.out 3
  have qX94 : W5.cell? ⟨X9, 4, none⟩ = some (.int .i64 x.number) := cell_at HX9.out 4
  have qX95 : W5.cell? ⟨X9, 5, none⟩ = some (.int .i64 x.size) := cell_at HX9.out 5
  have qX96 : W5.cell? ⟨X9, 6, none⟩ = some (.int .i64 x.spent) := cell_at HX9.out 6
  have qX9l : X9 < W5.heap.size := HX9.out.lt
  have qR0 : W5.cell? ⟨N, 0, none⟩ = some (.int .i64 s.term) := cell_at HR.out 0
  have qR1 : W5.cell? ⟨N, 1, none⟩ = some (.int .i64 s.stamp) := cell_at HR.out 1
  have qR2 : W5.cell? ⟨N, 2, none⟩ = some (.int .i64 s.next) := cell_at HR.out 2
  have qR3 : W5.cell? ⟨N, 3, none⟩ = some (.slice ta tn tc) := cell_at HR.out 3
  have qR4 : W5.cell? ⟨N, 4, none⟩ = some (.slice la ln lc) := cell_at HR.out 4
  have qR5 : W5.cell? ⟨N, 5, none⟩ = some (.slice sa sn sc) := cell_at HR.out 5
  have qR6 : W5.cell? ⟨N, 6, none⟩ = some (.slice da dn dc) := cell_at HR.out 6
  have qRl : N < W5.heap.size := HR.out.lt
  go_wp2_with fail
  have FOO := zh HO.out.lt
  have HB0L : Hid (w.heap.size ≤ W5.heap.size) := zh HB.out.size
  go_at_call 40
  go_fit (HTW.out _ _ (HSV.out _ HT.out HL.out HS.out HD.out))
  rintro e W6 ⟨v2, rfl, hso, hB⟩
  clear qX90 qX91 qX92 qX93 qX94 qX95 qX96 qX9l qR0 qR1 qR2 qR3 qR4 qR5 qR6 qRl
  replace HB:=zh (HB.out.trans (hB.mono HB.out.size))
  replace HT:=zh (HT0.out.below HB.out)
  replace HL:=zh (HL0.out.below HB.out)
  replace HS:=zh (HS0.out.below HB.out)
  replace HD:=zh (HD0.out.below HB.out)
  replace HR:=zh (HR.out.step hB)
  replace HO:=zh (HO.out.step hB)
  replace HX9:=zh (HX9.out.step hB)
  clear hB
  obtain ⟨vt2, vl2, vs2, vd2, ot, ol, os, od, rfl, o1, o2, o3, o4⟩ := hso
  obtain ⟨b1, m1, k1, rfl, Hb1, x1, y1⟩ := o1.v.sh
  obtain ⟨b2, m2, k2, rfl, Hb2, x2, y2⟩ := o2.v.sh
  obtain ⟨b3, m3, k3, rfl, Hb3, x3, y3⟩ := o3.v.sh
  obtain ⟨b4, m4, k4, rfl, Hb4, x4, y4⟩ := o4.v.sh
  have O1 := zh o1
  have FO1:=zh (show (N + 1) < W5.heap.size from FOO.out)
  have O2 := zh o2
  have FO2:=zh (show (N + 1) < W5.heap.size from FOO.out)
  have O3 := zh o3
  have FO3:=zh (show (N + 1) < W5.heap.size from FOO.out)
  have O4 := zh o4
  have FO4:=zh (show (N + 1) < W5.heap.size from FOO.out)
  clear o1 o2 o3 o4
  have HSP:=zh (rswept_any _ _ _ _ (s) W6 (tn_tv O1.out.v) O2.out.v O3.out.v O4.out.v HFEW.out HSZ9.out)
  go_wp2_with fail
  go_at_call 42
  go_fit HSP.out
  rintro e W7 ⟨vq, rfl, hvq, hB⟩
  replace HB:=zh (HB.out.trans (hB.mono HB.out.size))
  replace HT:=zh (HT0.out.below HB.out)
  replace HL:=zh (HL0.out.below HB.out)
  replace HS:=zh (HS0.out.below HB.out)
  replace HD:=zh (HD0.out.below HB.out)
  replace HO:=zh (HO.out.step hB)
  replace O1:=zh (O1.out.step hB)
  replace O2:=zh (O2.out.step hB)
  replace O3:=zh (O3.out.step hB)
  replace O4:=zh (O4.out.step hB)
  clear hB
  obtain ⟨b8, m8, k8, rfl, Hb8, x8, y8⟩ := hvq.sh
  have HQ := zh hvq
  clear hvq HSP
  have qO0 : W7.cell? ⟨(N + 1), 0, none⟩ = some (.int .i64 0) := cell_at HO.out 0
  have qO1 : W7.cell? ⟨(N + 1), 1, none⟩ = some (.int .i64 0) := cell_at HO.out 1
  have qO2 : W7.cell? ⟨(N + 1), 2, none⟩ = some (.int .i64 0) := cell_at HO.out 2
  have qO3 : W7.cell? ⟨(N + 1), 3, none⟩ = some (.slice none 0 0) := cell_at HO.out 3
  have qO4 : W7.cell? ⟨(N + 1), 4, none⟩ = some (.slice none 0 0) := cell_at HO.out 4
  have qO5 : W7.cell? ⟨(N + 1), 5, none⟩ = some (.slice none 0 0) := cell_at HO.out 5
  have qO6 : W7.cell? ⟨(N + 1), 6, none⟩ = some (.slice none 0 0) := cell_at HO.out 6
  have qOz : ∀ j, W7.frozen? ⟨(N + 1), j, none⟩ = false := fun j => free_at HO.out j
  have qOl : (N + 1) < W7.heap.size := HO.out.lt
  go_wp2_with fail
  clear qO0 qO1 qO2 qO3 qO4 qO5 qO6 qOz qOl
  obtain ⟨LS, hLS⟩ : ∃ L : List Value, L = [.int .i64 s.term, .int .i64 s.stamp, .int .i64 s.next, .slice b8 m8 k8, .slice b2 m2 k2, .slice b3 m3 k3, .slice b4 m4 k4] := ⟨_, rfl⟩
  obtain ⟨W8, hWS⟩ : ∃ WS, WS = W7.setCells (N + 1) 0 LS := ⟨_, rfl⟩
  have hch := hWS
  rw [hLS] at hch
  simp only [World.setCells, Nat.zero_add, Nat.reduceAdd] at hch
  rw [← hch]
  clear hch
  have hkS := stC_blk HO.out LS (by rw [hLS]; rfl)
  have hfS := stC_fr (N + 1) LS 0 W7
  rw [← hWS] at hkS hfS
  rw [hLS] at hkS
  replace HB:=zh (HB.out.trans (hfS.below HB.out.size (by have := HLON.out; simp; try omega)))
  replace O2:=zh (O2.out.fr hfS (by have := FO2.out; omega))
  replace O3:=zh (O3.out.fr hfS (by have := FO3.out; omega))
  replace O4:=zh (O4.out.fr hfS (by have := FO4.out; omega))
  replace HQ:=zh (HQ.out.fr HO.out hfS)
  replace HO:=zh (show Blk W8 (N + 1) #[.int .i64 s.term, .int .i64 s.stamp, .int .i64 s.next, .slice b8 m8 k8, .slice b2 m2 k2, .slice b3 m3 k3, .slice b4 m4 k4] 27 from hkS)
  clear hWS hLS hkS hfS
  have qO0 : W8.cell? ⟨(N + 1), 0, none⟩ = some (.int .i64 s.term) := cell_at HO.out 0
  have qO1 : W8.cell? ⟨(N + 1), 1, none⟩ = some (.int .i64 s.stamp) := cell_at HO.out 1
  have qO2 : W8.cell? ⟨(N + 1), 2, none⟩ = some (.int .i64 s.next) := cell_at HO.out 2
  have qO3 : W8.cell? ⟨(N + 1), 3, none⟩ = some (.slice b8 m8 k8) := cell_at HO.out 3
  have qO4 : W8.cell? ⟨(N + 1), 4, none⟩ = some (.slice b2 m2 k2) := cell_at HO.out 4
  have qO5 : W8.cell? ⟨(N + 1), 5, none⟩ = some (.slice b3 m3 k3) := cell_at HO.out 5
  have qO6 : W8.cell? ⟨(N + 1), 6, none⟩ = some (.slice b4 m4 k4) := cell_at HO.out 6
  have qOz : ∀ j, W8.frozen? ⟨(N + 1), j, none⟩ = false := fun j => free_at HO.out j
  have qOl : (N + 1) < W8.heap.size := HO.out.lt
  exact bodyPost_ret (v := .tuple #[.agg #[.int .i64 s.term, .int .i64 s.stamp, .int .i64 s.next, .slice b8 m8 k8, .slice b2 m2 k2, .slice b3 m3 k3, .slice b4 m4 k4], .int .i64 180]) (by simp [results, Try.results23, go_sem, qO0, qO1, qO2, qO3, qO4, qO5, qO6]) rfl ⟨_, rfl, (by rw [HR9.out, if_neg (by decide)]; exact ⟨_, _, _, _, rfl, HQ.out, O2.out.v, O3.out.v, O4.out.v⟩), HB.out⟩
 have hfx := HYS.out (by first | rfl | trivial)
 have HEX:=zh (HE9.out.trans (rpE_at sh ep le sp HCHK.out hfx))
 have HRL:=zh (show rpL s le sp cl = if cl = false ∧ sp < x.size then ⟨s.term, s.stamp, s.next, s.ts, spL le sp s.ls, s.ss, s.ds⟩ else ⟨s.term, s.stamp, s.next, if cl then bkL s.ts x.tenant (outL (wo le s.ls) x.tenant) (x.size - sp) else s.ts, wo le s.ls, s.ss, s.ds⟩ by unfold rpL; rw [hfx]; rfl)
 have hsx := HSZ9.out x (List.mem_of_find?_eq_some hfx)
 have HFXS := zh hfx
 clear hfx HNO HYS HE9
 by_cases ha : x.shaper = sh
 rotate_left
 ·skip
  have da1 : (x.shaper != sh) = true := by simp [ha]
  have da2 : decide (x.shaper = sh) = false := decide_eq_false ha
  obtain rfl : E = 180 := (by rw [HEX.out, if_neg (by rintro ⟨e1, e2⟩; exact ha e1)])
  have qX90 : W5.cell? ⟨X9, 0, none⟩ = some (.int .i64 x.id) := cell_at HX9.out 0
  have qX91 : W5.cell? ⟨X9, 1, none⟩ = some (.int .i64 x.tenant) := cell_at HX9.out 1
  have qX92 : W5.cell? ⟨X9, 2, none⟩ = some (.int .i64 x.shaper) := cell_at HX9.out 2
  have qX93 : W5.cell? ⟨X9, 3, none⟩ = some (.int .i64 x.epoch) := cell_at HX9.out 3
  have qX94 : W5.cell? ⟨X9, 4, none⟩ = some (.int .i64 x.number) := cell_at HX9.out 4
  have qX95 : W5.cell? ⟨X9, 5, none⟩ = some (.int .i64 x.size) := cell_at HX9.out 5
  have qX96 : W5.cell? ⟨X9, 6, none⟩ = some (.int .i64 x.spent) := cell_at HX9.out 6
  have qX9l : X9 < W5.heap.size := HX9.out.lt
  have qR0 : W5.cell? ⟨N, 0, none⟩ = some (.int .i64 s.term) := cell_at HR.out 0
  have qR1 : W5.cell? ⟨N, 1, none⟩ = some (.int .i64 s.stamp) := cell_at HR.out 1
  have qR2 : W5.cell? ⟨N, 2, none⟩ = some (.int .i64 s.next) := cell_at HR.out 2
  have qR3 : W5.cell? ⟨N, 3, none⟩ = some (.slice ta tn tc) := cell_at HR.out 3
  have qR4 : W5.cell? ⟨N, 4, none⟩ = some (.slice la ln lc) := cell_at HR.out 4
  have qR5 : W5.cell? ⟨N, 5, none⟩ = some (.slice sa sn sc) := cell_at HR.out 5
  have qR6 : W5.cell? ⟨N, 6, none⟩ = some (.slice da dn dc) := cell_at HR.out 6
  have qRl : N < W5.heap.size := HR.out.lt
  go_wp2_with fail
  have FOO := zh HO.out.lt
  have HB0L : Hid (w.heap.size ≤ W5.heap.size) := zh HB.out.size
  go_at_call 40
  go_fit (HTW.out _ _ (HSV.out _ HT.out HL.out HS.out HD.out))
  rintro e W6 ⟨v2, rfl, hso, hB⟩
  clear qX90 qX91 qX92 qX93 qX94 qX95 qX96 qX9l qR0 qR1 qR2 qR3 qR4 qR5 qR6 qRl
  replace HB:=zh (HB.out.trans (hB.mono HB.out.size))
  replace HT:=zh (HT0.out.below HB.out)
  replace HL:=zh (HL0.out.below HB.out)
  replace HS:=zh (HS0.out.below HB.out)
  replace HD:=zh (HD0.out.below HB.out)
  replace HR:=zh (HR.out.step hB)
  replace HO:=zh (HO.out.step hB)
  replace HX9:=zh (HX9.out.step hB)
  clear hB
  obtain ⟨vt2, vl2, vs2, vd2, ot, ol, os, od, rfl, o1, o2, o3, o4⟩ := hso
  obtain ⟨b1, m1, k1, rfl, Hb1, x1, y1⟩ := o1.v.sh
  obtain ⟨b2, m2, k2, rfl, Hb2, x2, y2⟩ := o2.v.sh
  obtain ⟨b3, m3, k3, rfl, Hb3, x3, y3⟩ := o3.v.sh
  obtain ⟨b4, m4, k4, rfl, Hb4, x4, y4⟩ := o4.v.sh
  have O1 := zh o1
  have FO1:=zh (show (N + 1) < W5.heap.size from FOO.out)
  have O2 := zh o2
  have FO2:=zh (show (N + 1) < W5.heap.size from FOO.out)
  have O3 := zh o3
  have FO3:=zh (show (N + 1) < W5.heap.size from FOO.out)
  have O4 := zh o4
  have FO4:=zh (show (N + 1) < W5.heap.size from FOO.out)
  clear o1 o2 o3 o4
  have HSP:=zh (rswept_any _ _ _ _ (s) W6 (tn_tv O1.out.v) O2.out.v O3.out.v O4.out.v HFEW.out HSZ9.out)
  go_wp2_with fail
  go_at_call 42
  go_fit HSP.out
  rintro e W7 ⟨vq, rfl, hvq, hB⟩
  replace HB:=zh (HB.out.trans (hB.mono HB.out.size))
  replace HT:=zh (HT0.out.below HB.out)
  replace HL:=zh (HL0.out.below HB.out)
  replace HS:=zh (HS0.out.below HB.out)
  replace HD:=zh (HD0.out.below HB.out)
  replace HO:=zh (HO.out.step hB)
  replace O1:=zh (O1.out.step hB)
  replace O2:=zh (O2.out.step hB)
  replace O3:=zh (O3.out.step hB)
  replace O4:=zh (O4.out.step hB)
  clear hB
  obtain ⟨b8, m8, k8, rfl, Hb8, x8, y8⟩ := hvq.sh
  have HQ := zh hvq
  clear hvq HSP
  have qO0 : W7.cell? ⟨(N + 1), 0, none⟩ = some (.int .i64 0) := cell_at HO.out 0
  have qO1 : W7.cell? ⟨(N + 1), 1, none⟩ = some (.int .i64 0) := cell_at HO.out 1
  have qO2 : W7.cell? ⟨(N + 1), 2, none⟩ = some (.int .i64 0) := cell_at HO.out 2
  have qO3 : W7.cell? ⟨(N + 1), 3, none⟩ = some (.slice none 0 0) := cell_at HO.out 3
  have qO4 : W7.cell? ⟨(N + 1), 4, none⟩ = some (.slice none 0 0) := cell_at HO.out 4
  have qO5 : W7.cell? ⟨(N + 1), 5, none⟩ = some (.slice none 0 0) := cell_at HO.out 5
  have qO6 : W7.cell? ⟨(N + 1), 6, none⟩ = some (.slice none 0 0) := cell_at HO.out 6
  have qOz : ∀ j, W7.frozen? ⟨(N + 1), j, none⟩ = false := fun j => free_at HO.out j
  have qOl : (N + 1) < W7.heap.size := HO.out.lt
  go_wp2_with fail
  clear qO0 qO1 qO2 qO3 qO4 qO5 qO6 qOz qOl
  obtain ⟨LS, hLS⟩ : ∃ L : List Value, L = [.int .i64 s.term, .int .i64 s.stamp, .int .i64 s.next, .slice b8 m8 k8, .slice b2 m2 k2, .slice b3 m3 k3, .slice b4 m4 k4] := ⟨_, rfl⟩
  obtain ⟨W8, hWS⟩ : ∃ WS, WS = W7.setCells (N + 1) 0 LS := ⟨_, rfl⟩
  have hch := hWS
  rw [hLS] at hch
  simp only [World.setCells, Nat.zero_add, Nat.reduceAdd] at hch
  rw [← hch]
  clear hch
  have hkS := stC_blk HO.out LS (by rw [hLS]; rfl)
  have hfS := stC_fr (N + 1) LS 0 W7
  rw [← hWS] at hkS hfS
  rw [hLS] at hkS
  replace HB:=zh (HB.out.trans (hfS.below HB.out.size (by have := HLON.out; simp; try omega)))
  replace O2:=zh (O2.out.fr hfS (by have := FO2.out; omega))
  replace O3:=zh (O3.out.fr hfS (by have := FO3.out; omega))
  replace O4:=zh (O4.out.fr hfS (by have := FO4.out; omega))
  replace HQ:=zh (HQ.out.fr HO.out hfS)
  replace HO:=zh (show Blk W8 (N + 1) #[.int .i64 s.term, .int .i64 s.stamp, .int .i64 s.next, .slice b8 m8 k8, .slice b2 m2 k2, .slice b3 m3 k3, .slice b4 m4 k4] 27 from hkS)
  clear hWS hLS hkS hfS
  have qO0 : W8.cell? ⟨(N + 1), 0, none⟩ = some (.int .i64 s.term) := cell_at HO.out 0
  have qO1 : W8.cell? ⟨(N + 1), 1, none⟩ = some (.int .i64 s.stamp) := cell_at HO.out 1
  have qO2 : W8.cell? ⟨(N + 1), 2, none⟩ = some (.int .i64 s.next) := cell_at HO.out 2
  have qO3 : W8.cell? ⟨(N + 1), 3, none⟩ = some (.slice b8 m8 k8) := cell_at HO.out 3
  have qO4 : W8.cell? ⟨(N + 1), 4, none⟩ = some (.slice b2 m2 k2) := cell_at HO.out 4
  have qO5 : W8.cell? ⟨(N + 1), 5, none⟩ = some (.slice b3 m3 k3) := cell_at HO.out 5
  have qO6 : W8.cell? ⟨(N + 1), 6, none⟩ = some (.slice b4 m4 k4) := cell_at HO.out 6
  have qOz : ∀ j, W8.frozen? ⟨(N + 1), j, none⟩ = false := fun j => free_at HO.out j
  have qOl : (N + 1) < W8.heap.size := HO.out.lt
  exact bodyPost_ret (v := .tuple #[.agg #[.int .i64 s.term, .int .i64 s.stamp, .int .i64 s.next, .slice b8 m8 k8, .slice b2 m2 k2, .slice b3 m3 k3, .slice b4 m4 k4], .int .i64 180]) (by simp [results, Try.results23, go_sem, qO0, qO1, qO2, qO3, qO4, qO5, qO6]) rfl ⟨_, rfl, (by rw [HR9.out, if_neg (by decide)]; exact ⟨_, _, _, _, rfl, HQ.out, O2.out.v, O3.out.v, O4.out.v⟩), HB.out⟩
 have da1 : (x.shaper != sh) = false := by simp [ha]
 have da2 : decide (x.shaper = sh) = true := decide_eq_true ha
 have HHa := zh ha
 clear ha
 by_cases hb : x.epoch = ep
 rotate_left
 ·skip
  have db1 : (x.epoch != ep) = true := by simp [hb]
  have db2 : decide (x.epoch = ep) = false := decide_eq_false hb
  obtain rfl : E = 180 := (by rw [HEX.out, if_neg (by rintro ⟨e1, e2⟩; exact hb e2)])
  have qX90 : W5.cell? ⟨X9, 0, none⟩ = some (.int .i64 x.id) := cell_at HX9.out 0
  have qX91 : W5.cell? ⟨X9, 1, none⟩ = some (.int .i64 x.tenant) := cell_at HX9.out 1
  have qX92 : W5.cell? ⟨X9, 2, none⟩ = some (.int .i64 x.shaper) := cell_at HX9.out 2
  have qX93 : W5.cell? ⟨X9, 3, none⟩ = some (.int .i64 x.epoch) := cell_at HX9.out 3
  have qX94 : W5.cell? ⟨X9, 4, none⟩ = some (.int .i64 x.number) := cell_at HX9.out 4
  have qX95 : W5.cell? ⟨X9, 5, none⟩ = some (.int .i64 x.size) := cell_at HX9.out 5
  have qX96 : W5.cell? ⟨X9, 6, none⟩ = some (.int .i64 x.spent) := cell_at HX9.out 6
  have qX9l : X9 < W5.heap.size := HX9.out.lt
  have qR0 : W5.cell? ⟨N, 0, none⟩ = some (.int .i64 s.term) := cell_at HR.out 0
  have qR1 : W5.cell? ⟨N, 1, none⟩ = some (.int .i64 s.stamp) := cell_at HR.out 1
  have qR2 : W5.cell? ⟨N, 2, none⟩ = some (.int .i64 s.next) := cell_at HR.out 2
  have qR3 : W5.cell? ⟨N, 3, none⟩ = some (.slice ta tn tc) := cell_at HR.out 3
  have qR4 : W5.cell? ⟨N, 4, none⟩ = some (.slice la ln lc) := cell_at HR.out 4
  have qR5 : W5.cell? ⟨N, 5, none⟩ = some (.slice sa sn sc) := cell_at HR.out 5
  have qR6 : W5.cell? ⟨N, 6, none⟩ = some (.slice da dn dc) := cell_at HR.out 6
  have qRl : N < W5.heap.size := HR.out.lt
  go_wp2_with fail
  have FOO := zh HO.out.lt
  have HB0L : Hid (w.heap.size ≤ W5.heap.size) := zh HB.out.size
  go_at_call 40
  go_fit (HTW.out _ _ (HSV.out _ HT.out HL.out HS.out HD.out))
  rintro e W6 ⟨v2, rfl, hso, hB⟩
  clear qX90 qX91 qX92 qX93 qX94 qX95 qX96 qX9l qR0 qR1 qR2 qR3 qR4 qR5 qR6 qRl
  replace HB:=zh (HB.out.trans (hB.mono HB.out.size))
  replace HT:=zh (HT0.out.below HB.out)
  replace HL:=zh (HL0.out.below HB.out)
  replace HS:=zh (HS0.out.below HB.out)
  replace HD:=zh (HD0.out.below HB.out)
  replace HR:=zh (HR.out.step hB)
  replace HO:=zh (HO.out.step hB)
  replace HX9:=zh (HX9.out.step hB)
  clear hB
  obtain ⟨vt2, vl2, vs2, vd2, ot, ol, os, od, rfl, o1, o2, o3, o4⟩ := hso
  obtain ⟨b1, m1, k1, rfl, Hb1, x1, y1⟩ := o1.v.sh
  obtain ⟨b2, m2, k2, rfl, Hb2, x2, y2⟩ := o2.v.sh
  obtain ⟨b3, m3, k3, rfl, Hb3, x3, y3⟩ := o3.v.sh
  obtain ⟨b4, m4, k4, rfl, Hb4, x4, y4⟩ := o4.v.sh
  have O1 := zh o1
  have FO1:=zh (show (N + 1) < W5.heap.size from FOO.out)
  have O2 := zh o2
  have FO2:=zh (show (N + 1) < W5.heap.size from FOO.out)
  have O3 := zh o3
  have FO3:=zh (show (N + 1) < W5.heap.size from FOO.out)
  have O4 := zh o4
  have FO4:=zh (show (N + 1) < W5.heap.size from FOO.out)
  clear o1 o2 o3 o4
  have HSP:=zh (rswept_any _ _ _ _ (s) W6 (tn_tv O1.out.v) O2.out.v O3.out.v O4.out.v HFEW.out HSZ9.out)
  go_wp2_with fail
  go_at_call 42
  go_fit HSP.out
  rintro e W7 ⟨vq, rfl, hvq, hB⟩
  replace HB:=zh (HB.out.trans (hB.mono HB.out.size))
  replace HT:=zh (HT0.out.below HB.out)
  replace HL:=zh (HL0.out.below HB.out)
  replace HS:=zh (HS0.out.below HB.out)
  replace HD:=zh (HD0.out.below HB.out)
  replace HO:=zh (HO.out.step hB)
  replace O1:=zh (O1.out.step hB)
  replace O2:=zh (O2.out.step hB)
  replace O3:=zh (O3.out.step hB)
  replace O4:=zh (O4.out.step hB)
  clear hB
  obtain ⟨b8, m8, k8, rfl, Hb8, x8, y8⟩ := hvq.sh
  have HQ := zh hvq
  clear hvq HSP
  have qO0 : W7.cell? ⟨(N + 1), 0, none⟩ = some (.int .i64 0) := cell_at HO.out 0
  have qO1 : W7.cell? ⟨(N + 1), 1, none⟩ = some (.int .i64 0) := cell_at HO.out 1
  have qO2 : W7.cell? ⟨(N + 1), 2, none⟩ = some (.int .i64 0) := cell_at HO.out 2
  have qO3 : W7.cell? ⟨(N + 1), 3, none⟩ = some (.slice none 0 0) := cell_at HO.out 3
  have qO4 : W7.cell? ⟨(N + 1), 4, none⟩ = some (.slice none 0 0) := cell_at HO.out 4
  have qO5 : W7.cell? ⟨(N + 1), 5, none⟩ = some (.slice none 0 0) := cell_at HO.out 5
  have qO6 : W7.cell? ⟨(N + 1), 6, none⟩ = some (.slice none 0 0) := cell_at HO.out 6
  have qOz : ∀ j, W7.frozen? ⟨(N + 1), j, none⟩ = false := fun j => free_at HO.out j
  have qOl : (N + 1) < W7.heap.size := HO.out.lt
  go_wp2_with fail
  clear qO0 qO1 qO2 qO3 qO4 qO5 qO6 qOz qOl
  obtain ⟨LS, hLS⟩ : ∃ L : List Value, L = [.int .i64 s.term, .int .i64 s.stamp, .int .i64 s.next, .slice b8 m8 k8, .slice b2 m2 k2, .slice b3 m3 k3, .slice b4 m4 k4] := ⟨_, rfl⟩
  obtain ⟨W8, hWS⟩ : ∃ WS, WS = W7.setCells (N + 1) 0 LS := ⟨_, rfl⟩
  have hch := hWS
  rw [hLS] at hch
  simp only [World.setCells, Nat.zero_add, Nat.reduceAdd] at hch
  rw [← hch]
  clear hch
  have hkS := stC_blk HO.out LS (by rw [hLS]; rfl)
  have hfS := stC_fr (N + 1) LS 0 W7
  rw [← hWS] at hkS hfS
  rw [hLS] at hkS
  replace HB:=zh (HB.out.trans (hfS.below HB.out.size (by have := HLON.out; simp; try omega)))
  replace O2:=zh (O2.out.fr hfS (by have := FO2.out; omega))
  replace O3:=zh (O3.out.fr hfS (by have := FO3.out; omega))
  replace O4:=zh (O4.out.fr hfS (by have := FO4.out; omega))
  replace HQ:=zh (HQ.out.fr HO.out hfS)
  replace HO:=zh (show Blk W8 (N + 1) #[.int .i64 s.term, .int .i64 s.stamp, .int .i64 s.next, .slice b8 m8 k8, .slice b2 m2 k2, .slice b3 m3 k3, .slice b4 m4 k4] 27 from hkS)
  clear hWS hLS hkS hfS
  have qO0 : W8.cell? ⟨(N + 1), 0, none⟩ = some (.int .i64 s.term) := cell_at HO.out 0
  have qO1 : W8.cell? ⟨(N + 1), 1, none⟩ = some (.int .i64 s.stamp) := cell_at HO.out 1
  have qO2 : W8.cell? ⟨(N + 1), 2, none⟩ = some (.int .i64 s.next) := cell_at HO.out 2
  have qO3 : W8.cell? ⟨(N + 1), 3, none⟩ = some (.slice b8 m8 k8) := cell_at HO.out 3
  have qO4 : W8.cell? ⟨(N + 1), 4, none⟩ = some (.slice b2 m2 k2) := cell_at HO.out 4
  have qO5 : W8.cell? ⟨(N + 1), 5, none⟩ = some (.slice b3 m3 k3) := cell_at HO.out 5
  have qO6 : W8.cell? ⟨(N + 1), 6, none⟩ = some (.slice b4 m4 k4) := cell_at HO.out 6
  have qOz : ∀ j, W8.frozen? ⟨(N + 1), j, none⟩ = false := fun j => free_at HO.out j
  have qOl : (N + 1) < W8.heap.size := HO.out.lt
  exact bodyPost_ret (v := .tuple #[.agg #[.int .i64 s.term, .int .i64 s.stamp, .int .i64 s.next, .slice b8 m8 k8, .slice b2 m2 k2, .slice b3 m3 k3, .slice b4 m4 k4], .int .i64 180]) (by simp [results, Try.results23, go_sem, qO0, qO1, qO2, qO3, qO4, qO5, qO6]) rfl ⟨_, rfl, (by rw [HR9.out, if_neg (by decide)]; exact ⟨_, _, _, _, rfl, HQ.out, O2.out.v, O3.out.v, O4.out.v⟩), HB.out⟩
 have db1 : (x.epoch != ep) = false := by simp [hb]
 have db2 : decide (x.epoch = ep) = true := decide_eq_true hb
 have HHb := zh hb
 clear hb
 replace HEX : Hid (E = if sp < x.spent ∨ x.size < sp then 2 else 0):=zh (by rw [HEX.out, if_pos ⟨HHa.out, HHb.out⟩])
 by_cases hc : sp < x.spent
 ·skip
  have ttc : decide (sp < x.spent) = true := decide_eq_true hc
  obtain rfl : E = 2 := (by rw [HEX.out, if_pos (by omega)])
  have qX90 : W5.cell? ⟨X9, 0, none⟩ = some (.int .i64 x.id) := cell_at HX9.out 0
  have qX91 : W5.cell? ⟨X9, 1, none⟩ = some (.int .i64 x.tenant) := cell_at HX9.out 1
  have qX92 : W5.cell? ⟨X9, 2, none⟩ = some (.int .i64 x.shaper) := cell_at HX9.out 2
  have qX93 : W5.cell? ⟨X9, 3, none⟩ = some (.int .i64 x.epoch) := cell_at HX9.out 3
  have qX94 : W5.cell? ⟨X9, 4, none⟩ = some (.int .i64 x.number) := cell_at HX9.out 4
  have qX95 : W5.cell? ⟨X9, 5, none⟩ = some (.int .i64 x.size) := cell_at HX9.out 5
  have qX96 : W5.cell? ⟨X9, 6, none⟩ = some (.int .i64 x.spent) := cell_at HX9.out 6
  have qX9l : X9 < W5.heap.size := HX9.out.lt
  have qR0 : W5.cell? ⟨N, 0, none⟩ = some (.int .i64 s.term) := cell_at HR.out 0
  have qR1 : W5.cell? ⟨N, 1, none⟩ = some (.int .i64 s.stamp) := cell_at HR.out 1
  have qR2 : W5.cell? ⟨N, 2, none⟩ = some (.int .i64 s.next) := cell_at HR.out 2
  have qR3 : W5.cell? ⟨N, 3, none⟩ = some (.slice ta tn tc) := cell_at HR.out 3
  have qR4 : W5.cell? ⟨N, 4, none⟩ = some (.slice la ln lc) := cell_at HR.out 4
  have qR5 : W5.cell? ⟨N, 5, none⟩ = some (.slice sa sn sc) := cell_at HR.out 5
  have qR6 : W5.cell? ⟨N, 6, none⟩ = some (.slice da dn dc) := cell_at HR.out 6
  have qRl : N < W5.heap.size := HR.out.lt
  go_wp2_with fail
  have FOO := zh HO.out.lt
  have HB0L : Hid (w.heap.size ≤ W5.heap.size) := zh HB.out.size
  go_at_call 40
  go_fit (HTW.out _ _ (HSV.out _ HT.out HL.out HS.out HD.out))
  rintro e W6 ⟨v2, rfl, hso, hB⟩
  clear qX90 qX91 qX92 qX93 qX94 qX95 qX96 qX9l qR0 qR1 qR2 qR3 qR4 qR5 qR6 qRl
  replace HB:=zh (HB.out.trans (hB.mono HB.out.size))
  replace HT:=zh (HT0.out.below HB.out)
  replace HL:=zh (HL0.out.below HB.out)
  replace HS:=zh (HS0.out.below HB.out)
  replace HD:=zh (HD0.out.below HB.out)
  replace HR:=zh (HR.out.step hB)
  replace HO:=zh (HO.out.step hB)
  replace HX9:=zh (HX9.out.step hB)
  clear hB
  obtain ⟨vt2, vl2, vs2, vd2, ot, ol, os, od, rfl, o1, o2, o3, o4⟩ := hso
  obtain ⟨b1, m1, k1, rfl, Hb1, x1, y1⟩ := o1.v.sh
  obtain ⟨b2, m2, k2, rfl, Hb2, x2, y2⟩ := o2.v.sh
  obtain ⟨b3, m3, k3, rfl, Hb3, x3, y3⟩ := o3.v.sh
  obtain ⟨b4, m4, k4, rfl, Hb4, x4, y4⟩ := o4.v.sh
  have O1 := zh o1
  have FO1:=zh (show (N + 1) < W5.heap.size from FOO.out)
  have O2 := zh o2
  have FO2:=zh (show (N + 1) < W5.heap.size from FOO.out)
  have O3 := zh o3
  have FO3:=zh (show (N + 1) < W5.heap.size from FOO.out)
  have O4 := zh o4
  have FO4:=zh (show (N + 1) < W5.heap.size from FOO.out)
  clear o1 o2 o3 o4
  have HSP:=zh (rswept_any _ _ _ _ (s) W6 (tn_tv O1.out.v) O2.out.v O3.out.v O4.out.v HFEW.out HSZ9.out)
  go_wp2_with fail
  go_at_call 42
  go_fit HSP.out
  rintro e W7 ⟨vq, rfl, hvq, hB⟩
  replace HB:=zh (HB.out.trans (hB.mono HB.out.size))
  replace HT:=zh (HT0.out.below HB.out)
  replace HL:=zh (HL0.out.below HB.out)
  replace HS:=zh (HS0.out.below HB.out)
  replace HD:=zh (HD0.out.below HB.out)
  replace HO:=zh (HO.out.step hB)
  replace O1:=zh (O1.out.step hB)
  replace O2:=zh (O2.out.step hB)
  replace O3:=zh (O3.out.step hB)
  replace O4:=zh (O4.out.step hB)
  clear hB
  obtain ⟨b8, m8, k8, rfl, Hb8, x8, y8⟩ := hvq.sh
  have HQ := zh hvq
  clear hvq HSP
  have qO0 : W7.cell? ⟨(N + 1), 0, none⟩ = some (.int .i64 0) := cell_at HO.out 0
  have qO1 : W7.cell? ⟨(N + 1), 1, none⟩ = some (.int .i64 0) := cell_at HO.out 1
  have qO2 : W7.cell? ⟨(N + 1), 2, none⟩ = some (.int .i64 0) := cell_at HO.out 2
  have qO3 : W7.cell? ⟨(N + 1), 3, none⟩ = some (.slice none 0 0) := cell_at HO.out 3
  have qO4 : W7.cell? ⟨(N + 1), 4, none⟩ = some (.slice none 0 0) := cell_at HO.out 4
  have qO5 : W7.cell? ⟨(N + 1), 5, none⟩ = some (.slice none 0 0) := cell_at HO.out 5
  have qO6 : W7.cell? ⟨(N + 1), 6, none⟩ = some (.slice none 0 0) := cell_at HO.out 6
  have qOz : ∀ j, W7.frozen? ⟨(N + 1), j, none⟩ = false := fun j => free_at HO.out j
  have qOl : (N + 1) < W7.heap.size := HO.out.lt
  go_wp2_with fail
  clear qO0 qO1 qO2 qO3 qO4 qO5 qO6 qOz qOl
  obtain ⟨LS, hLS⟩ : ∃ L : List Value, L = [.int .i64 s.term, .int .i64 s.stamp, .int .i64 s.next, .slice b8 m8 k8, .slice b2 m2 k2, .slice b3 m3 k3, .slice b4 m4 k4] := ⟨_, rfl⟩
  obtain ⟨W8, hWS⟩ : ∃ WS, WS = W7.setCells (N + 1) 0 LS := ⟨_, rfl⟩
  have hch := hWS
  rw [hLS] at hch
  simp only [World.setCells, Nat.zero_add, Nat.reduceAdd] at hch
  rw [← hch]
  clear hch
  have hkS := stC_blk HO.out LS (by rw [hLS]; rfl)
  have hfS := stC_fr (N + 1) LS 0 W7
  rw [← hWS] at hkS hfS
  rw [hLS] at hkS
  replace HB:=zh (HB.out.trans (hfS.below HB.out.size (by have := HLON.out; simp; try omega)))
  replace O2:=zh (O2.out.fr hfS (by have := FO2.out; omega))
  replace O3:=zh (O3.out.fr hfS (by have := FO3.out; omega))
  replace O4:=zh (O4.out.fr hfS (by have := FO4.out; omega))
  replace HQ:=zh (HQ.out.fr HO.out hfS)
  replace HO:=zh (show Blk W8 (N + 1) #[.int .i64 s.term, .int .i64 s.stamp, .int .i64 s.next, .slice b8 m8 k8, .slice b2 m2 k2, .slice b3 m3 k3, .slice b4 m4 k4] 27 from hkS)
  clear hWS hLS hkS hfS
  have qO0 : W8.cell? ⟨(N + 1), 0, none⟩ = some (.int .i64 s.term) := cell_at HO.out 0
  have qO1 : W8.cell? ⟨(N + 1), 1, none⟩ = some (.int .i64 s.stamp) := cell_at HO.out 1
  have qO2 : W8.cell? ⟨(N + 1), 2, none⟩ = some (.int .i64 s.next) := cell_at HO.out 2
  have qO3 : W8.cell? ⟨(N + 1), 3, none⟩ = some (.slice b8 m8 k8) := cell_at HO.out 3
  have qO4 : W8.cell? ⟨(N + 1), 4, none⟩ = some (.slice b2 m2 k2) := cell_at HO.out 4
  have qO5 : W8.cell? ⟨(N + 1), 5, none⟩ = some (.slice b3 m3 k3) := cell_at HO.out 5
  have qO6 : W8.cell? ⟨(N + 1), 6, none⟩ = some (.slice b4 m4 k4) := cell_at HO.out 6
  have qOz : ∀ j, W8.frozen? ⟨(N + 1), j, none⟩ = false := fun j => free_at HO.out j
  have qOl : (N + 1) < W8.heap.size := HO.out.lt
  exact bodyPost_ret (v := .tuple #[.agg #[.int .i64 s.term, .int .i64 s.stamp, .int .i64 s.next, .slice b8 m8 k8, .slice b2 m2 k2, .slice b3 m3 k3, .slice b4 m4 k4], .int .i64 2]) (by simp [results, Try.results23, go_sem, qO0, qO1, qO2, qO3, qO4, qO5, qO6]) rfl ⟨_, rfl, (by rw [HR9.out, if_neg (by decide)]; exact ⟨_, _, _, _, rfl, HQ.out, O2.out.v, O3.out.v, O4.out.v⟩), HB.out⟩
 have ttc : decide (sp < x.spent) = false := decide_eq_false hc
 by_cases hd : x.size < sp
 ·skip
  have ttd : decide (x.size < sp) = true := decide_eq_true hd
  obtain rfl : E = 2 := (by rw [HEX.out, if_pos (by omega)])
  have qX90 : W5.cell? ⟨X9, 0, none⟩ = some (.int .i64 x.id) := cell_at HX9.out 0
  have qX91 : W5.cell? ⟨X9, 1, none⟩ = some (.int .i64 x.tenant) := cell_at HX9.out 1
  have qX92 : W5.cell? ⟨X9, 2, none⟩ = some (.int .i64 x.shaper) := cell_at HX9.out 2
  have qX93 : W5.cell? ⟨X9, 3, none⟩ = some (.int .i64 x.epoch) := cell_at HX9.out 3
  have qX94 : W5.cell? ⟨X9, 4, none⟩ = some (.int .i64 x.number) := cell_at HX9.out 4
  have qX95 : W5.cell? ⟨X9, 5, none⟩ = some (.int .i64 x.size) := cell_at HX9.out 5
  have qX96 : W5.cell? ⟨X9, 6, none⟩ = some (.int .i64 x.spent) := cell_at HX9.out 6
  have qX9l : X9 < W5.heap.size := HX9.out.lt
  have qR0 : W5.cell? ⟨N, 0, none⟩ = some (.int .i64 s.term) := cell_at HR.out 0
  have qR1 : W5.cell? ⟨N, 1, none⟩ = some (.int .i64 s.stamp) := cell_at HR.out 1
  have qR2 : W5.cell? ⟨N, 2, none⟩ = some (.int .i64 s.next) := cell_at HR.out 2
  have qR3 : W5.cell? ⟨N, 3, none⟩ = some (.slice ta tn tc) := cell_at HR.out 3
  have qR4 : W5.cell? ⟨N, 4, none⟩ = some (.slice la ln lc) := cell_at HR.out 4
  have qR5 : W5.cell? ⟨N, 5, none⟩ = some (.slice sa sn sc) := cell_at HR.out 5
  have qR6 : W5.cell? ⟨N, 6, none⟩ = some (.slice da dn dc) := cell_at HR.out 6
  have qRl : N < W5.heap.size := HR.out.lt
  go_wp2_with fail
  have FOO := zh HO.out.lt
  have HB0L : Hid (w.heap.size ≤ W5.heap.size) := zh HB.out.size
  go_at_call 40
  go_fit (HTW.out _ _ (HSV.out _ HT.out HL.out HS.out HD.out))
  rintro e W6 ⟨v2, rfl, hso, hB⟩
  clear qX90 qX91 qX92 qX93 qX94 qX95 qX96 qX9l qR0 qR1 qR2 qR3 qR4 qR5 qR6 qRl
  replace HB:=zh (HB.out.trans (hB.mono HB.out.size))
  replace HT:=zh (HT0.out.below HB.out)
  replace HL:=zh (HL0.out.below HB.out)
  replace HS:=zh (HS0.out.below HB.out)
  replace HD:=zh (HD0.out.below HB.out)
  replace HR:=zh (HR.out.step hB)
  replace HO:=zh (HO.out.step hB)
  replace HX9:=zh (HX9.out.step hB)
  clear hB
  obtain ⟨vt2, vl2, vs2, vd2, ot, ol, os, od, rfl, o1, o2, o3, o4⟩ := hso
  obtain ⟨b1, m1, k1, rfl, Hb1, x1, y1⟩ := o1.v.sh
  obtain ⟨b2, m2, k2, rfl, Hb2, x2, y2⟩ := o2.v.sh
  obtain ⟨b3, m3, k3, rfl, Hb3, x3, y3⟩ := o3.v.sh
  obtain ⟨b4, m4, k4, rfl, Hb4, x4, y4⟩ := o4.v.sh
  have O1 := zh o1
  have FO1:=zh (show (N + 1) < W5.heap.size from FOO.out)
  have O2 := zh o2
  have FO2:=zh (show (N + 1) < W5.heap.size from FOO.out)
  have O3 := zh o3
  have FO3:=zh (show (N + 1) < W5.heap.size from FOO.out)
  have O4 := zh o4
  have FO4:=zh (show (N + 1) < W5.heap.size from FOO.out)
  clear o1 o2 o3 o4
  have HSP:=zh (rswept_any _ _ _ _ (s) W6 (tn_tv O1.out.v) O2.out.v O3.out.v O4.out.v HFEW.out HSZ9.out)
  go_wp2_with fail
  go_at_call 42
  go_fit HSP.out
  rintro e W7 ⟨vq, rfl, hvq, hB⟩
  replace HB:=zh (HB.out.trans (hB.mono HB.out.size))
  replace HT:=zh (HT0.out.below HB.out)
  replace HL:=zh (HL0.out.below HB.out)
  replace HS:=zh (HS0.out.below HB.out)
  replace HD:=zh (HD0.out.below HB.out)
  replace HO:=zh (HO.out.step hB)
  replace O1:=zh (O1.out.step hB)
  replace O2:=zh (O2.out.step hB)
  replace O3:=zh (O3.out.step hB)
  replace O4:=zh (O4.out.step hB)
  clear hB
  obtain ⟨b8, m8, k8, rfl, Hb8, x8, y8⟩ := hvq.sh
  have HQ := zh hvq
  clear hvq HSP
  have qO0 : W7.cell? ⟨(N + 1), 0, none⟩ = some (.int .i64 0) := cell_at HO.out 0
  have qO1 : W7.cell? ⟨(N + 1), 1, none⟩ = some (.int .i64 0) := cell_at HO.out 1
  have qO2 : W7.cell? ⟨(N + 1), 2, none⟩ = some (.int .i64 0) := cell_at HO.out 2
  have qO3 : W7.cell? ⟨(N + 1), 3, none⟩ = some (.slice none 0 0) := cell_at HO.out 3
  have qO4 : W7.cell? ⟨(N + 1), 4, none⟩ = some (.slice none 0 0) := cell_at HO.out 4
  have qO5 : W7.cell? ⟨(N + 1), 5, none⟩ = some (.slice none 0 0) := cell_at HO.out 5
  have qO6 : W7.cell? ⟨(N + 1), 6, none⟩ = some (.slice none 0 0) := cell_at HO.out 6
  have qOz : ∀ j, W7.frozen? ⟨(N + 1), j, none⟩ = false := fun j => free_at HO.out j
  have qOl : (N + 1) < W7.heap.size := HO.out.lt
  go_wp2_with fail
  clear qO0 qO1 qO2 qO3 qO4 qO5 qO6 qOz qOl
  obtain ⟨LS, hLS⟩ : ∃ L : List Value, L = [.int .i64 s.term, .int .i64 s.stamp, .int .i64 s.next, .slice b8 m8 k8, .slice b2 m2 k2, .slice b3 m3 k3, .slice b4 m4 k4] := ⟨_, rfl⟩
  obtain ⟨W8, hWS⟩ : ∃ WS, WS = W7.setCells (N + 1) 0 LS := ⟨_, rfl⟩
  have hch := hWS
  rw [hLS] at hch
  simp only [World.setCells, Nat.zero_add, Nat.reduceAdd] at hch
  rw [← hch]
  clear hch
  have hkS := stC_blk HO.out LS (by rw [hLS]; rfl)
  have hfS := stC_fr (N + 1) LS 0 W7
  rw [← hWS] at hkS hfS
  rw [hLS] at hkS
  replace HB:=zh (HB.out.trans (hfS.below HB.out.size (by have := HLON.out; simp; try omega)))
  replace O2:=zh (O2.out.fr hfS (by have := FO2.out; omega))
  replace O3:=zh (O3.out.fr hfS (by have := FO3.out; omega))
  replace O4:=zh (O4.out.fr hfS (by have := FO4.out; omega))
  replace HQ:=zh (HQ.out.fr HO.out hfS)
  replace HO:=zh (show Blk W8 (N + 1) #[.int .i64 s.term, .int .i64 s.stamp, .int .i64 s.next, .slice b8 m8 k8, .slice b2 m2 k2, .slice b3 m3 k3, .slice b4 m4 k4] 27 from hkS)
  clear hWS hLS hkS hfS
  have qO0 : W8.cell? ⟨(N + 1), 0, none⟩ = some (.int .i64 s.term) := cell_at HO.out 0
  have qO1 : W8.cell? ⟨(N + 1), 1, none⟩ = some (.int .i64 s.stamp) := cell_at HO.out 1
  have qO2 : W8.cell? ⟨(N + 1), 2, none⟩ = some (.int .i64 s.next) := cell_at HO.out 2
  have qO3 : W8.cell? ⟨(N + 1), 3, none⟩ = some (.slice b8 m8 k8) := cell_at HO.out 3
  have qO4 : W8.cell? ⟨(N + 1), 4, none⟩ = some (.slice b2 m2 k2) := cell_at HO.out 4
  have qO5 : W8.cell? ⟨(N + 1), 5, none⟩ = some (.slice b3 m3 k3) := cell_at HO.out 5
  have qO6 : W8.cell? ⟨(N + 1), 6, none⟩ = some (.slice b4 m4 k4) := cell_at HO.out 6
  have qOz : ∀ j, W8.frozen? ⟨(N + 1), j, none⟩ = false := fun j => free_at HO.out j
  have qOl : (N + 1) < W8.heap.size := HO.out.lt
  exact bodyPost_ret (v := .tuple #[.agg #[.int .i64 s.term, .int .i64 s.stamp, .int .i64 s.next, .slice b8 m8 k8, .slice b2 m2 k2, .slice b3 m3 k3, .slice b4 m4 k4], .int .i64 2]) (by simp [results, Try.results23, go_sem, qO0, qO1, qO2, qO3, qO4, qO5, qO6]) rfl ⟨_, rfl, (by rw [HR9.out, if_neg (by decide)]; exact ⟨_, _, _, _, rfl, HQ.out, O2.out.v, O3.out.v, O4.out.v⟩), HB.out⟩
 have ttd : decide (x.size < sp) = false := decide_eq_false hd
 have hE0 : E = 0 := by rw [HEX.out, if_neg (by omega)]
 subst hE0
 replace HR9 : Hid (R = sweptS (rpL s le sp cl)):=zh (by rw [HR9.out, if_pos rfl])
 clear HEX
 have qX90 : W5.cell? ⟨X9, 0, none⟩ = some (.int .i64 x.id) := cell_at HX9.out 0
 have qX91 : W5.cell? ⟨X9, 1, none⟩ = some (.int .i64 x.tenant) := cell_at HX9.out 1
 have qX92 : W5.cell? ⟨X9, 2, none⟩ = some (.int .i64 x.shaper) := cell_at HX9.out 2
 have qX93 : W5.cell? ⟨X9, 3, none⟩ = some (.int .i64 x.epoch) := cell_at HX9.out 3
 have qX94 : W5.cell? ⟨X9, 4, none⟩ = some (.int .i64 x.number) := cell_at HX9.out 4
 have qX95 : W5.cell? ⟨X9, 5, none⟩ = some (.int .i64 x.size) := cell_at HX9.out 5
 have qX96 : W5.cell? ⟨X9, 6, none⟩ = some (.int .i64 x.spent) := cell_at HX9.out 6
 have qX9l : X9 < W5.heap.size := HX9.out.lt
 have qR0 : W5.cell? ⟨N, 0, none⟩ = some (.int .i64 s.term) := cell_at HR.out 0
 have qR1 : W5.cell? ⟨N, 1, none⟩ = some (.int .i64 s.stamp) := cell_at HR.out 1
 have qR2 : W5.cell? ⟨N, 2, none⟩ = some (.int .i64 s.next) := cell_at HR.out 2
 have qR3 : W5.cell? ⟨N, 3, none⟩ = some (.slice ta tn tc) := cell_at HR.out 3
 have qR4 : W5.cell? ⟨N, 4, none⟩ = some (.slice la ln lc) := cell_at HR.out 4
 have qR5 : W5.cell? ⟨N, 5, none⟩ = some (.slice sa sn sc) := cell_at HR.out 5
 have qR6 : W5.cell? ⟨N, 6, none⟩ = some (.slice da dn dc) := cell_at HR.out 6
 have qRl : N < W5.heap.size := HR.out.lt
 go_wp2_with fail
 have FOO := zh HO.out.lt
 have HB0L : Hid (w.heap.size ≤ W5.heap.size) := zh HB.out.size
 go_at_call 40
 go_fit (HTW.out _ _ (HSV.out _ HT.out HL.out HS.out HD.out))
 rintro e W6 ⟨v2, rfl, hso, hB⟩
 clear qX90 qX91 qX92 qX93 qX94 qX95 qX96 qX9l qR0 qR1 qR2 qR3 qR4 qR5 qR6 qRl
 replace HB:=zh (HB.out.trans (hB.mono HB.out.size))
 replace HT:=zh (HT0.out.below HB.out)
 replace HL:=zh (HL0.out.below HB.out)
 replace HS:=zh (HS0.out.below HB.out)
 replace HD:=zh (HD0.out.below HB.out)
 replace HR:=zh (HR.out.step hB)
 replace HO:=zh (HO.out.step hB)
 replace HX9:=zh (HX9.out.step hB)
 clear hB
 obtain ⟨vt2, vl2, vs2, vd2, ot, ol, os, od, rfl, o1, o2, o3, o4⟩ := hso
 obtain ⟨b1, m1, k1, rfl, Hb1, x1, y1⟩ := o1.v.sh
 obtain ⟨b2, m2, k2, rfl, Hb2, x2, y2⟩ := o2.v.sh
 obtain ⟨b3, m3, k3, rfl, Hb3, x3, y3⟩ := o3.v.sh
 obtain ⟨b4, m4, k4, rfl, Hb4, x4, y4⟩ := o4.v.sh
 have O1 := zh o1
 have FO1:=zh (show (N + 1) < W5.heap.size from FOO.out)
 have O2 := zh o2
 have FO2:=zh (show (N + 1) < W5.heap.size from FOO.out)
 have O3 := zh o3
 have FO3:=zh (show (N + 1) < W5.heap.size from FOO.out)
 have O4 := zh o4
 have FO4:=zh (show (N + 1) < W5.heap.size from FOO.out)
 clear o1 o2 o3 o4
 go_upto_region 9 with fail
 obtain ⟨U9, hU9⟩ : ∃ n0, n0 = W6.heap.size := ⟨_, rfl⟩
 have HXU9HR : Hid (N < U9):=zh (by rw [hU9]; exact HR.out.lt)
 have HXU9HO : Hid ((N + 1) < U9):=zh (by rw [hU9]; exact HO.out.lt)
 have HXU9HX9 : Hid (X9 < U9):=zh (by rw [hU9]; exact HX9.out.lt)
 have HUU9O1 : Hid (∀ g, ot = some g → g < U9):=zh (fun g e => by rw [hU9]; first | (subst e; exact O1.out.1.lt) | (obtain rfl := Option.some.inj e; exact O1.out.1.lt))
 have HUU9O2 : Hid (∀ g, ol = some g → g < U9):=zh (fun g e => by rw [hU9]; first | (subst e; exact O2.out.1.lt) | (obtain rfl := Option.some.inj e; exact O2.out.1.lt))
 have HUU9O3 : Hid (∀ g, os = some g → g < U9):=zh (fun g e => by rw [hU9]; first | (subst e; exact O3.out.1.lt) | (obtain rfl := Option.some.inj e; exact O3.out.1.lt))
 have HUU9O4 : Hid (∀ g, od = some g → g < U9):=zh (fun g e => by rw [hU9]; first | (subst e; exact O4.out.1.lt) | (obtain rfl := Option.some.inj e; exact O4.out.1.lt))
 have HLOU9 : Hid (w.heap.size ≤ U9):=zh (by have := HB.out.size; omega)
 obtain ⟨W7, hA0⟩ : ∃ W0, W0 = W6.alloc (.cells #[.int .i64 s.term, .int .i64 s.stamp, .int .i64 s.next, .slice b1 m1 k1, .slice b2 m2 k2, .slice b3 m3 k3, .slice b4 m4 k4] 27) := ⟨_, rfl⟩
 have hB : Below W6.heap.size W6 W7 := by rw [hA0]; exact (Below.refl _ _).alloc (Nat.le_refl _) _
 have hS0 : W7.heap.size = U9 + 1 := by rw [hA0]; simp [← hU9]
 have HU:=zh (show Blk W7 U9 #[.int .i64 s.term, .int .i64 s.stamp, .int .i64 s.next, .slice b1 m1 k1, .slice b2 m2 k2, .slice b3 m3 k3, .slice b4 m4 k4] 27 by rw [hA0, hU9]; exact blk_new _ _ _)
 replace HB:=zh (HB.out.trans (hB.mono HB.out.size))
 replace HT:=zh (HT0.out.below HB.out)
 replace HL:=zh (HL0.out.below HB.out)
 replace HS:=zh (HS0.out.below HB.out)
 replace HD:=zh (HD0.out.below HB.out)
 replace HR:=zh (HR.out.step hB)
 replace HO:=zh (HO.out.step hB)
 replace HX9:=zh (HX9.out.step hB)
 replace O1:=zh (O1.out.step hB)
 replace O2:=zh (O2.out.step hB)
 replace O3:=zh (O3.out.step hB)
 replace O4:=zh (O4.out.step hB)
 clear hB
 rw [← hU9, ← hA0]
 clear hA0 hU9 hS0
 cases cl
 rotate_left
 ·skip
  have qU0 : W7.cell? ⟨U9, 0, none⟩ = some (.int .i64 s.term) := cell_at HU.out 0
  have qU1 : W7.cell? ⟨U9, 1, none⟩ = some (.int .i64 s.stamp) := cell_at HU.out 1
  have qU2 : W7.cell? ⟨U9, 2, none⟩ = some (.int .i64 s.next) := cell_at HU.out 2
  have qU3 : W7.cell? ⟨U9, 3, none⟩ = some (.slice b1 m1 k1) := cell_at HU.out 3
  have qU4 : W7.cell? ⟨U9, 4, none⟩ = some (.slice b2 m2 k2) := cell_at HU.out 4
  have qU5 : W7.cell? ⟨U9, 5, none⟩ = some (.slice b3 m3 k3) := cell_at HU.out 5
  have qU6 : W7.cell? ⟨U9, 6, none⟩ = some (.slice b4 m4 k4) := cell_at HU.out 6
  have qUz : ∀ j, W7.frozen? ⟨U9, j, none⟩ = false := fun j => free_at HU.out j
  have qUl : U9 < W7.heap.size := HU.out.lt
  have qX90 : W7.cell? ⟨X9, 0, none⟩ = some (.int .i64 x.id) := cell_at HX9.out 0
  have qX91 : W7.cell? ⟨X9, 1, none⟩ = some (.int .i64 x.tenant) := cell_at HX9.out 1
  have qX92 : W7.cell? ⟨X9, 2, none⟩ = some (.int .i64 x.shaper) := cell_at HX9.out 2
  have qX93 : W7.cell? ⟨X9, 3, none⟩ = some (.int .i64 x.epoch) := cell_at HX9.out 3
  have qX94 : W7.cell? ⟨X9, 4, none⟩ = some (.int .i64 x.number) := cell_at HX9.out 4
  have qX95 : W7.cell? ⟨X9, 5, none⟩ = some (.int .i64 x.size) := cell_at HX9.out 5
  have qX96 : W7.cell? ⟨X9, 6, none⟩ = some (.int .i64 x.spent) := cell_at HX9.out 6
  have qX9l : X9 < W7.heap.size := HX9.out.lt
  have HWO:=zh (rwithout_any _ _ _ _ s le W7 (tn_tv O1.out.v) O2.out.v O3.out.v O4.out.v HFEW.out)
  have HZ9 : Hid (sizeB (wo le s.ls)):=zh (sizeB_filter _ HSZ9.out)
  have HF1 : Hid ((wo le s.ls).length ≤ 200):=zh (Nat.le_trans (List.length_filter_le _ _) HFEW.out.2.1)
  have HRW:=zh (fun W key (h : TV W (.slice ta tn tc) s.ts) => rfind_any _ s.ts key W h)
  have hok9 := fndC_ok x.tenant HT.out.ok
  obtain ⟨y, hy⟩ : ∃ y, y = (fndC x.tenant s.ts).getD z0 := ⟨_, rfl⟩
  obtain ⟨sm, hsm⟩ : ∃ sm, sm = (fndC x.tenant s.ts).isSome := ⟨_, rfl⟩
  replace HRW:=zh (fun W h => HRW.out W x.tenant h)
  unfold TnE.agg at HRW
  rw [← hy, ← hsm] at HRW
  rw [← hy] at hok9
  have HOKY := zh hok9
  have HYY := zh hy
  obtain ⟨yg, hyg⟩ : ∃ yg, yg = y.gone := ⟨_, rfl⟩
  rw [← hyg] at HRW
  have HYG := zh hyg
  clear hy hsm hok9 hyg
  go_wp2_with fail
  go_at_call 56
  go_fit HWO.out
  rintro e W8 ⟨v5, rfl, hv5, hB⟩
  clear qU0 qU1 qU2 qU3 qU4 qU5 qU6 qUz qUl qX90 qX91 qX92 qX93 qX94 qX95 qX96 qX9l
  replace HB:=zh (HB.out.trans (hB.mono HB.out.size))
  replace HT:=zh (HT0.out.below HB.out)
  replace HL:=zh (HL0.out.below HB.out)
  replace HS:=zh (HS0.out.below HB.out)
  replace HD:=zh (HD0.out.below HB.out)
  replace HR:=zh (HR.out.step hB)
  replace HO:=zh (HO.out.step hB)
  replace HX9:=zh (HX9.out.step hB)
  replace O1:=zh (O1.out.step hB)
  replace O2:=zh (O2.out.step hB)
  replace O3:=zh (O3.out.step hB)
  replace O4:=zh (O4.out.step hB)
  replace HU:=zh (HU.out.step hB)
  clear hB
  obtain ⟨b5, m5, k5, rfl, Hb5, x5, y5⟩ := hv5.sh
  have HQ5 := zh hv5
  clear hv5 HWO
  have qU0 : W8.cell? ⟨U9, 0, none⟩ = some (.int .i64 s.term) := cell_at HU.out 0
  have qU1 : W8.cell? ⟨U9, 1, none⟩ = some (.int .i64 s.stamp) := cell_at HU.out 1
  have qU2 : W8.cell? ⟨U9, 2, none⟩ = some (.int .i64 s.next) := cell_at HU.out 2
  have qU3 : W8.cell? ⟨U9, 3, none⟩ = some (.slice b1 m1 k1) := cell_at HU.out 3
  have qU4 : W8.cell? ⟨U9, 4, none⟩ = some (.slice b2 m2 k2) := cell_at HU.out 4
  have qU5 : W8.cell? ⟨U9, 5, none⟩ = some (.slice b3 m3 k3) := cell_at HU.out 5
  have qU6 : W8.cell? ⟨U9, 6, none⟩ = some (.slice b4 m4 k4) := cell_at HU.out 6
  have qUz : ∀ j, W8.frozen? ⟨U9, j, none⟩ = false := fun j => free_at HU.out j
  have qUl : U9 < W8.heap.size := HU.out.lt
  go_upto_region 17 with fail
  clear qU0 qU1 qU2 qU3 qU4 qU5 qU6 qUz qUl
  obtain ⟨LS, hLS⟩ : ∃ L : List Value, L = [.int .i64 s.term, .int .i64 s.stamp, .int .i64 s.next, .slice b1 m1 k1, .slice b5 m5 k5, .slice b3 m3 k3, .slice b4 m4 k4] := ⟨_, rfl⟩
  obtain ⟨W9, hWS⟩ : ∃ WS, WS = W8.setCells U9 0 LS := ⟨_, rfl⟩
  have hch := hWS
  rw [hLS] at hch
  simp only [World.setCells, Nat.zero_add, Nat.reduceAdd] at hch
  rw [← hch]
  clear hch
  have hkS := stC_blk HU.out LS (by rw [hLS]; rfl)
  have hfS := stC_fr U9 LS 0 W8
  rw [← hWS] at hkS hfS
  rw [hLS] at hkS
  replace HB:=zh (HB.out.trans (hfS.below HB.out.size (by have := HLOU9.out; simp; try omega)))
  replace HT:=zh (HT0.out.below HB.out)
  replace HL:=zh (HL0.out.below HB.out)
  replace HS:=zh (HS0.out.below HB.out)
  replace HD:=zh (HD0.out.below HB.out)
  replace HR:=zh (show Blk W9 N #[.int .i64 s.term, .int .i64 s.stamp, .int .i64 s.next, .slice ta tn tc, .slice la ln lc, .slice sa sn sc, .slice da dn dc] 27 from (hfS.block _ HR.out.lt (by have hx0 := HXX9HR.out; have hx1 := HXX9HO.out; have hx2 := HXU9HR.out; have hx3 := HXU9HO.out; have hx4 := HXU9HX9.out; simp; try omega)).trans HR.out)
  replace HO:=zh (show Blk W9 (N + 1) #[.int .i64 0, .int .i64 0, .int .i64 0, .slice none 0 0, .slice none 0 0, .slice none 0 0, .slice none 0 0] 27 from (hfS.block _ HO.out.lt (by have hx0 := HXX9HR.out; have hx1 := HXX9HO.out; have hx2 := HXU9HR.out; have hx3 := HXU9HO.out; have hx4 := HXU9HX9.out; simp; try omega)).trans HO.out)
  replace HX9:=zh (show Blk W9 X9 #[.int .i64 x.id, .int .i64 x.tenant, .int .i64 x.shaper, .int .i64 x.epoch, .int .i64 x.number, .int .i64 x.size, .int .i64 x.spent] 31 from (hfS.block _ HX9.out.lt (by have hx0 := HXX9HR.out; have hx1 := HXX9HO.out; have hx2 := HXU9HR.out; have hx3 := HXU9HO.out; have hx4 := HXU9HX9.out; simp; try omega)).trans HX9.out)
  replace O1:=zh (O1.out.frU hfS HUU9O1.out)
  replace O3:=zh (O3.out.frU hfS HUU9O3.out)
  replace O4:=zh (O4.out.frU hfS HUU9O4.out)
  replace HQ5:=zh (HQ5.out.fr HU.out hfS)
  replace HU:=zh (show Blk W9 U9 #[.int .i64 s.term, .int .i64 s.stamp, .int .i64 s.next, .slice b1 m1 k1, .slice b5 m5 k5, .slice b3 m3 k3, .slice b4 m4 k4] 27 from hkS)
  clear hWS hLS hkS hfS
  have qR0 : W9.cell? ⟨N, 0, none⟩ = some (.int .i64 s.term) := cell_at HR.out 0
  have qR1 : W9.cell? ⟨N, 1, none⟩ = some (.int .i64 s.stamp) := cell_at HR.out 1
  have qR2 : W9.cell? ⟨N, 2, none⟩ = some (.int .i64 s.next) := cell_at HR.out 2
  have qR3 : W9.cell? ⟨N, 3, none⟩ = some (.slice ta tn tc) := cell_at HR.out 3
  have qR4 : W9.cell? ⟨N, 4, none⟩ = some (.slice la ln lc) := cell_at HR.out 4
  have qR5 : W9.cell? ⟨N, 5, none⟩ = some (.slice sa sn sc) := cell_at HR.out 5
  have qR6 : W9.cell? ⟨N, 6, none⟩ = some (.slice da dn dc) := cell_at HR.out 6
  have qRl : N < W9.heap.size := HR.out.lt
  have qX90 : W9.cell? ⟨X9, 0, none⟩ = some (.int .i64 x.id) := cell_at HX9.out 0
  have qX91 : W9.cell? ⟨X9, 1, none⟩ = some (.int .i64 x.tenant) := cell_at HX9.out 1
  have qX92 : W9.cell? ⟨X9, 2, none⟩ = some (.int .i64 x.shaper) := cell_at HX9.out 2
  have qX93 : W9.cell? ⟨X9, 3, none⟩ = some (.int .i64 x.epoch) := cell_at HX9.out 3
  have qX94 : W9.cell? ⟨X9, 4, none⟩ = some (.int .i64 x.number) := cell_at HX9.out 4
  have qX95 : W9.cell? ⟨X9, 5, none⟩ = some (.int .i64 x.size) := cell_at HX9.out 5
  have qX96 : W9.cell? ⟨X9, 6, none⟩ = some (.int .i64 x.spent) := cell_at HX9.out 6
  have qX9l : X9 < W9.heap.size := HX9.out.lt
  go_wp2_with fail
  go_at_call 26
  go_fit (HRW.out _ HT.out)
  rintro e W10 ⟨rfl, hB⟩
  clear qR0 qR1 qR2 qR3 qR4 qR5 qR6 qRl qX90 qX91 qX92 qX93 qX94 qX95 qX96 qX9l
  replace HB:=zh (HB.out.trans (hB.mono HB.out.size))
  replace HT:=zh (HT0.out.below HB.out)
  replace HL:=zh (HL0.out.below HB.out)
  replace HS:=zh (HS0.out.below HB.out)
  replace HD:=zh (HD0.out.below HB.out)
  replace HR:=zh (HR.out.step hB)
  replace HO:=zh (HO.out.step hB)
  replace HX9:=zh (HX9.out.step hB)
  replace O1:=zh (O1.out.step hB)
  replace O3:=zh (O3.out.step hB)
  replace O4:=zh (O4.out.step hB)
  replace HU:=zh (HU.out.step hB)
  replace HQ5:=zh (HQ5.out.below hB)
  clear hB
  go_upto_region 18 with fail
  obtain ⟨T9, hT9⟩ : ∃ n0, n0 = W10.heap.size := ⟨_, rfl⟩
  have HXT9HR : Hid (N < T9):=zh (by rw [hT9]; exact HR.out.lt)
  have HXT9HO : Hid ((N + 1) < T9):=zh (by rw [hT9]; exact HO.out.lt)
  have HXT9HX9 : Hid (X9 < T9):=zh (by rw [hT9]; exact HX9.out.lt)
  have HXT9HU : Hid (U9 < T9):=zh (by rw [hT9]; exact HU.out.lt)
  have HUT9O1 : Hid (∀ g, ot = some g → g < T9):=zh (fun g e => by rw [hT9]; first | (subst e; exact O1.out.1.lt) | (obtain rfl := Option.some.inj e; exact O1.out.1.lt))
  have HUT9O3 : Hid (∀ g, os = some g → g < T9):=zh (fun g e => by rw [hT9]; first | (subst e; exact O3.out.1.lt) | (obtain rfl := Option.some.inj e; exact O3.out.1.lt))
  have HUT9O4 : Hid (∀ g, od = some g → g < T9):=zh (fun g e => by rw [hT9]; first | (subst e; exact O4.out.1.lt) | (obtain rfl := Option.some.inj e; exact O4.out.1.lt))
  have HLOT9 : Hid (w.heap.size ≤ T9):=zh (by have := HB.out.size; omega)
  obtain ⟨W11, hA0⟩ : ∃ W0, W0 = W10.alloc (.cells #[.int .i64 y.id, .int .i64 y.rate, .int .i64 y.burst, .int .i64 y.bkt, .bool yg] 54) := ⟨_, rfl⟩
  have hB : Below W10.heap.size W10 W11 := by rw [hA0]; exact (Below.refl _ _).alloc (Nat.le_refl _) _
  have hS0 : W11.heap.size = T9 + 1 := by rw [hA0]; simp [← hT9]
  have HT9:=zh (show Blk W11 T9 #[.int .i64 y.id, .int .i64 y.rate, .int .i64 y.burst, .int .i64 y.bkt, .bool yg] 54 by rw [hA0, hT9]; exact blk_new _ _ _)
  replace HB:=zh (HB.out.trans (hB.mono HB.out.size))
  replace HT:=zh (HT0.out.below HB.out)
  replace HL:=zh (HL0.out.below HB.out)
  replace HS:=zh (HS0.out.below HB.out)
  replace HD:=zh (HD0.out.below HB.out)
  replace HR:=zh (HR.out.step hB)
  replace HO:=zh (HO.out.step hB)
  replace HX9:=zh (HX9.out.step hB)
  replace O1:=zh (O1.out.step hB)
  replace O3:=zh (O3.out.step hB)
  replace O4:=zh (O4.out.step hB)
  replace HU:=zh (HU.out.step hB)
  replace HQ5:=zh (HQ5.out.below hB)
  clear hB
  rw [← hT9, ← hA0]
  clear hA0 hT9 hS0
  cases yg
  rotate_left
  ·skip
   have HBL : Hid (bkL s.ts x.tenant (outL (wo le s.ls) x.tenant) (x.size - sp) = s.ts):=zh (by unfold bkL; rw [← HYY.out]; simp only [← HYG.out]; rfl)
   have HF9 : Hid (fewS ⟨s.term, s.stamp, s.next, s.ts, wo le s.ls, s.ss, s.ds⟩) := zh ⟨HFEW.out.1, HF1.out, HFEW.out.2.2.1, HFEW.out.2.2.2⟩
   have qT90 : W11.cell? ⟨T9, 0, none⟩ = some (.int .i64 y.id) := cell_at HT9.out 0
   have qT91 : W11.cell? ⟨T9, 1, none⟩ = some (.int .i64 y.rate) := cell_at HT9.out 1
   have qT92 : W11.cell? ⟨T9, 2, none⟩ = some (.int .i64 y.burst) := cell_at HT9.out 2
   have qT93 : W11.cell? ⟨T9, 3, none⟩ = some (.int .i64 y.bkt) := cell_at HT9.out 3
   have qT94 : W11.cell? ⟨T9, 4, none⟩ = some (.bool true) := cell_at HT9.out 4
   have qT9z : ∀ j, W11.frozen? ⟨T9, j, none⟩ = false := fun j => free_at HT9.out j
   have qT9l : T9 < W11.heap.size := HT9.out.lt
   have qU0 : W11.cell? ⟨U9, 0, none⟩ = some (.int .i64 s.term) := cell_at HU.out 0
   have qU1 : W11.cell? ⟨U9, 1, none⟩ = some (.int .i64 s.stamp) := cell_at HU.out 1
   have qU2 : W11.cell? ⟨U9, 2, none⟩ = some (.int .i64 s.next) := cell_at HU.out 2
   have qU3 : W11.cell? ⟨U9, 3, none⟩ = some (.slice b1 m1 k1) := cell_at HU.out 3
   have qU4 : W11.cell? ⟨U9, 4, none⟩ = some (.slice b5 m5 k5) := cell_at HU.out 4
   have qU5 : W11.cell? ⟨U9, 5, none⟩ = some (.slice b3 m3 k3) := cell_at HU.out 5
   have qU6 : W11.cell? ⟨U9, 6, none⟩ = some (.slice b4 m4 k4) := cell_at HU.out 6
   have qUz : ∀ j, W11.frozen? ⟨U9, j, none⟩ = false := fun j => free_at HU.out j
   have qUl : U9 < W11.heap.size := HU.out.lt
   have HSP:=zh (rswept_any _ _ _ _ (⟨s.term, s.stamp, s.next, s.ts, wo le s.ls, s.ss, s.ds⟩) W11 (tn_tv O1.out.v) HQ5.out O3.out.v O4.out.v HF9.out HZ9.out)
   go_wp2_with fail
   go_at_call 42
   go_fit HSP.out
   rintro e W12 ⟨vq, rfl, hvq, hB⟩
   clear qT90 qT91 qT92 qT93 qT94 qT9z qT9l qU0 qU1 qU2 qU3 qU4 qU5 qU6 qUz qUl
   replace HB:=zh (HB.out.trans (hB.mono HB.out.size))
   replace HT:=zh (HT0.out.below HB.out)
   replace HL:=zh (HL0.out.below HB.out)
   replace HS:=zh (HS0.out.below HB.out)
   replace HD:=zh (HD0.out.below HB.out)
   replace HR:=zh (HR.out.step hB)
   replace HO:=zh (HO.out.step hB)
   replace HX9:=zh (HX9.out.step hB)
   replace O1:=zh (O1.out.step hB)
   replace O3:=zh (O3.out.step hB)
   replace O4:=zh (O4.out.step hB)
   replace HU:=zh (HU.out.step hB)
   replace HQ5:=zh (HQ5.out.below hB)
   replace HT9:=zh (HT9.out.step hB)
   clear hB
   obtain ⟨b8, m8, k8, rfl, Hb8, x8, y8⟩ := hvq.sh
   have HQ := zh hvq
   clear hvq HSP
   have qO0 : W12.cell? ⟨(N + 1), 0, none⟩ = some (.int .i64 0) := cell_at HO.out 0
   have qO1 : W12.cell? ⟨(N + 1), 1, none⟩ = some (.int .i64 0) := cell_at HO.out 1
   have qO2 : W12.cell? ⟨(N + 1), 2, none⟩ = some (.int .i64 0) := cell_at HO.out 2
   have qO3 : W12.cell? ⟨(N + 1), 3, none⟩ = some (.slice none 0 0) := cell_at HO.out 3
   have qO4 : W12.cell? ⟨(N + 1), 4, none⟩ = some (.slice none 0 0) := cell_at HO.out 4
   have qO5 : W12.cell? ⟨(N + 1), 5, none⟩ = some (.slice none 0 0) := cell_at HO.out 5
   have qO6 : W12.cell? ⟨(N + 1), 6, none⟩ = some (.slice none 0 0) := cell_at HO.out 6
   have qOz : ∀ j, W12.frozen? ⟨(N + 1), j, none⟩ = false := fun j => free_at HO.out j
   have qOl : (N + 1) < W12.heap.size := HO.out.lt
   go_wp2_with fail
   clear qO0 qO1 qO2 qO3 qO4 qO5 qO6 qOz qOl
   obtain ⟨LS, hLS⟩ : ∃ L : List Value, L = [.int .i64 s.term, .int .i64 s.stamp, .int .i64 s.next, .slice b8 m8 k8, .slice b5 m5 k5, .slice b3 m3 k3, .slice b4 m4 k4] := ⟨_, rfl⟩
   obtain ⟨W13, hWS⟩ : ∃ WS, WS = W12.setCells (N + 1) 0 LS := ⟨_, rfl⟩
   have hch := hWS
   rw [hLS] at hch
   simp only [World.setCells, Nat.zero_add, Nat.reduceAdd] at hch
   rw [← hch]
   clear hch
   have hkS := stC_blk HO.out LS (by rw [hLS]; rfl)
   have hfS := stC_fr (N + 1) LS 0 W12
   rw [← hWS] at hkS hfS
   rw [hLS] at hkS
   replace HB:=zh (HB.out.trans (hfS.below HB.out.size (by have := HLON.out; simp; try omega)))
   replace O3:=zh (O3.out.fr hfS (by have := FO3.out; omega))
   replace O4:=zh (O4.out.fr hfS (by have := FO4.out; omega))
   replace HQ5:=zh (HQ5.out.fr HO.out hfS)
   replace HQ:=zh (HQ.out.fr HO.out hfS)
   replace HO:=zh (show Blk W13 (N + 1) #[.int .i64 s.term, .int .i64 s.stamp, .int .i64 s.next, .slice b8 m8 k8, .slice b5 m5 k5, .slice b3 m3 k3, .slice b4 m4 k4] 27 from hkS)
   clear hWS hLS hkS hfS
   have qO0 : W13.cell? ⟨(N + 1), 0, none⟩ = some (.int .i64 s.term) := cell_at HO.out 0
   have qO1 : W13.cell? ⟨(N + 1), 1, none⟩ = some (.int .i64 s.stamp) := cell_at HO.out 1
   have qO2 : W13.cell? ⟨(N + 1), 2, none⟩ = some (.int .i64 s.next) := cell_at HO.out 2
   have qO3 : W13.cell? ⟨(N + 1), 3, none⟩ = some (.slice b8 m8 k8) := cell_at HO.out 3
   have qO4 : W13.cell? ⟨(N + 1), 4, none⟩ = some (.slice b5 m5 k5) := cell_at HO.out 4
   have qO5 : W13.cell? ⟨(N + 1), 5, none⟩ = some (.slice b3 m3 k3) := cell_at HO.out 5
   have qO6 : W13.cell? ⟨(N + 1), 6, none⟩ = some (.slice b4 m4 k4) := cell_at HO.out 6
   have qOz : ∀ j, W13.frozen? ⟨(N + 1), j, none⟩ = false := fun j => free_at HO.out j
   have qOl : (N + 1) < W13.heap.size := HO.out.lt
   exact bodyPost_ret (v := .tuple #[.agg #[.int .i64 s.term, .int .i64 s.stamp, .int .i64 s.next, .slice b8 m8 k8, .slice b5 m5 k5, .slice b3 m3 k3, .slice b4 m4 k4], .int .i64 0]) (by simp [results, Try.results23, go_sem, qO0, qO1, qO2, qO3, qO4, qO5, qO6]) rfl ⟨_, rfl, (by rw [HR9.out, HRL.out, if_neg (by simp)]; simp only [if_true]; rw [HBL.out]; exact ⟨_, _, _, _, rfl, HQ.out, HQ5.out, O3.out.v, O4.out.v⟩), HB.out⟩
  have HOX:=zh (fun W v (h : SV W v ⟨s.term, s.stamp, s.next, s.ts, wo le s.ls, s.ss, s.ds⟩) => rout_any v _ x.tenant W h ⟨HFEW.out.1, HF1.out, HFEW.out.2.2.1, HFEW.out.2.2.2⟩ HZ9.out)
  have hob := outL_bd (wo le s.ls) x.tenant HZ9.out
  have hlw := HF1.out
  obtain ⟨ou, hou⟩ : ∃ ou, ou = outL (wo le s.ls) x.tenant := ⟨_, rfl⟩
  have HOUE := zh hou
  replace HOX:=zh (fun W v (h : SV W v ⟨s.term, s.stamp, s.next, s.ts, wo le s.ls, s.ss, s.ds⟩) => by have h9 := HOX.out W v h; rw [show outL (StE.ls ⟨s.term, s.stamp, s.next, s.ts, wo le s.ls, s.ss, s.ds⟩) x.tenant = ou from hou.symm] at h9; exact h9)
  rw [← hou] at hob
  obtain ⟨lft, hlft⟩ : ∃ n, n = x.size - sp := ⟨_, rfl⟩
  have wl : IntKind.i64.wrap (x.size - sp) = lft := (IntWalk.i64_in _ (by omega)).trans hlft.symm
  have HBA:=zh (fun W => rback_any y.bkt y.burst ou lft (by omega) W)
  obtain ⟨nb, hnb⟩ : ∃ nb, nb = backS y.bkt y.burst ou lft := ⟨_, rfl⟩
  have hnbd := backS_bd y.bkt y.burst ou lft
  rw [← hnb] at HBA hnbd
  have HBL : Hid (bkL s.ts x.tenant (outL (wo le s.ls) x.tenant) (x.size - sp) = setL s.ts ⟨y.id, y.rate, y.burst, nb, false⟩):=zh (by unfold bkL; rw [← HYY.out]; dsimp only; rw [← hou, ← hlft, ← HYG.out, hnb]; rfl)
  have HOKX : Hid (TnE.ok ⟨y.id, y.rate, y.burst, nb, false⟩) := zh ⟨HOKY.out.1, HOKY.out.2.1, HOKY.out.2.2.1, (show -9223372036854775808 ≤ nb ∧ nb ≤ 9223372036854775807 by omega), trivial⟩
  have HSV5 : Hid (∀ X M1 M3 M4, TnO M1 X (.slice b1 m1 k1) ot s.ts → LeV X (.slice b5 m5 k5) (wo le s.ls) → SeO M3 X (.slice b3 m3 k3) os s.ss → DkO M4 X (.slice b4 m4 k4) od s.ds → SV X (.agg #[.int .i64 s.term, .int .i64 s.stamp, .int .i64 s.next, .slice b1 m1 k1, .slice b5 m5 k5, .slice b3 m3 k3, .slice b4 m4 k4]) ⟨s.term, s.stamp, s.next, s.ts, wo le s.ls, s.ss, s.ds⟩):=zh (fun X _ _ _ h1 h2 h3 h4 => ⟨_, _, _, _, rfl, tn_tv h1.v, h2, h3.v, h4.v⟩)
  clear hou hlft hnb hob hlw
  have qT90 : W11.cell? ⟨T9, 0, none⟩ = some (.int .i64 y.id) := cell_at HT9.out 0
  have qT91 : W11.cell? ⟨T9, 1, none⟩ = some (.int .i64 y.rate) := cell_at HT9.out 1
  have qT92 : W11.cell? ⟨T9, 2, none⟩ = some (.int .i64 y.burst) := cell_at HT9.out 2
  have qT93 : W11.cell? ⟨T9, 3, none⟩ = some (.int .i64 y.bkt) := cell_at HT9.out 3
  have qT94 : W11.cell? ⟨T9, 4, none⟩ = some (.bool false) := cell_at HT9.out 4
  have qT9z : ∀ j, W11.frozen? ⟨T9, j, none⟩ = false := fun j => free_at HT9.out j
  have qT9l : T9 < W11.heap.size := HT9.out.lt
  have qU0 : W11.cell? ⟨U9, 0, none⟩ = some (.int .i64 s.term) := cell_at HU.out 0
  have qU1 : W11.cell? ⟨U9, 1, none⟩ = some (.int .i64 s.stamp) := cell_at HU.out 1
  have qU2 : W11.cell? ⟨U9, 2, none⟩ = some (.int .i64 s.next) := cell_at HU.out 2
  have qU3 : W11.cell? ⟨U9, 3, none⟩ = some (.slice b1 m1 k1) := cell_at HU.out 3
  have qU4 : W11.cell? ⟨U9, 4, none⟩ = some (.slice b5 m5 k5) := cell_at HU.out 4
  have qU5 : W11.cell? ⟨U9, 5, none⟩ = some (.slice b3 m3 k3) := cell_at HU.out 5
  have qU6 : W11.cell? ⟨U9, 6, none⟩ = some (.slice b4 m4 k4) := cell_at HU.out 6
  have qUz : ∀ j, W11.frozen? ⟨U9, j, none⟩ = false := fun j => free_at HU.out j
  have qUl : U9 < W11.heap.size := HU.out.lt
  have qX90 : W11.cell? ⟨X9, 0, none⟩ = some (.int .i64 x.id) := cell_at HX9.out 0
  have qX91 : W11.cell? ⟨X9, 1, none⟩ = some (.int .i64 x.tenant) := cell_at HX9.out 1
  have qX92 : W11.cell? ⟨X9, 2, none⟩ = some (.int .i64 x.shaper) := cell_at HX9.out 2
  have qX93 : W11.cell? ⟨X9, 3, none⟩ = some (.int .i64 x.epoch) := cell_at HX9.out 3
  have qX94 : W11.cell? ⟨X9, 4, none⟩ = some (.int .i64 x.number) := cell_at HX9.out 4
  have qX95 : W11.cell? ⟨X9, 5, none⟩ = some (.int .i64 x.size) := cell_at HX9.out 5
  have qX96 : W11.cell? ⟨X9, 6, none⟩ = some (.int .i64 x.spent) := cell_at HX9.out 6
  have qX9l : X9 < W11.heap.size := HX9.out.lt
  go_wp2_with fail
  clear qT90 qT91 qT92 qT93 qT94 qT9z qT9l qU0 qU1 qU2 qU3 qU4 qU5 qU6 qUz qUl qX90 qX91 qX92 qX93 qX94 qX95 qX96 qX9l
  refine wp_region_held_drew (S := fun X => (X.cell? ⟨X9, 0, none⟩ = some (.int .i64 x.id) ∧ X.cell? ⟨X9, 1, none⟩ = some (.int .i64 x.tenant) ∧ X.cell? ⟨X9, 2, none⟩ = some (.int .i64 x.shaper) ∧ X.cell? ⟨X9, 3, none⟩ = some (.int .i64 x.epoch) ∧ X.cell? ⟨X9, 4, none⟩ = some (.int .i64 x.number) ∧ X.cell? ⟨X9, 5, none⟩ = some (.int .i64 x.size) ∧ X.cell? ⟨X9, 6, none⟩ = some (.int .i64 x.spent) ∧ X9 < X.heap.size) ∧ (X.cell? ⟨U9, 0, none⟩ = some (.int .i64 s.term) ∧ X.cell? ⟨U9, 1, none⟩ = some (.int .i64 s.stamp) ∧ X.cell? ⟨U9, 2, none⟩ = some (.int .i64 s.next) ∧ X.cell? ⟨U9, 3, none⟩ = some (.slice b1 m1 k1) ∧ X.cell? ⟨U9, 4, none⟩ = some (.slice b5 m5 k5) ∧ X.cell? ⟨U9, 5, none⟩ = some (.slice b3 m3 k3) ∧ X.cell? ⟨U9, 6, none⟩ = some (.slice b4 m4 k4) ∧ U9 < X.heap.size) ∧ (X.cell? ⟨T9, 0, none⟩ = some (.int .i64 y.id) ∧ X.cell? ⟨T9, 1, none⟩ = some (.int .i64 y.rate) ∧ X.cell? ⟨T9, 2, none⟩ = some (.int .i64 y.burst) ∧ X.cell? ⟨T9, 4, none⟩ = some (.bool false) ∧ T9 < X.heap.size)) (by kernel_rfl) ⟨⟨cell_at HX9.out 0, cell_at HX9.out 1, cell_at HX9.out 2, cell_at HX9.out 3, cell_at HX9.out 4, cell_at HX9.out 5, cell_at HX9.out 6, HX9.out.lt⟩, ⟨cell_at HU.out 0, cell_at HU.out 1, cell_at HU.out 2, cell_at HU.out 3, cell_at HU.out 4, cell_at HU.out 5, cell_at HU.out 6, HU.out.lt⟩, ⟨cell_at HT9.out 0, cell_at HT9.out 1, cell_at HT9.out 2, cell_at HT9.out 4, HT9.out.lt⟩⟩ (fun hHeld => ?_)
  ((refine wpAnyH_take (i := 0) (v := ?_) (by (simp only [List.getElem?_toArray, List.getElem?_cons_succ, List.getElem?_cons_zero]); rfl) (by kernel_rfl) (by kernel_rfl) (by kernel_rfl) (by exact fun _ _ _ h => h) (Or.inl ⟨by rfl, ?_⟩) (by assumption) ?_); rotate_left; focus (intro wS hSw; (try dsimp only at hSw); go_simp; first | done | with_reducible rfl); try simp only [Act.put, List.setIfInBounds_toArray, List.set_cons_zero, List.set_cons_succ])
  ((refine wpAnyH_take (i := 2) (v := ?_) (by (simp only [List.getElem?_toArray, List.getElem?_cons_succ, List.getElem?_cons_zero]); rfl) (by kernel_rfl) (by kernel_rfl) (by kernel_rfl) (by exact fun _ _ _ h => h) (Or.inl ⟨by rfl, ?_⟩) (by assumption) ?_); rotate_left; focus (intro wS hSw; (try dsimp only at hSw); go_simp; first | done | with_reducible rfl); try simp only [Act.put, List.setIfInBounds_toArray, List.set_cons_zero, List.set_cons_succ])
  ((refine wpAnyH_take (i := 3) (v := ?_) (by (simp only [List.getElem?_toArray, List.getElem?_cons_succ, List.getElem?_cons_zero]); rfl) (by kernel_rfl) (by kernel_rfl) (by kernel_rfl) (by exact fun _ _ _ h => h) (Or.inl ⟨by rfl, ?_⟩) (by assumption) ?_); rotate_left; focus (intro wS hSw; (try dsimp only at hSw); go_simp; first | done | with_reducible rfl); try simp only [Act.put, List.setIfInBounds_toArray, List.set_cons_zero, List.set_cons_succ])
  ((refine wpAnyH_take (i := 4) (v := ?_) (by (simp only [List.getElem?_toArray, List.getElem?_cons_succ, List.getElem?_cons_zero]); rfl) (by kernel_rfl) (by kernel_rfl) (by kernel_rfl) (by exact fun _ _ _ h => h) (Or.inl ⟨by rfl, ?_⟩) (by assumption) ?_); rotate_left; focus (intro wS hSw; (try dsimp only at hSw); go_simp; first | done | with_reducible rfl); try simp only [Act.put, List.setIfInBounds_toArray, List.set_cons_zero, List.set_cons_succ])
  ((refine wpAnyH_take (i := 5) (v := ?_) (by (simp only [List.getElem?_toArray, List.getElem?_cons_succ, List.getElem?_cons_zero]); rfl) (by kernel_rfl) (by kernel_rfl) (by kernel_rfl) (by exact fun _ _ _ h => h) (Or.inl ⟨by rfl, ?_⟩) (by assumption) ?_); rotate_left; focus (intro wS hSw; (try dsimp only at hSw); go_simp; first | done | with_reducible rfl); try simp only [Act.put, List.setIfInBounds_toArray, List.set_cons_zero, List.set_cons_succ])
  ((refine wpAnyH_take (i := 6) (v := ?_) (by (simp only [List.getElem?_toArray, List.getElem?_cons_succ, List.getElem?_cons_zero]); rfl) (by kernel_rfl) (by kernel_rfl) (by kernel_rfl) (by exact fun _ _ _ h => h) (Or.inl ⟨by rfl, ?_⟩) (by assumption) ?_); rotate_left; focus (intro wS hSw; (try dsimp only at hSw); go_simp; first | done | with_reducible rfl); try simp only [Act.put, List.setIfInBounds_toArray, List.set_cons_zero, List.set_cons_succ])
  ((refine wpAnyH_take (i := 8) (v := ?_) (by (simp only [List.getElem?_toArray, List.getElem?_cons_succ, List.getElem?_cons_zero]); rfl) (by kernel_rfl) (by kernel_rfl) (by kernel_rfl) (by exact fun _ _ _ h => h) (Or.inl ⟨by rfl, ?_⟩) (by assumption) ?_); rotate_left; focus (intro wS hSw; (try dsimp only at hSw); go_simp; first | done | with_reducible rfl); try simp only [Act.put, List.setIfInBounds_toArray, List.set_cons_zero, List.set_cons_succ])
  ((refine wpAnyH_take (i := 9) (v := ?_) (by (simp only [List.getElem?_toArray, List.getElem?_cons_succ, List.getElem?_cons_zero]); rfl) (by kernel_rfl) (by kernel_rfl) (by kernel_rfl) (by exact fun _ _ _ h => h) (Or.inl ⟨by rfl, ?_⟩) (by assumption) ?_); rotate_left; focus (intro wS hSw; (try dsimp only at hSw); go_simp; first | done | with_reducible rfl); try simp only [Act.put, List.setIfInBounds_toArray, List.set_cons_zero, List.set_cons_succ])
  ((refine wpAnyH_take (i := 10) (v := ?_) (by (simp only [List.getElem?_toArray, List.getElem?_cons_succ, List.getElem?_cons_zero]); rfl) (by kernel_rfl) (by kernel_rfl) (by kernel_rfl) (by exact fun _ _ _ h => h) (Or.inl ⟨by rfl, ?_⟩) (by assumption) ?_); rotate_left; focus (intro wS hSw; (try dsimp only at hSw); go_simp; first | done | with_reducible rfl); try simp only [Act.put, List.setIfInBounds_toArray, List.set_cons_zero, List.set_cons_succ])
  ((refine wpAnyH_take (i := 11) (v := ?_) (by (simp only [List.getElem?_toArray, List.getElem?_cons_succ, List.getElem?_cons_zero]); rfl) (by kernel_rfl) (by kernel_rfl) (by kernel_rfl) (by exact fun _ _ _ h => h) (Or.inl ⟨by rfl, ?_⟩) (by assumption) ?_); rotate_left; focus (intro wS hSw; (try dsimp only at hSw); go_simp; first | done | with_reducible rfl); try simp only [Act.put, List.setIfInBounds_toArray, List.set_cons_zero, List.set_cons_succ])
  refine wpAnyH_ready (rs := [1, 7]) (by kernel_rfl) (by simp) ?_
  refine AllReadyH.cons (by (simp only [List.getElem?_toArray, List.getElem?_cons_succ, List.getElem?_cons_zero]); rfl) (fun K hK => ?_) (AllReadyH.cons (by (simp only [List.getElem?_toArray, List.getElem?_cons_succ, List.getElem?_cons_zero]); rfl) (fun K hK => ?_) (AllReadyH.nil))
  ·skip
   have qT90 : W11.cell? ⟨T9, 0, none⟩ = some (.int .i64 y.id) := cell_at HT9.out 0
   have qT91 : W11.cell? ⟨T9, 1, none⟩ = some (.int .i64 y.rate) := cell_at HT9.out 1
   have qT92 : W11.cell? ⟨T9, 2, none⟩ = some (.int .i64 y.burst) := cell_at HT9.out 2
   have qT93 : W11.cell? ⟨T9, 3, none⟩ = some (.int .i64 y.bkt) := cell_at HT9.out 3
   have qT94 : W11.cell? ⟨T9, 4, none⟩ = some (.bool false) := cell_at HT9.out 4
   have qT9z : ∀ j, W11.frozen? ⟨T9, j, none⟩ = false := fun j => free_at HT9.out j
   have qT9l : T9 < W11.heap.size := HT9.out.lt
   rw [if_pos (by rfl)]
   go_simp
   refine hK.out _ _ ⟨⟨cell_at HX9.out 0, cell_at HX9.out 1, cell_at HX9.out 2, cell_at HX9.out 3, cell_at HX9.out 4, cell_at HX9.out 5, cell_at HX9.out 6, HX9.out.lt⟩, ⟨cell_at HU.out 0, cell_at HU.out 1, cell_at HU.out 2, cell_at HU.out 3, cell_at HU.out 4, cell_at HU.out 5, cell_at HU.out 6, HU.out.lt⟩, ⟨cell_at HT9.out 0, cell_at HT9.out 1, cell_at HT9.out 2, cell_at HT9.out 4, HT9.out.lt⟩⟩ (fun hHeld => ?_)
   clear hK K
   clear qT90 qT91 qT92 qT93 qT94 qT9z qT9l
   try simp only [Act.put, List.setIfInBounds_toArray, List.set_cons_zero, List.set_cons_succ]
   refine wpAnyH_ready (rs := [7]) (by kernel_rfl) (by simp) ?_
   refine AllReadyH.cons (by (simp only [List.getElem?_toArray, List.getElem?_cons_succ, List.getElem?_cons_zero]); rfl) (fun K hK => ?_) (AllReadyH.nil)
   go_simp
   go_fit (HOX.out _ _ (HSV5.out _ _ _ _ (by first | exact O1.out | exact O1.out.step (Below.refl _ _).drew) (by first | exact HQ5.out | exact HQ5.out.below (Below.refl _ _).drew) (by first | exact O3.out | exact O3.out.step (Below.refl _ _).drew) (by first | exact O4.out | exact O4.out.step (Below.refl _ _).drew)))
   rintro e W12 ⟨rfl, hB⟩
   try replace hB := below_undrew hB
   replace HB:=zh (HB.out.trans (hB.mono HB.out.size))
   replace HT:=zh (HT0.out.below HB.out)
   replace HL:=zh (HL0.out.below HB.out)
   replace HS:=zh (HS0.out.below HB.out)
   replace HD:=zh (HD0.out.below HB.out)
   replace HR:=zh (HR.out.step hB)
   replace HO:=zh (HO.out.step hB)
   replace HX9:=zh (HX9.out.step hB)
   replace O1:=zh (O1.out.step hB)
   replace O3:=zh (O3.out.step hB)
   replace O4:=zh (O4.out.step hB)
   replace HU:=zh (HU.out.step hB)
   replace HQ5:=zh (HQ5.out.below hB)
   replace HT9:=zh (HT9.out.step hB)
   go_wp2_with fail
   refine hK.out _ _ ⟨⟨cell_at HX9.out 0, cell_at HX9.out 1, cell_at HX9.out 2, cell_at HX9.out 3, cell_at HX9.out 4, cell_at HX9.out 5, cell_at HX9.out 6, HX9.out.lt⟩, ⟨cell_at HU.out 0, cell_at HU.out 1, cell_at HU.out 2, cell_at HU.out 3, cell_at HU.out 4, cell_at HU.out 5, cell_at HU.out 6, HU.out.lt⟩, ⟨cell_at HT9.out 0, cell_at HT9.out 1, cell_at HT9.out 2, cell_at HT9.out 4, HT9.out.lt⟩⟩ (fun hHeld => ?_)
   clear hK K hB
   try simp only [Act.put, List.setIfInBounds_toArray, List.set_cons_zero, List.set_cons_succ]
   refine wpAnyH_ready (rs := [12]) (by kernel_rfl) (by simp) ?_
   refine AllReadyH.cons (by (simp only [List.getElem?_toArray, List.getElem?_cons_succ, List.getElem?_cons_zero]); rfl) (fun K hK => ?_) (AllReadyH.nil)
   go_simp
   go_fit (HBA.out _)
   rintro e WK ⟨rfl, rfl⟩
   go_wp2_with fail
   refine hK.out _ _ ⟨⟨cell_at HX9.out 0, cell_at HX9.out 1, cell_at HX9.out 2, cell_at HX9.out 3, cell_at HX9.out 4, cell_at HX9.out 5, cell_at HX9.out 6, HX9.out.lt⟩, ⟨cell_at HU.out 0, cell_at HU.out 1, cell_at HU.out 2, cell_at HU.out 3, cell_at HU.out 4, cell_at HU.out 5, cell_at HU.out 6, HU.out.lt⟩, ⟨cell_at HT9.out 0, cell_at HT9.out 1, cell_at HT9.out 2, cell_at HT9.out 4, HT9.out.lt⟩⟩ (fun hHeld => ?_)
   clear hK K
   try simp only [Act.put, List.setIfInBounds_toArray, List.set_cons_zero, List.set_cons_succ]
   ((refine wpAnyH_take (i := 13) (v := ?_) (by (simp only [List.getElem?_toArray, List.getElem?_cons_succ, List.getElem?_cons_zero]); rfl) (by kernel_rfl) (by kernel_rfl) (by kernel_rfl) (by exact fun _ _ _ h => h) (Or.inl ⟨by rfl, ?_⟩) (by assumption) ?_); rotate_left; focus (intro wS hSw; (try dsimp only at hSw); go_simp; first | done | with_reducible rfl); try simp only [Act.put, List.setIfInBounds_toArray, List.set_cons_zero, List.set_cons_succ])
   refine wpAnyH_ready (rs := [14]) (by kernel_rfl) (by simp) ?_
   refine AllReadyH.cons (by (simp only [List.getElem?_toArray, List.getElem?_cons_succ, List.getElem?_cons_zero]); rfl) (fun K hK => ?_) (AllReadyH.nil)
   have qT90 : W12.cell? ⟨T9, 0, none⟩ = some (.int .i64 y.id) := cell_at HT9.out 0
   have qT91 : W12.cell? ⟨T9, 1, none⟩ = some (.int .i64 y.rate) := cell_at HT9.out 1
   have qT92 : W12.cell? ⟨T9, 2, none⟩ = some (.int .i64 y.burst) := cell_at HT9.out 2
   have qT93 : W12.cell? ⟨T9, 3, none⟩ = some (.int .i64 y.bkt) := cell_at HT9.out 3
   have qT94 : W12.cell? ⟨T9, 4, none⟩ = some (.bool false) := cell_at HT9.out 4
   have qT9z : ∀ j, W12.frozen? ⟨T9, j, none⟩ = false := fun j => free_at HT9.out j
   have qT9l : T9 < W12.heap.size := HT9.out.lt
   rw [if_pos (by rfl)]
   go_simp
   clear qT90 qT91 qT92 qT93 qT94 qT9z qT9l
   obtain ⟨W13, hWS⟩ : ∃ WS, WS = W12.setCell ⟨T9, 3, none⟩ (.int .i64 nb) := ⟨_, rfl⟩
   rw [← hWS]
   have hfS : Fr [T9] W12 W13 := by rw [hWS]; exact (Fr.refl _ _).setCell _ (.inl (by simp)) _
   have hkS : Blk W13 T9 #[.int .i64 y.id, .int .i64 y.rate, .int .i64 y.burst, .int .i64 nb, .bool false] 54 := by rw [hWS]; exact HT9.out.set 3 _
   replace HB:=zh (HB.out.trans (hfS.below HB.out.size (by have := HLOT9.out; simp; try omega)))
   replace HT:=zh (HT0.out.below HB.out)
   replace HL:=zh (HL0.out.below HB.out)
   replace HS:=zh (HS0.out.below HB.out)
   replace HD:=zh (HD0.out.below HB.out)
   replace HR:=zh (show Blk W13 N #[.int .i64 s.term, .int .i64 s.stamp, .int .i64 s.next, .slice ta tn tc, .slice la ln lc, .slice sa sn sc, .slice da dn dc] 27 from (hfS.block _ HR.out.lt (by have hx0 := HXX9HR.out; have hx1 := HXX9HO.out; have hx2 := HXU9HR.out; have hx3 := HXU9HO.out; have hx4 := HXU9HX9.out; have hx5 := HXT9HR.out; have hx6 := HXT9HO.out; have hx7 := HXT9HX9.out; have hx8 := HXT9HU.out; simp; try omega)).trans HR.out)
   replace HO:=zh (show Blk W13 (N + 1) #[.int .i64 0, .int .i64 0, .int .i64 0, .slice none 0 0, .slice none 0 0, .slice none 0 0, .slice none 0 0] 27 from (hfS.block _ HO.out.lt (by have hx0 := HXX9HR.out; have hx1 := HXX9HO.out; have hx2 := HXU9HR.out; have hx3 := HXU9HO.out; have hx4 := HXU9HX9.out; have hx5 := HXT9HR.out; have hx6 := HXT9HO.out; have hx7 := HXT9HX9.out; have hx8 := HXT9HU.out; simp; try omega)).trans HO.out)
   replace HX9:=zh (show Blk W13 X9 #[.int .i64 x.id, .int .i64 x.tenant, .int .i64 x.shaper, .int .i64 x.epoch, .int .i64 x.number, .int .i64 x.size, .int .i64 x.spent] 31 from (hfS.block _ HX9.out.lt (by have hx0 := HXX9HR.out; have hx1 := HXX9HO.out; have hx2 := HXU9HR.out; have hx3 := HXU9HO.out; have hx4 := HXU9HX9.out; have hx5 := HXT9HR.out; have hx6 := HXT9HO.out; have hx7 := HXT9HX9.out; have hx8 := HXT9HU.out; simp; try omega)).trans HX9.out)
   replace O1:=zh (O1.out.frU hfS HUT9O1.out)
   replace O3:=zh (O3.out.frU hfS HUT9O3.out)
   replace O4:=zh (O4.out.frU hfS HUT9O4.out)
   replace HU:=zh (show Blk W13 U9 #[.int .i64 s.term, .int .i64 s.stamp, .int .i64 s.next, .slice b1 m1 k1, .slice b5 m5 k5, .slice b3 m3 k3, .slice b4 m4 k4] 27 from (hfS.block _ HU.out.lt (by have hx0 := HXX9HR.out; have hx1 := HXX9HO.out; have hx2 := HXU9HR.out; have hx3 := HXU9HO.out; have hx4 := HXU9HX9.out; have hx5 := HXT9HR.out; have hx6 := HXT9HO.out; have hx7 := HXT9HX9.out; have hx8 := HXT9HU.out; simp; try omega)).trans HU.out)
   replace HQ5:=zh (HQ5.out.fr HT9.out hfS)
   replace HT9:=zh (show Blk W13 T9 #[.int .i64 y.id, .int .i64 y.rate, .int .i64 y.burst, .int .i64 nb, .bool false] 54 from hkS)
   clear hWS hfS hkS
   refine hK.out _ _ ⟨⟨cell_at HX9.out 0, cell_at HX9.out 1, cell_at HX9.out 2, cell_at HX9.out 3, cell_at HX9.out 4, cell_at HX9.out 5, cell_at HX9.out 6, HX9.out.lt⟩, ⟨cell_at HU.out 0, cell_at HU.out 1, cell_at HU.out 2, cell_at HU.out 3, cell_at HU.out 4, cell_at HU.out 5, cell_at HU.out 6, HU.out.lt⟩, ⟨cell_at HT9.out 0, cell_at HT9.out 1, cell_at HT9.out 2, cell_at HT9.out 4, HT9.out.lt⟩⟩ (fun hHeld => ?_)
   clear hK K
   try simp only [Act.put, List.setIfInBounds_toArray, List.set_cons_zero, List.set_cons_succ]
   refine wpAnyH_done (by kernel_rfl) ?_ _
   try simp only [Act.put, List.setIfInBounds_toArray, List.set_cons_zero, List.set_cons_succ]
   have qU0 : W13.cell? ⟨U9, 0, none⟩ = some (.int .i64 s.term) := cell_at HU.out 0
   have qU1 : W13.cell? ⟨U9, 1, none⟩ = some (.int .i64 s.stamp) := cell_at HU.out 1
   have qU2 : W13.cell? ⟨U9, 2, none⟩ = some (.int .i64 s.next) := cell_at HU.out 2
   have qU3 : W13.cell? ⟨U9, 3, none⟩ = some (.slice b1 m1 k1) := cell_at HU.out 3
   have qU4 : W13.cell? ⟨U9, 4, none⟩ = some (.slice b5 m5 k5) := cell_at HU.out 4
   have qU5 : W13.cell? ⟨U9, 5, none⟩ = some (.slice b3 m3 k3) := cell_at HU.out 5
   have qU6 : W13.cell? ⟨U9, 6, none⟩ = some (.slice b4 m4 k4) := cell_at HU.out 6
   have qUz : ∀ j, W13.frozen? ⟨U9, j, none⟩ = false := fun j => free_at HU.out j
   have qUl : U9 < W13.heap.size := HU.out.lt
   have qT90 : W13.cell? ⟨T9, 0, none⟩ = some (.int .i64 y.id) := cell_at HT9.out 0
   have qT91 : W13.cell? ⟨T9, 1, none⟩ = some (.int .i64 y.rate) := cell_at HT9.out 1
   have qT92 : W13.cell? ⟨T9, 2, none⟩ = some (.int .i64 y.burst) := cell_at HT9.out 2
   have qT93 : W13.cell? ⟨T9, 3, none⟩ = some (.int .i64 nb) := cell_at HT9.out 3
   have qT94 : W13.cell? ⟨T9, 4, none⟩ = some (.bool false) := cell_at HT9.out 4
   have qT9z : ∀ j, W13.frozen? ⟨T9, j, none⟩ = false := fun j => free_at HT9.out j
   have qT9l : T9 < W13.heap.size := HT9.out.lt
   have HSE:=zh (rset_any _ s.ts ⟨y.id, y.rate, y.burst, nb, false⟩ _ (tn_tv O1.out.v) HFEW.out.1 HOKX.out)
   go_wp2_with fail
   go_at_call 51
   go_fit HSE.out
   rintro e W14 ⟨v6, rfl, hv6, hB⟩
   clear qU0 qU1 qU2 qU3 qU4 qU5 qU6 qUz qUl qT90 qT91 qT92 qT93 qT94 qT9z qT9l
   replace HB:=zh (HB.out.trans (hB.mono HB.out.size))
   replace HO:=zh (HO.out.step hB)
   replace O1:=zh (O1.out.step hB)
   replace O3:=zh (O3.out.step hB)
   replace O4:=zh (O4.out.step hB)
   replace HU:=zh (HU.out.step hB)
   replace HQ5:=zh (HQ5.out.below hB)
   clear hB
   obtain ⟨b6, m6, k6, rfl, Hb6, x6, y6⟩ := hv6.sh
   have HQ6 := zh hv6
   clear hv6 HSE
   have qU0 : W14.cell? ⟨U9, 0, none⟩ = some (.int .i64 s.term) := cell_at HU.out 0
   have qU1 : W14.cell? ⟨U9, 1, none⟩ = some (.int .i64 s.stamp) := cell_at HU.out 1
   have qU2 : W14.cell? ⟨U9, 2, none⟩ = some (.int .i64 s.next) := cell_at HU.out 2
   have qU3 : W14.cell? ⟨U9, 3, none⟩ = some (.slice b1 m1 k1) := cell_at HU.out 3
   have qU4 : W14.cell? ⟨U9, 4, none⟩ = some (.slice b5 m5 k5) := cell_at HU.out 4
   have qU5 : W14.cell? ⟨U9, 5, none⟩ = some (.slice b3 m3 k3) := cell_at HU.out 5
   have qU6 : W14.cell? ⟨U9, 6, none⟩ = some (.slice b4 m4 k4) := cell_at HU.out 6
   have qUz : ∀ j, W14.frozen? ⟨U9, j, none⟩ = false := fun j => free_at HU.out j
   have qUl : U9 < W14.heap.size := HU.out.lt
   go_upto_region 21 with fail
   clear qU0 qU1 qU2 qU3 qU4 qU5 qU6 qUz qUl
   obtain ⟨W15, hWS⟩ : ∃ WS, WS = W14.setCell ⟨U9, 3, none⟩ (.slice b6 m6 k6) := ⟨_, rfl⟩
   rw [← hWS]
   have hfS : Fr [U9] W14 W15 := by rw [hWS]; exact (Fr.refl _ _).setCell _ (.inl (by simp)) _
   have hkS : Blk W15 U9 #[.int .i64 s.term, .int .i64 s.stamp, .int .i64 s.next, .slice b6 m6 k6, .slice b5 m5 k5, .slice b3 m3 k3, .slice b4 m4 k4] 27 := by rw [hWS]; exact HU.out.set 3 _
   replace HB:=zh (HB.out.trans (hfS.below HB.out.size (by have := HLOU9.out; simp; try omega)))
   replace HO:=zh (show Blk W15 (N + 1) #[.int .i64 0, .int .i64 0, .int .i64 0, .slice none 0 0, .slice none 0 0, .slice none 0 0, .slice none 0 0] 27 from (hfS.block _ HO.out.lt (by have hx0 := HXX9HR.out; have hx1 := HXX9HO.out; have hx2 := HXU9HR.out; have hx3 := HXU9HO.out; have hx4 := HXU9HX9.out; have hx5 := HXT9HR.out; have hx6 := HXT9HO.out; have hx7 := HXT9HX9.out; have hx8 := HXT9HU.out; simp; try omega)).trans HO.out)
   replace O3:=zh (O3.out.frU hfS HUU9O3.out)
   replace O4:=zh (O4.out.frU hfS HUU9O4.out)
   replace HQ5:=zh (HQ5.out.fr HU.out hfS)
   replace HQ6:=zh (HQ6.out.fr HU.out hfS)
   replace HU:=zh (show Blk W15 U9 #[.int .i64 s.term, .int .i64 s.stamp, .int .i64 s.next, .slice b6 m6 k6, .slice b5 m5 k5, .slice b3 m3 k3, .slice b4 m4 k4] 27 from hkS)
   clear hWS hfS hkS
   have HF9 : Hid (fewS ⟨s.term, s.stamp, s.next, setL s.ts ⟨y.id, y.rate, y.burst, nb, false⟩, wo le s.ls, s.ss, s.ds⟩) := zh ⟨Nat.le_trans (setL_len _ _) (by have := chk_len (chkS_parts HCHK.out).1; omega), HF1.out, HFEW.out.2.2.1, HFEW.out.2.2.2⟩
   have qU0 : W15.cell? ⟨U9, 0, none⟩ = some (.int .i64 s.term) := cell_at HU.out 0
   have qU1 : W15.cell? ⟨U9, 1, none⟩ = some (.int .i64 s.stamp) := cell_at HU.out 1
   have qU2 : W15.cell? ⟨U9, 2, none⟩ = some (.int .i64 s.next) := cell_at HU.out 2
   have qU3 : W15.cell? ⟨U9, 3, none⟩ = some (.slice b6 m6 k6) := cell_at HU.out 3
   have qU4 : W15.cell? ⟨U9, 4, none⟩ = some (.slice b5 m5 k5) := cell_at HU.out 4
   have qU5 : W15.cell? ⟨U9, 5, none⟩ = some (.slice b3 m3 k3) := cell_at HU.out 5
   have qU6 : W15.cell? ⟨U9, 6, none⟩ = some (.slice b4 m4 k4) := cell_at HU.out 6
   have qUz : ∀ j, W15.frozen? ⟨U9, j, none⟩ = false := fun j => free_at HU.out j
   have qUl : U9 < W15.heap.size := HU.out.lt
   have HSP:=zh (rswept_any _ _ _ _ (⟨s.term, s.stamp, s.next, setL s.ts ⟨y.id, y.rate, y.burst, nb, false⟩, wo le s.ls, s.ss, s.ds⟩) W15 HQ6.out HQ5.out O3.out.v O4.out.v HF9.out HZ9.out)
   go_wp2_with fail
   go_at_call 42
   go_fit HSP.out
   rintro e W16 ⟨vq, rfl, hvq, hB⟩
   clear qU0 qU1 qU2 qU3 qU4 qU5 qU6 qUz qUl
   replace HB:=zh (HB.out.trans (hB.mono HB.out.size))
   replace HO:=zh (HO.out.step hB)
   replace O3:=zh (O3.out.step hB)
   replace O4:=zh (O4.out.step hB)
   replace HU:=zh (HU.out.step hB)
   replace HQ5:=zh (HQ5.out.below hB)
   replace HQ6:=zh (HQ6.out.below hB)
   clear hB
   obtain ⟨b8, m8, k8, rfl, Hb8, x8, y8⟩ := hvq.sh
   have HQ := zh hvq
   clear hvq HSP
   have qO0 : W16.cell? ⟨(N + 1), 0, none⟩ = some (.int .i64 0) := cell_at HO.out 0
   have qO1 : W16.cell? ⟨(N + 1), 1, none⟩ = some (.int .i64 0) := cell_at HO.out 1
   have qO2 : W16.cell? ⟨(N + 1), 2, none⟩ = some (.int .i64 0) := cell_at HO.out 2
   have qO3 : W16.cell? ⟨(N + 1), 3, none⟩ = some (.slice none 0 0) := cell_at HO.out 3
   have qO4 : W16.cell? ⟨(N + 1), 4, none⟩ = some (.slice none 0 0) := cell_at HO.out 4
   have qO5 : W16.cell? ⟨(N + 1), 5, none⟩ = some (.slice none 0 0) := cell_at HO.out 5
   have qO6 : W16.cell? ⟨(N + 1), 6, none⟩ = some (.slice none 0 0) := cell_at HO.out 6
   have qOz : ∀ j, W16.frozen? ⟨(N + 1), j, none⟩ = false := fun j => free_at HO.out j
   have qOl : (N + 1) < W16.heap.size := HO.out.lt
   go_wp2_with fail
   clear qO0 qO1 qO2 qO3 qO4 qO5 qO6 qOz qOl
   obtain ⟨LS, hLS⟩ : ∃ L : List Value, L = [.int .i64 s.term, .int .i64 s.stamp, .int .i64 s.next, .slice b8 m8 k8, .slice b5 m5 k5, .slice b3 m3 k3, .slice b4 m4 k4] := ⟨_, rfl⟩
   obtain ⟨W17, hWS⟩ : ∃ WS, WS = W16.setCells (N + 1) 0 LS := ⟨_, rfl⟩
   have hch := hWS
   rw [hLS] at hch
   simp only [World.setCells, Nat.zero_add, Nat.reduceAdd] at hch
   rw [← hch]
   clear hch
   have hkS := stC_blk HO.out LS (by rw [hLS]; rfl)
   have hfS := stC_fr (N + 1) LS 0 W16
   rw [← hWS] at hkS hfS
   rw [hLS] at hkS
   replace HB:=zh (HB.out.trans (hfS.below HB.out.size (by have := HLON.out; simp; try omega)))
   replace O3:=zh (O3.out.fr hfS (by have := FO3.out; omega))
   replace O4:=zh (O4.out.fr hfS (by have := FO4.out; omega))
   replace HQ5:=zh (HQ5.out.fr HO.out hfS)
   replace HQ6:=zh (HQ6.out.fr HO.out hfS)
   replace HQ:=zh (HQ.out.fr HO.out hfS)
   replace HO:=zh (show Blk W17 (N + 1) #[.int .i64 s.term, .int .i64 s.stamp, .int .i64 s.next, .slice b8 m8 k8, .slice b5 m5 k5, .slice b3 m3 k3, .slice b4 m4 k4] 27 from hkS)
   clear hWS hLS hkS hfS
   have qO0 : W17.cell? ⟨(N + 1), 0, none⟩ = some (.int .i64 s.term) := cell_at HO.out 0
   have qO1 : W17.cell? ⟨(N + 1), 1, none⟩ = some (.int .i64 s.stamp) := cell_at HO.out 1
   have qO2 : W17.cell? ⟨(N + 1), 2, none⟩ = some (.int .i64 s.next) := cell_at HO.out 2
   have qO3 : W17.cell? ⟨(N + 1), 3, none⟩ = some (.slice b8 m8 k8) := cell_at HO.out 3
   have qO4 : W17.cell? ⟨(N + 1), 4, none⟩ = some (.slice b5 m5 k5) := cell_at HO.out 4
   have qO5 : W17.cell? ⟨(N + 1), 5, none⟩ = some (.slice b3 m3 k3) := cell_at HO.out 5
   have qO6 : W17.cell? ⟨(N + 1), 6, none⟩ = some (.slice b4 m4 k4) := cell_at HO.out 6
   have qOz : ∀ j, W17.frozen? ⟨(N + 1), j, none⟩ = false := fun j => free_at HO.out j
   have qOl : (N + 1) < W17.heap.size := HO.out.lt
   exact bodyPost_ret (v := .tuple #[.agg #[.int .i64 s.term, .int .i64 s.stamp, .int .i64 s.next, .slice b8 m8 k8, .slice b5 m5 k5, .slice b3 m3 k3, .slice b4 m4 k4], .int .i64 0]) (by simp [results, Try.results23, go_sem, qO0, qO1, qO2, qO3, qO4, qO5, qO6]) rfl ⟨_, rfl, (by rw [HR9.out, HRL.out, if_neg (by simp)]; simp only [if_true]; rw [HBL.out]; exact ⟨_, _, _, _, rfl, HQ.out, HQ5.out, O3.out.v, O4.out.v⟩), HB.out⟩
  ·skip
   go_simp
   go_fit (HOX.out _ _ (HSV5.out _ _ _ _ (by first | exact O1.out | exact O1.out.step (Below.refl _ _).drew) (by first | exact HQ5.out | exact HQ5.out.below (Below.refl _ _).drew) (by first | exact O3.out | exact O3.out.step (Below.refl _ _).drew) (by first | exact O4.out | exact O4.out.step (Below.refl _ _).drew)))
   rintro e W12 ⟨rfl, hB⟩
   try replace hB := below_undrew hB
   replace HB:=zh (HB.out.trans (hB.mono HB.out.size))
   replace HT:=zh (HT0.out.below HB.out)
   replace HL:=zh (HL0.out.below HB.out)
   replace HS:=zh (HS0.out.below HB.out)
   replace HD:=zh (HD0.out.below HB.out)
   replace HR:=zh (HR.out.step hB)
   replace HO:=zh (HO.out.step hB)
   replace HX9:=zh (HX9.out.step hB)
   replace O1:=zh (O1.out.step hB)
   replace O3:=zh (O3.out.step hB)
   replace O4:=zh (O4.out.step hB)
   replace HU:=zh (HU.out.step hB)
   replace HQ5:=zh (HQ5.out.below hB)
   replace HT9:=zh (HT9.out.step hB)
   go_wp2_with fail
   refine hK.out _ _ ⟨⟨cell_at HX9.out 0, cell_at HX9.out 1, cell_at HX9.out 2, cell_at HX9.out 3, cell_at HX9.out 4, cell_at HX9.out 5, cell_at HX9.out 6, HX9.out.lt⟩, ⟨cell_at HU.out 0, cell_at HU.out 1, cell_at HU.out 2, cell_at HU.out 3, cell_at HU.out 4, cell_at HU.out 5, cell_at HU.out 6, HU.out.lt⟩, ⟨cell_at HT9.out 0, cell_at HT9.out 1, cell_at HT9.out 2, cell_at HT9.out 4, HT9.out.lt⟩⟩ (fun hHeld => ?_)
   clear hK K hB
   try simp only [Act.put, List.setIfInBounds_toArray, List.set_cons_zero, List.set_cons_succ]
   refine wpAnyH_ready (rs := [1]) (by kernel_rfl) (by simp) ?_
   refine AllReadyH.cons (by (simp only [List.getElem?_toArray, List.getElem?_cons_succ, List.getElem?_cons_zero]); rfl) (fun K hK => ?_) (AllReadyH.nil)
   have qT90 : W12.cell? ⟨T9, 0, none⟩ = some (.int .i64 y.id) := cell_at HT9.out 0
   have qT91 : W12.cell? ⟨T9, 1, none⟩ = some (.int .i64 y.rate) := cell_at HT9.out 1
   have qT92 : W12.cell? ⟨T9, 2, none⟩ = some (.int .i64 y.burst) := cell_at HT9.out 2
   have qT93 : W12.cell? ⟨T9, 3, none⟩ = some (.int .i64 y.bkt) := cell_at HT9.out 3
   have qT94 : W12.cell? ⟨T9, 4, none⟩ = some (.bool false) := cell_at HT9.out 4
   have qT9z : ∀ j, W12.frozen? ⟨T9, j, none⟩ = false := fun j => free_at HT9.out j
   have qT9l : T9 < W12.heap.size := HT9.out.lt
   rw [if_pos (by rfl)]
   go_simp
   refine hK.out _ _ ⟨⟨cell_at HX9.out 0, cell_at HX9.out 1, cell_at HX9.out 2, cell_at HX9.out 3, cell_at HX9.out 4, cell_at HX9.out 5, cell_at HX9.out 6, HX9.out.lt⟩, ⟨cell_at HU.out 0, cell_at HU.out 1, cell_at HU.out 2, cell_at HU.out 3, cell_at HU.out 4, cell_at HU.out 5, cell_at HU.out 6, HU.out.lt⟩, ⟨cell_at HT9.out 0, cell_at HT9.out 1, cell_at HT9.out 2, cell_at HT9.out 4, HT9.out.lt⟩⟩ (fun hHeld => ?_)
   clear hK K
   clear qT90 qT91 qT92 qT93 qT94 qT9z qT9l
   try simp only [Act.put, List.setIfInBounds_toArray, List.set_cons_zero, List.set_cons_succ]
   refine wpAnyH_ready (rs := [12]) (by kernel_rfl) (by simp) ?_
   refine AllReadyH.cons (by (simp only [List.getElem?_toArray, List.getElem?_cons_succ, List.getElem?_cons_zero]); rfl) (fun K hK => ?_) (AllReadyH.nil)
   go_simp
   go_fit (HBA.out _)
   rintro e WK ⟨rfl, rfl⟩
   go_wp2_with fail
   refine hK.out _ _ ⟨⟨cell_at HX9.out 0, cell_at HX9.out 1, cell_at HX9.out 2, cell_at HX9.out 3, cell_at HX9.out 4, cell_at HX9.out 5, cell_at HX9.out 6, HX9.out.lt⟩, ⟨cell_at HU.out 0, cell_at HU.out 1, cell_at HU.out 2, cell_at HU.out 3, cell_at HU.out 4, cell_at HU.out 5, cell_at HU.out 6, HU.out.lt⟩, ⟨cell_at HT9.out 0, cell_at HT9.out 1, cell_at HT9.out 2, cell_at HT9.out 4, HT9.out.lt⟩⟩ (fun hHeld => ?_)
   clear hK K
   try simp only [Act.put, List.setIfInBounds_toArray, List.set_cons_zero, List.set_cons_succ]
   ((refine wpAnyH_take (i := 13) (v := ?_) (by (simp only [List.getElem?_toArray, List.getElem?_cons_succ, List.getElem?_cons_zero]); rfl) (by kernel_rfl) (by kernel_rfl) (by kernel_rfl) (by exact fun _ _ _ h => h) (Or.inl ⟨by rfl, ?_⟩) (by assumption) ?_); rotate_left; focus (intro wS hSw; (try dsimp only at hSw); go_simp; first | done | with_reducible rfl); try simp only [Act.put, List.setIfInBounds_toArray, List.set_cons_zero, List.set_cons_succ])
   refine wpAnyH_ready (rs := [14]) (by kernel_rfl) (by simp) ?_
   refine AllReadyH.cons (by (simp only [List.getElem?_toArray, List.getElem?_cons_succ, List.getElem?_cons_zero]); rfl) (fun K hK => ?_) (AllReadyH.nil)
   have qT90 : W12.cell? ⟨T9, 0, none⟩ = some (.int .i64 y.id) := cell_at HT9.out 0
   have qT91 : W12.cell? ⟨T9, 1, none⟩ = some (.int .i64 y.rate) := cell_at HT9.out 1
   have qT92 : W12.cell? ⟨T9, 2, none⟩ = some (.int .i64 y.burst) := cell_at HT9.out 2
   have qT93 : W12.cell? ⟨T9, 3, none⟩ = some (.int .i64 y.bkt) := cell_at HT9.out 3
   have qT94 : W12.cell? ⟨T9, 4, none⟩ = some (.bool false) := cell_at HT9.out 4
   have qT9z : ∀ j, W12.frozen? ⟨T9, j, none⟩ = false := fun j => free_at HT9.out j
   have qT9l : T9 < W12.heap.size := HT9.out.lt
   rw [if_pos (by rfl)]
   go_simp
   clear qT90 qT91 qT92 qT93 qT94 qT9z qT9l
   obtain ⟨W13, hWS⟩ : ∃ WS, WS = W12.setCell ⟨T9, 3, none⟩ (.int .i64 nb) := ⟨_, rfl⟩
   rw [← hWS]
   have hfS : Fr [T9] W12 W13 := by rw [hWS]; exact (Fr.refl _ _).setCell _ (.inl (by simp)) _
   have hkS : Blk W13 T9 #[.int .i64 y.id, .int .i64 y.rate, .int .i64 y.burst, .int .i64 nb, .bool false] 54 := by rw [hWS]; exact HT9.out.set 3 _
   replace HB:=zh (HB.out.trans (hfS.below HB.out.size (by have := HLOT9.out; simp; try omega)))
   replace HT:=zh (HT0.out.below HB.out)
   replace HL:=zh (HL0.out.below HB.out)
   replace HS:=zh (HS0.out.below HB.out)
   replace HD:=zh (HD0.out.below HB.out)
   replace HR:=zh (show Blk W13 N #[.int .i64 s.term, .int .i64 s.stamp, .int .i64 s.next, .slice ta tn tc, .slice la ln lc, .slice sa sn sc, .slice da dn dc] 27 from (hfS.block _ HR.out.lt (by have hx0 := HXX9HR.out; have hx1 := HXX9HO.out; have hx2 := HXU9HR.out; have hx3 := HXU9HO.out; have hx4 := HXU9HX9.out; have hx5 := HXT9HR.out; have hx6 := HXT9HO.out; have hx7 := HXT9HX9.out; have hx8 := HXT9HU.out; simp; try omega)).trans HR.out)
   replace HO:=zh (show Blk W13 (N + 1) #[.int .i64 0, .int .i64 0, .int .i64 0, .slice none 0 0, .slice none 0 0, .slice none 0 0, .slice none 0 0] 27 from (hfS.block _ HO.out.lt (by have hx0 := HXX9HR.out; have hx1 := HXX9HO.out; have hx2 := HXU9HR.out; have hx3 := HXU9HO.out; have hx4 := HXU9HX9.out; have hx5 := HXT9HR.out; have hx6 := HXT9HO.out; have hx7 := HXT9HX9.out; have hx8 := HXT9HU.out; simp; try omega)).trans HO.out)
   replace HX9:=zh (show Blk W13 X9 #[.int .i64 x.id, .int .i64 x.tenant, .int .i64 x.shaper, .int .i64 x.epoch, .int .i64 x.number, .int .i64 x.size, .int .i64 x.spent] 31 from (hfS.block _ HX9.out.lt (by have hx0 := HXX9HR.out; have hx1 := HXX9HO.out; have hx2 := HXU9HR.out; have hx3 := HXU9HO.out; have hx4 := HXU9HX9.out; have hx5 := HXT9HR.out; have hx6 := HXT9HO.out; have hx7 := HXT9HX9.out; have hx8 := HXT9HU.out; simp; try omega)).trans HX9.out)
   replace O1:=zh (O1.out.frU hfS HUT9O1.out)
   replace O3:=zh (O3.out.frU hfS HUT9O3.out)
   replace O4:=zh (O4.out.frU hfS HUT9O4.out)
   replace HU:=zh (show Blk W13 U9 #[.int .i64 s.term, .int .i64 s.stamp, .int .i64 s.next, .slice b1 m1 k1, .slice b5 m5 k5, .slice b3 m3 k3, .slice b4 m4 k4] 27 from (hfS.block _ HU.out.lt (by have hx0 := HXX9HR.out; have hx1 := HXX9HO.out; have hx2 := HXU9HR.out; have hx3 := HXU9HO.out; have hx4 := HXU9HX9.out; have hx5 := HXT9HR.out; have hx6 := HXT9HO.out; have hx7 := HXT9HX9.out; have hx8 := HXT9HU.out; simp; try omega)).trans HU.out)
   replace HQ5:=zh (HQ5.out.fr HT9.out hfS)
   replace HT9:=zh (show Blk W13 T9 #[.int .i64 y.id, .int .i64 y.rate, .int .i64 y.burst, .int .i64 nb, .bool false] 54 from hkS)
   clear hWS hfS hkS
   refine hK.out _ _ ⟨⟨cell_at HX9.out 0, cell_at HX9.out 1, cell_at HX9.out 2, cell_at HX9.out 3, cell_at HX9.out 4, cell_at HX9.out 5, cell_at HX9.out 6, HX9.out.lt⟩, ⟨cell_at HU.out 0, cell_at HU.out 1, cell_at HU.out 2, cell_at HU.out 3, cell_at HU.out 4, cell_at HU.out 5, cell_at HU.out 6, HU.out.lt⟩, ⟨cell_at HT9.out 0, cell_at HT9.out 1, cell_at HT9.out 2, cell_at HT9.out 4, HT9.out.lt⟩⟩ (fun hHeld => ?_)
   clear hK K
   try simp only [Act.put, List.setIfInBounds_toArray, List.set_cons_zero, List.set_cons_succ]
   refine wpAnyH_done (by kernel_rfl) ?_ _
   try simp only [Act.put, List.setIfInBounds_toArray, List.set_cons_zero, List.set_cons_succ]
   have qU0 : W13.cell? ⟨U9, 0, none⟩ = some (.int .i64 s.term) := cell_at HU.out 0
   have qU1 : W13.cell? ⟨U9, 1, none⟩ = some (.int .i64 s.stamp) := cell_at HU.out 1
   have qU2 : W13.cell? ⟨U9, 2, none⟩ = some (.int .i64 s.next) := cell_at HU.out 2
   have qU3 : W13.cell? ⟨U9, 3, none⟩ = some (.slice b1 m1 k1) := cell_at HU.out 3
   have qU4 : W13.cell? ⟨U9, 4, none⟩ = some (.slice b5 m5 k5) := cell_at HU.out 4
   have qU5 : W13.cell? ⟨U9, 5, none⟩ = some (.slice b3 m3 k3) := cell_at HU.out 5
   have qU6 : W13.cell? ⟨U9, 6, none⟩ = some (.slice b4 m4 k4) := cell_at HU.out 6
   have qUz : ∀ j, W13.frozen? ⟨U9, j, none⟩ = false := fun j => free_at HU.out j
   have qUl : U9 < W13.heap.size := HU.out.lt
   have qT90 : W13.cell? ⟨T9, 0, none⟩ = some (.int .i64 y.id) := cell_at HT9.out 0
   have qT91 : W13.cell? ⟨T9, 1, none⟩ = some (.int .i64 y.rate) := cell_at HT9.out 1
   have qT92 : W13.cell? ⟨T9, 2, none⟩ = some (.int .i64 y.burst) := cell_at HT9.out 2
   have qT93 : W13.cell? ⟨T9, 3, none⟩ = some (.int .i64 nb) := cell_at HT9.out 3
   have qT94 : W13.cell? ⟨T9, 4, none⟩ = some (.bool false) := cell_at HT9.out 4
   have qT9z : ∀ j, W13.frozen? ⟨T9, j, none⟩ = false := fun j => free_at HT9.out j
   have qT9l : T9 < W13.heap.size := HT9.out.lt
   have HSE:=zh (rset_any _ s.ts ⟨y.id, y.rate, y.burst, nb, false⟩ _ (tn_tv O1.out.v) HFEW.out.1 HOKX.out)
   go_wp2_with fail
   go_at_call 51
   go_fit HSE.out
   rintro e W14 ⟨v6, rfl, hv6, hB⟩
   clear qU0 qU1 qU2 qU3 qU4 qU5 qU6 qUz qUl qT90 qT91 qT92 qT93 qT94 qT9z qT9l
   replace HB:=zh (HB.out.trans (hB.mono HB.out.size))
   replace HO:=zh (HO.out.step hB)
   replace O1:=zh (O1.out.step hB)
   replace O3:=zh (O3.out.step hB)
   replace O4:=zh (O4.out.step hB)
   replace HU:=zh (HU.out.step hB)
   replace HQ5:=zh (HQ5.out.below hB)
   clear hB
   obtain ⟨b6, m6, k6, rfl, Hb6, x6, y6⟩ := hv6.sh
   have HQ6 := zh hv6
   clear hv6 HSE
   have qU0 : W14.cell? ⟨U9, 0, none⟩ = some (.int .i64 s.term) := cell_at HU.out 0
   have qU1 : W14.cell? ⟨U9, 1, none⟩ = some (.int .i64 s.stamp) := cell_at HU.out 1
   have qU2 : W14.cell? ⟨U9, 2, none⟩ = some (.int .i64 s.next) := cell_at HU.out 2
   have qU3 : W14.cell? ⟨U9, 3, none⟩ = some (.slice b1 m1 k1) := cell_at HU.out 3
   have qU4 : W14.cell? ⟨U9, 4, none⟩ = some (.slice b5 m5 k5) := cell_at HU.out 4
   have qU5 : W14.cell? ⟨U9, 5, none⟩ = some (.slice b3 m3 k3) := cell_at HU.out 5
   have qU6 : W14.cell? ⟨U9, 6, none⟩ = some (.slice b4 m4 k4) := cell_at HU.out 6
   have qUz : ∀ j, W14.frozen? ⟨U9, j, none⟩ = false := fun j => free_at HU.out j
   have qUl : U9 < W14.heap.size := HU.out.lt
   go_upto_region 21 with fail
   clear qU0 qU1 qU2 qU3 qU4 qU5 qU6 qUz qUl
   obtain ⟨W15, hWS⟩ : ∃ WS, WS = W14.setCell ⟨U9, 3, none⟩ (.slice b6 m6 k6) := ⟨_, rfl⟩
   rw [← hWS]
   have hfS : Fr [U9] W14 W15 := by rw [hWS]; exact (Fr.refl _ _).setCell _ (.inl (by simp)) _
   have hkS : Blk W15 U9 #[.int .i64 s.term, .int .i64 s.stamp, .int .i64 s.next, .slice b6 m6 k6, .slice b5 m5 k5, .slice b3 m3 k3, .slice b4 m4 k4] 27 := by rw [hWS]; exact HU.out.set 3 _
   replace HB:=zh (HB.out.trans (hfS.below HB.out.size (by have := HLOU9.out; simp; try omega)))
   replace HO:=zh (show Blk W15 (N + 1) #[.int .i64 0, .int .i64 0, .int .i64 0, .slice none 0 0, .slice none 0 0, .slice none 0 0, .slice none 0 0] 27 from (hfS.block _ HO.out.lt (by have hx0 := HXX9HR.out; have hx1 := HXX9HO.out; have hx2 := HXU9HR.out; have hx3 := HXU9HO.out; have hx4 := HXU9HX9.out; have hx5 := HXT9HR.out; have hx6 := HXT9HO.out; have hx7 := HXT9HX9.out; have hx8 := HXT9HU.out; simp; try omega)).trans HO.out)
   replace O3:=zh (O3.out.frU hfS HUU9O3.out)
   replace O4:=zh (O4.out.frU hfS HUU9O4.out)
   replace HQ5:=zh (HQ5.out.fr HU.out hfS)
   replace HQ6:=zh (HQ6.out.fr HU.out hfS)
   replace HU:=zh (show Blk W15 U9 #[.int .i64 s.term, .int .i64 s.stamp, .int .i64 s.next, .slice b6 m6 k6, .slice b5 m5 k5, .slice b3 m3 k3, .slice b4 m4 k4] 27 from hkS)
   clear hWS hfS hkS
   have HF9 : Hid (fewS ⟨s.term, s.stamp, s.next, setL s.ts ⟨y.id, y.rate, y.burst, nb, false⟩, wo le s.ls, s.ss, s.ds⟩) := zh ⟨Nat.le_trans (setL_len _ _) (by have := chk_len (chkS_parts HCHK.out).1; omega), HF1.out, HFEW.out.2.2.1, HFEW.out.2.2.2⟩
   have qU0 : W15.cell? ⟨U9, 0, none⟩ = some (.int .i64 s.term) := cell_at HU.out 0
   have qU1 : W15.cell? ⟨U9, 1, none⟩ = some (.int .i64 s.stamp) := cell_at HU.out 1
   have qU2 : W15.cell? ⟨U9, 2, none⟩ = some (.int .i64 s.next) := cell_at HU.out 2
   have qU3 : W15.cell? ⟨U9, 3, none⟩ = some (.slice b6 m6 k6) := cell_at HU.out 3
   have qU4 : W15.cell? ⟨U9, 4, none⟩ = some (.slice b5 m5 k5) := cell_at HU.out 4
   have qU5 : W15.cell? ⟨U9, 5, none⟩ = some (.slice b3 m3 k3) := cell_at HU.out 5
   have qU6 : W15.cell? ⟨U9, 6, none⟩ = some (.slice b4 m4 k4) := cell_at HU.out 6
   have qUz : ∀ j, W15.frozen? ⟨U9, j, none⟩ = false := fun j => free_at HU.out j
   have qUl : U9 < W15.heap.size := HU.out.lt
   have HSP:=zh (rswept_any _ _ _ _ (⟨s.term, s.stamp, s.next, setL s.ts ⟨y.id, y.rate, y.burst, nb, false⟩, wo le s.ls, s.ss, s.ds⟩) W15 HQ6.out HQ5.out O3.out.v O4.out.v HF9.out HZ9.out)
   go_wp2_with fail
   go_at_call 42
   go_fit HSP.out
   rintro e W16 ⟨vq, rfl, hvq, hB⟩
   clear qU0 qU1 qU2 qU3 qU4 qU5 qU6 qUz qUl
   replace HB:=zh (HB.out.trans (hB.mono HB.out.size))
   replace HO:=zh (HO.out.step hB)
   replace O3:=zh (O3.out.step hB)
   replace O4:=zh (O4.out.step hB)
   replace HU:=zh (HU.out.step hB)
   replace HQ5:=zh (HQ5.out.below hB)
   replace HQ6:=zh (HQ6.out.below hB)
   clear hB
   obtain ⟨b8, m8, k8, rfl, Hb8, x8, y8⟩ := hvq.sh
   have HQ := zh hvq
   clear hvq HSP
   have qO0 : W16.cell? ⟨(N + 1), 0, none⟩ = some (.int .i64 0) := cell_at HO.out 0
   have qO1 : W16.cell? ⟨(N + 1), 1, none⟩ = some (.int .i64 0) := cell_at HO.out 1
   have qO2 : W16.cell? ⟨(N + 1), 2, none⟩ = some (.int .i64 0) := cell_at HO.out 2
   have qO3 : W16.cell? ⟨(N + 1), 3, none⟩ = some (.slice none 0 0) := cell_at HO.out 3
   have qO4 : W16.cell? ⟨(N + 1), 4, none⟩ = some (.slice none 0 0) := cell_at HO.out 4
   have qO5 : W16.cell? ⟨(N + 1), 5, none⟩ = some (.slice none 0 0) := cell_at HO.out 5
   have qO6 : W16.cell? ⟨(N + 1), 6, none⟩ = some (.slice none 0 0) := cell_at HO.out 6
   have qOz : ∀ j, W16.frozen? ⟨(N + 1), j, none⟩ = false := fun j => free_at HO.out j
   have qOl : (N + 1) < W16.heap.size := HO.out.lt
   go_wp2_with fail
   clear qO0 qO1 qO2 qO3 qO4 qO5 qO6 qOz qOl
   obtain ⟨LS, hLS⟩ : ∃ L : List Value, L = [.int .i64 s.term, .int .i64 s.stamp, .int .i64 s.next, .slice b8 m8 k8, .slice b5 m5 k5, .slice b3 m3 k3, .slice b4 m4 k4] := ⟨_, rfl⟩
   obtain ⟨W17, hWS⟩ : ∃ WS, WS = W16.setCells (N + 1) 0 LS := ⟨_, rfl⟩
   have hch := hWS
   rw [hLS] at hch
   simp only [World.setCells, Nat.zero_add, Nat.reduceAdd] at hch
   rw [← hch]
   clear hch
   have hkS := stC_blk HO.out LS (by rw [hLS]; rfl)
   have hfS := stC_fr (N + 1) LS 0 W16
   rw [← hWS] at hkS hfS
   rw [hLS] at hkS
   replace HB:=zh (HB.out.trans (hfS.below HB.out.size (by have := HLON.out; simp; try omega)))
   replace O3:=zh (O3.out.fr hfS (by have := FO3.out; omega))
   replace O4:=zh (O4.out.fr hfS (by have := FO4.out; omega))
   replace HQ5:=zh (HQ5.out.fr HO.out hfS)
   replace HQ6:=zh (HQ6.out.fr HO.out hfS)
   replace HQ:=zh (HQ.out.fr HO.out hfS)
   replace HO:=zh (show Blk W17 (N + 1) #[.int .i64 s.term, .int .i64 s.stamp, .int .i64 s.next, .slice b8 m8 k8, .slice b5 m5 k5, .slice b3 m3 k3, .slice b4 m4 k4] 27 from hkS)
   clear hWS hLS hkS hfS
   have qO0 : W17.cell? ⟨(N + 1), 0, none⟩ = some (.int .i64 s.term) := cell_at HO.out 0
   have qO1 : W17.cell? ⟨(N + 1), 1, none⟩ = some (.int .i64 s.stamp) := cell_at HO.out 1
   have qO2 : W17.cell? ⟨(N + 1), 2, none⟩ = some (.int .i64 s.next) := cell_at HO.out 2
   have qO3 : W17.cell? ⟨(N + 1), 3, none⟩ = some (.slice b8 m8 k8) := cell_at HO.out 3
   have qO4 : W17.cell? ⟨(N + 1), 4, none⟩ = some (.slice b5 m5 k5) := cell_at HO.out 4
   have qO5 : W17.cell? ⟨(N + 1), 5, none⟩ = some (.slice b3 m3 k3) := cell_at HO.out 5
   have qO6 : W17.cell? ⟨(N + 1), 6, none⟩ = some (.slice b4 m4 k4) := cell_at HO.out 6
   have qOz : ∀ j, W17.frozen? ⟨(N + 1), j, none⟩ = false := fun j => free_at HO.out j
   have qOl : (N + 1) < W17.heap.size := HO.out.lt
   exact bodyPost_ret (v := .tuple #[.agg #[.int .i64 s.term, .int .i64 s.stamp, .int .i64 s.next, .slice b8 m8 k8, .slice b5 m5 k5, .slice b3 m3 k3, .slice b4 m4 k4], .int .i64 0]) (by simp [results, Try.results23, go_sem, qO0, qO1, qO2, qO3, qO4, qO5, qO6]) rfl ⟨_, rfl, (by rw [HR9.out, HRL.out, if_neg (by simp)]; simp only [if_true]; rw [HBL.out]; exact ⟨_, _, _, _, rfl, HQ.out, HQ5.out, O3.out.v, O4.out.v⟩), HB.out⟩
 by_cases he : sp < x.size
 rotate_left
 ·skip
  have tte : decide (sp < x.size) = false := decide_eq_false he
  have qU0 : W7.cell? ⟨U9, 0, none⟩ = some (.int .i64 s.term) := cell_at HU.out 0
  have qU1 : W7.cell? ⟨U9, 1, none⟩ = some (.int .i64 s.stamp) := cell_at HU.out 1
  have qU2 : W7.cell? ⟨U9, 2, none⟩ = some (.int .i64 s.next) := cell_at HU.out 2
  have qU3 : W7.cell? ⟨U9, 3, none⟩ = some (.slice b1 m1 k1) := cell_at HU.out 3
  have qU4 : W7.cell? ⟨U9, 4, none⟩ = some (.slice b2 m2 k2) := cell_at HU.out 4
  have qU5 : W7.cell? ⟨U9, 5, none⟩ = some (.slice b3 m3 k3) := cell_at HU.out 5
  have qU6 : W7.cell? ⟨U9, 6, none⟩ = some (.slice b4 m4 k4) := cell_at HU.out 6
  have qUz : ∀ j, W7.frozen? ⟨U9, j, none⟩ = false := fun j => free_at HU.out j
  have qUl : U9 < W7.heap.size := HU.out.lt
  have qX90 : W7.cell? ⟨X9, 0, none⟩ = some (.int .i64 x.id) := cell_at HX9.out 0
  have qX91 : W7.cell? ⟨X9, 1, none⟩ = some (.int .i64 x.tenant) := cell_at HX9.out 1
  have qX92 : W7.cell? ⟨X9, 2, none⟩ = some (.int .i64 x.shaper) := cell_at HX9.out 2
  have qX93 : W7.cell? ⟨X9, 3, none⟩ = some (.int .i64 x.epoch) := cell_at HX9.out 3
  have qX94 : W7.cell? ⟨X9, 4, none⟩ = some (.int .i64 x.number) := cell_at HX9.out 4
  have qX95 : W7.cell? ⟨X9, 5, none⟩ = some (.int .i64 x.size) := cell_at HX9.out 5
  have qX96 : W7.cell? ⟨X9, 6, none⟩ = some (.int .i64 x.spent) := cell_at HX9.out 6
  have qX9l : X9 < W7.heap.size := HX9.out.lt
  have HWO:=zh (rwithout_any _ _ _ _ s le W7 (tn_tv O1.out.v) O2.out.v O3.out.v O4.out.v HFEW.out)
  have HZ9 : Hid (sizeB (wo le s.ls)):=zh (sizeB_filter _ HSZ9.out)
  have HF1 : Hid ((wo le s.ls).length ≤ 200):=zh (Nat.le_trans (List.length_filter_le _ _) HFEW.out.2.1)
  have HRW:=zh (fun W key (h : TV W (.slice ta tn tc) s.ts) => rfind_any _ s.ts key W h)
  have hok9 := fndC_ok x.tenant HT.out.ok
  obtain ⟨y, hy⟩ : ∃ y, y = (fndC x.tenant s.ts).getD z0 := ⟨_, rfl⟩
  obtain ⟨sm, hsm⟩ : ∃ sm, sm = (fndC x.tenant s.ts).isSome := ⟨_, rfl⟩
  replace HRW:=zh (fun W h => HRW.out W x.tenant h)
  unfold TnE.agg at HRW
  rw [← hy, ← hsm] at HRW
  rw [← hy] at hok9
  have HOKY := zh hok9
  have HYY := zh hy
  obtain ⟨yg, hyg⟩ : ∃ yg, yg = y.gone := ⟨_, rfl⟩
  rw [← hyg] at HRW
  have HYG := zh hyg
  clear hy hsm hok9 hyg
  go_wp2_with fail
  go_at_call 56
  go_fit HWO.out
  rintro e W8 ⟨v5, rfl, hv5, hB⟩
  clear qU0 qU1 qU2 qU3 qU4 qU5 qU6 qUz qUl qX90 qX91 qX92 qX93 qX94 qX95 qX96 qX9l
  replace HB:=zh (HB.out.trans (hB.mono HB.out.size))
  replace HT:=zh (HT0.out.below HB.out)
  replace HL:=zh (HL0.out.below HB.out)
  replace HS:=zh (HS0.out.below HB.out)
  replace HD:=zh (HD0.out.below HB.out)
  replace HR:=zh (HR.out.step hB)
  replace HO:=zh (HO.out.step hB)
  replace HX9:=zh (HX9.out.step hB)
  replace O1:=zh (O1.out.step hB)
  replace O2:=zh (O2.out.step hB)
  replace O3:=zh (O3.out.step hB)
  replace O4:=zh (O4.out.step hB)
  replace HU:=zh (HU.out.step hB)
  clear hB
  obtain ⟨b5, m5, k5, rfl, Hb5, x5, y5⟩ := hv5.sh
  have HQ5 := zh hv5
  clear hv5 HWO
  have qU0 : W8.cell? ⟨U9, 0, none⟩ = some (.int .i64 s.term) := cell_at HU.out 0
  have qU1 : W8.cell? ⟨U9, 1, none⟩ = some (.int .i64 s.stamp) := cell_at HU.out 1
  have qU2 : W8.cell? ⟨U9, 2, none⟩ = some (.int .i64 s.next) := cell_at HU.out 2
  have qU3 : W8.cell? ⟨U9, 3, none⟩ = some (.slice b1 m1 k1) := cell_at HU.out 3
  have qU4 : W8.cell? ⟨U9, 4, none⟩ = some (.slice b2 m2 k2) := cell_at HU.out 4
  have qU5 : W8.cell? ⟨U9, 5, none⟩ = some (.slice b3 m3 k3) := cell_at HU.out 5
  have qU6 : W8.cell? ⟨U9, 6, none⟩ = some (.slice b4 m4 k4) := cell_at HU.out 6
  have qUz : ∀ j, W8.frozen? ⟨U9, j, none⟩ = false := fun j => free_at HU.out j
  have qUl : U9 < W8.heap.size := HU.out.lt
  go_upto_region 17 with fail
  clear qU0 qU1 qU2 qU3 qU4 qU5 qU6 qUz qUl
  obtain ⟨LS, hLS⟩ : ∃ L : List Value, L = [.int .i64 s.term, .int .i64 s.stamp, .int .i64 s.next, .slice b1 m1 k1, .slice b5 m5 k5, .slice b3 m3 k3, .slice b4 m4 k4] := ⟨_, rfl⟩
  obtain ⟨W9, hWS⟩ : ∃ WS, WS = W8.setCells U9 0 LS := ⟨_, rfl⟩
  have hch := hWS
  rw [hLS] at hch
  simp only [World.setCells, Nat.zero_add, Nat.reduceAdd] at hch
  rw [← hch]
  clear hch
  have hkS := stC_blk HU.out LS (by rw [hLS]; rfl)
  have hfS := stC_fr U9 LS 0 W8
  rw [← hWS] at hkS hfS
  rw [hLS] at hkS
  replace HB:=zh (HB.out.trans (hfS.below HB.out.size (by have := HLOU9.out; simp; try omega)))
  replace HT:=zh (HT0.out.below HB.out)
  replace HL:=zh (HL0.out.below HB.out)
  replace HS:=zh (HS0.out.below HB.out)
  replace HD:=zh (HD0.out.below HB.out)
  replace HR:=zh (show Blk W9 N #[.int .i64 s.term, .int .i64 s.stamp, .int .i64 s.next, .slice ta tn tc, .slice la ln lc, .slice sa sn sc, .slice da dn dc] 27 from (hfS.block _ HR.out.lt (by have hx0 := HXX9HR.out; have hx1 := HXX9HO.out; have hx2 := HXU9HR.out; have hx3 := HXU9HO.out; have hx4 := HXU9HX9.out; simp; try omega)).trans HR.out)
  replace HO:=zh (show Blk W9 (N + 1) #[.int .i64 0, .int .i64 0, .int .i64 0, .slice none 0 0, .slice none 0 0, .slice none 0 0, .slice none 0 0] 27 from (hfS.block _ HO.out.lt (by have hx0 := HXX9HR.out; have hx1 := HXX9HO.out; have hx2 := HXU9HR.out; have hx3 := HXU9HO.out; have hx4 := HXU9HX9.out; simp; try omega)).trans HO.out)
  replace HX9:=zh (show Blk W9 X9 #[.int .i64 x.id, .int .i64 x.tenant, .int .i64 x.shaper, .int .i64 x.epoch, .int .i64 x.number, .int .i64 x.size, .int .i64 x.spent] 31 from (hfS.block _ HX9.out.lt (by have hx0 := HXX9HR.out; have hx1 := HXX9HO.out; have hx2 := HXU9HR.out; have hx3 := HXU9HO.out; have hx4 := HXU9HX9.out; simp; try omega)).trans HX9.out)
  replace O1:=zh (O1.out.frU hfS HUU9O1.out)
  replace O3:=zh (O3.out.frU hfS HUU9O3.out)
  replace O4:=zh (O4.out.frU hfS HUU9O4.out)
  replace HQ5:=zh (HQ5.out.fr HU.out hfS)
  replace HU:=zh (show Blk W9 U9 #[.int .i64 s.term, .int .i64 s.stamp, .int .i64 s.next, .slice b1 m1 k1, .slice b5 m5 k5, .slice b3 m3 k3, .slice b4 m4 k4] 27 from hkS)
  clear hWS hLS hkS hfS
  have qR0 : W9.cell? ⟨N, 0, none⟩ = some (.int .i64 s.term) := cell_at HR.out 0
  have qR1 : W9.cell? ⟨N, 1, none⟩ = some (.int .i64 s.stamp) := cell_at HR.out 1
  have qR2 : W9.cell? ⟨N, 2, none⟩ = some (.int .i64 s.next) := cell_at HR.out 2
  have qR3 : W9.cell? ⟨N, 3, none⟩ = some (.slice ta tn tc) := cell_at HR.out 3
  have qR4 : W9.cell? ⟨N, 4, none⟩ = some (.slice la ln lc) := cell_at HR.out 4
  have qR5 : W9.cell? ⟨N, 5, none⟩ = some (.slice sa sn sc) := cell_at HR.out 5
  have qR6 : W9.cell? ⟨N, 6, none⟩ = some (.slice da dn dc) := cell_at HR.out 6
  have qRl : N < W9.heap.size := HR.out.lt
  have qX90 : W9.cell? ⟨X9, 0, none⟩ = some (.int .i64 x.id) := cell_at HX9.out 0
  have qX91 : W9.cell? ⟨X9, 1, none⟩ = some (.int .i64 x.tenant) := cell_at HX9.out 1
  have qX92 : W9.cell? ⟨X9, 2, none⟩ = some (.int .i64 x.shaper) := cell_at HX9.out 2
  have qX93 : W9.cell? ⟨X9, 3, none⟩ = some (.int .i64 x.epoch) := cell_at HX9.out 3
  have qX94 : W9.cell? ⟨X9, 4, none⟩ = some (.int .i64 x.number) := cell_at HX9.out 4
  have qX95 : W9.cell? ⟨X9, 5, none⟩ = some (.int .i64 x.size) := cell_at HX9.out 5
  have qX96 : W9.cell? ⟨X9, 6, none⟩ = some (.int .i64 x.spent) := cell_at HX9.out 6
  have qX9l : X9 < W9.heap.size := HX9.out.lt
  go_wp2_with fail
  go_at_call 26
  go_fit (HRW.out _ HT.out)
  rintro e W10 ⟨rfl, hB⟩
  clear qR0 qR1 qR2 qR3 qR4 qR5 qR6 qRl qX90 qX91 qX92 qX93 qX94 qX95 qX96 qX9l
  replace HB:=zh (HB.out.trans (hB.mono HB.out.size))
  replace HT:=zh (HT0.out.below HB.out)
  replace HL:=zh (HL0.out.below HB.out)
  replace HS:=zh (HS0.out.below HB.out)
  replace HD:=zh (HD0.out.below HB.out)
  replace HR:=zh (HR.out.step hB)
  replace HO:=zh (HO.out.step hB)
  replace HX9:=zh (HX9.out.step hB)
  replace O1:=zh (O1.out.step hB)
  replace O3:=zh (O3.out.step hB)
  replace O4:=zh (O4.out.step hB)
  replace HU:=zh (HU.out.step hB)
  replace HQ5:=zh (HQ5.out.below hB)
  clear hB
  go_upto_region 18 with fail
  obtain ⟨T9, hT9⟩ : ∃ n0, n0 = W10.heap.size := ⟨_, rfl⟩
  have HXT9HR : Hid (N < T9):=zh (by rw [hT9]; exact HR.out.lt)
  have HXT9HO : Hid ((N + 1) < T9):=zh (by rw [hT9]; exact HO.out.lt)
  have HXT9HX9 : Hid (X9 < T9):=zh (by rw [hT9]; exact HX9.out.lt)
  have HXT9HU : Hid (U9 < T9):=zh (by rw [hT9]; exact HU.out.lt)
  have HUT9O1 : Hid (∀ g, ot = some g → g < T9):=zh (fun g e => by rw [hT9]; first | (subst e; exact O1.out.1.lt) | (obtain rfl := Option.some.inj e; exact O1.out.1.lt))
  have HUT9O3 : Hid (∀ g, os = some g → g < T9):=zh (fun g e => by rw [hT9]; first | (subst e; exact O3.out.1.lt) | (obtain rfl := Option.some.inj e; exact O3.out.1.lt))
  have HUT9O4 : Hid (∀ g, od = some g → g < T9):=zh (fun g e => by rw [hT9]; first | (subst e; exact O4.out.1.lt) | (obtain rfl := Option.some.inj e; exact O4.out.1.lt))
  have HLOT9 : Hid (w.heap.size ≤ T9):=zh (by have := HB.out.size; omega)
  obtain ⟨W11, hA0⟩ : ∃ W0, W0 = W10.alloc (.cells #[.int .i64 y.id, .int .i64 y.rate, .int .i64 y.burst, .int .i64 y.bkt, .bool yg] 54) := ⟨_, rfl⟩
  have hB : Below W10.heap.size W10 W11 := by rw [hA0]; exact (Below.refl _ _).alloc (Nat.le_refl _) _
  have hS0 : W11.heap.size = T9 + 1 := by rw [hA0]; simp [← hT9]
  have HT9:=zh (show Blk W11 T9 #[.int .i64 y.id, .int .i64 y.rate, .int .i64 y.burst, .int .i64 y.bkt, .bool yg] 54 by rw [hA0, hT9]; exact blk_new _ _ _)
  replace HB:=zh (HB.out.trans (hB.mono HB.out.size))
  replace HT:=zh (HT0.out.below HB.out)
  replace HL:=zh (HL0.out.below HB.out)
  replace HS:=zh (HS0.out.below HB.out)
  replace HD:=zh (HD0.out.below HB.out)
  replace HR:=zh (HR.out.step hB)
  replace HO:=zh (HO.out.step hB)
  replace HX9:=zh (HX9.out.step hB)
  replace O1:=zh (O1.out.step hB)
  replace O3:=zh (O3.out.step hB)
  replace O4:=zh (O4.out.step hB)
  replace HU:=zh (HU.out.step hB)
  replace HQ5:=zh (HQ5.out.below hB)
  clear hB
  rw [← hT9, ← hA0]
  clear hA0 hT9 hS0
  have HF9 : Hid (fewS ⟨s.term, s.stamp, s.next, s.ts, wo le s.ls, s.ss, s.ds⟩) := zh ⟨HFEW.out.1, HF1.out, HFEW.out.2.2.1, HFEW.out.2.2.2⟩
  have qT90 : W11.cell? ⟨T9, 0, none⟩ = some (.int .i64 y.id) := cell_at HT9.out 0
  have qT91 : W11.cell? ⟨T9, 1, none⟩ = some (.int .i64 y.rate) := cell_at HT9.out 1
  have qT92 : W11.cell? ⟨T9, 2, none⟩ = some (.int .i64 y.burst) := cell_at HT9.out 2
  have qT93 : W11.cell? ⟨T9, 3, none⟩ = some (.int .i64 y.bkt) := cell_at HT9.out 3
  have qT94 : W11.cell? ⟨T9, 4, none⟩ = some (.bool yg) := cell_at HT9.out 4
  have qT9z : ∀ j, W11.frozen? ⟨T9, j, none⟩ = false := fun j => free_at HT9.out j
  have qT9l : T9 < W11.heap.size := HT9.out.lt
  have qU0 : W11.cell? ⟨U9, 0, none⟩ = some (.int .i64 s.term) := cell_at HU.out 0
  have qU1 : W11.cell? ⟨U9, 1, none⟩ = some (.int .i64 s.stamp) := cell_at HU.out 1
  have qU2 : W11.cell? ⟨U9, 2, none⟩ = some (.int .i64 s.next) := cell_at HU.out 2
  have qU3 : W11.cell? ⟨U9, 3, none⟩ = some (.slice b1 m1 k1) := cell_at HU.out 3
  have qU4 : W11.cell? ⟨U9, 4, none⟩ = some (.slice b5 m5 k5) := cell_at HU.out 4
  have qU5 : W11.cell? ⟨U9, 5, none⟩ = some (.slice b3 m3 k3) := cell_at HU.out 5
  have qU6 : W11.cell? ⟨U9, 6, none⟩ = some (.slice b4 m4 k4) := cell_at HU.out 6
  have qUz : ∀ j, W11.frozen? ⟨U9, j, none⟩ = false := fun j => free_at HU.out j
  have qUl : U9 < W11.heap.size := HU.out.lt
  have HSP:=zh (rswept_any _ _ _ _ (⟨s.term, s.stamp, s.next, s.ts, wo le s.ls, s.ss, s.ds⟩) W11 (tn_tv O1.out.v) HQ5.out O3.out.v O4.out.v HF9.out HZ9.out)
  go_wp2_with fail
  go_at_call 42
  go_fit HSP.out
  rintro e W12 ⟨vq, rfl, hvq, hB⟩
  clear qT90 qT91 qT92 qT93 qT94 qT9z qT9l qU0 qU1 qU2 qU3 qU4 qU5 qU6 qUz qUl
  replace HB:=zh (HB.out.trans (hB.mono HB.out.size))
  replace HT:=zh (HT0.out.below HB.out)
  replace HL:=zh (HL0.out.below HB.out)
  replace HS:=zh (HS0.out.below HB.out)
  replace HD:=zh (HD0.out.below HB.out)
  replace HR:=zh (HR.out.step hB)
  replace HO:=zh (HO.out.step hB)
  replace HX9:=zh (HX9.out.step hB)
  replace O1:=zh (O1.out.step hB)
  replace O3:=zh (O3.out.step hB)
  replace O4:=zh (O4.out.step hB)
  replace HU:=zh (HU.out.step hB)
  replace HQ5:=zh (HQ5.out.below hB)
  replace HT9:=zh (HT9.out.step hB)
  clear hB
  obtain ⟨b8, m8, k8, rfl, Hb8, x8, y8⟩ := hvq.sh
  have HQ := zh hvq
  clear hvq HSP
  have qO0 : W12.cell? ⟨(N + 1), 0, none⟩ = some (.int .i64 0) := cell_at HO.out 0
  have qO1 : W12.cell? ⟨(N + 1), 1, none⟩ = some (.int .i64 0) := cell_at HO.out 1
  have qO2 : W12.cell? ⟨(N + 1), 2, none⟩ = some (.int .i64 0) := cell_at HO.out 2
  have qO3 : W12.cell? ⟨(N + 1), 3, none⟩ = some (.slice none 0 0) := cell_at HO.out 3
  have qO4 : W12.cell? ⟨(N + 1), 4, none⟩ = some (.slice none 0 0) := cell_at HO.out 4
  have qO5 : W12.cell? ⟨(N + 1), 5, none⟩ = some (.slice none 0 0) := cell_at HO.out 5
  have qO6 : W12.cell? ⟨(N + 1), 6, none⟩ = some (.slice none 0 0) := cell_at HO.out 6
  have qOz : ∀ j, W12.frozen? ⟨(N + 1), j, none⟩ = false := fun j => free_at HO.out j
  have qOl : (N + 1) < W12.heap.size := HO.out.lt
  go_wp2_with fail
  clear qO0 qO1 qO2 qO3 qO4 qO5 qO6 qOz qOl
  obtain ⟨LS, hLS⟩ : ∃ L : List Value, L = [.int .i64 s.term, .int .i64 s.stamp, .int .i64 s.next, .slice b8 m8 k8, .slice b5 m5 k5, .slice b3 m3 k3, .slice b4 m4 k4] := ⟨_, rfl⟩
  obtain ⟨W13, hWS⟩ : ∃ WS, WS = W12.setCells (N + 1) 0 LS := ⟨_, rfl⟩
  have hch := hWS
  rw [hLS] at hch
  simp only [World.setCells, Nat.zero_add, Nat.reduceAdd] at hch
  rw [← hch]
  clear hch
  have hkS := stC_blk HO.out LS (by rw [hLS]; rfl)
  have hfS := stC_fr (N + 1) LS 0 W12
  rw [← hWS] at hkS hfS
  rw [hLS] at hkS
  replace HB:=zh (HB.out.trans (hfS.below HB.out.size (by have := HLON.out; simp; try omega)))
  replace O3:=zh (O3.out.fr hfS (by have := FO3.out; omega))
  replace O4:=zh (O4.out.fr hfS (by have := FO4.out; omega))
  replace HQ5:=zh (HQ5.out.fr HO.out hfS)
  replace HQ:=zh (HQ.out.fr HO.out hfS)
  replace HO:=zh (show Blk W13 (N + 1) #[.int .i64 s.term, .int .i64 s.stamp, .int .i64 s.next, .slice b8 m8 k8, .slice b5 m5 k5, .slice b3 m3 k3, .slice b4 m4 k4] 27 from hkS)
  clear hWS hLS hkS hfS
  have qO0 : W13.cell? ⟨(N + 1), 0, none⟩ = some (.int .i64 s.term) := cell_at HO.out 0
  have qO1 : W13.cell? ⟨(N + 1), 1, none⟩ = some (.int .i64 s.stamp) := cell_at HO.out 1
  have qO2 : W13.cell? ⟨(N + 1), 2, none⟩ = some (.int .i64 s.next) := cell_at HO.out 2
  have qO3 : W13.cell? ⟨(N + 1), 3, none⟩ = some (.slice b8 m8 k8) := cell_at HO.out 3
  have qO4 : W13.cell? ⟨(N + 1), 4, none⟩ = some (.slice b5 m5 k5) := cell_at HO.out 4
  have qO5 : W13.cell? ⟨(N + 1), 5, none⟩ = some (.slice b3 m3 k3) := cell_at HO.out 5
  have qO6 : W13.cell? ⟨(N + 1), 6, none⟩ = some (.slice b4 m4 k4) := cell_at HO.out 6
  have qOz : ∀ j, W13.frozen? ⟨(N + 1), j, none⟩ = false := fun j => free_at HO.out j
  have qOl : (N + 1) < W13.heap.size := HO.out.lt
  exact bodyPost_ret (v := .tuple #[.agg #[.int .i64 s.term, .int .i64 s.stamp, .int .i64 s.next, .slice b8 m8 k8, .slice b5 m5 k5, .slice b3 m3 k3, .slice b4 m4 k4], .int .i64 0]) (by simp [results, Try.results23, go_sem, qO0, qO1, qO2, qO3, qO4, qO5, qO6]) rfl ⟨_, rfl, (by rw [HR9.out, HRL.out, if_neg (by omega)]; exact ⟨_, _, _, _, rfl, HQ.out, HQ5.out, O3.out.v, O4.out.v⟩), HB.out⟩
 have tte : decide (sp < x.size) = true := decide_eq_true he
 obtain ⟨F, hF⟩ : ∃ F : Nat → List LeE, F = mapK (fun y => if y.id = le then ⟨y.id, y.tenant, y.shaper, y.epoch, y.number, y.size, sp⟩ else y) s.ls := ⟨_, rfl⟩
 have HF0 : Hid (F 0 = s.ls):=zh (by rw [hF]; exact mapK_zero _ _)
 have HFL : Hid (∀ k, k ≤ ln → (F k).length = ln):=zh (fun k hk => by rw [hF, mapK_len _ _ _ (by rw [← Hln.out]; exact hk), ← Hln.out])
 have HFE : Hid (F ln = spL le sp s.ls):=zh (by rw [hF, Hln.out]; exact mapK_end _ _)
 have HFA : Hid (∀ k x, s.ls[k]? = some x → (F k)[k]? = some x):=zh (fun k x h => by rw [hF]; exact mapK_at _ _ _ _ h)
 have HFS : Hid (∀ k x, s.ls[k]? = some x → F (k + 1) = (F k).set k (if x.id = le then ⟨x.id, x.tenant, x.shaper, x.epoch, x.number, x.size, sp⟩ else x)):=zh (fun k x h => by rw [hF]; exact mapK_succ _ _ _ _ h)
 clear hF
 obtain rfl : m2 = ln := Hb2.out.trans Hln.out.symm
 have qX90 : W7.cell? ⟨X9, 0, none⟩ = some (.int .i64 x.id) := cell_at HX9.out 0
 have qX91 : W7.cell? ⟨X9, 1, none⟩ = some (.int .i64 x.tenant) := cell_at HX9.out 1
 have qX92 : W7.cell? ⟨X9, 2, none⟩ = some (.int .i64 x.shaper) := cell_at HX9.out 2
 have qX93 : W7.cell? ⟨X9, 3, none⟩ = some (.int .i64 x.epoch) := cell_at HX9.out 3
 have qX94 : W7.cell? ⟨X9, 4, none⟩ = some (.int .i64 x.number) := cell_at HX9.out 4
 have qX95 : W7.cell? ⟨X9, 5, none⟩ = some (.int .i64 x.size) := cell_at HX9.out 5
 have qX96 : W7.cell? ⟨X9, 6, none⟩ = some (.int .i64 x.spent) := cell_at HX9.out 6
 have qX9l : X9 < W7.heap.size := HX9.out.lt
 have qU0 : W7.cell? ⟨U9, 0, none⟩ = some (.int .i64 s.term) := cell_at HU.out 0
 have qU1 : W7.cell? ⟨U9, 1, none⟩ = some (.int .i64 s.stamp) := cell_at HU.out 1
 have qU2 : W7.cell? ⟨U9, 2, none⟩ = some (.int .i64 s.next) := cell_at HU.out 2
 have qU3 : W7.cell? ⟨U9, 3, none⟩ = some (.slice b1 m1 k1) := cell_at HU.out 3
 have qU4 : W7.cell? ⟨U9, 4, none⟩ = some (.slice b2 m2 k2) := cell_at HU.out 4
 have qU5 : W7.cell? ⟨U9, 5, none⟩ = some (.slice b3 m3 k3) := cell_at HU.out 5
 have qU6 : W7.cell? ⟨U9, 6, none⟩ = some (.slice b4 m4 k4) := cell_at HU.out 6
 have qUz : ∀ j, W7.frozen? ⟨U9, j, none⟩ = false := fun j => free_at HU.out j
 have qUl : U9 < W7.heap.size := HU.out.lt
 go_wp2_with fail
 clear qX90 qX91 qX92 qX93 qX94 qX95 qX96 qX9l qU0 qU1 qU2 qU3 qU4 qU5 qU6 qUz qUl
 have HO20 : Hid (LeO _ W7 _ ol (F 0)):=zh (by rw [HF0.out]; exact O2.out)
 obtain ⟨MM, hMM⟩ : ∃ M, LeO M W7 (.slice b2 m2 k2) ol (F 0) ∧ N + 1 < M ∧ w.heap.size ≤ M := ⟨_, HO20.out, FO2.out, HB0L.out⟩
 have HMM1 := zh hMM.1
 have HMM2 := zh hMM.2.1
 have HMM3 := zh hMM.2.2
 clear hMM HO20
 go_loopw [17] (fun k wr => ∃ i : Nat, i ≤ m2 ∧ k = .int .i64 i ∧ LeO MM wr (.slice b2 m2 k2) ol (F i) ∧ FrB W7.heap.size ol.toList W7 wr) (fun k _ => m2 - (intOf k).toNat)
 case atStart => exact ⟨0, Nat.zero_le _, rfl, HMM1.out, FrB.refl _ _ _⟩
 case round =>
  obtain ⟨i, hi, rfl, hrow, hfrb⟩ := hrel
  have HFRB := zh hfrb
  replace HB:=zh (HB.out.trans (hfrb.below HB.out.size (by intro z hz; have := Option.mem_toList.1 hz; have h9 := hrow.2.2 z this; have := HMM3.out; omega)))
  replace HO:=zh (HO.out.frBL O2.out hfrb (by decide))
  replace HU:=zh (HU.out.frBL O2.out hfrb (by decide))
  replace O1:=zh (O1.out.frBL O2.out hfrb)
  replace O3:=zh (O3.out.frBL O2.out hfrb)
  replace O4:=zh (O4.out.frBL O2.out hfrb)
  replace O2 := zh hrow
  clear hrow hfrb
  by_cases hk : i < m2
  ·skip
   have b9 : (i < m2) = True := eq_true hk
   obtain ⟨gr, rfl, rfl⟩ : ∃ gr, ol = some gr ∧ b2 = some ⟨gr, 0, none⟩ := by
    rcases O2.out.1.cases with ⟨_, _, h0, _⟩ | ⟨gr, cap, cur, e1, e2, _⟩
    ·exact absurd h0 (by rw [HFL.out i hi]; omega)
    ·injection e2 with e3 e4 e5
     exact ⟨gr, e1, e3⟩
   obtain ⟨g, o, y, ea, g1, g2, q0, q1, q2, q3, q4, q5, q6⟩ := O2.out.v.at i hk
   injection ea with ea
   injection ea with ea1 ea2 _
   subst ea1 ea2
   obtain ⟨y', hy'⟩ : ∃ y', s.ls[i]? = some y' := ⟨_, List.getElem?_eq_getElem (by rw [← Hln.out]; exact hk)⟩
   obtain rfl : y' = y := Option.some.inj ((HFA.out i y' hy').symm.trans g2)
   have HFA2 := zh g2
   have HFS2:=zh (HFS.out i y' hy')
   simp only [Nat.zero_add] at q0 q1 q2 q3 q4 q5 q6
   have ww5 : IntKind.i64.wrap ((i : Int) + 1) = (i : Int) + 1 := IntWalk.i64_in _ (by omega)
   clear g2 hy' q1 q2 q3 q4 q5
   cases hd : (y'.id == le)
   ·skip
    have hne : ¬ y'.id = le := by simpa using hd
    have d2 : (y'.id = le) = False := eq_false hne
    replace HFS2 : Hid (F (i + 1) = F i):=zh (by rw [HFS2.out, if_neg hne]; exact set_id _ _ _ HFA2.out)
    clear hne
    have qU0 : wr.cell? ⟨U9, 0, none⟩ = some (.int .i64 s.term) := cell_at HU.out 0
    have qU1 : wr.cell? ⟨U9, 1, none⟩ = some (.int .i64 s.stamp) := cell_at HU.out 1
    have qU2 : wr.cell? ⟨U9, 2, none⟩ = some (.int .i64 s.next) := cell_at HU.out 2
    have qU3 : wr.cell? ⟨U9, 3, none⟩ = some (.slice b1 m1 k1) := cell_at HU.out 3
    have qU4 : wr.cell? ⟨U9, 4, none⟩ = some (.slice (some ⟨gr, 0, none⟩) m2 k2) := cell_at HU.out 4
    have qU5 : wr.cell? ⟨U9, 5, none⟩ = some (.slice b3 m3 k3) := cell_at HU.out 5
    have qU6 : wr.cell? ⟨U9, 6, none⟩ = some (.slice b4 m4 k4) := cell_at HU.out 6
    have qUz : ∀ j, wr.frozen? ⟨U9, j, none⟩ = false := fun j => free_at HU.out j
    have qUl : U9 < wr.heap.size := HU.out.lt
    go_wp2_with fail
    go_roundw
    case rel => exact ⟨i + 1, by omega, by go_num, by rw [HFS2.out]; exact O2.out, HFRB.out⟩
    case measure => first | (simp [intOf]; done) | (simp [intOf]; omega)
   ·skip
    have hee : y'.id = le := by simpa using hd
    replace HFS2 : Hid (F (i + 1) = (F i).set i ⟨y'.id, y'.tenant, y'.shaper, y'.epoch, y'.number, y'.size, sp⟩):=zh (by rw [HFS2.out, if_pos hee])
    have HEE := zh hee
    clear hee
    have z6 : wr.frozen? ⟨gr, i * 7 + 6, none⟩ = false := by
     obtain ⟨g3, e3, c3, z3⟩ := O2.out.1.cell (i * 7 + 6) (by rw [HFL.out i hi]; omega)
     obtain rfl := Option.some.inj e3
     exact z3
    have l6 : gr < wr.heap.size := O2.out.1.lt
    have qU0 : wr.cell? ⟨U9, 0, none⟩ = some (.int .i64 s.term) := cell_at HU.out 0
    have qU1 : wr.cell? ⟨U9, 1, none⟩ = some (.int .i64 s.stamp) := cell_at HU.out 1
    have qU2 : wr.cell? ⟨U9, 2, none⟩ = some (.int .i64 s.next) := cell_at HU.out 2
    have qU3 : wr.cell? ⟨U9, 3, none⟩ = some (.slice b1 m1 k1) := cell_at HU.out 3
    have qU4 : wr.cell? ⟨U9, 4, none⟩ = some (.slice (some ⟨gr, 0, none⟩) m2 k2) := cell_at HU.out 4
    have qU5 : wr.cell? ⟨U9, 5, none⟩ = some (.slice b3 m3 k3) := cell_at HU.out 5
    have qU6 : wr.cell? ⟨U9, 6, none⟩ = some (.slice b4 m4 k4) := cell_at HU.out 6
    have qUz : ∀ j, wr.frozen? ⟨U9, j, none⟩ = false := fun j => free_at HU.out j
    have qUl : U9 < wr.heap.size := HU.out.lt
    go_upto_region 12 with fail
    obtain ⟨W8, hWS⟩ : ∃ WS, WS = wr.setCell ⟨gr, i * 7 + 6, none⟩ (.int .i64 sp) := ⟨_, rfl⟩
    rw [← hWS]
    have hfS : Fr [gr] wr W8 := by rw [hWS]; exact (Fr.refl _ _).setCell _ (.inl (by simp)) _
    have hO2 := O2.out.setSpent HFA2.out sp hsp
    rw [← hWS] at hO2
    have HFB : Hid (FrB wr.heap.size (some gr).toList wr W8):=zh (FrB.of_fr hfS (Nat.le_refl _))
    replace O2 := zh hO2
    clear hO2 hfS hWS z6 l6 q0 q6
    clear qU0 qU1 qU2 qU3 qU4 qU5 qU6 qUz qUl
    go_wp2_with fail
    go_roundw
    case rel => exact ⟨i + 1, by omega, by go_num, by rw [HFS2.out]; exact O2.out, HFRB.out.trans (HFB.out.mono0 HFRB.out.size)⟩
    case measure => first | (simp [intOf]; done) | (simp [intOf]; omega)
  ·skip
   have b9 : (i < m2) = False := eq_false hk
   obtain rfl : m2 = i := by omega
   rw [HFE.out] at O2
   replace FO2 := HMM2
   have HF9 : Hid (fewS ⟨s.term, s.stamp, s.next, s.ts, spL le sp s.ls, s.ss, s.ds⟩) := zh ⟨HFEW.out.1, (by show (spL le sp s.ls).length ≤ 200; unfold spL; rw [List.length_map]; exact HFEW.out.2.1), HFEW.out.2.2.1, HFEW.out.2.2.2⟩
   have HZ9 : Hid (sizeB (spL le sp s.ls)):=zh (spL_size HCHK.out HFXS.out (by omega) (by omega))
   have qU0 : wr.cell? ⟨U9, 0, none⟩ = some (.int .i64 s.term) := cell_at HU.out 0
   have qU1 : wr.cell? ⟨U9, 1, none⟩ = some (.int .i64 s.stamp) := cell_at HU.out 1
   have qU2 : wr.cell? ⟨U9, 2, none⟩ = some (.int .i64 s.next) := cell_at HU.out 2
   have qU3 : wr.cell? ⟨U9, 3, none⟩ = some (.slice b1 m1 k1) := cell_at HU.out 3
   have qU4 : wr.cell? ⟨U9, 4, none⟩ = some (.slice b2 m2 k2) := cell_at HU.out 4
   have qU5 : wr.cell? ⟨U9, 5, none⟩ = some (.slice b3 m3 k3) := cell_at HU.out 5
   have qU6 : wr.cell? ⟨U9, 6, none⟩ = some (.slice b4 m4 k4) := cell_at HU.out 6
   have qUz : ∀ j, wr.frozen? ⟨U9, j, none⟩ = false := fun j => free_at HU.out j
   have qUl : U9 < wr.heap.size := HU.out.lt
   have HSP:=zh (rswept_any _ _ _ _ (⟨s.term, s.stamp, s.next, s.ts, spL le sp s.ls, s.ss, s.ds⟩) wr (tn_tv O1.out.v) O2.out.v O3.out.v O4.out.v HF9.out HZ9.out)
   go_wp2_with fail
   go_at_call 42
   go_fit HSP.out
   rintro e W8 ⟨vq, rfl, hvq, hB⟩
   clear qU0 qU1 qU2 qU3 qU4 qU5 qU6 qUz qUl
   replace HB:=zh (HB.out.trans (hB.mono HB.out.size))
   replace HO:=zh (HO.out.step hB)
   replace O1:=zh (O1.out.step hB)
   replace O2:=zh (O2.out.step hB)
   replace O3:=zh (O3.out.step hB)
   replace O4:=zh (O4.out.step hB)
   replace HU:=zh (HU.out.step hB)
   clear hB
   obtain ⟨b8, m8, k8, rfl, Hb8, x8, y8⟩ := hvq.sh
   have HQ := zh hvq
   clear hvq HSP
   have qO0 : W8.cell? ⟨(N + 1), 0, none⟩ = some (.int .i64 0) := cell_at HO.out 0
   have qO1 : W8.cell? ⟨(N + 1), 1, none⟩ = some (.int .i64 0) := cell_at HO.out 1
   have qO2 : W8.cell? ⟨(N + 1), 2, none⟩ = some (.int .i64 0) := cell_at HO.out 2
   have qO3 : W8.cell? ⟨(N + 1), 3, none⟩ = some (.slice none 0 0) := cell_at HO.out 3
   have qO4 : W8.cell? ⟨(N + 1), 4, none⟩ = some (.slice none 0 0) := cell_at HO.out 4
   have qO5 : W8.cell? ⟨(N + 1), 5, none⟩ = some (.slice none 0 0) := cell_at HO.out 5
   have qO6 : W8.cell? ⟨(N + 1), 6, none⟩ = some (.slice none 0 0) := cell_at HO.out 6
   have qOz : ∀ j, W8.frozen? ⟨(N + 1), j, none⟩ = false := fun j => free_at HO.out j
   have qOl : (N + 1) < W8.heap.size := HO.out.lt
   go_wp2_with fail
   clear qO0 qO1 qO2 qO3 qO4 qO5 qO6 qOz qOl
   obtain ⟨LS, hLS⟩ : ∃ L : List Value, L = [.int .i64 s.term, .int .i64 s.stamp, .int .i64 s.next, .slice b8 m8 k8, .slice b2 m2 k2, .slice b3 m3 k3, .slice b4 m4 k4] := ⟨_, rfl⟩
   obtain ⟨W9, hWS⟩ : ∃ WS, WS = W8.setCells (N + 1) 0 LS := ⟨_, rfl⟩
   have hch := hWS
   rw [hLS] at hch
   simp only [World.setCells, Nat.zero_add, Nat.reduceAdd] at hch
   rw [← hch]
   clear hch
   have hkS := stC_blk HO.out LS (by rw [hLS]; rfl)
   have hfS := stC_fr (N + 1) LS 0 W8
   rw [← hWS] at hkS hfS
   rw [hLS] at hkS
   replace HB:=zh (HB.out.trans (hfS.below HB.out.size (by have := HLON.out; simp; try omega)))
   replace O2:=zh (O2.out.fr hfS (by have := FO2.out; omega))
   replace O3:=zh (O3.out.fr hfS (by have := FO3.out; omega))
   replace O4:=zh (O4.out.fr hfS (by have := FO4.out; omega))
   replace HQ:=zh (HQ.out.fr HO.out hfS)
   replace HO:=zh (show Blk W9 (N + 1) #[.int .i64 s.term, .int .i64 s.stamp, .int .i64 s.next, .slice b8 m8 k8, .slice b2 m2 k2, .slice b3 m3 k3, .slice b4 m4 k4] 27 from hkS)
   clear hWS hLS hkS hfS
   have qO0 : W9.cell? ⟨(N + 1), 0, none⟩ = some (.int .i64 s.term) := cell_at HO.out 0
   have qO1 : W9.cell? ⟨(N + 1), 1, none⟩ = some (.int .i64 s.stamp) := cell_at HO.out 1
   have qO2 : W9.cell? ⟨(N + 1), 2, none⟩ = some (.int .i64 s.next) := cell_at HO.out 2
   have qO3 : W9.cell? ⟨(N + 1), 3, none⟩ = some (.slice b8 m8 k8) := cell_at HO.out 3
   have qO4 : W9.cell? ⟨(N + 1), 4, none⟩ = some (.slice b2 m2 k2) := cell_at HO.out 4
   have qO5 : W9.cell? ⟨(N + 1), 5, none⟩ = some (.slice b3 m3 k3) := cell_at HO.out 5
   have qO6 : W9.cell? ⟨(N + 1), 6, none⟩ = some (.slice b4 m4 k4) := cell_at HO.out 6
   have qOz : ∀ j, W9.frozen? ⟨(N + 1), j, none⟩ = false := fun j => free_at HO.out j
   have qOl : (N + 1) < W9.heap.size := HO.out.lt
   exact bodyPost_ret (v := .tuple #[.agg #[.int .i64 s.term, .int .i64 s.stamp, .int .i64 s.next, .slice b8 m8 k8, .slice b2 m2 k2, .slice b3 m3 k3, .slice b4 m4 k4], .int .i64 0]) (by simp [results, Try.results23, go_sem, qO0, qO1, qO2, qO3, qO4, qO5, qO6]) rfl ⟨_, rfl, (by rw [HR9.out, HRL.out, if_pos (by first | exact ⟨rfl, he⟩ | exact ⟨trivial, he⟩)]; exact ⟨_, _, _, _, rfl, HQ.out, O2.out.v, O3.out.v, O4.out.v⟩), HB.out⟩
end Go.Proofs.Ytfgnjpdlchimpaa
namespace Go.Proofs.Ytfgnjpdlchimpaa
open Go.RowKit
set_option linter.unusedSimpArgs false
set_option linter.unusedVariables false

theorem TnO.frUB {A B : World} {M N : Nat} {v : Value} {ob : Option Nat} {L : List TnE} (h : TnO M A v ob L) (hf : FrB A.heap.size [N] A B) (hu : ∀ g, ob = some g → g < N) : TnO M B v ob L := ⟨h.1.congr fun g e => hf.block g (by subst e; exact h.1.lt) (by have := hu g e; simp; omega), h.2.1, h.2.2⟩
theorem SeO.frUB {A B : World} {M N : Nat} {v : Value} {ob : Option Nat} {L : List SeE} (h : SeO M A v ob L) (hf : FrB A.heap.size [N] A B) (hu : ∀ g, ob = some g → g < N) : SeO M B v ob L := ⟨h.1.congr fun g e => hf.block g (by subst e; exact h.1.lt) (by have := hu g e; simp; omega), h.2.1, h.2.2⟩
theorem DkO.frUB {A B : World} {M N : Nat} {v : Value} {ob : Option Nat} {L : List DkE} (h : DkO M A v ob L) (hf : FrB A.heap.size [N] A B) (hu : ∀ g, ob = some g → g < N) : DkO M B v ob L := ⟨h.1.congr fun g e => hf.block g (by subst e; exact h.1.lt) (by have := hu g e; simp; omega), h.2.1, h.2.2⟩
theorem wo_fold (l : List Int) (L : List LeE) (k : Nat) (n : Int) (h : l[k]? = some n) : (L.filter fun y => !(l.take (k + 1)).contains y.id) = wo n (L.filter fun y => !(l.take k).contains y.id) := by
 unfold wo
 rw [List.filter_filter]
 congr 1
 funext y
 rw [List.take_add_one, h]
 simp only [Option.toList_some, List.contains_eq_mem, List.mem_append, List.mem_singleton]
 by_cases h1 : y.id ∈ List.take k l <;> by_cases h2 : y.id = n <;> simp [h1, h2]
set_option maxRecDepth 100000 in
set_option maxHeartbeats 8000000 in
theorem rexpire_any (v vi : Value) (s : StE) (l : List Int) (w : World) (h : SV w v s) (hi : InV w vi l) (hf : fewS s) :
  Calls Try.prog 25 #[v, vi] w fun e w' => ∃ v', e = .returned v' ∧ SV w' v' (exS s l) ∧ Below w.heap.size w w' := by
 have HFEW := zh hf
 obtain ⟨f1, f2, f3, f4⟩ := hf
 obtain ⟨vt, vl, vs, vd, rfl, ht, hl, hs, hd⟩ := h
 obtain ⟨ta, tn, tc, rfl, Htn, tn1, tn2⟩ := ht.sh
 obtain ⟨la, ln, lc, rfl, Hln, ln1, ln2⟩ := hl.sh
 obtain ⟨sa, sn, sc, rfl, Hsn, sn1, sn2⟩ := hs.sh
 obtain ⟨da, dn, dc, rfl, Hdn, dn1, dn2⟩ := hd.sh
 have HT0 := zh ht
 have HL0 := zh hl
 have HS0 := zh hs
 have HD0 := zh hd
 have HT := zh ht
 have HL := zh hl
 have HS := zh hs
 have HD := zh hd
 clear ht hl hs hd
 rw [← Hln.out] at f2
 rw [← Htn.out] at f1
 have HSV : Hid (∀ W, TV W (.slice ta tn tc) s.ts → LeV W (.slice la ln lc) s.ls → SeV W (.slice sa sn sc) s.ss → DkV W (.slice da dn dc) s.ds → SV W (.agg #[.int .i64 s.term, .int .i64 s.stamp, .int .i64 s.next, .slice ta tn tc, .slice la ln lc, .slice sa sn sc, .slice da dn dc]) s):=zh (fun W h1 h2 h3 h4 => ⟨_, _, _, _, rfl, h1, h2, h3, h4⟩)
 have HCK:=zh (fun W v (h : SV W v s) => rcheckS_any v s W h HFEW.out)
 have HTW:=zh (fun W v (h : SV W v s) => rcopyO_any v s W h HFEW.out)
 obtain ⟨C, hC⟩ : ∃ C, C = chkS s := ⟨_, rfl⟩
 have HSZ:=zh (fun h : C = true => lesB_size (s := s) (by rw [hC] at h; unfold chkS at h; simp only [Bool.and_eq_true] at h; exact h.1.2))
 rw [← hC] at HCK
 have HCE := zh hC
 clear hC
 obtain ⟨ia, iN, ic, rfl, Hin, in1, in2⟩ := hi.sh
 have HI0 := zh hi
 have HI := zh hi
 clear hi
 obtain ⟨R, hR⟩ : ∃ R, R = exS s l := ⟨_, rfl⟩
 rw [← hR]
 unfold exS at hR
 rw [← HCE.out] at hR
 have HR9 := zh hR
 clear hR
 obtain ⟨F, hF⟩ : ∃ F : Nat → List LeE, F = fun k => s.ls.filter fun y => !(l.take k).contains y.id := ⟨_, rfl⟩
 have HF0 : Hid (F 0 = s.ls):=zh (by rw [hF]; simp)
 have HFE : Hid (F iN = s.ls.filter fun y => !l.contains y.id):=zh (by rw [hF, Hin.out]; simp)
 have HFS : Hid (∀ k n, l[k]? = some n → F (k + 1) = wo n (F k)):=zh (fun k n h => by rw [hF]; exact wo_fold l s.ls k n h)
 have HFL : Hid (∀ k, (F k).length ≤ 200):=zh (fun k => by rw [hF]; exact Nat.le_trans (List.length_filter_le _ _) HFEW.out.2.1)
 have HFZ : Hid (∀ k, sizeB s.ls → sizeB (F k)):=zh (fun k h => by rw [hF]; exact sizeB_filter _ h)
 clear hF
 have HB : Hid (Below w.heap.size w w):=zh (Below.refl _ _)
 go_enter Try.func25, Try.ntmps25
 go_upto_region 1 with fail
 obtain ⟨N, hN⟩ : ∃ n0, n0 = w.heap.size := ⟨_, rfl⟩
 have HLON : Hid (w.heap.size ≤ N):=zh (by have := HB.out.size; omega)
 obtain ⟨W1, hA0⟩ : ∃ W0, W0 = w.alloc (.cells #[.int .i64 s.term, .int .i64 s.stamp, .int .i64 s.next, .slice ta tn tc, .slice la ln lc, .slice sa sn sc, .slice da dn dc] 27) := ⟨_, rfl⟩
 have hB : Below w.heap.size w W1 := by rw [hA0]; exact (Below.refl _ _).alloc (Nat.le_refl _) _
 have hS0 : W1.heap.size = N + 1 := by rw [hA0]; simp [← hN]
 have HR:=zh (show Blk W1 N #[.int .i64 s.term, .int .i64 s.stamp, .int .i64 s.next, .slice ta tn tc, .slice la ln lc, .slice sa sn sc, .slice da dn dc] 27 by rw [hA0, hN]; exact blk_new _ _ _)
 replace HB:=zh (HB.out.trans (hB.mono HB.out.size))
 replace HT:=zh (HT0.out.below HB.out)
 replace HL:=zh (HL0.out.below HB.out)
 replace HS:=zh (HS0.out.below HB.out)
 replace HD:=zh (HD0.out.below HB.out)
 replace HI:=zh (HI0.out.below HB.out)
 clear hB
 obtain ⟨W2, hA1⟩ : ∃ W0, W0 = W1.alloc (.cells #[.int .i64 0, .int .i64 0, .int .i64 0, .slice none 0 0, .slice none 0 0, .slice none 0 0, .slice none 0 0] 27) := ⟨_, rfl⟩
 have hB : Below W1.heap.size W1 W2 := by rw [hA1]; exact (Below.refl _ _).alloc (Nat.le_refl _) _
 have hS1 : W2.heap.size = N + 2 := by rw [hA1]; simp [hS0]
 have HO:=zh (show Blk W2 (N + 1) #[.int .i64 0, .int .i64 0, .int .i64 0, .slice none 0 0, .slice none 0 0, .slice none 0 0, .slice none 0 0] 27 by rw [hA1, ← hS0]; exact blk_new _ _ _)
 replace HB:=zh (HB.out.trans (hB.mono HB.out.size))
 replace HT:=zh (HT0.out.below HB.out)
 replace HL:=zh (HL0.out.below HB.out)
 replace HS:=zh (HS0.out.below HB.out)
 replace HD:=zh (HD0.out.below HB.out)
 replace HI:=zh (HI0.out.below HB.out)
 replace HR:=zh (HR.out.step hB)
 clear hB
 rw [← hN, ← hA0, ← hA1]
 clear hA1 hA0 hN hS0 hS1
 have qR0 : W2.cell? ⟨N, 0, none⟩ = some (.int .i64 s.term) := cell_at HR.out 0
 have qR1 : W2.cell? ⟨N, 1, none⟩ = some (.int .i64 s.stamp) := cell_at HR.out 1
 have qR2 : W2.cell? ⟨N, 2, none⟩ = some (.int .i64 s.next) := cell_at HR.out 2
 have qR3 : W2.cell? ⟨N, 3, none⟩ = some (.slice ta tn tc) := cell_at HR.out 3
 have qR4 : W2.cell? ⟨N, 4, none⟩ = some (.slice la ln lc) := cell_at HR.out 4
 have qR5 : W2.cell? ⟨N, 5, none⟩ = some (.slice sa sn sc) := cell_at HR.out 5
 have qR6 : W2.cell? ⟨N, 6, none⟩ = some (.slice da dn dc) := cell_at HR.out 6
 have qRl : N < W2.heap.size := HR.out.lt
 go_wp2_with fail
 go_at_call 13
 go_fit (HCK.out _ _ (HSV.out _ HT.out HL.out HS.out HD.out))
 rintro e W3 ⟨rfl, hB⟩
 clear qR0 qR1 qR2 qR3 qR4 qR5 qR6 qRl
 replace HB:=zh (HB.out.trans (hB.mono HB.out.size))
 replace HT:=zh (HT0.out.below HB.out)
 replace HL:=zh (HL0.out.below HB.out)
 replace HS:=zh (HS0.out.below HB.out)
 replace HD:=zh (HD0.out.below HB.out)
 replace HI:=zh (HI0.out.below HB.out)
 replace HR:=zh (HR.out.step hB)
 replace HO:=zh (HO.out.step hB)
 clear hB
 cases C
 ·skip
  have qR0 : W3.cell? ⟨N, 0, none⟩ = some (.int .i64 s.term) := cell_at HR.out 0
  have qR1 : W3.cell? ⟨N, 1, none⟩ = some (.int .i64 s.stamp) := cell_at HR.out 1
  have qR2 : W3.cell? ⟨N, 2, none⟩ = some (.int .i64 s.next) := cell_at HR.out 2
  have qR3 : W3.cell? ⟨N, 3, none⟩ = some (.slice ta tn tc) := cell_at HR.out 3
  have qR4 : W3.cell? ⟨N, 4, none⟩ = some (.slice la ln lc) := cell_at HR.out 4
  have qR5 : W3.cell? ⟨N, 5, none⟩ = some (.slice sa sn sc) := cell_at HR.out 5
  have qR6 : W3.cell? ⟨N, 6, none⟩ = some (.slice da dn dc) := cell_at HR.out 6
  have qRl : N < W3.heap.size := HR.out.lt
  have qO0 : W3.cell? ⟨(N + 1), 0, none⟩ = some (.int .i64 0) := cell_at HO.out 0
  have qO1 : W3.cell? ⟨(N + 1), 1, none⟩ = some (.int .i64 0) := cell_at HO.out 1
  have qO2 : W3.cell? ⟨(N + 1), 2, none⟩ = some (.int .i64 0) := cell_at HO.out 2
  have qO3 : W3.cell? ⟨(N + 1), 3, none⟩ = some (.slice none 0 0) := cell_at HO.out 3
  have qO4 : W3.cell? ⟨(N + 1), 4, none⟩ = some (.slice none 0 0) := cell_at HO.out 4
  have qO5 : W3.cell? ⟨(N + 1), 5, none⟩ = some (.slice none 0 0) := cell_at HO.out 5
  have qO6 : W3.cell? ⟨(N + 1), 6, none⟩ = some (.slice none 0 0) := cell_at HO.out 6
  have qOz : ∀ j, W3.frozen? ⟨(N + 1), j, none⟩ = false := fun j => free_at HO.out j
  have qOl : (N + 1) < W3.heap.size := HO.out.lt
  go_wp2_with fail
  clear qR0 qR1 qR2 qR3 qR4 qR5 qR6 qRl qO0 qO1 qO2 qO3 qO4 qO5 qO6 qOz qOl
  obtain ⟨LS, hLS⟩ : ∃ L : List Value, L = [.int .i64 s.term, .int .i64 s.stamp, .int .i64 s.next, .slice ta tn tc, .slice la ln lc, .slice sa sn sc, .slice da dn dc] := ⟨_, rfl⟩
  obtain ⟨W4, hWS⟩ : ∃ WS, WS = W3.setCells (N + 1) 0 LS := ⟨_, rfl⟩
  have hch := hWS
  rw [hLS] at hch
  simp only [World.setCells, Nat.zero_add, Nat.reduceAdd] at hch
  rw [← hch]
  clear hch
  have hkS := stC_blk HO.out LS (by rw [hLS]; rfl)
  have hfS := stC_fr (N + 1) LS 0 W3
  rw [← hWS] at hkS hfS
  rw [hLS] at hkS
  replace HB:=zh (HB.out.trans (hfS.below HB.out.size (by have := HLON.out; simp; try omega)))
  replace HT:=zh (HT0.out.below HB.out)
  replace HL:=zh (HL0.out.below HB.out)
  replace HS:=zh (HS0.out.below HB.out)
  replace HD:=zh (HD0.out.below HB.out)
  replace HI:=zh (HI0.out.below HB.out)
  replace HR:=zh (show Blk W4 N #[.int .i64 s.term, .int .i64 s.stamp, .int .i64 s.next, .slice ta tn tc, .slice la ln lc, .slice sa sn sc, .slice da dn dc] 27 from (hfS.block _ HR.out.lt (by simp; try omega)).trans HR.out)
  replace HO:=zh (show Blk W4 (N + 1) #[.int .i64 s.term, .int .i64 s.stamp, .int .i64 s.next, .slice ta tn tc, .slice la ln lc, .slice sa sn sc, .slice da dn dc] 27 from hkS)
  clear hWS hLS hkS hfS
  have qO0 : W4.cell? ⟨(N + 1), 0, none⟩ = some (.int .i64 s.term) := cell_at HO.out 0
  have qO1 : W4.cell? ⟨(N + 1), 1, none⟩ = some (.int .i64 s.stamp) := cell_at HO.out 1
  have qO2 : W4.cell? ⟨(N + 1), 2, none⟩ = some (.int .i64 s.next) := cell_at HO.out 2
  have qO3 : W4.cell? ⟨(N + 1), 3, none⟩ = some (.slice ta tn tc) := cell_at HO.out 3
  have qO4 : W4.cell? ⟨(N + 1), 4, none⟩ = some (.slice la ln lc) := cell_at HO.out 4
  have qO5 : W4.cell? ⟨(N + 1), 5, none⟩ = some (.slice sa sn sc) := cell_at HO.out 5
  have qO6 : W4.cell? ⟨(N + 1), 6, none⟩ = some (.slice da dn dc) := cell_at HO.out 6
  have qOz : ∀ j, W4.frozen? ⟨(N + 1), j, none⟩ = false := fun j => free_at HO.out j
  have qOl : (N + 1) < W4.heap.size := HO.out.lt
  exact bodyPost_ret (v := .agg #[.int .i64 s.term, .int .i64 s.stamp, .int .i64 s.next, .slice ta tn tc, .slice la ln lc, .slice sa sn sc, .slice da dn dc]) (by simp [results, Try.results25, go_sem, qO0, qO1, qO2, qO3, qO4, qO5, qO6]) rfl ⟨_, rfl, (by rw [show R = s from HR9.out]; exact ⟨_, _, _, _, rfl, HT.out, HL.out, HS.out, HD.out⟩), HB.out⟩
 obtain rfl : R = sweptS ⟨s.term, s.stamp, s.next, s.ts, s.ls.filter fun y => !l.contains y.id, s.ss, s.ds⟩ := HR9.out
 have HZ9:=zh (HSZ.out (by first | rfl | trivial))
 have qR0 : W3.cell? ⟨N, 0, none⟩ = some (.int .i64 s.term) := cell_at HR.out 0
 have qR1 : W3.cell? ⟨N, 1, none⟩ = some (.int .i64 s.stamp) := cell_at HR.out 1
 have qR2 : W3.cell? ⟨N, 2, none⟩ = some (.int .i64 s.next) := cell_at HR.out 2
 have qR3 : W3.cell? ⟨N, 3, none⟩ = some (.slice ta tn tc) := cell_at HR.out 3
 have qR4 : W3.cell? ⟨N, 4, none⟩ = some (.slice la ln lc) := cell_at HR.out 4
 have qR5 : W3.cell? ⟨N, 5, none⟩ = some (.slice sa sn sc) := cell_at HR.out 5
 have qR6 : W3.cell? ⟨N, 6, none⟩ = some (.slice da dn dc) := cell_at HR.out 6
 have qRl : N < W3.heap.size := HR.out.lt
 have FOO := zh HO.out.lt
 have HB0L : Hid (w.heap.size ≤ W3.heap.size) := zh HB.out.size
 go_wp2_with fail
 go_at_call 40
 go_fit (HTW.out _ _ (HSV.out _ HT.out HL.out HS.out HD.out))
 rintro e W4 ⟨v2, rfl, hso, hB⟩
 clear qR0 qR1 qR2 qR3 qR4 qR5 qR6 qRl
 replace HB:=zh (HB.out.trans (hB.mono HB.out.size))
 replace HT:=zh (HT0.out.below HB.out)
 replace HL:=zh (HL0.out.below HB.out)
 replace HS:=zh (HS0.out.below HB.out)
 replace HD:=zh (HD0.out.below HB.out)
 replace HI:=zh (HI0.out.below HB.out)
 replace HR:=zh (HR.out.step hB)
 replace HO:=zh (HO.out.step hB)
 clear hB
 obtain ⟨vt2, vl2, vs2, vd2, ot, ol, os, od, rfl, o1, o2, o3, o4⟩ := hso
 obtain ⟨b1, m1, k1, rfl, Hb1, x1, y1⟩ := o1.v.sh
 obtain ⟨b2, m2, k2, rfl, Hb2, x2, y2⟩ := o2.v.sh
 obtain ⟨b3, m3, k3, rfl, Hb3, x3, y3⟩ := o3.v.sh
 obtain ⟨b4, m4, k4, rfl, Hb4, x4, y4⟩ := o4.v.sh
 have O1 := zh o1
 have FO1:=zh (show (N + 1) < W3.heap.size from FOO.out)
 have O2 := zh o2
 have FO2:=zh (show (N + 1) < W3.heap.size from FOO.out)
 have O3 := zh o3
 have FO3:=zh (show (N + 1) < W3.heap.size from FOO.out)
 have O4 := zh o4
 have FO4:=zh (show (N + 1) < W3.heap.size from FOO.out)
 clear o1 o2 o3 o4
 go_upto_region 4 with fail
 obtain ⟨U9, hU9⟩ : ∃ n0, n0 = W4.heap.size := ⟨_, rfl⟩
 have HXU9HR : Hid (N < U9):=zh (by rw [hU9]; exact HR.out.lt)
 have HXU9HO : Hid ((N + 1) < U9):=zh (by rw [hU9]; exact HO.out.lt)
 have HUU9O1 : Hid (∀ g, ot = some g → g < U9):=zh (fun g e => by rw [hU9]; first | (subst e; exact O1.out.1.lt) | (obtain rfl := Option.some.inj e; exact O1.out.1.lt))
 have HUU9O2 : Hid (∀ g, ol = some g → g < U9):=zh (fun g e => by rw [hU9]; first | (subst e; exact O2.out.1.lt) | (obtain rfl := Option.some.inj e; exact O2.out.1.lt))
 have HUU9O3 : Hid (∀ g, os = some g → g < U9):=zh (fun g e => by rw [hU9]; first | (subst e; exact O3.out.1.lt) | (obtain rfl := Option.some.inj e; exact O3.out.1.lt))
 have HUU9O4 : Hid (∀ g, od = some g → g < U9):=zh (fun g e => by rw [hU9]; first | (subst e; exact O4.out.1.lt) | (obtain rfl := Option.some.inj e; exact O4.out.1.lt))
 have HLOU9 : Hid (w.heap.size ≤ U9):=zh (by have := HB.out.size; omega)
 obtain ⟨W5, hA0⟩ : ∃ W0, W0 = W4.alloc (.cells #[.int .i64 s.term, .int .i64 s.stamp, .int .i64 s.next, .slice b1 m1 k1, .slice b2 m2 k2, .slice b3 m3 k3, .slice b4 m4 k4] 27) := ⟨_, rfl⟩
 have hB : Below W4.heap.size W4 W5 := by rw [hA0]; exact (Below.refl _ _).alloc (Nat.le_refl _) _
 have hS0 : W5.heap.size = U9 + 1 := by rw [hA0]; simp [← hU9]
 have HU:=zh (show Blk W5 U9 #[.int .i64 s.term, .int .i64 s.stamp, .int .i64 s.next, .slice b1 m1 k1, .slice b2 m2 k2, .slice b3 m3 k3, .slice b4 m4 k4] 27 by rw [hA0, hU9]; exact blk_new _ _ _)
 replace HB:=zh (HB.out.trans (hB.mono HB.out.size))
 replace HT:=zh (HT0.out.below HB.out)
 replace HL:=zh (HL0.out.below HB.out)
 replace HS:=zh (HS0.out.below HB.out)
 replace HD:=zh (HD0.out.below HB.out)
 replace HI:=zh (HI0.out.below HB.out)
 replace HR:=zh (HR.out.step hB)
 replace HO:=zh (HO.out.step hB)
 replace O1:=zh (O1.out.step hB)
 replace O2:=zh (O2.out.step hB)
 replace O3:=zh (O3.out.step hB)
 replace O4:=zh (O4.out.step hB)
 clear hB
 rw [← hU9, ← hA0]
 clear hA0 hU9 hS0
 have HL5 : Hid (LeV W5 (.slice b2 m2 k2) (F 0)):=zh (by rw [HF0.out]; exact O2.out.v)
 have HUL := zh HU.out.lt
 have qU0 : W5.cell? ⟨U9, 0, none⟩ = some (.int .i64 s.term) := cell_at HU.out 0
 have qU1 : W5.cell? ⟨U9, 1, none⟩ = some (.int .i64 s.stamp) := cell_at HU.out 1
 have qU2 : W5.cell? ⟨U9, 2, none⟩ = some (.int .i64 s.next) := cell_at HU.out 2
 have qU3 : W5.cell? ⟨U9, 3, none⟩ = some (.slice b1 m1 k1) := cell_at HU.out 3
 have qU4 : W5.cell? ⟨U9, 4, none⟩ = some (.slice b2 m2 k2) := cell_at HU.out 4
 have qU5 : W5.cell? ⟨U9, 5, none⟩ = some (.slice b3 m3 k3) := cell_at HU.out 5
 have qU6 : W5.cell? ⟨U9, 6, none⟩ = some (.slice b4 m4 k4) := cell_at HU.out 6
 have qUz : ∀ j, W5.frozen? ⟨U9, j, none⟩ = false := fun j => free_at HU.out j
 have qUl : U9 < W5.heap.size := HU.out.lt
 go_wp2_with fail
 clear qU0 qU1 qU2 qU3 qU4 qU5 qU6 qUz qUl
 go_loopw [6] (fun k wr => ∃ (i : Nat) (v5 : Value), i ≤ iN ∧ k = .int .i64 i ∧ LeV wr v5 (F i) ∧ Blk wr U9 #[.int .i64 s.term, .int .i64 s.stamp, .int .i64 s.next, .slice b1 m1 k1, v5, .slice b3 m3 k3, .slice b4 m4 k4] 27 ∧ FrB W5.heap.size [U9] W5 wr) (fun k _ => iN - (intOf k).toNat)
 case atStart => exact ⟨0, _, Nat.zero_le _, rfl, HL5.out, HU.out, FrB.refl _ _ _⟩
 case round =>
  obtain ⟨i, v5, hi, rfl, hl5, hu, hfrb⟩ := hrel
  obtain ⟨b5, m5, k5, rfl, Hb5, x5, y5⟩ := hl5.sh
  have HFRB := zh hfrb
  replace HB:=zh (HB.out.trans (hfrb.below HB.out.size (by have := HLOU9.out; simp; omega)))
  replace HI:=zh (HI0.out.below HB.out)
  replace HO:=zh (show Blk wr (N + 1) _ _ from (hfrb.block _ HO.out.lt (by have := HXU9HO.out; simp; omega)).trans HO.out)
  replace O1:=zh (O1.out.frUB hfrb HUU9O1.out)
  replace O3:=zh (O3.out.frUB hfrb HUU9O3.out)
  replace O4:=zh (O4.out.frUB hfrb HUU9O4.out)
  replace HU := zh hu
  replace HL5 := zh hl5
  have HBW : Hid (Below wr.heap.size wr wr):=zh (Below.refl _ _)
  clear hl5 hu hfrb
  replace HFRB : Hid (FrB W5.heap.size [U9] W5 wr) := HFRB
  by_cases hk : i < iN
  ·skip
   have b9 : (i < iN) = True := eq_true hk
   obtain ⟨g, o, n9, ea, g1, g2, c0, c1, c2⟩ := HI0.out.at i hk
   subst ea
   have ww5 : IntKind.i64.wrap ((i : Int) + 1) = (i : Int) + 1 := IntWalk.i64_in _ (by omega)
   have HFS2:=zh (HFS.out i n9 g2)
   have HCS:=zh (show ∀ X, Below w.heap.size w X → X.cell? ⟨g, o + i, none⟩ = some (.int .i64 n9) ∧ g < X.heap.size from fun X hX => ⟨(hX.cell (p := ⟨g, o + i, none⟩) g1).trans c0, Nat.lt_of_lt_of_le g1 hX.size⟩)
   clear g2 c0
   have qU0 : wr.cell? ⟨U9, 0, none⟩ = some (.int .i64 s.term) := cell_at HU.out 0
   have qU1 : wr.cell? ⟨U9, 1, none⟩ = some (.int .i64 s.stamp) := cell_at HU.out 1
   have qU2 : wr.cell? ⟨U9, 2, none⟩ = some (.int .i64 s.next) := cell_at HU.out 2
   have qU3 : wr.cell? ⟨U9, 3, none⟩ = some (.slice b1 m1 k1) := cell_at HU.out 3
   have qU4 : wr.cell? ⟨U9, 4, none⟩ = some (.slice b5 m5 k5) := cell_at HU.out 4
   have qU5 : wr.cell? ⟨U9, 5, none⟩ = some (.slice b3 m3 k3) := cell_at HU.out 5
   have qU6 : wr.cell? ⟨U9, 6, none⟩ = some (.slice b4 m4 k4) := cell_at HU.out 6
   have qUz : ∀ j, wr.frozen? ⟨U9, j, none⟩ = false := fun j => free_at HU.out j
   have qUl : U9 < wr.heap.size := HU.out.lt
   go_wp2_with fail
   have hBd : Below wr.heap.size wr wr.drew := (Below.refl _ _).drew
   have HWO:=zh (rwithout_any _ _ _ _ ⟨s.term, s.stamp, s.next, s.ts, F i, s.ss, s.ds⟩ n9 wr.drew (tn_tv (O1.out.step hBd).v) (HL5.out.below hBd) (O3.out.step hBd).v (O4.out.step hBd).v ⟨HFEW.out.1, HFL.out i, HFEW.out.2.2.1, HFEW.out.2.2.2⟩)
   clear hBd
   clear qU0 qU1 qU2 qU3 qU4 qU5 qU6 qUz qUl
   refine wp_region_held_drew (S := fun X => X.cell? ⟨g, o + i, none⟩ = some (.int .i64 n9) ∧ g < X.heap.size) (by kernel_rfl) (HCS.out _ (by first | exact HB.out | exact HB.out.drew)) (fun hHeld => ?_)
   ((refine wpAnyH_take (i := 1) (v := ?_) (by (simp only [List.getElem?_toArray, List.getElem?_cons_succ, List.getElem?_cons_zero]); rfl) (by kernel_rfl) (by kernel_rfl) (by kernel_rfl) (by exact fun _ _ _ h => h) (Or.inl ⟨by rfl, ?_⟩) (by assumption) ?_); rotate_left; focus (intro wS hSw; (try dsimp only at hSw); go_simp; first | done | with_reducible rfl); try simp only [Act.put, List.setIfInBounds_toArray, List.set_cons_zero, List.set_cons_succ])
   ((refine wpAnyH_take (i := 2) (v := ?_) (by (simp only [List.getElem?_toArray, List.getElem?_cons_succ, List.getElem?_cons_zero]); rfl) (by kernel_rfl) (by kernel_rfl) (by kernel_rfl) (by exact fun _ _ _ h => h) (Or.inl ⟨by rfl, ?_⟩) (by assumption) ?_); rotate_left; focus (intro wS hSw; (try dsimp only at hSw); go_simp; first | done | with_reducible rfl); try simp only [Act.put, List.setIfInBounds_toArray, List.set_cons_zero, List.set_cons_succ])
   ((refine wpAnyH_take (i := 3) (v := ?_) (by (simp only [List.getElem?_toArray, List.getElem?_cons_succ, List.getElem?_cons_zero]); rfl) (by kernel_rfl) (by kernel_rfl) (by kernel_rfl) (by exact fun _ _ _ h => h) (Or.inl ⟨by rfl, ?_⟩) (by assumption) ?_); rotate_left; focus (intro wS hSw; (try dsimp only at hSw); go_simp; first | done | with_reducible rfl); try simp only [Act.put, List.setIfInBounds_toArray, List.set_cons_zero, List.set_cons_succ])
   ((refine wpAnyH_take (i := 4) (v := ?_) (by (simp only [List.getElem?_toArray, List.getElem?_cons_succ, List.getElem?_cons_zero]); rfl) (by kernel_rfl) (by kernel_rfl) (by kernel_rfl) (by exact fun _ _ _ h => h) (Or.inl ⟨by rfl, ?_⟩) (by assumption) ?_); rotate_left; focus (intro wS hSw; (try dsimp only at hSw); go_simp; first | done | with_reducible rfl); try simp only [Act.put, List.setIfInBounds_toArray, List.set_cons_zero, List.set_cons_succ])
   refine wpAnyH_ready (rs := [0]) (by kernel_rfl) (by simp) ?_
   refine AllReadyH.cons (by (simp only [List.getElem?_toArray, List.getElem?_cons_succ, List.getElem?_cons_zero]); rfl) (fun K hK => ?_) AllReadyH.nil
   have qU0 : wr.cell? ⟨U9, 0, none⟩ = some (.int .i64 s.term) := cell_at HU.out 0
   have qU1 : wr.cell? ⟨U9, 1, none⟩ = some (.int .i64 s.stamp) := cell_at HU.out 1
   have qU2 : wr.cell? ⟨U9, 2, none⟩ = some (.int .i64 s.next) := cell_at HU.out 2
   have qU3 : wr.cell? ⟨U9, 3, none⟩ = some (.slice b1 m1 k1) := cell_at HU.out 3
   have qU4 : wr.cell? ⟨U9, 4, none⟩ = some (.slice b5 m5 k5) := cell_at HU.out 4
   have qU5 : wr.cell? ⟨U9, 5, none⟩ = some (.slice b3 m3 k3) := cell_at HU.out 5
   have qU6 : wr.cell? ⟨U9, 6, none⟩ = some (.slice b4 m4 k4) := cell_at HU.out 6
   have qUz : ∀ j, wr.frozen? ⟨U9, j, none⟩ = false := fun j => free_at HU.out j
   have qUl : U9 < wr.heap.size := HU.out.lt
   rw [if_pos (by rfl)]
   go_simp
   refine hK.out _ _ (HCS.out _ (by first | exact HB.out | exact HB.out.drew)) (fun hHeld => ?_)
   clear hK K
   clear qU0 qU1 qU2 qU3 qU4 qU5 qU6 qUz qUl
   try simp only [Act.put, List.setIfInBounds_toArray, List.set_cons_zero, List.set_cons_succ]
   refine wpAnyH_ready (rs := [5]) (by kernel_rfl) (by simp) ?_
   refine AllReadyH.cons (by (simp only [List.getElem?_toArray, List.getElem?_cons_succ, List.getElem?_cons_zero]); rfl) (fun K hK => ?_) AllReadyH.nil
   go_simp
   go_fit HWO.out
   rintro e W6 ⟨v6, rfl, hv6, hB⟩
   replace hB := below_undrew hB
   replace HB:=zh (HB.out.trans (hB.mono HB.out.size))
   replace HO:=zh (HO.out.step hB)
   replace O1:=zh (O1.out.step hB)
   replace O3:=zh (O3.out.step hB)
   replace O4:=zh (O4.out.step hB)
   replace HU:=zh (HU.out.step hB)
   replace HL5:=zh (HL5.out.below hB)
   replace HFRB:=zh (HFRB.out.trans (FrB.of_below hB HFRB.out.size))
   have HV6 := zh hv6
   go_wp2_with fail
   refine hK.out _ _ (HCS.out _ (by first | exact HB.out | exact HB.out.drew)) (fun hHeld => ?_)
   clear hK K hB hv6
   try simp only [Act.put, List.setIfInBounds_toArray, List.set_cons_zero, List.set_cons_succ]
   replace HV6:=zh (by have h := HV6.out; rw [show wo n9 (StE.ls ⟨s.term, s.stamp, s.next, s.ts, F i, s.ss, s.ds⟩) = F (i + 1) from HFS2.out.symm] at h; exact h)
   obtain ⟨b6, m6, k6, rfl, Hb6, x6, y6⟩ := HV6.out.sh
   refine wpAnyH_ready (rs := [6]) (by kernel_rfl) (by simp) ?_
   refine AllReadyH.cons (by (simp only [List.getElem?_toArray, List.getElem?_cons_succ, List.getElem?_cons_zero]); rfl) (fun K hK => ?_) AllReadyH.nil
   have qU0 : W6.cell? ⟨U9, 0, none⟩ = some (.int .i64 s.term) := cell_at HU.out 0
   have qU1 : W6.cell? ⟨U9, 1, none⟩ = some (.int .i64 s.stamp) := cell_at HU.out 1
   have qU2 : W6.cell? ⟨U9, 2, none⟩ = some (.int .i64 s.next) := cell_at HU.out 2
   have qU3 : W6.cell? ⟨U9, 3, none⟩ = some (.slice b1 m1 k1) := cell_at HU.out 3
   have qU4 : W6.cell? ⟨U9, 4, none⟩ = some (.slice b5 m5 k5) := cell_at HU.out 4
   have qU5 : W6.cell? ⟨U9, 5, none⟩ = some (.slice b3 m3 k3) := cell_at HU.out 5
   have qU6 : W6.cell? ⟨U9, 6, none⟩ = some (.slice b4 m4 k4) := cell_at HU.out 6
   have qUz : ∀ j, W6.frozen? ⟨U9, j, none⟩ = false := fun j => free_at HU.out j
   have qUl : U9 < W6.heap.size := HU.out.lt
   rw [if_pos (by rfl)]
   go_simp
   clear qU0 qU1 qU2 qU3 qU4 qU5 qU6 qUz qUl
   obtain ⟨LS, hLS⟩ : ∃ L : List Value, L = [.int .i64 s.term, .int .i64 s.stamp, .int .i64 s.next, .slice b1 m1 k1, .slice b6 m6 k6, .slice b3 m3 k3, .slice b4 m4 k4] := ⟨_, rfl⟩
   obtain ⟨W7, hWS⟩ : ∃ WS, WS = W6.setCells U9 0 LS := ⟨_, rfl⟩
   have hch := hWS
   rw [hLS] at hch
   simp only [World.setCells, Nat.zero_add, Nat.reduceAdd] at hch
   rw [← hch]
   clear hch
   have hkS := stC_blk HU.out LS (by rw [hLS]; rfl)
   have hfS := stC_fr U9 LS 0 W6
   rw [← hWS] at hkS hfS
   rw [hLS] at hkS
   replace HB:=zh (HB.out.trans (hfS.below HB.out.size (by have := HLOU9.out; simp; try omega)))
   replace HO:=zh (show Blk W7 (N + 1) #[.int .i64 0, .int .i64 0, .int .i64 0, .slice none 0 0, .slice none 0 0, .slice none 0 0, .slice none 0 0] 27 from (hfS.block _ HO.out.lt (by have hx0 := HXU9HR.out; have hx1 := HXU9HO.out; simp; try omega)).trans HO.out)
   replace O1:=zh (O1.out.frU hfS HUU9O1.out)
   replace O3:=zh (O3.out.frU hfS HUU9O3.out)
   replace O4:=zh (O4.out.frU hfS HUU9O4.out)
   replace HFRB:=zh (HFRB.out.trans (FrB.of_fr hfS HFRB.out.size))
   replace HV6:=zh (HV6.out.fr HU.out hfS)
   replace HU:=zh (show Blk W7 U9 #[.int .i64 s.term, .int .i64 s.stamp, .int .i64 s.next, .slice b1 m1 k1, .slice b6 m6 k6, .slice b3 m3 k3, .slice b4 m4 k4] 27 from hkS)
   clear hWS hLS hkS hfS
   refine hK.out _ _ (HCS.out _ (by first | exact HB.out | exact HB.out.drew)) (fun hHeld => ?_)
   clear hK K
   refine wpAnyH_done (by kernel_rfl) ?_ _
   try simp only [Act.put, List.setIfInBounds_toArray, List.set_cons_zero, List.set_cons_succ]
   go_wp2_with fail
   go_roundw
   case rel => exact ⟨i + 1, _, by omega, by go_num, HV6.out, HU.out, HFRB.out⟩
   case measure => first | (simp [intOf]; done) | (simp [intOf]; omega)
  ·skip
   have b9 : (i < iN) = False := eq_false hk
   obtain rfl : iN = i := by omega
   have HL6 : Hid (LeV wr (.slice b5 m5 k5) (s.ls.filter fun y => !l.contains y.id)):=zh (by rw [← HFE.out]; exact HL5.out)
   have HFWF : Hid (fewS ⟨s.term, s.stamp, s.next, s.ts, s.ls.filter fun y => !l.contains y.id, s.ss, s.ds⟩) := zh ⟨HFEW.out.1, Nat.le_trans (List.length_filter_le _ _) HFEW.out.2.1, HFEW.out.2.2.1, HFEW.out.2.2.2⟩
   have qU0 : wr.cell? ⟨U9, 0, none⟩ = some (.int .i64 s.term) := cell_at HU.out 0
   have qU1 : wr.cell? ⟨U9, 1, none⟩ = some (.int .i64 s.stamp) := cell_at HU.out 1
   have qU2 : wr.cell? ⟨U9, 2, none⟩ = some (.int .i64 s.next) := cell_at HU.out 2
   have qU3 : wr.cell? ⟨U9, 3, none⟩ = some (.slice b1 m1 k1) := cell_at HU.out 3
   have qU4 : wr.cell? ⟨U9, 4, none⟩ = some (.slice b5 m5 k5) := cell_at HU.out 4
   have qU5 : wr.cell? ⟨U9, 5, none⟩ = some (.slice b3 m3 k3) := cell_at HU.out 5
   have qU6 : wr.cell? ⟨U9, 6, none⟩ = some (.slice b4 m4 k4) := cell_at HU.out 6
   have qUz : ∀ j, wr.frozen? ⟨U9, j, none⟩ = false := fun j => free_at HU.out j
   have qUl : U9 < wr.heap.size := HU.out.lt
   have HSP:=zh (rswept_any _ _ _ _ (⟨s.term, s.stamp, s.next, s.ts, s.ls.filter fun y => !l.contains y.id, s.ss, s.ds⟩) wr (tn_tv O1.out.v) HL6.out O3.out.v O4.out.v HFWF.out (sizeB_filter _ HZ9.out))
   go_wp2_with fail
   go_at_call 42
   go_fit HSP.out
   rintro e W6 ⟨vq, rfl, hvq, hB⟩
   clear qU0 qU1 qU2 qU3 qU4 qU5 qU6 qUz qUl
   replace HB:=zh (HB.out.trans (hB.mono HB.out.size))
   replace HO:=zh (HO.out.step hB)
   replace O1:=zh (O1.out.step hB)
   replace O3:=zh (O3.out.step hB)
   replace O4:=zh (O4.out.step hB)
   replace HU:=zh (HU.out.step hB)
   replace HL6:=zh (HL6.out.below hB)
   clear hB
   obtain ⟨b8, m8, k8, rfl, Hb8, x8, y8⟩ := hvq.sh
   have HQ := zh hvq
   clear hvq HSP
   have qO0 : W6.cell? ⟨(N + 1), 0, none⟩ = some (.int .i64 0) := cell_at HO.out 0
   have qO1 : W6.cell? ⟨(N + 1), 1, none⟩ = some (.int .i64 0) := cell_at HO.out 1
   have qO2 : W6.cell? ⟨(N + 1), 2, none⟩ = some (.int .i64 0) := cell_at HO.out 2
   have qO3 : W6.cell? ⟨(N + 1), 3, none⟩ = some (.slice none 0 0) := cell_at HO.out 3
   have qO4 : W6.cell? ⟨(N + 1), 4, none⟩ = some (.slice none 0 0) := cell_at HO.out 4
   have qO5 : W6.cell? ⟨(N + 1), 5, none⟩ = some (.slice none 0 0) := cell_at HO.out 5
   have qO6 : W6.cell? ⟨(N + 1), 6, none⟩ = some (.slice none 0 0) := cell_at HO.out 6
   have qOz : ∀ j, W6.frozen? ⟨(N + 1), j, none⟩ = false := fun j => free_at HO.out j
   have qOl : (N + 1) < W6.heap.size := HO.out.lt
   go_wp2_with fail
   clear qO0 qO1 qO2 qO3 qO4 qO5 qO6 qOz qOl
   obtain ⟨LS, hLS⟩ : ∃ L : List Value, L = [.int .i64 s.term, .int .i64 s.stamp, .int .i64 s.next, .slice b8 m8 k8, .slice b5 m5 k5, .slice b3 m3 k3, .slice b4 m4 k4] := ⟨_, rfl⟩
   obtain ⟨W7, hWS⟩ : ∃ WS, WS = W6.setCells (N + 1) 0 LS := ⟨_, rfl⟩
   have hch := hWS
   rw [hLS] at hch
   simp only [World.setCells, Nat.zero_add, Nat.reduceAdd] at hch
   rw [← hch]
   clear hch
   have hkS := stC_blk HO.out LS (by rw [hLS]; rfl)
   have hfS := stC_fr (N + 1) LS 0 W6
   rw [← hWS] at hkS hfS
   rw [hLS] at hkS
   replace HB:=zh (HB.out.trans (hfS.below HB.out.size (by have := HLON.out; simp; try omega)))
   replace O3:=zh (O3.out.fr hfS (by have := FO3.out; omega))
   replace O4:=zh (O4.out.fr hfS (by have := FO4.out; omega))
   replace HL6:=zh (HL6.out.fr HO.out hfS)
   replace HQ:=zh (HQ.out.fr HO.out hfS)
   replace HO:=zh (show Blk W7 (N + 1) #[.int .i64 s.term, .int .i64 s.stamp, .int .i64 s.next, .slice b8 m8 k8, .slice b5 m5 k5, .slice b3 m3 k3, .slice b4 m4 k4] 27 from hkS)
   clear hWS hLS hkS hfS
   have qO0 : W7.cell? ⟨(N + 1), 0, none⟩ = some (.int .i64 s.term) := cell_at HO.out 0
   have qO1 : W7.cell? ⟨(N + 1), 1, none⟩ = some (.int .i64 s.stamp) := cell_at HO.out 1
   have qO2 : W7.cell? ⟨(N + 1), 2, none⟩ = some (.int .i64 s.next) := cell_at HO.out 2
   have qO3 : W7.cell? ⟨(N + 1), 3, none⟩ = some (.slice b8 m8 k8) := cell_at HO.out 3
   have qO4 : W7.cell? ⟨(N + 1), 4, none⟩ = some (.slice b5 m5 k5) := cell_at HO.out 4
   have qO5 : W7.cell? ⟨(N + 1), 5, none⟩ = some (.slice b3 m3 k3) := cell_at HO.out 5
   have qO6 : W7.cell? ⟨(N + 1), 6, none⟩ = some (.slice b4 m4 k4) := cell_at HO.out 6
   have qOz : ∀ j, W7.frozen? ⟨(N + 1), j, none⟩ = false := fun j => free_at HO.out j
   have qOl : (N + 1) < W7.heap.size := HO.out.lt
   exact bodyPost_ret (v := .agg #[.int .i64 s.term, .int .i64 s.stamp, .int .i64 s.next, .slice b8 m8 k8, .slice b5 m5 k5, .slice b3 m3 k3, .slice b4 m4 k4]) (by simp [results, Try.results25, go_sem, qO0, qO1, qO2, qO3, qO4, qO5, qO6]) rfl ⟨_, rfl, ⟨_, _, _, _, rfl, HQ.out, HL6.out, O3.out.v, O4.out.v⟩, HB.out⟩
end Go.Proofs.Ytfgnjpdlchimpaa
