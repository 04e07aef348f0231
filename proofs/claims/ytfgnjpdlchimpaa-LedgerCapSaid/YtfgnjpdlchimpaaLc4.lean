/-
  Texts of this claim, put together: LgQ, LgI, LgR, LgX, LgD, LgH, LgW, LgS2, LgS3, Poo2.
-/
import Derived.Test.YtfgnjpdlchimpaaLc1
import Derived.Test.YtfgnjpdlchimpaaLc2
import Derived.Test.YtfgnjpdlchimpaaLc3
import Derived.Deep.DeepFit
import Derived.Lib.AppendZeros
import Derived.Defers
import Derived.Deep.RegionLaw
namespace Go.Proofs.Ytfgnjpdlchimpaa
open Go.RowKit
set_option linter.unusedSimpArgs false
set_option linter.unusedVariables false

theorem lesB_size {s : StE} (h : lesB s = true) : sizeB s.ls := by
  unfold lesB at h
  have h1 : lesR s.ts s.next 0 s.ls = true := by
    cases hq : lesR s.ts s.next 0 s.ls
    · rw [hq] at h; simp at h
    · rfl
  exact lesR_size _ _ _ _ h1
set_option maxRecDepth 100000 in
set_option maxHeartbeats 16000000 in
theorem checkS_any (v : Value) (s : StE) (w : World) (h : SV w v s) (hf : fewS s) :
    Calls Try.prog 16 #[v] w fun e w' => e = .returned (.bool (chkS s)) ∧ Below w.heap.size w w' := by
  have HFEW := Lib.hid hf
  obtain ⟨f1, f2, f3, f4⟩ := hf
  obtain ⟨vt, vl, vs, vd, rfl, ht, hl, hs, hd⟩ := h
  obtain ⟨ta, tn, tc, rfl, Htn, tn1, tn2⟩ := ht.sh
  obtain ⟨la, ln, lc, rfl, Hln, ln1, ln2⟩ := hl.sh
  obtain ⟨sa, sn, sc, rfl, Hsn, sn1, sn2⟩ := hs.sh
  obtain ⟨da, dn, dc, rfl, Hdn, dn1, dn2⟩ := hd.sh
  have HT0 := Lib.hid ht
  have HL0 := Lib.hid hl
  have HS0 := Lib.hid hs
  have HD0 := Lib.hid hd
  have HT := Lib.hid ht
  have HL := Lib.hid hl
  have HS := Lib.hid hs
  have HD := Lib.hid hd
  clear ht hl hs hd
  rw [← Hln.out] at f2
  rw [← Htn.out] at f1
  have HSV : Hid (∀ W, TV W (.slice ta tn tc) s.ts → LeV W (.slice la ln lc) s.ls → SeV W (.slice sa sn sc) s.ss → DkV W (.slice da dn dc) s.ds → SV W (.agg #[.int .i64 s.term, .int .i64 s.stamp, .int .i64 s.next, .slice ta tn tc, .slice la ln lc, .slice sa sn sc, .slice da dn dc]) s) := Lib.hid (fun W h1 h2 h3 h4 => ⟨_, _, _, _, rfl, h1, h2, h3, h4⟩)
  have HPC := Lib.hid (fun W (h : TV W (.slice ta tn tc) s.ts) => pcheck_any _ s.ts W h)
  have HML := Lib.hid (fun W v x (h : SV W v s) => may_lease v s x W h HFEW.out)
  have zl : ∀ u, (zeroValue 3).run Try.prog u = .ok (.int .i64 0) u := fun u => by kernel_rfl
  have HKW := Lib.hid (fun (X : World) (b : Nat) (G : Int → Int) (x : Int) (h : MapT X b (fun c : Int => Value.agg #[.int .i64 c]) G) => h.look key_whose Try.underlying63 (zl X) x)
  clear zl
  obtain ⟨R, hR⟩ : ∃ R, R = chkS s := ⟨_, rfl⟩
  rw [← hR]
  obtain ⟨CT, hCT⟩ : ∃ CT, CT = chk s.ts := ⟨_, rfl⟩
  rw [← hCT] at HPC
  have HBT := Lib.hid (fun h : CT = true => chkF_bd s.ts 0 (by rw [← h, hCT]; rfl))
  unfold chkS at hR
  rw [← hCT] at hR
  have HR9 := Lib.hid hR
  have HLB : Hid (lesB s = (lesR s.ts s.next 0 s.ls && decide (ln ≤ 64) && decide (1 ≤ s.next) && decide (s.next ≤ 1099511627776))) := Lib.hid (by unfold lesB; rw [Hln.out])
  obtain ⟨LR, hLR⟩ : ∃ LR : Int → Nat → Bool, LR = fun last k => lesR s.ts s.next last (s.ls.drop k) := ⟨_, rfl⟩
  have hr0 : lesR s.ts s.next 0 s.ls = LR 0 0 := by rw [hLR]; simp only [List.drop_zero]
  rw [hr0] at HLB
  have HRD2 : Hid (∀ k x last, s.ls[k]? = some x → LR last k = (decide (last < x.id) && decide (x.id < s.next) && leMay s.ts x && LR x.id (k + 1))) := Lib.hid (fun k x last h => by rw [hLR]; exact lesR_drop s.ts s.next last h)
  have HEND : Hid (∀ last, LR last ln = true) := Lib.hid (fun last => by rw [hLR, Hln.out]; simp only [List.drop_length]; rfl)
  obtain ⟨CB, hCB⟩ : ∃ CB : Nat → Bool, CB = fun k => capB s.ls (s.ts.drop k) := ⟨_, rfl⟩
  have h0 : capB s.ls s.ts = CB 0 := by rw [hCB]; simp only [List.drop_zero]
  rw [h0] at HR9
  have HCB : Hid (∀ k x, s.ts[k]? = some x → CB k = (!capT s.ls x && CB (k + 1))) := Lib.hid (fun k x h => by rw [hCB]; exact cap_drop s.ls h)
  have HCE : Hid (CB tn = true) := Lib.hid (by rw [hCB, Htn.out]; simp only [List.drop_length]; rfl)
  clear hR hCT hLR hr0 hCB h0
  have HB : Hid (Below w.heap.size w w) := Lib.hid (Below.refl _ _)
  go_enter Try.func16, Try.ntmps16
  go_upto_region 1 with fail
  obtain ⟨N, hN⟩ : ∃ n0, n0 = w.heap.size := ⟨_, rfl⟩
  have HLON : Hid (w.heap.size ≤ N) := Lib.hid (by have := HB.out.size; omega)
  obtain ⟨W1, hA0⟩ : ∃ W0, W0 = w.alloc (.cells #[.int .i64 s.term, .int .i64 s.stamp, .int .i64 s.next, .slice ta tn tc, .slice la ln lc, .slice sa sn sc, .slice da dn dc] 27) := ⟨_, rfl⟩
  have hB : Below w.heap.size w W1 := by rw [hA0]; exact (Below.refl _ _).alloc (Nat.le_refl _) _
  have hS0 : W1.heap.size = N + 1 := by rw [hA0]; simp [← hN]
  have HR := Lib.hid (show Blk W1 N #[.int .i64 s.term, .int .i64 s.stamp, .int .i64 s.next, .slice ta tn tc, .slice la ln lc, .slice sa sn sc, .slice da dn dc] 27 by rw [hA0, hN]; exact blk_new _ _ _)
  replace HB := Lib.hid (HB.out.trans (hB.mono HB.out.size))
  replace HT := Lib.hid (HT0.out.below HB.out)
  replace HL := Lib.hid (HL0.out.below HB.out)
  replace HS := Lib.hid (HS0.out.below HB.out)
  replace HD := Lib.hid (HD0.out.below HB.out)
  clear hB
  have HSN := Lib.hid hS0
  rw [← hN, ← hA0]
  clear hA0 hN hS0
  have qR0 : W1.cell? ⟨N, 0, none⟩ = some (.int .i64 s.term) := cell_at HR.out 0
  have qR1 : W1.cell? ⟨N, 1, none⟩ = some (.int .i64 s.stamp) := cell_at HR.out 1
  have qR2 : W1.cell? ⟨N, 2, none⟩ = some (.int .i64 s.next) := cell_at HR.out 2
  have qR3 : W1.cell? ⟨N, 3, none⟩ = some (.slice ta tn tc) := cell_at HR.out 3
  have qR4 : W1.cell? ⟨N, 4, none⟩ = some (.slice la ln lc) := cell_at HR.out 4
  have qR5 : W1.cell? ⟨N, 5, none⟩ = some (.slice sa sn sc) := cell_at HR.out 5
  have qR6 : W1.cell? ⟨N, 6, none⟩ = some (.slice da dn dc) := cell_at HR.out 6
  have qRz : ∀ j, W1.frozen? ⟨N, j, none⟩ = false := fun j => free_at HR.out j
  have qRl : N < W1.heap.size := HR.out.lt
  go_wp2_with fail
  go_at_call 33
  go_fit (HPC.out _ HT.out)
  rintro e W2 ⟨rfl, hB⟩
  clear qR0 qR1 qR2 qR3 qR4 qR5 qR6 qRz qRl
  replace HB := Lib.hid (HB.out.trans (hB.mono HB.out.size))
  replace HT := Lib.hid (HT0.out.below HB.out)
  replace HL := Lib.hid (HL0.out.below HB.out)
  replace HS := Lib.hid (HS0.out.below HB.out)
  replace HD := Lib.hid (HD0.out.below HB.out)
  replace HR := Lib.hid (HR.out.step hB)
  clear hB
  cases CT
  · skip
    have hR : R = false := by rw [HR9.out]; rfl
    subst hR
    have qR0 : W2.cell? ⟨N, 0, none⟩ = some (.int .i64 s.term) := cell_at HR.out 0
    have qR1 : W2.cell? ⟨N, 1, none⟩ = some (.int .i64 s.stamp) := cell_at HR.out 1
    have qR2 : W2.cell? ⟨N, 2, none⟩ = some (.int .i64 s.next) := cell_at HR.out 2
    have qR3 : W2.cell? ⟨N, 3, none⟩ = some (.slice ta tn tc) := cell_at HR.out 3
    have qR4 : W2.cell? ⟨N, 4, none⟩ = some (.slice la ln lc) := cell_at HR.out 4
    have qR5 : W2.cell? ⟨N, 5, none⟩ = some (.slice sa sn sc) := cell_at HR.out 5
    have qR6 : W2.cell? ⟨N, 6, none⟩ = some (.slice da dn dc) := cell_at HR.out 6
    have qRz : ∀ j, W2.frozen? ⟨N, j, none⟩ = false := fun j => free_at HR.out j
    have qRl : N < W2.heap.size := HR.out.lt
    go_wp2_with fail
    go_ret
    exact ⟨rfl, HB.out⟩
  replace HBT := Lib.hid (HBT.out rfl)
  by_cases ha : s.next < 1
  · skip
    have tta : decide (s.next < 1) = true := decide_eq_true ha
    have hlb : lesB s = false := by
      rw [HLB.out]
      refine Bool.eq_false_iff.2 fun h => ?_
      simp only [Bool.and_eq_true, decide_eq_true_eq] at h
      omega
    have hR : R = false := by rw [HR9.out, hlb]; rfl
    subst hR
    clear hlb
    have qR0 : W2.cell? ⟨N, 0, none⟩ = some (.int .i64 s.term) := cell_at HR.out 0
    have qR1 : W2.cell? ⟨N, 1, none⟩ = some (.int .i64 s.stamp) := cell_at HR.out 1
    have qR2 : W2.cell? ⟨N, 2, none⟩ = some (.int .i64 s.next) := cell_at HR.out 2
    have qR3 : W2.cell? ⟨N, 3, none⟩ = some (.slice ta tn tc) := cell_at HR.out 3
    have qR4 : W2.cell? ⟨N, 4, none⟩ = some (.slice la ln lc) := cell_at HR.out 4
    have qR5 : W2.cell? ⟨N, 5, none⟩ = some (.slice sa sn sc) := cell_at HR.out 5
    have qR6 : W2.cell? ⟨N, 6, none⟩ = some (.slice da dn dc) := cell_at HR.out 6
    have qRz : ∀ j, W2.frozen? ⟨N, j, none⟩ = false := fun j => free_at HR.out j
    have qRl : N < W2.heap.size := HR.out.lt
    go_wp2_with fail
    go_ret
    exact ⟨rfl, HB.out⟩
  have tta : decide (s.next < 1) = false := decide_eq_false ha
  by_cases hb : 1099511627776 < s.next
  · skip
    have ttb : decide (1099511627776 < s.next) = true := decide_eq_true hb
    have hlb : lesB s = false := by
      rw [HLB.out]
      refine Bool.eq_false_iff.2 fun h => ?_
      simp only [Bool.and_eq_true, decide_eq_true_eq] at h
      omega
    have hR : R = false := by rw [HR9.out, hlb]; rfl
    subst hR
    clear hlb
    have qR0 : W2.cell? ⟨N, 0, none⟩ = some (.int .i64 s.term) := cell_at HR.out 0
    have qR1 : W2.cell? ⟨N, 1, none⟩ = some (.int .i64 s.stamp) := cell_at HR.out 1
    have qR2 : W2.cell? ⟨N, 2, none⟩ = some (.int .i64 s.next) := cell_at HR.out 2
    have qR3 : W2.cell? ⟨N, 3, none⟩ = some (.slice ta tn tc) := cell_at HR.out 3
    have qR4 : W2.cell? ⟨N, 4, none⟩ = some (.slice la ln lc) := cell_at HR.out 4
    have qR5 : W2.cell? ⟨N, 5, none⟩ = some (.slice sa sn sc) := cell_at HR.out 5
    have qR6 : W2.cell? ⟨N, 6, none⟩ = some (.slice da dn dc) := cell_at HR.out 6
    have qRz : ∀ j, W2.frozen? ⟨N, j, none⟩ = false := fun j => free_at HR.out j
    have qRl : N < W2.heap.size := HR.out.lt
    go_wp2_with fail
    go_ret
    exact ⟨rfl, HB.out⟩
  have ttb : decide (1099511627776 < s.next) = false := decide_eq_false hb
  by_cases hc : 64 < ln
  · skip
    have tc9 : decide ((64 : Int) < (ln : Int)) = true := decide_eq_true (by omega)
    have hlb : lesB s = false := by
      rw [HLB.out]
      refine Bool.eq_false_iff.2 fun h => ?_
      simp only [Bool.and_eq_true, decide_eq_true_eq] at h
      omega
    have hR : R = false := by rw [HR9.out, hlb]; rfl
    subst hR
    clear hlb
    have qR0 : W2.cell? ⟨N, 0, none⟩ = some (.int .i64 s.term) := cell_at HR.out 0
    have qR1 : W2.cell? ⟨N, 1, none⟩ = some (.int .i64 s.stamp) := cell_at HR.out 1
    have qR2 : W2.cell? ⟨N, 2, none⟩ = some (.int .i64 s.next) := cell_at HR.out 2
    have qR3 : W2.cell? ⟨N, 3, none⟩ = some (.slice ta tn tc) := cell_at HR.out 3
    have qR4 : W2.cell? ⟨N, 4, none⟩ = some (.slice la ln lc) := cell_at HR.out 4
    have qR5 : W2.cell? ⟨N, 5, none⟩ = some (.slice sa sn sc) := cell_at HR.out 5
    have qR6 : W2.cell? ⟨N, 6, none⟩ = some (.slice da dn dc) := cell_at HR.out 6
    have qRz : ∀ j, W2.frozen? ⟨N, j, none⟩ = false := fun j => free_at HR.out j
    have qRl : N < W2.heap.size := HR.out.lt
    go_wp2_with fail
    go_ret
    exact ⟨rfl, HB.out⟩
  have tc9 : decide ((64 : Int) < (ln : Int)) = false := decide_eq_false (by omega)
  have HLB2 : Hid (lesB s = LR 0 0) := Lib.hid (by
    rw [HLB.out]
    have e1 : decide (ln ≤ 64) = true := decide_eq_true (by omega)
    have e2 : decide (1 ≤ s.next) = true := decide_eq_true (by omega)
    have e3 : decide (s.next ≤ 1099511627776) = true := decide_eq_true (by omega)
    rw [e1, e2, e3]
    simp)
  clear HLB
  have qR0 : W2.cell? ⟨N, 0, none⟩ = some (.int .i64 s.term) := cell_at HR.out 0
  have qR1 : W2.cell? ⟨N, 1, none⟩ = some (.int .i64 s.stamp) := cell_at HR.out 1
  have qR2 : W2.cell? ⟨N, 2, none⟩ = some (.int .i64 s.next) := cell_at HR.out 2
  have qR3 : W2.cell? ⟨N, 3, none⟩ = some (.slice ta tn tc) := cell_at HR.out 3
  have qR4 : W2.cell? ⟨N, 4, none⟩ = some (.slice la ln lc) := cell_at HR.out 4
  have qR5 : W2.cell? ⟨N, 5, none⟩ = some (.slice sa sn sc) := cell_at HR.out 5
  have qR6 : W2.cell? ⟨N, 6, none⟩ = some (.slice da dn dc) := cell_at HR.out 6
  have qRz : ∀ j, W2.frozen? ⟨N, j, none⟩ = false := fun j => free_at HR.out j
  have qRl : N < W2.heap.size := HR.out.lt
  go_wp2_with fail
  clear qR0 qR1 qR2 qR3 qR4 qR5 qR6 qRz qRl
  go_loopw [3, 5, 32] (fun l _ k wr => ∃ (i : Nat) (la0 : Int), i ≤ ln ∧ k = .int .i64 i ∧ l = .int .i64 la0 ∧ LR 0 0 = LR la0 i ∧ Below W2.heap.size W2 wr) (fun _ _ k _ => ln - (intOf k).toNat)
  case atStart => exact ⟨0, 0, Nat.zero_le _, rfl, rfl, rfl, Below.refl _ _⟩
  case round =>
    obtain ⟨i, la0, hi, rfl, rfl, hlr, hB⟩ := hrel
    have HBC := Lib.hid hB
    have HLR := Lib.hid hlr
    clear hlr
    replace HB := Lib.hid (HB.out.trans (hB.mono HB.out.size))
    replace HT := Lib.hid (HT0.out.below HB.out)
    replace HL := Lib.hid (HL0.out.below HB.out)
    replace HS := Lib.hid (HS0.out.below HB.out)
    replace HD := Lib.hid (HD0.out.below HB.out)
    replace HR := Lib.hid (HR.out.step hB)
    clear hB
    by_cases hk : i < ln
    · skip
      have b9 : (i < ln) = True := eq_true hk
      obtain ⟨g, o, x, ea, g1, g2, q0, q1, q2, q3, q4, q5, q6⟩ := HL.out.at i hk
      subst ea
      have hst := HRD2.out i x la0 g2
      have HSTEP : Hid (LR 0 0 = (decide (la0 < x.id) && decide (x.id < s.next) && leMay s.ts x && LR x.id (i + 1))) := Lib.hid (HLR.out.trans hst)
      have HMX := Lib.hid (fun W v (h : SV W v s) => HML.out W v x h)
      obtain ⟨mb, hmb⟩ : ∃ mb, mb = leMay s.ts x := ⟨_, rfl⟩
      rw [← hmb] at HSTEP HMX
      have ww5 : IntKind.i64.wrap ((i : Int) + 1) = (i : Int) + 1 := IntWalk.i64_in _ (by omega)
      clear hst g2 hmb
      have qR0 : wr.cell? ⟨N, 0, none⟩ = some (.int .i64 s.term) := cell_at HR.out 0
      have qR1 : wr.cell? ⟨N, 1, none⟩ = some (.int .i64 s.stamp) := cell_at HR.out 1
      have qR2 : wr.cell? ⟨N, 2, none⟩ = some (.int .i64 s.next) := cell_at HR.out 2
      have qR3 : wr.cell? ⟨N, 3, none⟩ = some (.slice ta tn tc) := cell_at HR.out 3
      have qR4 : wr.cell? ⟨N, 4, none⟩ = some (.slice (some ⟨g, o, none⟩) ln lc) := cell_at HR.out 4
      have qR5 : wr.cell? ⟨N, 5, none⟩ = some (.slice sa sn sc) := cell_at HR.out 5
      have qR6 : wr.cell? ⟨N, 6, none⟩ = some (.slice da dn dc) := cell_at HR.out 6
      have qRz : ∀ j, wr.frozen? ⟨N, j, none⟩ = false := fun j => free_at HR.out j
      have qRl : N < wr.heap.size := HR.out.lt
      go_upto_region 7 with fail
      clear qR0 qR1 qR2 qR3 qR4 qR5 qR6 qRz qRl
      obtain ⟨E9, hE9⟩ : ∃ n0, n0 = wr.heap.size := ⟨_, rfl⟩
      have HXE9HR : Hid (N < E9) := Lib.hid (by rw [hE9]; exact HR.out.lt)
      have HLOE9 : Hid (w.heap.size ≤ E9) := Lib.hid (by have := HB.out.size; omega)
      obtain ⟨W3, hA0⟩ : ∃ W0, W0 = wr.alloc (.cells #[.int .i64 x.id, .int .i64 x.tenant, .int .i64 x.shaper, .int .i64 x.epoch, .int .i64 x.number, .int .i64 x.size, .int .i64 x.spent] 31) := ⟨_, rfl⟩
      have hB : Below wr.heap.size wr W3 := by rw [hA0]; exact (Below.refl _ _).alloc (Nat.le_refl _) _
      have hS0 : W3.heap.size = E9 + 1 := by rw [hA0]; simp [← hE9]
      have HE := Lib.hid (show Blk W3 E9 #[.int .i64 x.id, .int .i64 x.tenant, .int .i64 x.shaper, .int .i64 x.epoch, .int .i64 x.number, .int .i64 x.size, .int .i64 x.spent] 31 by rw [hA0, hE9]; exact blk_new _ _ _)
      replace HB := Lib.hid (HB.out.trans (hB.mono HB.out.size))
      replace HT := Lib.hid (HT0.out.below HB.out)
      replace HL := Lib.hid (HL0.out.below HB.out)
      replace HS := Lib.hid (HS0.out.below HB.out)
      replace HD := Lib.hid (HD0.out.below HB.out)
      replace HR := Lib.hid (HR.out.step hB)
      replace HBC := Lib.hid (HBC.out.trans (hB.mono HBC.out.size))
      clear hB
      have HSE9 := Lib.hid hS0
      rw [← hE9, ← hA0]
      clear hA0 hE9 hS0
      clear q0 q1 q2 q3 q4 q5 q6
      by_cases hd : x.id ≤ la0
      · skip
        have ttd : decide (x.id ≤ la0) = true := decide_eq_true hd
        have hno : LR 0 0 = false := by
          rw [HSTEP.out]
          refine Bool.eq_false_iff.2 fun h => ?_
          simp only [Bool.and_eq_true, decide_eq_true_eq] at h
          first | omega | (exact absurd h.1.2 (by decide))
        have hR : R = false := by rw [HR9.out, HLB2.out, hno]; rfl
        subst hR
        clear hno
        have qR0 : W3.cell? ⟨N, 0, none⟩ = some (.int .i64 s.term) := cell_at HR.out 0
        have qR1 : W3.cell? ⟨N, 1, none⟩ = some (.int .i64 s.stamp) := cell_at HR.out 1
        have qR2 : W3.cell? ⟨N, 2, none⟩ = some (.int .i64 s.next) := cell_at HR.out 2
        have qR3 : W3.cell? ⟨N, 3, none⟩ = some (.slice ta tn tc) := cell_at HR.out 3
        have qR4 : W3.cell? ⟨N, 4, none⟩ = some (.slice (some ⟨g, o, none⟩) ln lc) := cell_at HR.out 4
        have qR5 : W3.cell? ⟨N, 5, none⟩ = some (.slice sa sn sc) := cell_at HR.out 5
        have qR6 : W3.cell? ⟨N, 6, none⟩ = some (.slice da dn dc) := cell_at HR.out 6
        have qRz : ∀ j, W3.frozen? ⟨N, j, none⟩ = false := fun j => free_at HR.out j
        have qRl : N < W3.heap.size := HR.out.lt
        have qE0 : W3.cell? ⟨E9, 0, none⟩ = some (.int .i64 x.id) := cell_at HE.out 0
        have qE1 : W3.cell? ⟨E9, 1, none⟩ = some (.int .i64 x.tenant) := cell_at HE.out 1
        have qE2 : W3.cell? ⟨E9, 2, none⟩ = some (.int .i64 x.shaper) := cell_at HE.out 2
        have qE3 : W3.cell? ⟨E9, 3, none⟩ = some (.int .i64 x.epoch) := cell_at HE.out 3
        have qE4 : W3.cell? ⟨E9, 4, none⟩ = some (.int .i64 x.number) := cell_at HE.out 4
        have qE5 : W3.cell? ⟨E9, 5, none⟩ = some (.int .i64 x.size) := cell_at HE.out 5
        have qE6 : W3.cell? ⟨E9, 6, none⟩ = some (.int .i64 x.spent) := cell_at HE.out 6
        have qEz : ∀ j, W3.frozen? ⟨E9, j, none⟩ = false := fun j => free_at HE.out j
        have qEl : E9 < W3.heap.size := HE.out.lt
        go_wp2_with fail
        go_ret
        exact ⟨rfl, HB.out⟩
      have ttd : decide (x.id ≤ la0) = false := decide_eq_false hd
      by_cases he : s.next ≤ x.id
      · skip
        have tte : decide (s.next ≤ x.id) = true := decide_eq_true he
        have hno : LR 0 0 = false := by
          rw [HSTEP.out]
          refine Bool.eq_false_iff.2 fun h => ?_
          simp only [Bool.and_eq_true, decide_eq_true_eq] at h
          first | omega | (exact absurd h.1.2 (by decide))
        have hR : R = false := by rw [HR9.out, HLB2.out, hno]; rfl
        subst hR
        clear hno
        have qR0 : W3.cell? ⟨N, 0, none⟩ = some (.int .i64 s.term) := cell_at HR.out 0
        have qR1 : W3.cell? ⟨N, 1, none⟩ = some (.int .i64 s.stamp) := cell_at HR.out 1
        have qR2 : W3.cell? ⟨N, 2, none⟩ = some (.int .i64 s.next) := cell_at HR.out 2
        have qR3 : W3.cell? ⟨N, 3, none⟩ = some (.slice ta tn tc) := cell_at HR.out 3
        have qR4 : W3.cell? ⟨N, 4, none⟩ = some (.slice (some ⟨g, o, none⟩) ln lc) := cell_at HR.out 4
        have qR5 : W3.cell? ⟨N, 5, none⟩ = some (.slice sa sn sc) := cell_at HR.out 5
        have qR6 : W3.cell? ⟨N, 6, none⟩ = some (.slice da dn dc) := cell_at HR.out 6
        have qRz : ∀ j, W3.frozen? ⟨N, j, none⟩ = false := fun j => free_at HR.out j
        have qRl : N < W3.heap.size := HR.out.lt
        have qE0 : W3.cell? ⟨E9, 0, none⟩ = some (.int .i64 x.id) := cell_at HE.out 0
        have qE1 : W3.cell? ⟨E9, 1, none⟩ = some (.int .i64 x.tenant) := cell_at HE.out 1
        have qE2 : W3.cell? ⟨E9, 2, none⟩ = some (.int .i64 x.shaper) := cell_at HE.out 2
        have qE3 : W3.cell? ⟨E9, 3, none⟩ = some (.int .i64 x.epoch) := cell_at HE.out 3
        have qE4 : W3.cell? ⟨E9, 4, none⟩ = some (.int .i64 x.number) := cell_at HE.out 4
        have qE5 : W3.cell? ⟨E9, 5, none⟩ = some (.int .i64 x.size) := cell_at HE.out 5
        have qE6 : W3.cell? ⟨E9, 6, none⟩ = some (.int .i64 x.spent) := cell_at HE.out 6
        have qEz : ∀ j, W3.frozen? ⟨E9, j, none⟩ = false := fun j => free_at HE.out j
        have qEl : E9 < W3.heap.size := HE.out.lt
        go_wp2_with fail
        go_ret
        exact ⟨rfl, HB.out⟩
      have tte : decide (s.next ≤ x.id) = false := decide_eq_false he
      have qR0 : W3.cell? ⟨N, 0, none⟩ = some (.int .i64 s.term) := cell_at HR.out 0
      have qR1 : W3.cell? ⟨N, 1, none⟩ = some (.int .i64 s.stamp) := cell_at HR.out 1
      have qR2 : W3.cell? ⟨N, 2, none⟩ = some (.int .i64 s.next) := cell_at HR.out 2
      have qR3 : W3.cell? ⟨N, 3, none⟩ = some (.slice ta tn tc) := cell_at HR.out 3
      have qR4 : W3.cell? ⟨N, 4, none⟩ = some (.slice (some ⟨g, o, none⟩) ln lc) := cell_at HR.out 4
      have qR5 : W3.cell? ⟨N, 5, none⟩ = some (.slice sa sn sc) := cell_at HR.out 5
      have qR6 : W3.cell? ⟨N, 6, none⟩ = some (.slice da dn dc) := cell_at HR.out 6
      have qRz : ∀ j, W3.frozen? ⟨N, j, none⟩ = false := fun j => free_at HR.out j
      have qRl : N < W3.heap.size := HR.out.lt
      have qE0 : W3.cell? ⟨E9, 0, none⟩ = some (.int .i64 x.id) := cell_at HE.out 0
      have qE1 : W3.cell? ⟨E9, 1, none⟩ = some (.int .i64 x.tenant) := cell_at HE.out 1
      have qE2 : W3.cell? ⟨E9, 2, none⟩ = some (.int .i64 x.shaper) := cell_at HE.out 2
      have qE3 : W3.cell? ⟨E9, 3, none⟩ = some (.int .i64 x.epoch) := cell_at HE.out 3
      have qE4 : W3.cell? ⟨E9, 4, none⟩ = some (.int .i64 x.number) := cell_at HE.out 4
      have qE5 : W3.cell? ⟨E9, 5, none⟩ = some (.int .i64 x.size) := cell_at HE.out 5
      have qE6 : W3.cell? ⟨E9, 6, none⟩ = some (.int .i64 x.spent) := cell_at HE.out 6
      have qEz : ∀ j, W3.frozen? ⟨E9, j, none⟩ = false := fun j => free_at HE.out j
      have qEl : E9 < W3.heap.size := HE.out.lt
      go_wp2_with fail
      go_at_call 34
      go_fit (HMX.out _ _ (HSV.out _ HT.out HL.out HS.out HD.out))
      rintro e W4 ⟨rfl, hB⟩
      clear qR0 qR1 qR2 qR3 qR4 qR5 qR6 qRz qRl qE0 qE1 qE2 qE3 qE4 qE5 qE6 qEz qEl
      replace HB := Lib.hid (HB.out.trans (hB.mono HB.out.size))
      replace HT := Lib.hid (HT0.out.below HB.out)
      replace HL := Lib.hid (HL0.out.below HB.out)
      replace HS := Lib.hid (HS0.out.below HB.out)
      replace HD := Lib.hid (HD0.out.below HB.out)
      replace HR := Lib.hid (HR.out.step hB)
      replace HBC := Lib.hid (HBC.out.trans (hB.mono HBC.out.size))
      replace HE := Lib.hid (HE.out.step hB)
      clear hB
      cases mb
      · skip
        have hno : LR 0 0 = false := by
          rw [HSTEP.out]
          refine Bool.eq_false_iff.2 fun h => ?_
          simp only [Bool.and_eq_true, decide_eq_true_eq] at h
          first | omega | (exact absurd h.1.2 (by decide))
        have hR : R = false := by rw [HR9.out, HLB2.out, hno]; rfl
        subst hR
        clear hno
        have qR0 : W4.cell? ⟨N, 0, none⟩ = some (.int .i64 s.term) := cell_at HR.out 0
        have qR1 : W4.cell? ⟨N, 1, none⟩ = some (.int .i64 s.stamp) := cell_at HR.out 1
        have qR2 : W4.cell? ⟨N, 2, none⟩ = some (.int .i64 s.next) := cell_at HR.out 2
        have qR3 : W4.cell? ⟨N, 3, none⟩ = some (.slice ta tn tc) := cell_at HR.out 3
        have qR4 : W4.cell? ⟨N, 4, none⟩ = some (.slice (some ⟨g, o, none⟩) ln lc) := cell_at HR.out 4
        have qR5 : W4.cell? ⟨N, 5, none⟩ = some (.slice sa sn sc) := cell_at HR.out 5
        have qR6 : W4.cell? ⟨N, 6, none⟩ = some (.slice da dn dc) := cell_at HR.out 6
        have qRz : ∀ j, W4.frozen? ⟨N, j, none⟩ = false := fun j => free_at HR.out j
        have qRl : N < W4.heap.size := HR.out.lt
        have qE0 : W4.cell? ⟨E9, 0, none⟩ = some (.int .i64 x.id) := cell_at HE.out 0
        have qE1 : W4.cell? ⟨E9, 1, none⟩ = some (.int .i64 x.tenant) := cell_at HE.out 1
        have qE2 : W4.cell? ⟨E9, 2, none⟩ = some (.int .i64 x.shaper) := cell_at HE.out 2
        have qE3 : W4.cell? ⟨E9, 3, none⟩ = some (.int .i64 x.epoch) := cell_at HE.out 3
        have qE4 : W4.cell? ⟨E9, 4, none⟩ = some (.int .i64 x.number) := cell_at HE.out 4
        have qE5 : W4.cell? ⟨E9, 5, none⟩ = some (.int .i64 x.size) := cell_at HE.out 5
        have qE6 : W4.cell? ⟨E9, 6, none⟩ = some (.int .i64 x.spent) := cell_at HE.out 6
        have qEz : ∀ j, W4.frozen? ⟨E9, j, none⟩ = false := fun j => free_at HE.out j
        have qEl : E9 < W4.heap.size := HE.out.lt
        go_wp2_with fail
        go_ret
        exact ⟨rfl, HB.out⟩
      have hyes : LR 0 0 = LR x.id (i + 1) := by
        rw [HSTEP.out]
        have e1 : decide (la0 < x.id) = true := decide_eq_true (by omega)
        have e2 : decide (x.id < s.next) = true := decide_eq_true (by omega)
        rw [e1, e2]
        simp
      have HYES := Lib.hid hyes
      clear hyes
      have qE0 : W4.cell? ⟨E9, 0, none⟩ = some (.int .i64 x.id) := cell_at HE.out 0
      have qE1 : W4.cell? ⟨E9, 1, none⟩ = some (.int .i64 x.tenant) := cell_at HE.out 1
      have qE2 : W4.cell? ⟨E9, 2, none⟩ = some (.int .i64 x.shaper) := cell_at HE.out 2
      have qE3 : W4.cell? ⟨E9, 3, none⟩ = some (.int .i64 x.epoch) := cell_at HE.out 3
      have qE4 : W4.cell? ⟨E9, 4, none⟩ = some (.int .i64 x.number) := cell_at HE.out 4
      have qE5 : W4.cell? ⟨E9, 5, none⟩ = some (.int .i64 x.size) := cell_at HE.out 5
      have qE6 : W4.cell? ⟨E9, 6, none⟩ = some (.int .i64 x.spent) := cell_at HE.out 6
      have qEz : ∀ j, W4.frozen? ⟨E9, j, none⟩ = false := fun j => free_at HE.out j
      have qEl : E9 < W4.heap.size := HE.out.lt
      go_wp2_with fail
      go_roundw
      case rel => exact ⟨i + 1, x.id, by omega, by go_num, rfl, HYES.out, HBC.out⟩
      case measure => first | (simp [intOf]; done) | (simp [intOf]; omega)
    · skip
      have b9 : (i < ln) = False := eq_false hk
      obtain rfl : ln = i := by omega
      have hlb : lesB s = true := by rw [HLB2.out, HLR.out]; exact HEND.out _
      have hsz := lesB_size hlb
      have HOU := Lib.hid (fun W v (h : SV W v s) => outs_any v s W h HFEW.out hsz)
      have HBO : Hid (∀ t, 0 ≤ outL s.ls t ∧ outL s.ls t ≤ ln * 1000000) := Lib.hid (fun t => by have := outL_bd s.ls t hsz; rw [← Hln.out] at this; exact this)
      have hRR : R = CB 0 := by rw [HR9.out, hlb]; rfl
      have HRR := Lib.hid hRR
      clear hlb hsz hRR HBC
      have qR0 : wr.cell? ⟨N, 0, none⟩ = some (.int .i64 s.term) := cell_at HR.out 0
      have qR1 : wr.cell? ⟨N, 1, none⟩ = some (.int .i64 s.stamp) := cell_at HR.out 1
      have qR2 : wr.cell? ⟨N, 2, none⟩ = some (.int .i64 s.next) := cell_at HR.out 2
      have qR3 : wr.cell? ⟨N, 3, none⟩ = some (.slice ta tn tc) := cell_at HR.out 3
      have qR4 : wr.cell? ⟨N, 4, none⟩ = some (.slice la ln lc) := cell_at HR.out 4
      have qR5 : wr.cell? ⟨N, 5, none⟩ = some (.slice sa sn sc) := cell_at HR.out 5
      have qR6 : wr.cell? ⟨N, 6, none⟩ = some (.slice da dn dc) := cell_at HR.out 6
      have qRz : ∀ j, wr.frozen? ⟨N, j, none⟩ = false := fun j => free_at HR.out j
      have qRl : N < wr.heap.size := HR.out.lt
      go_wp2_with fail
      go_at_call 32
      go_fit (HOU.out _ _ (HSV.out _ HT.out HL.out HS.out HD.out))
      rintro e W3 ⟨b, rfl, hmt, hB⟩
      clear qR0 qR1 qR2 qR3 qR4 qR5 qR6 qRz qRl
      replace HB := Lib.hid (HB.out.trans (hB.mono HB.out.size))
      replace HT := Lib.hid (HT0.out.below HB.out)
      replace HL := Lib.hid (HL0.out.below HB.out)
      replace HS := Lib.hid (HS0.out.below HB.out)
      replace HD := Lib.hid (HD0.out.below HB.out)
      replace HR := Lib.hid (HR.out.step hB)
      clear hB
      have HM := Lib.hid hmt
      clear hmt
      have qR0 : W3.cell? ⟨N, 0, none⟩ = some (.int .i64 s.term) := cell_at HR.out 0
      have qR1 : W3.cell? ⟨N, 1, none⟩ = some (.int .i64 s.stamp) := cell_at HR.out 1
      have qR2 : W3.cell? ⟨N, 2, none⟩ = some (.int .i64 s.next) := cell_at HR.out 2
      have qR3 : W3.cell? ⟨N, 3, none⟩ = some (.slice ta tn tc) := cell_at HR.out 3
      have qR4 : W3.cell? ⟨N, 4, none⟩ = some (.slice la ln lc) := cell_at HR.out 4
      have qR5 : W3.cell? ⟨N, 5, none⟩ = some (.slice sa sn sc) := cell_at HR.out 5
      have qR6 : W3.cell? ⟨N, 6, none⟩ = some (.slice da dn dc) := cell_at HR.out 6
      have qRz : ∀ j, W3.frozen? ⟨N, j, none⟩ = false := fun j => free_at HR.out j
      have qRl : N < W3.heap.size := HR.out.lt
      go_wp2_with fail
      clear qR0 qR1 qR2 qR3 qR4 qR5 qR6 qRz qRl
      go_loopw [8, 61] (fun _ k wr => ∃ i : Nat, i ≤ tn ∧ k = .int .i64 i ∧ CB 0 = CB i ∧ Below W3.heap.size W3 wr) (fun _ k _ => tn - (intOf k).toNat)
      case atStart => exact ⟨0, Nat.zero_le _, rfl, rfl, Below.refl _ _⟩
      case round =>
        obtain ⟨i, hi, rfl, hcb, hB⟩ := hrel
        have HBD := Lib.hid hB
        have HC0 := Lib.hid hcb
        clear hcb
        replace HB := Lib.hid (HB.out.trans (hB.mono HB.out.size))
        replace HT := Lib.hid (HT0.out.below HB.out)
        replace HL := Lib.hid (HL0.out.below HB.out)
        replace HS := Lib.hid (HS0.out.below HB.out)
        replace HD := Lib.hid (HD0.out.below HB.out)
        replace HR := Lib.hid (HR.out.step hB)
        replace HM := Lib.hid (HM.out.step hB)
        clear hB
        by_cases hk2 : i < tn
        · skip
          have b8 : (i < tn) = True := eq_true hk2
          obtain ⟨g, o, x, ea, g1, g2, q0, q1, q2, q3, q4⟩ := HT.out.at i hk2
          subst ea
          have hbt := HBT.out x (List.mem_of_getElem? g2)
          have hst := HCB.out i x g2
          have HSTEP := Lib.hid (HC0.out.trans hst)
          have hbo := HBO.out x.id
          have HLK0 := Lib.hid (fun X (h : MapT X b (fun c : Int => Value.agg #[.int .i64 c]) (outL s.ls)) => HKW.out X b _ x.id h)
          obtain ⟨ou, hou⟩ : ∃ ou, ou = outL s.ls x.id := ⟨_, rfl⟩
          unfold capT at HSTEP
          rw [← hou] at hbo HSTEP HLK0
          have hou64 : ou ≤ 64000000 := by omega
          have hou0 := hbo.1
          have ww5 : IntKind.i64.wrap ((i : Int) + 1) = (i : Int) + 1 := IntWalk.i64_in _ (by omega)
          clear hou hbo hst g2
          have qR0 : wr.cell? ⟨N, 0, none⟩ = some (.int .i64 s.term) := cell_at HR.out 0
          have qR1 : wr.cell? ⟨N, 1, none⟩ = some (.int .i64 s.stamp) := cell_at HR.out 1
          have qR2 : wr.cell? ⟨N, 2, none⟩ = some (.int .i64 s.next) := cell_at HR.out 2
          have qR3 : wr.cell? ⟨N, 3, none⟩ = some (.slice (some ⟨g, o, none⟩) tn tc) := cell_at HR.out 3
          have qR4 : wr.cell? ⟨N, 4, none⟩ = some (.slice la ln lc) := cell_at HR.out 4
          have qR5 : wr.cell? ⟨N, 5, none⟩ = some (.slice sa sn sc) := cell_at HR.out 5
          have qR6 : wr.cell? ⟨N, 6, none⟩ = some (.slice da dn dc) := cell_at HR.out 6
          have qRz : ∀ j, wr.frozen? ⟨N, j, none⟩ = false := fun j => free_at HR.out j
          have qRl : N < wr.heap.size := HR.out.lt
          go_upto_region 15 with fail
          clear qR0 qR1 qR2 qR3 qR4 qR5 qR6 qRz qRl
          obtain ⟨T9, hT9⟩ : ∃ n0, n0 = wr.heap.size := ⟨_, rfl⟩
          have HXT9HR : Hid (N < T9) := Lib.hid (by rw [hT9]; exact HR.out.lt)
          have HLOT9 : Hid (w.heap.size ≤ T9) := Lib.hid (by have := HB.out.size; omega)
          obtain ⟨W4, hA0⟩ : ∃ W0, W0 = wr.alloc (.cells #[.int .i64 x.id, .int .i64 x.rate, .int .i64 x.burst, .int .i64 x.bkt, .bool x.gone] 54) := ⟨_, rfl⟩
          have hB : Below wr.heap.size wr W4 := by rw [hA0]; exact (Below.refl _ _).alloc (Nat.le_refl _) _
          have hS0 : W4.heap.size = T9 + 1 := by rw [hA0]; simp [← hT9]
          have HT9 := Lib.hid (show Blk W4 T9 #[.int .i64 x.id, .int .i64 x.rate, .int .i64 x.burst, .int .i64 x.bkt, .bool x.gone] 54 by rw [hA0, hT9]; exact blk_new _ _ _)
          replace HB := Lib.hid (HB.out.trans (hB.mono HB.out.size))
          replace HT := Lib.hid (HT0.out.below HB.out)
          replace HL := Lib.hid (HL0.out.below HB.out)
          replace HS := Lib.hid (HS0.out.below HB.out)
          replace HD := Lib.hid (HD0.out.below HB.out)
          replace HR := Lib.hid (HR.out.step hB)
          replace HM := Lib.hid (HM.out.step hB)
          replace HBD := Lib.hid (HBD.out.trans (hB.mono HBD.out.size))
          clear hB
          have HST9 := Lib.hid hS0
          rw [← hT9, ← hA0]
          clear hA0 hT9 hS0
          clear q0 q1 q2 q3 q4
          by_cases hp : x.bkt = 0
          · skip
            have d1 : decide (0 < x.bkt) = false := decide_eq_false (by omega)
            have d3 : (x.bkt != 0) = false := by rw [hp]; rfl
            have d4 : decide (x.bkt = 0) = true := decide_eq_true hp
            rw [d1, Bool.false_and] at HSTEP
            have hn : CB 0 = CB (i + 1) := by rw [HSTEP.out]; simp
            have HN := Lib.hid hn
            clear hn hp
            have qT90 : W4.cell? ⟨T9, 0, none⟩ = some (.int .i64 x.id) := cell_at HT9.out 0
            have qT91 : W4.cell? ⟨T9, 1, none⟩ = some (.int .i64 x.rate) := cell_at HT9.out 1
            have qT92 : W4.cell? ⟨T9, 2, none⟩ = some (.int .i64 x.burst) := cell_at HT9.out 2
            have qT93 : W4.cell? ⟨T9, 3, none⟩ = some (.int .i64 x.bkt) := cell_at HT9.out 3
            have qT94 : W4.cell? ⟨T9, 4, none⟩ = some (.bool x.gone) := cell_at HT9.out 4
            have qT9z : ∀ j, W4.frozen? ⟨T9, j, none⟩ = false := fun j => free_at HT9.out j
            have qT9l : T9 < W4.heap.size := HT9.out.lt
            go_wp2_with fail
            (refine wp_region_quiet_lit (by kernel_rfl) (by kernel_rfl) ?_; (repeat (first | go_big_quiet_step (fail) | (refine BigFrame.wpQuiet_skip (by rfl) ?_; try simp only [Act.put, List.setIfInBounds_toArray, List.set_cons_zero, List.set_cons_succ]))); refine wpQuiet_nil ?_; intro _ hw9; obtain ⟨nq, hw8⟩ := hw9; subst hw8)
            clear qT90 qT91 qT92 qT93 qT94 qT9z qT9l
            obtain ⟨W5, hWn⟩ : ∃ X, X = W4.drewN nq := ⟨_, rfl⟩
            rw [← hWn]
            have hB : Below W4.heap.size W4 W5 := by rw [hWn]; exact dN _ _
            clear hWn
            replace HB := Lib.hid (HB.out.trans (hB.mono HB.out.size))
            replace HT := Lib.hid (HT0.out.below HB.out)
            replace HL := Lib.hid (HL0.out.below HB.out)
            replace HS := Lib.hid (HS0.out.below HB.out)
            replace HD := Lib.hid (HD0.out.below HB.out)
            replace HR := Lib.hid (HR.out.step hB)
            replace HM := Lib.hid (HM.out.step hB)
            replace HBD := Lib.hid (HBD.out.trans (hB.mono HBD.out.size))
            replace HT9 := Lib.hid (HT9.out.step hB)
            clear hB
            go_wp2_with fail
            go_roundw
            case rel => exact ⟨i + 1, by omega, by go_num, HN.out, HBD.out⟩
            case measure => first | (simp [intOf]; done) | (simp [intOf]; omega)
          · skip
            have d1 : decide (0 < x.bkt) = true := decide_eq_true (by omega)
            have d3 : (x.bkt != 0) = true := by simp [hp]
            have d4 : decide (x.bkt = 0) = false := decide_eq_false hp
            obtain ⟨m1, hm1⟩ : ∃ m1, m1 = 1000 * ou := ⟨_, rfl⟩
            have ww1 : IntKind.i64.wrap (1000 * ou) = m1 := (IntWalk.i64_in _ (by omega)).trans hm1.symm
            obtain ⟨m2, hm2⟩ : ∃ m2, m2 = x.bkt + m1 := ⟨_, rfl⟩
            have ww2 : IntKind.i64.wrap (x.bkt + m1) = m2 := (IntWalk.i64_in _ (by omega)).trans hm2.symm
            obtain ⟨m3, hm3⟩ : ∃ m3, m3 = 1000 * x.burst := ⟨_, rfl⟩
            have ww3 : IntKind.i64.wrap (1000 * x.burst) = m3 := (IntWalk.i64_in _ (by omega)).trans hm3.symm
            rw [← hm1, ← hm2, ← hm3, d1, Bool.true_and] at HSTEP
            clear hm1 hm2 hm3
            by_cases hc2 : m3 < m2
            · skip
              have d2 : decide (m3 < m2) = true := decide_eq_true hc2
              have hR : R = false := by rw [HRR.out, HSTEP.out, d2]; rfl
              subst hR
              clear hc2
              go_wp2_with fail
              have HLK := Lib.hid (HLK0.out W4.drew (HM.out.congr rfl))
              refine wp_region_held_drew (S := fun X => (X.cell? ⟨T9, 0, none⟩ = some (.int .i64 x.id) ∧ X.cell? ⟨T9, 1, none⟩ = some (.int .i64 x.rate) ∧ X.cell? ⟨T9, 2, none⟩ = some (.int .i64 x.burst) ∧ X.cell? ⟨T9, 3, none⟩ = some (.int .i64 x.bkt) ∧ X.cell? ⟨T9, 4, none⟩ = some (.bool x.gone) ∧ T9 < X.heap.size) ∧ (Instr.lookup 63 (.map (some b)) (.agg #[.int .i64 x.id]) false).run Try.prog X = .ok (.int .i64 ou) X) (by kernel_rfl) ⟨⟨cell_at HT9.out 0, cell_at HT9.out 1, cell_at HT9.out 2, cell_at HT9.out 3, cell_at HT9.out 4, HT9.out.lt⟩, HLK.out⟩ (fun hHeld => ?_)
              ((refine wpAnyH_take (i := 0) (v := ?_) (by (simp only [List.getElem?_toArray, List.getElem?_cons_succ, List.getElem?_cons_zero]); rfl) (by kernel_rfl) (by kernel_rfl) (by kernel_rfl) (by exact fun _ _ _ h => h) (Or.inl ⟨by rfl, ?_⟩) (by assumption) ?_); rotate_left; focus (intro wS hSw; (try dsimp only at hSw); go_simp; first | done | with_reducible rfl); try simp only [Act.put, List.setIfInBounds_toArray, List.set_cons_zero, List.set_cons_succ])
              ((refine wpAnyH_take (i := 1) (v := ?_) (by (simp only [List.getElem?_toArray, List.getElem?_cons_succ, List.getElem?_cons_zero]); rfl) (by kernel_rfl) (by kernel_rfl) (by kernel_rfl) (by exact fun _ _ _ h => h) (Or.inl ⟨by rfl, ?_⟩) (by assumption) ?_); rotate_left; focus (intro wS hSw; (try dsimp only at hSw); go_simp; first | done | with_reducible rfl); try simp only [Act.put, List.setIfInBounds_toArray, List.set_cons_zero, List.set_cons_succ])
              ((refine wpAnyH_take (i := 2) (v := ?_) (by (simp only [List.getElem?_toArray, List.getElem?_cons_succ, List.getElem?_cons_zero]); rfl) (by kernel_rfl) (by kernel_rfl) (by kernel_rfl) (by exact fun _ _ _ h => h) (Or.inl ⟨by rfl, ?_⟩) (by assumption) ?_); rotate_left; focus (intro wS hSw; (try dsimp only at hSw); go_simp; first | done | with_reducible rfl); try simp only [Act.put, List.setIfInBounds_toArray, List.set_cons_zero, List.set_cons_succ])
              ((refine wpAnyH_take (i := 3) (v := ?_) (by (simp only [List.getElem?_toArray, List.getElem?_cons_succ, List.getElem?_cons_zero]); rfl) (by kernel_rfl) (by kernel_rfl) (by kernel_rfl) (by exact fun _ _ _ h => h) (Or.inl ⟨by rfl, ?_⟩) (by assumption) ?_); rotate_left; focus (intro wS hSw; (try dsimp only at hSw); go_simp; first | done | with_reducible rfl); try simp only [Act.put, List.setIfInBounds_toArray, List.set_cons_zero, List.set_cons_succ])
              ((refine wpAnyH_take (i := 4) (v := ?_) (by (simp only [List.getElem?_toArray, List.getElem?_cons_succ, List.getElem?_cons_zero]); rfl) (by kernel_rfl) (by kernel_rfl) (by kernel_rfl) (by exact fun _ _ _ h => h) (Or.inl ⟨by (go_simp; try rfl), ?_⟩) (by assumption) ?_); rotate_left; focus (intro wS hSw; (try dsimp only at hSw); go_simp; first | done | with_reducible rfl); try simp only [Act.put, List.setIfInBounds_toArray, List.set_cons_zero, List.set_cons_succ])
              ((refine wpAnyH_take (i := 5) (v := ?_) (by (simp only [List.getElem?_toArray, List.getElem?_cons_succ, List.getElem?_cons_zero]); rfl) (by kernel_rfl) (by kernel_rfl) (by kernel_rfl) (by exact fun _ _ _ h => h) (Or.inl ⟨by (go_simp; try rfl), ?_⟩) (by assumption) ?_); rotate_left; focus (intro wS hSw; (try dsimp only at hSw); go_simp; first | done | with_reducible rfl); try simp only [Act.put, List.setIfInBounds_toArray, List.set_cons_zero, List.set_cons_succ])
              ((refine wpAnyH_take (i := 6) (v := ?_) (by (simp only [List.getElem?_toArray, List.getElem?_cons_succ, List.getElem?_cons_zero]); rfl) (by kernel_rfl) (by kernel_rfl) (by kernel_rfl) (by exact fun _ _ _ h => h) (Or.inl ⟨by (go_simp; try rfl), ?_⟩) (by assumption) ?_); rotate_left; focus (intro wS hSw; (try dsimp only at hSw); go_simp; first | done | with_reducible rfl); try simp only [Act.put, List.setIfInBounds_toArray, List.set_cons_zero, List.set_cons_succ])
              ((refine wpAnyH_take (i := 7) (v := ?_) (by (simp only [List.getElem?_toArray, List.getElem?_cons_succ, List.getElem?_cons_zero]); rfl) (by kernel_rfl) (by kernel_rfl) (by kernel_rfl) (by exact fun _ _ _ h => h) (Or.inl ⟨by (go_simp; try rfl), ?_⟩) (by assumption) ?_); rotate_left; focus (intro wS hSw; (try dsimp only at hSw); go_simp; first | done | with_reducible rfl); try simp only [Act.put, List.setIfInBounds_toArray, List.set_cons_zero, List.set_cons_succ])
              ((refine wpAnyH_take (i := 8) (v := ?_) (by (simp only [List.getElem?_toArray, List.getElem?_cons_succ, List.getElem?_cons_zero]); rfl) (by kernel_rfl) (by kernel_rfl) (by kernel_rfl) (by exact fun _ _ _ h => h) (Or.inl ⟨by (go_simp; try rfl), ?_⟩) (by assumption) ?_); rotate_left; focus (intro wS hSw; (try dsimp only at hSw); go_simp; first | done | with_reducible rfl); try simp only [Act.put, List.setIfInBounds_toArray, List.set_cons_zero, List.set_cons_succ])
              ((refine wpAnyH_take (i := 9) (v := ?_) (by (simp only [List.getElem?_toArray, List.getElem?_cons_succ, List.getElem?_cons_zero]); rfl) (by kernel_rfl) (by kernel_rfl) (by kernel_rfl) (by exact fun _ _ _ h => h) (Or.inl ⟨by (go_simp; try rfl), ?_⟩) (by assumption) ?_); rotate_left; focus (intro wS hSw; (try dsimp only at hSw); go_simp; first | done | with_reducible rfl); try simp only [Act.put, List.setIfInBounds_toArray, List.set_cons_zero, List.set_cons_succ])
              ((refine wpAnyH_take (i := 10) (v := ?_) (by (simp only [List.getElem?_toArray, List.getElem?_cons_succ, List.getElem?_cons_zero]); rfl) (by kernel_rfl) (by kernel_rfl) (by kernel_rfl) (by exact fun _ _ _ h => h) (Or.inl ⟨by (go_simp; try rfl), ?_⟩) (by assumption) ?_); rotate_left; focus (intro wS hSw; (try dsimp only at hSw); go_simp; first | done | with_reducible rfl); try simp only [Act.put, List.setIfInBounds_toArray, List.set_cons_zero, List.set_cons_succ])
              ((refine wpAnyH_take (i := 11) (v := ?_) (by (simp only [List.getElem?_toArray, List.getElem?_cons_succ, List.getElem?_cons_zero]); rfl) (by kernel_rfl) (by kernel_rfl) (by kernel_rfl) (by exact fun _ _ _ h => h) (Or.inl ⟨by (go_simp; try rfl), ?_⟩) (by assumption) ?_); rotate_left; focus (intro wS hSw; (try dsimp only at hSw); go_simp; first | done | with_reducible rfl); try simp only [Act.put, List.setIfInBounds_toArray, List.set_cons_zero, List.set_cons_succ])
              ((refine wpAnyH_take (i := 12) (v := ?_) (by (simp only [List.getElem?_toArray, List.getElem?_cons_succ, List.getElem?_cons_zero]); rfl) (by kernel_rfl) (by kernel_rfl) (by kernel_rfl) (by exact fun _ _ _ h => h) (Or.inl ⟨by (go_simp; try rfl), ?_⟩) (by assumption) ?_); rotate_left; focus (intro wS hSw; (try dsimp only at hSw); go_simp; first | done | with_reducible rfl); try simp only [Act.put, List.setIfInBounds_toArray, List.set_cons_zero, List.set_cons_succ])
              ((refine wpAnyH_take (i := 13) (v := ?_) (by (simp only [List.getElem?_toArray, List.getElem?_cons_succ, List.getElem?_cons_zero]); rfl) (by kernel_rfl) (by kernel_rfl) (by kernel_rfl) (by exact fun _ _ _ h => h) (Or.inl ⟨by (go_simp; try rfl), ?_⟩) (by assumption) ?_); rotate_left; focus (intro wS hSw; (try dsimp only at hSw); go_simp; first | done | with_reducible rfl); try simp only [Act.put, List.setIfInBounds_toArray, List.set_cons_zero, List.set_cons_succ])
              ((refine wpAnyH_take (i := 14) (v := ?_) (by (simp only [List.getElem?_toArray, List.getElem?_cons_succ, List.getElem?_cons_zero]); rfl) (by kernel_rfl) (by kernel_rfl) (by kernel_rfl) (by exact fun _ _ _ h => h) (Or.inl ⟨by (go_simp; try rfl), ?_⟩) (by assumption) ?_); rotate_left; focus (intro wS hSw; (try dsimp only at hSw); go_simp; first | done | with_reducible rfl); try simp only [Act.put, List.setIfInBounds_toArray, List.set_cons_zero, List.set_cons_succ])
              ((refine wpAnyH_take (i := 15) (v := ?_) (by (simp only [List.getElem?_toArray, List.getElem?_cons_succ, List.getElem?_cons_zero]); rfl) (by kernel_rfl) (by kernel_rfl) (by kernel_rfl) (by exact fun _ _ _ h => h) (Or.inl ⟨by (go_simp; try rfl), ?_⟩) (by assumption) ?_); rotate_left; focus (intro wS hSw; (try dsimp only at hSw); go_simp; first | done | with_reducible rfl); try simp only [Act.put, List.setIfInBounds_toArray, List.set_cons_zero, List.set_cons_succ])
              ((refine wpAnyH_take (i := 16) (v := ?_) (by (simp only [List.getElem?_toArray, List.getElem?_cons_succ, List.getElem?_cons_zero]); rfl) (by kernel_rfl) (by kernel_rfl) (by kernel_rfl) (by exact fun _ _ _ h => h) (Or.inl ⟨by (go_simp; try rfl), ?_⟩) (by assumption) ?_); rotate_left; focus (intro wS hSw; (try dsimp only at hSw); go_simp; first | done | with_reducible rfl); try simp only [Act.put, List.setIfInBounds_toArray, List.set_cons_zero, List.set_cons_succ])
              ((refine wpAnyH_take (i := 17) (v := ?_) (by (simp only [List.getElem?_toArray, List.getElem?_cons_succ, List.getElem?_cons_zero]); rfl) (by kernel_rfl) (by kernel_rfl) (by kernel_rfl) (by exact fun _ _ _ h => h) (Or.inl ⟨by rfl, ?_⟩) (by assumption) ?_); rotate_left; focus (intro wS hSw; (try dsimp only at hSw); go_simp; first | done | with_reducible rfl); try simp only [Act.put, List.setIfInBounds_toArray, List.set_cons_zero, List.set_cons_succ])
              refine wpAnyH_done (by kernel_rfl) ?_ _
              try simp only [Act.put, List.setIfInBounds_toArray, List.set_cons_zero, List.set_cons_succ]
              go_wp2_with fail
              go_ret
              exact ⟨rfl, HB.out.drew⟩
            · skip
              have d2 : decide (m3 < m2) = false := decide_eq_false hc2
              have hn : CB 0 = CB (i + 1) := by rw [HSTEP.out, d2]; simp
              have HN := Lib.hid hn
              clear hn hc2
              go_wp2_with fail
              have HLK := Lib.hid (HLK0.out W4.drew (HM.out.congr rfl))
              refine wp_region_held_drew (S := fun X => (X.cell? ⟨T9, 0, none⟩ = some (.int .i64 x.id) ∧ X.cell? ⟨T9, 1, none⟩ = some (.int .i64 x.rate) ∧ X.cell? ⟨T9, 2, none⟩ = some (.int .i64 x.burst) ∧ X.cell? ⟨T9, 3, none⟩ = some (.int .i64 x.bkt) ∧ X.cell? ⟨T9, 4, none⟩ = some (.bool x.gone) ∧ T9 < X.heap.size) ∧ (Instr.lookup 63 (.map (some b)) (.agg #[.int .i64 x.id]) false).run Try.prog X = .ok (.int .i64 ou) X) (by kernel_rfl) ⟨⟨cell_at HT9.out 0, cell_at HT9.out 1, cell_at HT9.out 2, cell_at HT9.out 3, cell_at HT9.out 4, HT9.out.lt⟩, HLK.out⟩ (fun hHeld => ?_)
              ((refine wpAnyH_take (i := 0) (v := ?_) (by (simp only [List.getElem?_toArray, List.getElem?_cons_succ, List.getElem?_cons_zero]); rfl) (by kernel_rfl) (by kernel_rfl) (by kernel_rfl) (by exact fun _ _ _ h => h) (Or.inl ⟨by rfl, ?_⟩) (by assumption) ?_); rotate_left; focus (intro wS hSw; (try dsimp only at hSw); go_simp; first | done | with_reducible rfl); try simp only [Act.put, List.setIfInBounds_toArray, List.set_cons_zero, List.set_cons_succ])
              ((refine wpAnyH_take (i := 1) (v := ?_) (by (simp only [List.getElem?_toArray, List.getElem?_cons_succ, List.getElem?_cons_zero]); rfl) (by kernel_rfl) (by kernel_rfl) (by kernel_rfl) (by exact fun _ _ _ h => h) (Or.inl ⟨by rfl, ?_⟩) (by assumption) ?_); rotate_left; focus (intro wS hSw; (try dsimp only at hSw); go_simp; first | done | with_reducible rfl); try simp only [Act.put, List.setIfInBounds_toArray, List.set_cons_zero, List.set_cons_succ])
              ((refine wpAnyH_take (i := 2) (v := ?_) (by (simp only [List.getElem?_toArray, List.getElem?_cons_succ, List.getElem?_cons_zero]); rfl) (by kernel_rfl) (by kernel_rfl) (by kernel_rfl) (by exact fun _ _ _ h => h) (Or.inl ⟨by rfl, ?_⟩) (by assumption) ?_); rotate_left; focus (intro wS hSw; (try dsimp only at hSw); go_simp; first | done | with_reducible rfl); try simp only [Act.put, List.setIfInBounds_toArray, List.set_cons_zero, List.set_cons_succ])
              ((refine wpAnyH_take (i := 3) (v := ?_) (by (simp only [List.getElem?_toArray, List.getElem?_cons_succ, List.getElem?_cons_zero]); rfl) (by kernel_rfl) (by kernel_rfl) (by kernel_rfl) (by exact fun _ _ _ h => h) (Or.inl ⟨by rfl, ?_⟩) (by assumption) ?_); rotate_left; focus (intro wS hSw; (try dsimp only at hSw); go_simp; first | done | with_reducible rfl); try simp only [Act.put, List.setIfInBounds_toArray, List.set_cons_zero, List.set_cons_succ])
              ((refine wpAnyH_take (i := 4) (v := ?_) (by (simp only [List.getElem?_toArray, List.getElem?_cons_succ, List.getElem?_cons_zero]); rfl) (by kernel_rfl) (by kernel_rfl) (by kernel_rfl) (by exact fun _ _ _ h => h) (Or.inl ⟨by (go_simp; try rfl), ?_⟩) (by assumption) ?_); rotate_left; focus (intro wS hSw; (try dsimp only at hSw); go_simp; first | done | with_reducible rfl); try simp only [Act.put, List.setIfInBounds_toArray, List.set_cons_zero, List.set_cons_succ])
              ((refine wpAnyH_take (i := 5) (v := ?_) (by (simp only [List.getElem?_toArray, List.getElem?_cons_succ, List.getElem?_cons_zero]); rfl) (by kernel_rfl) (by kernel_rfl) (by kernel_rfl) (by exact fun _ _ _ h => h) (Or.inl ⟨by (go_simp; try rfl), ?_⟩) (by assumption) ?_); rotate_left; focus (intro wS hSw; (try dsimp only at hSw); go_simp; first | done | with_reducible rfl); try simp only [Act.put, List.setIfInBounds_toArray, List.set_cons_zero, List.set_cons_succ])
              ((refine wpAnyH_take (i := 6) (v := ?_) (by (simp only [List.getElem?_toArray, List.getElem?_cons_succ, List.getElem?_cons_zero]); rfl) (by kernel_rfl) (by kernel_rfl) (by kernel_rfl) (by exact fun _ _ _ h => h) (Or.inl ⟨by (go_simp; try rfl), ?_⟩) (by assumption) ?_); rotate_left; focus (intro wS hSw; (try dsimp only at hSw); go_simp; first | done | with_reducible rfl); try simp only [Act.put, List.setIfInBounds_toArray, List.set_cons_zero, List.set_cons_succ])
              ((refine wpAnyH_take (i := 7) (v := ?_) (by (simp only [List.getElem?_toArray, List.getElem?_cons_succ, List.getElem?_cons_zero]); rfl) (by kernel_rfl) (by kernel_rfl) (by kernel_rfl) (by exact fun _ _ _ h => h) (Or.inl ⟨by (go_simp; try rfl), ?_⟩) (by assumption) ?_); rotate_left; focus (intro wS hSw; (try dsimp only at hSw); go_simp; first | done | with_reducible rfl); try simp only [Act.put, List.setIfInBounds_toArray, List.set_cons_zero, List.set_cons_succ])
              ((refine wpAnyH_take (i := 8) (v := ?_) (by (simp only [List.getElem?_toArray, List.getElem?_cons_succ, List.getElem?_cons_zero]); rfl) (by kernel_rfl) (by kernel_rfl) (by kernel_rfl) (by exact fun _ _ _ h => h) (Or.inl ⟨by (go_simp; try rfl), ?_⟩) (by assumption) ?_); rotate_left; focus (intro wS hSw; (try dsimp only at hSw); go_simp; first | done | with_reducible rfl); try simp only [Act.put, List.setIfInBounds_toArray, List.set_cons_zero, List.set_cons_succ])
              ((refine wpAnyH_take (i := 9) (v := ?_) (by (simp only [List.getElem?_toArray, List.getElem?_cons_succ, List.getElem?_cons_zero]); rfl) (by kernel_rfl) (by kernel_rfl) (by kernel_rfl) (by exact fun _ _ _ h => h) (Or.inl ⟨by (go_simp; try rfl), ?_⟩) (by assumption) ?_); rotate_left; focus (intro wS hSw; (try dsimp only at hSw); go_simp; first | done | with_reducible rfl); try simp only [Act.put, List.setIfInBounds_toArray, List.set_cons_zero, List.set_cons_succ])
              ((refine wpAnyH_take (i := 10) (v := ?_) (by (simp only [List.getElem?_toArray, List.getElem?_cons_succ, List.getElem?_cons_zero]); rfl) (by kernel_rfl) (by kernel_rfl) (by kernel_rfl) (by exact fun _ _ _ h => h) (Or.inl ⟨by (go_simp; try rfl), ?_⟩) (by assumption) ?_); rotate_left; focus (intro wS hSw; (try dsimp only at hSw); go_simp; first | done | with_reducible rfl); try simp only [Act.put, List.setIfInBounds_toArray, List.set_cons_zero, List.set_cons_succ])
              ((refine wpAnyH_take (i := 11) (v := ?_) (by (simp only [List.getElem?_toArray, List.getElem?_cons_succ, List.getElem?_cons_zero]); rfl) (by kernel_rfl) (by kernel_rfl) (by kernel_rfl) (by exact fun _ _ _ h => h) (Or.inl ⟨by (go_simp; try rfl), ?_⟩) (by assumption) ?_); rotate_left; focus (intro wS hSw; (try dsimp only at hSw); go_simp; first | done | with_reducible rfl); try simp only [Act.put, List.setIfInBounds_toArray, List.set_cons_zero, List.set_cons_succ])
              ((refine wpAnyH_take (i := 12) (v := ?_) (by (simp only [List.getElem?_toArray, List.getElem?_cons_succ, List.getElem?_cons_zero]); rfl) (by kernel_rfl) (by kernel_rfl) (by kernel_rfl) (by exact fun _ _ _ h => h) (Or.inl ⟨by (go_simp; try rfl), ?_⟩) (by assumption) ?_); rotate_left; focus (intro wS hSw; (try dsimp only at hSw); go_simp; first | done | with_reducible rfl); try simp only [Act.put, List.setIfInBounds_toArray, List.set_cons_zero, List.set_cons_succ])
              ((refine wpAnyH_take (i := 13) (v := ?_) (by (simp only [List.getElem?_toArray, List.getElem?_cons_succ, List.getElem?_cons_zero]); rfl) (by kernel_rfl) (by kernel_rfl) (by kernel_rfl) (by exact fun _ _ _ h => h) (Or.inl ⟨by (go_simp; try rfl), ?_⟩) (by assumption) ?_); rotate_left; focus (intro wS hSw; (try dsimp only at hSw); go_simp; first | done | with_reducible rfl); try simp only [Act.put, List.setIfInBounds_toArray, List.set_cons_zero, List.set_cons_succ])
              ((refine wpAnyH_take (i := 14) (v := ?_) (by (simp only [List.getElem?_toArray, List.getElem?_cons_succ, List.getElem?_cons_zero]); rfl) (by kernel_rfl) (by kernel_rfl) (by kernel_rfl) (by exact fun _ _ _ h => h) (Or.inl ⟨by (go_simp; try rfl), ?_⟩) (by assumption) ?_); rotate_left; focus (intro wS hSw; (try dsimp only at hSw); go_simp; first | done | with_reducible rfl); try simp only [Act.put, List.setIfInBounds_toArray, List.set_cons_zero, List.set_cons_succ])
              ((refine wpAnyH_take (i := 15) (v := ?_) (by (simp only [List.getElem?_toArray, List.getElem?_cons_succ, List.getElem?_cons_zero]); rfl) (by kernel_rfl) (by kernel_rfl) (by kernel_rfl) (by exact fun _ _ _ h => h) (Or.inl ⟨by (go_simp; try rfl), ?_⟩) (by assumption) ?_); rotate_left; focus (intro wS hSw; (try dsimp only at hSw); go_simp; first | done | with_reducible rfl); try simp only [Act.put, List.setIfInBounds_toArray, List.set_cons_zero, List.set_cons_succ])
              ((refine wpAnyH_take (i := 16) (v := ?_) (by (simp only [List.getElem?_toArray, List.getElem?_cons_succ, List.getElem?_cons_zero]); rfl) (by kernel_rfl) (by kernel_rfl) (by kernel_rfl) (by exact fun _ _ _ h => h) (Or.inl ⟨by (go_simp; try rfl), ?_⟩) (by assumption) ?_); rotate_left; focus (intro wS hSw; (try dsimp only at hSw); go_simp; first | done | with_reducible rfl); try simp only [Act.put, List.setIfInBounds_toArray, List.set_cons_zero, List.set_cons_succ])
              ((refine wpAnyH_take (i := 17) (v := ?_) (by (simp only [List.getElem?_toArray, List.getElem?_cons_succ, List.getElem?_cons_zero]); rfl) (by kernel_rfl) (by kernel_rfl) (by kernel_rfl) (by exact fun _ _ _ h => h) (Or.inl ⟨by rfl, ?_⟩) (by assumption) ?_); rotate_left; focus (intro wS hSw; (try dsimp only at hSw); go_simp; first | done | with_reducible rfl); try simp only [Act.put, List.setIfInBounds_toArray, List.set_cons_zero, List.set_cons_succ])
              refine wpAnyH_done (by kernel_rfl) ?_ _
              try simp only [Act.put, List.setIfInBounds_toArray, List.set_cons_zero, List.set_cons_succ]
              go_wp2_with fail
              go_roundw
              case rel => exact ⟨i + 1, by omega, by go_num, HN.out, HBD.out.drew⟩
              case measure => first | (simp [intOf]; done) | (simp [intOf]; omega)
        · skip
          have b8 : (i < tn) = False := eq_false hk2
          obtain rfl : tn = i := by omega
          have hR : R = true := by rw [HRR.out, HC0.out, HCE.out]
          subst hR
          have qR0 : wr.cell? ⟨N, 0, none⟩ = some (.int .i64 s.term) := cell_at HR.out 0
          have qR1 : wr.cell? ⟨N, 1, none⟩ = some (.int .i64 s.stamp) := cell_at HR.out 1
          have qR2 : wr.cell? ⟨N, 2, none⟩ = some (.int .i64 s.next) := cell_at HR.out 2
          have qR3 : wr.cell? ⟨N, 3, none⟩ = some (.slice ta tn tc) := cell_at HR.out 3
          have qR4 : wr.cell? ⟨N, 4, none⟩ = some (.slice la ln lc) := cell_at HR.out 4
          have qR5 : wr.cell? ⟨N, 5, none⟩ = some (.slice sa sn sc) := cell_at HR.out 5
          have qR6 : wr.cell? ⟨N, 6, none⟩ = some (.slice da dn dc) := cell_at HR.out 6
          have qRz : ∀ j, wr.frozen? ⟨N, j, none⟩ = false := fun j => free_at HR.out j
          have qRl : N < wr.heap.size := HR.out.lt
          go_wp2_with fail
          go_ret
          exact ⟨rfl, HB.out⟩
end Go.Proofs.Ytfgnjpdlchimpaa
namespace Go.Proofs.Ytfgnjpdlchimpaa
open Go.RowKit
set_option linter.unusedSimpArgs false
set_option linter.unusedVariables false

def ClL (k : FuncId) (cs : Array Value) (d : LeE → Bool) (L : List LeE) (w : World) : Prop := ∀ (x : LeE) (W : World), x ∈ L → Below w.heap.size w W → Calls Try.prog k (#[.agg #[.int .i64 x.id, .int .i64 x.tenant, .int .i64 x.shaper, .int .i64 x.epoch, .int .i64 x.number, .int .i64 x.size, .int .i64 x.spent]] ++ cs) W fun e w' => e = .returned (.bool (d x)) ∧ Below W.heap.size W w'
set_option maxRecDepth 100000 in
set_option maxHeartbeats 8000000 in
theorem lindex_any (kf : FuncId) (cs : Array Value) (d : LeE → Bool) (v : Value) (L : List LeE) (w0 w : World) (h : LeV w v L) (hk : EntK kf) (CS : ClL kf cs d L w0) (h0 : Below w0.heap.size w0 w) :
    Calls Try.prog 61 #[v, .func (.func kf) #[] cs] w fun e w' => (∃ i : Nat, i ≤ L.length ∧ (∀ j, j < i → d (gLe L j) = false) ∧ ((i < L.length ∧ d (gLe L i) = true ∧ e = .returned (.int .i64 (i : Nat))) ∨ (i = L.length ∧ e = .returned (.int .i64 (-1))))) ∧ Below w.heap.size w w' := by
  obtain ⟨a, n, cap, rfl, HN, m1, m2⟩ := h.sh
  have H1 := Lib.hid h
  have H0 := Lib.hid h0
  have HCS := Lib.hid CS
  rw [← HN.out]
  clear h CS h0
  unfold EntK at hk
  go_enter Try.func61, Try.ntmps61
  go_wp2_with fail
  go_loopw [8] (fun i wr => ∃ k : Nat, k ≤ n ∧ i = .int .i64 k ∧ (∀ j, j < k → d (gLe L j) = false) ∧ Below w.heap.size w wr) (fun i _ => n - (intOf i).toNat)
  case atStart => exact ⟨0, Nat.zero_le _, rfl, (fun j hj => by omega), Below.refl _ _⟩
  case round =>
    obtain ⟨k, hk8, rfl, hf, hB⟩ := hrel
    have HB := Lib.hid hB
    have HF := Lib.hid hf
    clear hf hB
    by_cases hlt : k < n
    · obtain ⟨g, o, x, ea, g1, g2, c0, c1, c2, c3, c4, c5, c6⟩ := (H1.out.below HB.out).at k hlt
      subst ea
      have HX : Hid (x = gLe L k) := Lib.hid (gLe_of g2).symm
      have HC := Lib.hid (HCS.out x wr (List.mem_of_getElem? g2) (H0.out.trans (HB.out.mono H0.out.size)))
      obtain ⟨D, hD⟩ : ∃ D, D = d x := ⟨_, rfl⟩
      rw [← hD] at HC
      have HD := Lib.hid hD
      clear g2 hD
      cases D
      · go_wp2_with (refine Calls.mono HC.out ?_; rintro e W3 ⟨rfl, hB3⟩; have HB3 := Lib.hid (HB.out.trans (hB3.mono HB.out.size)); clear hB3)
        go_roundw
        case rel => exact ⟨k + 1, by omega, by go_num, (fun j hj => by
          rcases Nat.lt_or_ge j k with h | h
          · exact HF.out j h
          · obtain rfl : j = k := by omega
            rw [← HX.out]; exact HD.out.symm), HB3.out⟩
        case measure => first | (simp [intOf]; done) | (simp [intOf]; omega)
      · go_wp2_with (refine Calls.mono HC.out ?_; rintro e W3 ⟨rfl, hB3⟩; have HB3 := Lib.hid (HB.out.trans (hB3.mono HB.out.size)); clear hB3)
        go_ret
        exact ⟨⟨k, by omega, HF.out, .inl ⟨hlt, by rw [← HX.out]; exact HD.out.symm, rfl⟩⟩, HB3.out⟩
    · obtain rfl : k = n := by omega
      go_wp2_with fail
      go_ret
      exact ⟨⟨k, Nat.le_refl _, HF.out, .inr ⟨rfl, rfl⟩⟩, HB.out⟩
end Go.Proofs.Ytfgnjpdlchimpaa
namespace Go.Proofs.Ytfgnjpdlchimpaa
open Go.RowKit
set_option linter.unusedSimpArgs false
set_option linter.unusedVariables false

theorem gLe_succ (y : LeE) (r : List LeE) (j : Nat) : gLe (y :: r) (j + 1) = gLe r j := rfl
theorem gLe_zero (y : LeE) (r : List LeE) : gLe (y :: r) 0 = y := rfl
theorem find_at (d : LeE → Bool) : ∀ (L : List LeE) (i : Nat), (∀ j, j < i → d (gLe L j) = false) → i < L.length → d (gLe L i) = true → L.find? d = some (gLe L i)
  | [], i, _, h, _ => absurd h (by simp)
  | y :: r, 0, _, _, hd => by
    rw [gLe_zero] at hd ⊢
    rw [List.find?_cons_of_pos hd]
  | y :: r, i + 1, hf, hi, hd => by
    have h0 := hf 0 (by omega)
    rw [gLe_zero] at h0
    rw [gLe_succ] at hd ⊢
    rw [List.find?_cons_of_neg (by rw [h0]; simp)]
    exact find_at d r i (fun j hj => by have := hf (j + 1) (by omega); rwa [gLe_succ] at this) (by simpa using hi) hd
theorem find_non (d : LeE → Bool) : ∀ (L : List LeE), (∀ j, j < L.length → d (gLe L j) = false) → L.find? d = none
  | [], _ => rfl
  | y :: r, hf => by
    have h0 := hf 0 (by simp)
    rw [gLe_zero] at h0
    rw [List.find?_cons_of_neg (by rw [h0]; simp)]
    exact find_non d r (fun j hj => by have := hf (j + 1) (by simpa using hj); rwa [gLe_succ] at this)
theorem ent_pl1 : EntK 62 := fun _ _ => by kernel_rfl
set_option maxRecDepth 100000 in
set_option maxHeartbeats 2000000 in
theorem pl1_any (x : LeE) (key : Int) (N : Nat) (w : World) (h : w.cell? ⟨N, 0, none⟩ = some (.int .i64 key)) (hl : N < w.heap.size) : Calls Try.prog 62 #[.agg #[.int .i64 x.id, .int .i64 x.tenant, .int .i64 x.shaper, .int .i64 x.epoch, .int .i64 x.number, .int .i64 x.size, .int .i64 x.spent], .pointer (some ⟨N, 0, none⟩)] w fun e w' => e = .returned (.bool (decide (x.id = key))) ∧ Below w.heap.size w w' := by
  obtain ⟨M, hM⟩ : ∃ M, M = w.heap.size := ⟨_, rfl⟩
  obtain ⟨W1, hW1⟩ : ∃ W1, W1 = w.alloc (.cells #[.int .i64 x.id, .int .i64 x.tenant, .int .i64 x.shaper, .int .i64 x.epoch, .int .i64 x.number, .int .i64 x.size, .int .i64 x.spent] 31) := ⟨_, rfl⟩
  have hB1 : Below w.heap.size w W1 := by rw [hW1]; exact (Below.refl _ _).alloc (Nat.le_refl _) _
  have hk : Blk W1 M #[.int .i64 x.id, .int .i64 x.tenant, .int .i64 x.shaper, .int .i64 x.epoch, .int .i64 x.number, .int .i64 x.size, .int .i64 x.spent] 31 := by rw [hW1, hM]; exact blk_new _ _ _
  have HB1 := Lib.hid hB1
  have c0 : W1.cell? ⟨M, 0, none⟩ = some (.int .i64 x.id) := cell_at hk 0
  have k0 : W1.cell? ⟨N, 0, none⟩ = some (.int .i64 key) := (hB1.cell (p := ⟨N, 0, none⟩) hl).trans h
  have hz := hk.lt
  go_enter Try.func62, Try.ntmps62
  go_upto_region 1 with fail
  rw [← hW1, ← hM]
  clear hW1 hM hB1 hk
  cases hd : (x.id == key)
  · have hne : ¬ x.id = key := by simpa using hd
    go_wp2_with fail
    go_ret
    exact ⟨ret_bool (by simp [hne]), by first | exact HB1.out | exact HB1.out.drew⟩
  · have he : x.id = key := by simpa using hd
    go_wp2_with fail
    go_ret
    exact ⟨ret_bool (by simp [he]), by first | exact HB1.out | exact HB1.out.drew⟩
set_option maxRecDepth 100000 in
set_option maxHeartbeats 4000000 in
theorem place_le (v : Value) (L : List LeE) (key : Int) (w : World) (h : LeV w v L) :
    Calls Try.prog 29 #[v, .int .i64 key] w fun e w' => ((∃ (i : Nat) (x : LeE), i < L.length ∧ L[i]? = some x ∧ x.id = key ∧ fndL key L = some x ∧ e = .returned (.tuple #[.int .i64 (i : Nat), .bool true])) ∨ (fndL key L = none ∧ e = .returned (.tuple #[.int .i64 (-1), .bool false]))) ∧ Below w.heap.size w w' := by
  obtain ⟨la, ln, lc, rfl, Hln, ln1, ln2⟩ := h.sh
  have HL0 := Lib.hid h
  have HL := Lib.hid h
  clear h
  have HB : Hid (Below w.heap.size w w) := Lib.hid (Below.refl _ _)
  go_enter Try.func29, Try.ntmps29
  go_upto_region 1 with fail
  obtain ⟨N, hN⟩ : ∃ n0, n0 = w.heap.size := ⟨_, rfl⟩
  have HLON : Hid (w.heap.size ≤ N) := Lib.hid (by have := HB.out.size; omega)
  obtain ⟨W1, hA0⟩ : ∃ W0, W0 = w.alloc (.cells #[.int .i64 key] 3) := ⟨_, rfl⟩
  have hB : Below w.heap.size w W1 := by rw [hA0]; exact (Below.refl _ _).alloc (Nat.le_refl _) _
  have hS0 : W1.heap.size = N + 1 := by rw [hA0]; simp [← hN]
  have HK := Lib.hid (show Blk W1 N #[.int .i64 key] 3 by rw [hA0, hN]; exact blk_new _ _ _)
  replace HB := Lib.hid (HB.out.trans (hB.mono HB.out.size))
  replace HL := Lib.hid (HL0.out.below HB.out)
  clear hB
  have HSN := Lib.hid hS0
  rw [← hN, ← hA0]
  clear hA0 hN hS0
  have HKN := Lib.hid (show ∀ X, Below W1.heap.size W1 X → X.cell? ⟨N, 0, none⟩ = some (.int .i64 key) ∧ N < X.heap.size from fun X hX => ⟨(hX.cell (p := ⟨N, 0, none⟩) HK.out.lt).trans (cell_at HK.out 0), Nat.lt_of_lt_of_le HK.out.lt hX.size⟩)
  have HIX := Lib.hid (lindex_any _ #[.pointer (some ⟨N, 0, none⟩)] (fun x => decide (x.id = key)) _ L W1 W1 HL.out ent_pl1 (fun x X hx hX => pl1_any x key N X (HKN.out X hX).1 (HKN.out X hX).2) (Below.refl _ _))
  have qK0 : W1.cell? ⟨N, 0, none⟩ = some (.int .i64 key) := cell_at HK.out 0
  have qKz : ∀ j, W1.frozen? ⟨N, j, none⟩ = false := fun j => free_at HK.out j
  have qKl : N < W1.heap.size := HK.out.lt
  have hmf : ∀ (fn : Fn) (first cap : Array Value) (w : World), (Instr.makeFunc fn first cap).run Try.prog w = .ok (.func fn first cap) w := fun _ _ _ _ => rfl
  go_wp2_with fail
  go_at_call 61
  go_fit HIX.out
  rintro e W2 ⟨⟨i, hi, hf, hc⟩, hB⟩
  clear qK0 qKz qKl
  replace HB := Lib.hid (HB.out.trans (hB.mono HB.out.size))
  replace HL := Lib.hid (HL0.out.below HB.out)
  replace HK := Lib.hid (HK.out.step hB)
  clear hB
  have HF := Lib.hid hf
  clear hf hmf
  rcases hc with ⟨hin, hdi, rfl⟩ | ⟨rfl, rfl⟩
  · skip
    have HDI := Lib.hid hdi
    clear hdi
    go_wp2_with fail
    exact bodyPost_ret (v := .tuple #[.int .i64 (i : Nat), .bool true]) (by simp [results, Try.results29, go_sem]) rfl ⟨.inl ⟨i, gLe L i, hin, gLe_lt hin, by have := HDI.out; simpa using this, find_at _ _ _ HF.out hin HDI.out, rfl⟩, HB.out⟩
  · skip
    go_wp2_with fail
    exact bodyPost_ret (v := .tuple #[.int .i64 (-1), .bool false]) (by simp [results, Try.results29, go_sem]) rfl ⟨.inr ⟨find_non _ _ HF.out, rfl⟩, HB.out⟩
set_option maxRecDepth 100000 in
set_option maxHeartbeats 4000000 in
theorem out_any (v : Value) (s : StE) (t : Int) (w : World) (h : SV w v s) (hf : fewS s) :
    Calls Try.prog 14 #[v, .int .i64 t] w fun e w' => e = .returned (.int .i64 (outS s t)) ∧ Below w.heap.size w w' := by
  have HFEW := Lib.hid hf
  obtain ⟨f1, f2, f3, f4⟩ := hf
  obtain ⟨vt, vl, vs, vd, rfl, ht, hl, hs, hd⟩ := h
  obtain ⟨ta, tn, tc, rfl, Htn, tn1, tn2⟩ := ht.sh
  obtain ⟨la, ln, lc, rfl, Hln, ln1, ln2⟩ := hl.sh
  obtain ⟨sa, sn, sc, rfl, Hsn, sn1, sn2⟩ := hs.sh
  obtain ⟨da, dn, dc, rfl, Hdn, dn1, dn2⟩ := hd.sh
  have HT0 := Lib.hid ht
  have HL0 := Lib.hid hl
  have HS0 := Lib.hid hs
  have HD0 := Lib.hid hd
  have HT := Lib.hid ht
  have HL := Lib.hid hl
  have HS := Lib.hid hs
  have HD := Lib.hid hd
  clear ht hl hs hd
  rw [← Hln.out] at f2
  rw [← Htn.out] at f1
  have HSV : Hid (∀ W, TV W (.slice ta tn tc) s.ts → LeV W (.slice la ln lc) s.ls → SeV W (.slice sa sn sc) s.ss → DkV W (.slice da dn dc) s.ds → SV W (.agg #[.int .i64 s.term, .int .i64 s.stamp, .int .i64 s.next, .slice ta tn tc, .slice la ln lc, .slice sa sn sc, .slice da dn dc]) s) := Lib.hid (fun W h1 h2 h3 h4 => ⟨_, _, _, _, rfl, h1, h2, h3, h4⟩)
  have zl : ∀ u, (zeroValue 3).run Try.prog u = .ok (.int .i64 0) u := fun u => by kernel_rfl
  have HKW := Lib.hid (fun (X : World) (b : Nat) (G : Int → Int) (x : Int) (h : MapT X b (fun c : Int => Value.agg #[.int .i64 c]) G) => h.look key_whose Try.underlying63 (zl X) x)
  clear zl
  have HCK := Lib.hid (fun W v (h : SV W v s) => checkS_any v s W h HFEW.out)
  obtain ⟨C, hC⟩ : ∃ C, C = chkS s := ⟨_, rfl⟩
  have HSZ := Lib.hid (fun h : C = true => lesB_size (s := s) (by rw [hC] at h; unfold chkS at h; simp only [Bool.and_eq_true] at h; exact h.1.2))
  rw [← hC] at HCK
  obtain ⟨R, hR⟩ : ∃ R, R = outS s t := ⟨_, rfl⟩
  rw [← hR]
  unfold outS at hR
  rw [← hC] at hR
  have HR9 := Lib.hid hR
  clear hC hR
  have HB : Hid (Below w.heap.size w w) := Lib.hid (Below.refl _ _)
  go_enter Try.func14, Try.ntmps14
  go_upto_region 1 with fail
  obtain ⟨N, hN⟩ : ∃ n0, n0 = w.heap.size := ⟨_, rfl⟩
  have HLON : Hid (w.heap.size ≤ N) := Lib.hid (by have := HB.out.size; omega)
  obtain ⟨W1, hA0⟩ : ∃ W0, W0 = w.alloc (.cells #[.int .i64 s.term, .int .i64 s.stamp, .int .i64 s.next, .slice ta tn tc, .slice la ln lc, .slice sa sn sc, .slice da dn dc] 27) := ⟨_, rfl⟩
  have hB : Below w.heap.size w W1 := by rw [hA0]; exact (Below.refl _ _).alloc (Nat.le_refl _) _
  have hS0 : W1.heap.size = N + 1 := by rw [hA0]; simp [← hN]
  have HR := Lib.hid (show Blk W1 N #[.int .i64 s.term, .int .i64 s.stamp, .int .i64 s.next, .slice ta tn tc, .slice la ln lc, .slice sa sn sc, .slice da dn dc] 27 by rw [hA0, hN]; exact blk_new _ _ _)
  replace HB := Lib.hid (HB.out.trans (hB.mono HB.out.size))
  replace HT := Lib.hid (HT0.out.below HB.out)
  replace HL := Lib.hid (HL0.out.below HB.out)
  replace HS := Lib.hid (HS0.out.below HB.out)
  replace HD := Lib.hid (HD0.out.below HB.out)
  clear hB
  have HSN := Lib.hid hS0
  rw [← hN, ← hA0]
  clear hA0 hN hS0
  have qR0 : W1.cell? ⟨N, 0, none⟩ = some (.int .i64 s.term) := cell_at HR.out 0
  have qR1 : W1.cell? ⟨N, 1, none⟩ = some (.int .i64 s.stamp) := cell_at HR.out 1
  have qR2 : W1.cell? ⟨N, 2, none⟩ = some (.int .i64 s.next) := cell_at HR.out 2
  have qR3 : W1.cell? ⟨N, 3, none⟩ = some (.slice ta tn tc) := cell_at HR.out 3
  have qR4 : W1.cell? ⟨N, 4, none⟩ = some (.slice la ln lc) := cell_at HR.out 4
  have qR5 : W1.cell? ⟨N, 5, none⟩ = some (.slice sa sn sc) := cell_at HR.out 5
  have qR6 : W1.cell? ⟨N, 6, none⟩ = some (.slice da dn dc) := cell_at HR.out 6
  have qRz : ∀ j, W1.frozen? ⟨N, j, none⟩ = false := fun j => free_at HR.out j
  have qRl : N < W1.heap.size := HR.out.lt
  go_wp2_with fail
  go_at_call 16
  go_fit (HCK.out _ _ (HSV.out _ HT.out HL.out HS.out HD.out))
  rintro e W2 ⟨rfl, hB⟩
  clear qR0 qR1 qR2 qR3 qR4 qR5 qR6 qRz qRl
  replace HB := Lib.hid (HB.out.trans (hB.mono HB.out.size))
  replace HT := Lib.hid (HT0.out.below HB.out)
  replace HL := Lib.hid (HL0.out.below HB.out)
  replace HS := Lib.hid (HS0.out.below HB.out)
  replace HD := Lib.hid (HD0.out.below HB.out)
  replace HR := Lib.hid (HR.out.step hB)
  clear hB
  cases C
  · skip
    obtain rfl := HR9.out
    have qR0 : W2.cell? ⟨N, 0, none⟩ = some (.int .i64 s.term) := cell_at HR.out 0
    have qR1 : W2.cell? ⟨N, 1, none⟩ = some (.int .i64 s.stamp) := cell_at HR.out 1
    have qR2 : W2.cell? ⟨N, 2, none⟩ = some (.int .i64 s.next) := cell_at HR.out 2
    have qR3 : W2.cell? ⟨N, 3, none⟩ = some (.slice ta tn tc) := cell_at HR.out 3
    have qR4 : W2.cell? ⟨N, 4, none⟩ = some (.slice la ln lc) := cell_at HR.out 4
    have qR5 : W2.cell? ⟨N, 5, none⟩ = some (.slice sa sn sc) := cell_at HR.out 5
    have qR6 : W2.cell? ⟨N, 6, none⟩ = some (.slice da dn dc) := cell_at HR.out 6
    have qRz : ∀ j, W2.frozen? ⟨N, j, none⟩ = false := fun j => free_at HR.out j
    have qRl : N < W2.heap.size := HR.out.lt
    go_wp2_with fail
    go_ret
    exact ⟨rfl, HB.out⟩
  · skip
    obtain rfl : R = outL s.ls t := HR9.out
    have HOU := Lib.hid (fun W v (h : SV W v s) => outs_any v s W h HFEW.out (HSZ.out rfl))
    have qR0 : W2.cell? ⟨N, 0, none⟩ = some (.int .i64 s.term) := cell_at HR.out 0
    have qR1 : W2.cell? ⟨N, 1, none⟩ = some (.int .i64 s.stamp) := cell_at HR.out 1
    have qR2 : W2.cell? ⟨N, 2, none⟩ = some (.int .i64 s.next) := cell_at HR.out 2
    have qR3 : W2.cell? ⟨N, 3, none⟩ = some (.slice ta tn tc) := cell_at HR.out 3
    have qR4 : W2.cell? ⟨N, 4, none⟩ = some (.slice la ln lc) := cell_at HR.out 4
    have qR5 : W2.cell? ⟨N, 5, none⟩ = some (.slice sa sn sc) := cell_at HR.out 5
    have qR6 : W2.cell? ⟨N, 6, none⟩ = some (.slice da dn dc) := cell_at HR.out 6
    have qRz : ∀ j, W2.frozen? ⟨N, j, none⟩ = false := fun j => free_at HR.out j
    have qRl : N < W2.heap.size := HR.out.lt
    go_wp2_with fail
    go_at_call 32
    go_fit (HOU.out _ _ (HSV.out _ HT.out HL.out HS.out HD.out))
    rintro e W3 ⟨b, rfl, hmt, hB⟩
    clear qR0 qR1 qR2 qR3 qR4 qR5 qR6 qRz qRl
    replace HB := Lib.hid (HB.out.trans (hB.mono HB.out.size))
    replace HT := Lib.hid (HT0.out.below HB.out)
    replace HL := Lib.hid (HL0.out.below HB.out)
    replace HS := Lib.hid (HS0.out.below HB.out)
    replace HD := Lib.hid (HD0.out.below HB.out)
    replace HR := Lib.hid (HR.out.step hB)
    clear hB
    have hlk := HKW.out _ b _ t hmt
    go_wp2_with fail
    go_ret
    exact ⟨rfl, HB.out⟩
set_option maxRecDepth 100000 in
set_option maxHeartbeats 4000000 in
theorem findS_any (v : Value) (s : StE) (key : Int) (w : World) (h : SV w v s) (hf : fewS s) :
    Calls Try.prog 11 #[v, .int .i64 key] w fun e w' => e = .returned (.tuple #[((fndS s key).getD zLe).agg, .bool (fndS s key).isSome]) ∧ Below w.heap.size w w' := by
  have HFEW := Lib.hid hf
  obtain ⟨f1, f2, f3, f4⟩ := hf
  obtain ⟨vt, vl, vs, vd, rfl, ht, hl, hs, hd⟩ := h
  obtain ⟨ta, tn, tc, rfl, Htn, tn1, tn2⟩ := ht.sh
  obtain ⟨la, ln, lc, rfl, Hln, ln1, ln2⟩ := hl.sh
  obtain ⟨sa, sn, sc, rfl, Hsn, sn1, sn2⟩ := hs.sh
  obtain ⟨da, dn, dc, rfl, Hdn, dn1, dn2⟩ := hd.sh
  have HT0 := Lib.hid ht
  have HL0 := Lib.hid hl
  have HS0 := Lib.hid hs
  have HD0 := Lib.hid hd
  have HT := Lib.hid ht
  have HL := Lib.hid hl
  have HS := Lib.hid hs
  have HD := Lib.hid hd
  clear ht hl hs hd
  rw [← Hln.out] at f2
  rw [← Htn.out] at f1
  have HSV : Hid (∀ W, TV W (.slice ta tn tc) s.ts → LeV W (.slice la ln lc) s.ls → SeV W (.slice sa sn sc) s.ss → DkV W (.slice da dn dc) s.ds → SV W (.agg #[.int .i64 s.term, .int .i64 s.stamp, .int .i64 s.next, .slice ta tn tc, .slice la ln lc, .slice sa sn sc, .slice da dn dc]) s) := Lib.hid (fun W h1 h2 h3 h4 => ⟨_, _, _, _, rfl, h1, h2, h3, h4⟩)
  have HCK := Lib.hid (fun W v (h : SV W v s) => checkS_any v s W h HFEW.out)
  have HPL := Lib.hid (fun W (h : LeV W (.slice la ln lc) s.ls) => place_le _ s.ls key W h)
  rw [← Hln.out] at HPL
  obtain ⟨C, hC⟩ : ∃ C, C = chkS s := ⟨_, rfl⟩
  rw [← hC] at HCK
  obtain ⟨R, hR⟩ : ∃ R : Value, R = .tuple #[((fndS s key).getD zLe).agg, .bool (fndS s key).isSome] := ⟨_, rfl⟩
  rw [← hR]
  unfold fndS at hR
  rw [← hC] at hR
  have HR9 := Lib.hid hR
  clear hC hR
  have HB : Hid (Below w.heap.size w w) := Lib.hid (Below.refl _ _)
  go_enter Try.func11, Try.ntmps11
  go_upto_region 1 with fail
  obtain ⟨N, hN⟩ : ∃ n0, n0 = w.heap.size := ⟨_, rfl⟩
  have HLON : Hid (w.heap.size ≤ N) := Lib.hid (by have := HB.out.size; omega)
  obtain ⟨W1, hA0⟩ : ∃ W0, W0 = w.alloc (.cells #[.int .i64 s.term, .int .i64 s.stamp, .int .i64 s.next, .slice ta tn tc, .slice la ln lc, .slice sa sn sc, .slice da dn dc] 27) := ⟨_, rfl⟩
  have hB : Below w.heap.size w W1 := by rw [hA0]; exact (Below.refl _ _).alloc (Nat.le_refl _) _
  have hS0 : W1.heap.size = N + 1 := by rw [hA0]; simp [← hN]
  have HR := Lib.hid (show Blk W1 N #[.int .i64 s.term, .int .i64 s.stamp, .int .i64 s.next, .slice ta tn tc, .slice la ln lc, .slice sa sn sc, .slice da dn dc] 27 by rw [hA0, hN]; exact blk_new _ _ _)
  replace HB := Lib.hid (HB.out.trans (hB.mono HB.out.size))
  replace HT := Lib.hid (HT0.out.below HB.out)
  replace HL := Lib.hid (HL0.out.below HB.out)
  replace HS := Lib.hid (HS0.out.below HB.out)
  replace HD := Lib.hid (HD0.out.below HB.out)
  clear hB
  obtain ⟨W2, hA1⟩ : ∃ W0, W0 = W1.alloc (.cells #[.int .i64 0, .int .i64 0, .int .i64 0, .int .i64 0, .int .i64 0, .int .i64 0, .int .i64 0] 31) := ⟨_, rfl⟩
  have hB : Below W1.heap.size W1 W2 := by rw [hA1]; exact (Below.refl _ _).alloc (Nat.le_refl _) _
  have hS1 : W2.heap.size = N + 2 := by rw [hA1]; simp [hS0]
  have HZ := Lib.hid (show Blk W2 (N + 1) #[.int .i64 0, .int .i64 0, .int .i64 0, .int .i64 0, .int .i64 0, .int .i64 0, .int .i64 0] 31 by rw [hA1, ← hS0]; exact blk_new _ _ _)
  replace HB := Lib.hid (HB.out.trans (hB.mono HB.out.size))
  replace HT := Lib.hid (HT0.out.below HB.out)
  replace HL := Lib.hid (HL0.out.below HB.out)
  replace HS := Lib.hid (HS0.out.below HB.out)
  replace HD := Lib.hid (HD0.out.below HB.out)
  replace HR := Lib.hid (HR.out.step hB)
  clear hB
  have HSN := Lib.hid hS1
  rw [← hN, ← hA0, ← hA1]
  clear hA1 hA0 hN hS0 hS1
  have qR0 : W2.cell? ⟨N, 0, none⟩ = some (.int .i64 s.term) := cell_at HR.out 0
  have qR1 : W2.cell? ⟨N, 1, none⟩ = some (.int .i64 s.stamp) := cell_at HR.out 1
  have qR2 : W2.cell? ⟨N, 2, none⟩ = some (.int .i64 s.next) := cell_at HR.out 2
  have qR3 : W2.cell? ⟨N, 3, none⟩ = some (.slice ta tn tc) := cell_at HR.out 3
  have qR4 : W2.cell? ⟨N, 4, none⟩ = some (.slice la ln lc) := cell_at HR.out 4
  have qR5 : W2.cell? ⟨N, 5, none⟩ = some (.slice sa sn sc) := cell_at HR.out 5
  have qR6 : W2.cell? ⟨N, 6, none⟩ = some (.slice da dn dc) := cell_at HR.out 6
  have qRz : ∀ j, W2.frozen? ⟨N, j, none⟩ = false := fun j => free_at HR.out j
  have qRl : N < W2.heap.size := HR.out.lt
  go_wp2_with fail
  go_at_call 16
  go_fit (HCK.out _ _ (HSV.out _ HT.out HL.out HS.out HD.out))
  rintro e W3 ⟨rfl, hB⟩
  clear qR0 qR1 qR2 qR3 qR4 qR5 qR6 qRz qRl
  replace HB := Lib.hid (HB.out.trans (hB.mono HB.out.size))
  replace HT := Lib.hid (HT0.out.below HB.out)
  replace HL := Lib.hid (HL0.out.below HB.out)
  replace HS := Lib.hid (HS0.out.below HB.out)
  replace HD := Lib.hid (HD0.out.below HB.out)
  replace HR := Lib.hid (HR.out.step hB)
  replace HZ := Lib.hid (HZ.out.step hB)
  clear hB
  cases C
  · skip
    obtain rfl := HR9.out
    have qZ0 : W3.cell? ⟨(N + 1), 0, none⟩ = some (.int .i64 0) := cell_at HZ.out 0
    have qZ1 : W3.cell? ⟨(N + 1), 1, none⟩ = some (.int .i64 0) := cell_at HZ.out 1
    have qZ2 : W3.cell? ⟨(N + 1), 2, none⟩ = some (.int .i64 0) := cell_at HZ.out 2
    have qZ3 : W3.cell? ⟨(N + 1), 3, none⟩ = some (.int .i64 0) := cell_at HZ.out 3
    have qZ4 : W3.cell? ⟨(N + 1), 4, none⟩ = some (.int .i64 0) := cell_at HZ.out 4
    have qZ5 : W3.cell? ⟨(N + 1), 5, none⟩ = some (.int .i64 0) := cell_at HZ.out 5
    have qZ6 : W3.cell? ⟨(N + 1), 6, none⟩ = some (.int .i64 0) := cell_at HZ.out 6
    have qZz : ∀ j, W3.frozen? ⟨(N + 1), j, none⟩ = false := fun j => free_at HZ.out j
    have qZl : (N + 1) < W3.heap.size := HZ.out.lt
    go_wp2_with fail
    clear qZ0 qZ1 qZ2 qZ3 qZ4 qZ5 qZ6 qZz qZl
    obtain ⟨LS, hLS⟩ : ∃ L : List Value, L = [.int .i64 0, .int .i64 0, .int .i64 0, .int .i64 0, .int .i64 0, .int .i64 0, .int .i64 0] := ⟨_, rfl⟩
    obtain ⟨W4, hWS⟩ : ∃ WS, WS = W3.setCells (N + 1) 0 LS := ⟨_, rfl⟩
    have hch := hWS
    rw [hLS] at hch
    simp only [World.setCells, Nat.zero_add, Nat.reduceAdd] at hch
    rw [← hch]
    clear hch
    have hkS := stC_blk HZ.out LS (by rw [hLS]; rfl)
    have hfS := stC_fr (N + 1) LS 0 W3
    rw [← hWS] at hkS hfS
    rw [hLS] at hkS
    replace HB := Lib.hid (HB.out.trans (hfS.below HB.out.size (by have := HLON.out; simp; try omega)))
    replace HT := Lib.hid (HT0.out.below HB.out)
    replace HL := Lib.hid (HL0.out.below HB.out)
    replace HS := Lib.hid (HS0.out.below HB.out)
    replace HD := Lib.hid (HD0.out.below HB.out)
    replace HR := Lib.hid (show Blk W4 N #[.int .i64 s.term, .int .i64 s.stamp, .int .i64 s.next, .slice ta tn tc, .slice la ln lc, .slice sa sn sc, .slice da dn dc] 27 from (hfS.block _ HR.out.lt (by simp; try omega)).trans HR.out)
    replace HZ := Lib.hid (show Blk W4 (N + 1) #[.int .i64 0, .int .i64 0, .int .i64 0, .int .i64 0, .int .i64 0, .int .i64 0, .int .i64 0] 31 from hkS)
    clear hWS hLS hkS hfS
    have qZ0 : W4.cell? ⟨(N + 1), 0, none⟩ = some (.int .i64 0) := cell_at HZ.out 0
    have qZ1 : W4.cell? ⟨(N + 1), 1, none⟩ = some (.int .i64 0) := cell_at HZ.out 1
    have qZ2 : W4.cell? ⟨(N + 1), 2, none⟩ = some (.int .i64 0) := cell_at HZ.out 2
    have qZ3 : W4.cell? ⟨(N + 1), 3, none⟩ = some (.int .i64 0) := cell_at HZ.out 3
    have qZ4 : W4.cell? ⟨(N + 1), 4, none⟩ = some (.int .i64 0) := cell_at HZ.out 4
    have qZ5 : W4.cell? ⟨(N + 1), 5, none⟩ = some (.int .i64 0) := cell_at HZ.out 5
    have qZ6 : W4.cell? ⟨(N + 1), 6, none⟩ = some (.int .i64 0) := cell_at HZ.out 6
    have qZz : ∀ j, W4.frozen? ⟨(N + 1), j, none⟩ = false := fun j => free_at HZ.out j
    have qZl : (N + 1) < W4.heap.size := HZ.out.lt
    exact bodyPost_ret (v := .tuple #[.agg #[.int .i64 0, .int .i64 0, .int .i64 0, .int .i64 0, .int .i64 0, .int .i64 0, .int .i64 0], .bool false]) (by simp [results, Try.results11, go_sem, qZ0, qZ1, qZ2, qZ3, qZ4, qZ5, qZ6]) rfl ⟨rfl, HB.out⟩
  · skip
    have qR0 : W3.cell? ⟨N, 0, none⟩ = some (.int .i64 s.term) := cell_at HR.out 0
    have qR1 : W3.cell? ⟨N, 1, none⟩ = some (.int .i64 s.stamp) := cell_at HR.out 1
    have qR2 : W3.cell? ⟨N, 2, none⟩ = some (.int .i64 s.next) := cell_at HR.out 2
    have qR3 : W3.cell? ⟨N, 3, none⟩ = some (.slice ta tn tc) := cell_at HR.out 3
    have qR4 : W3.cell? ⟨N, 4, none⟩ = some (.slice la ln lc) := cell_at HR.out 4
    have qR5 : W3.cell? ⟨N, 5, none⟩ = some (.slice sa sn sc) := cell_at HR.out 5
    have qR6 : W3.cell? ⟨N, 6, none⟩ = some (.slice da dn dc) := cell_at HR.out 6
    have qRz : ∀ j, W3.frozen? ⟨N, j, none⟩ = false := fun j => free_at HR.out j
    have qRl : N < W3.heap.size := HR.out.lt
    go_wp2_with fail
    go_at_call 29
    go_fit (HPL.out _ HL.out)
    rintro e W4 ⟨hc, hB⟩
    clear qR0 qR1 qR2 qR3 qR4 qR5 qR6 qRz qRl
    replace HB := Lib.hid (HB.out.trans (hB.mono HB.out.size))
    replace HT := Lib.hid (HT0.out.below HB.out)
    replace HL := Lib.hid (HL0.out.below HB.out)
    replace HS := Lib.hid (HS0.out.below HB.out)
    replace HD := Lib.hid (HD0.out.below HB.out)
    replace HR := Lib.hid (HR.out.step hB)
    replace HZ := Lib.hid (HZ.out.step hB)
    clear hB
    rcases hc with ⟨i, x, hi, hx, hxk, hfx, rfl⟩ | ⟨hfn, rfl⟩
    · skip
      obtain rfl : R = .tuple #[x.agg, .bool true] := by rw [HR9.out]; simp only [if_true, hfx]; rfl
      obtain ⟨g, o, y, ea, g1, g2, q0, q1, q2, q3, q4, q5, q6⟩ := HL.out.at i hi
      subst ea
      obtain rfl : x = y := Option.some.inj (hx.symm.trans g2)
      have b9 : (i < ln) = True := eq_true hi
      clear hx hxk hfx g2
      have qR0 : W4.cell? ⟨N, 0, none⟩ = some (.int .i64 s.term) := cell_at HR.out 0
      have qR1 : W4.cell? ⟨N, 1, none⟩ = some (.int .i64 s.stamp) := cell_at HR.out 1
      have qR2 : W4.cell? ⟨N, 2, none⟩ = some (.int .i64 s.next) := cell_at HR.out 2
      have qR3 : W4.cell? ⟨N, 3, none⟩ = some (.slice ta tn tc) := cell_at HR.out 3
      have qR4 : W4.cell? ⟨N, 4, none⟩ = some (.slice (some ⟨g, o, none⟩) ln lc) := cell_at HR.out 4
      have qR5 : W4.cell? ⟨N, 5, none⟩ = some (.slice sa sn sc) := cell_at HR.out 5
      have qR6 : W4.cell? ⟨N, 6, none⟩ = some (.slice da dn dc) := cell_at HR.out 6
      have qRz : ∀ j, W4.frozen? ⟨N, j, none⟩ = false := fun j => free_at HR.out j
      have qRl : N < W4.heap.size := HR.out.lt
      have qZ0 : W4.cell? ⟨(N + 1), 0, none⟩ = some (.int .i64 0) := cell_at HZ.out 0
      have qZ1 : W4.cell? ⟨(N + 1), 1, none⟩ = some (.int .i64 0) := cell_at HZ.out 1
      have qZ2 : W4.cell? ⟨(N + 1), 2, none⟩ = some (.int .i64 0) := cell_at HZ.out 2
      have qZ3 : W4.cell? ⟨(N + 1), 3, none⟩ = some (.int .i64 0) := cell_at HZ.out 3
      have qZ4 : W4.cell? ⟨(N + 1), 4, none⟩ = some (.int .i64 0) := cell_at HZ.out 4
      have qZ5 : W4.cell? ⟨(N + 1), 5, none⟩ = some (.int .i64 0) := cell_at HZ.out 5
      have qZ6 : W4.cell? ⟨(N + 1), 6, none⟩ = some (.int .i64 0) := cell_at HZ.out 6
      have qZz : ∀ j, W4.frozen? ⟨(N + 1), j, none⟩ = false := fun j => free_at HZ.out j
      have qZl : (N + 1) < W4.heap.size := HZ.out.lt
      go_wp2_with fail
      clear qR0 qR1 qR2 qR3 qR4 qR5 qR6 qRz qRl qZ0 qZ1 qZ2 qZ3 qZ4 qZ5 qZ6 qZz qZl
      obtain ⟨LS, hLS⟩ : ∃ L : List Value, L = [.int .i64 x.id, .int .i64 x.tenant, .int .i64 x.shaper, .int .i64 x.epoch, .int .i64 x.number, .int .i64 x.size, .int .i64 x.spent] := ⟨_, rfl⟩
      obtain ⟨W5, hWS⟩ : ∃ WS, WS = W4.setCells (N + 1) 0 LS := ⟨_, rfl⟩
      have hch := hWS
      rw [hLS] at hch
      simp only [World.setCells, Nat.zero_add, Nat.reduceAdd] at hch
      rw [← hch]
      clear hch
      have hkS := stC_blk HZ.out LS (by rw [hLS]; rfl)
      have hfS := stC_fr (N + 1) LS 0 W4
      rw [← hWS] at hkS hfS
      rw [hLS] at hkS
      replace HB := Lib.hid (HB.out.trans (hfS.below HB.out.size (by have := HLON.out; simp; try omega)))
      replace HT := Lib.hid (HT0.out.below HB.out)
      replace HL := Lib.hid (HL0.out.below HB.out)
      replace HS := Lib.hid (HS0.out.below HB.out)
      replace HD := Lib.hid (HD0.out.below HB.out)
      replace HR := Lib.hid (show Blk W5 N #[.int .i64 s.term, .int .i64 s.stamp, .int .i64 s.next, .slice ta tn tc, .slice (some ⟨g, o, none⟩) ln lc, .slice sa sn sc, .slice da dn dc] 27 from (hfS.block _ HR.out.lt (by simp; try omega)).trans HR.out)
      replace HZ := Lib.hid (show Blk W5 (N + 1) #[.int .i64 x.id, .int .i64 x.tenant, .int .i64 x.shaper, .int .i64 x.epoch, .int .i64 x.number, .int .i64 x.size, .int .i64 x.spent] 31 from hkS)
      clear hWS hLS hkS hfS
      have qZ0 : W5.cell? ⟨(N + 1), 0, none⟩ = some (.int .i64 x.id) := cell_at HZ.out 0
      have qZ1 : W5.cell? ⟨(N + 1), 1, none⟩ = some (.int .i64 x.tenant) := cell_at HZ.out 1
      have qZ2 : W5.cell? ⟨(N + 1), 2, none⟩ = some (.int .i64 x.shaper) := cell_at HZ.out 2
      have qZ3 : W5.cell? ⟨(N + 1), 3, none⟩ = some (.int .i64 x.epoch) := cell_at HZ.out 3
      have qZ4 : W5.cell? ⟨(N + 1), 4, none⟩ = some (.int .i64 x.number) := cell_at HZ.out 4
      have qZ5 : W5.cell? ⟨(N + 1), 5, none⟩ = some (.int .i64 x.size) := cell_at HZ.out 5
      have qZ6 : W5.cell? ⟨(N + 1), 6, none⟩ = some (.int .i64 x.spent) := cell_at HZ.out 6
      have qZz : ∀ j, W5.frozen? ⟨(N + 1), j, none⟩ = false := fun j => free_at HZ.out j
      have qZl : (N + 1) < W5.heap.size := HZ.out.lt
      exact bodyPost_ret (v := .tuple #[.agg #[.int .i64 x.id, .int .i64 x.tenant, .int .i64 x.shaper, .int .i64 x.epoch, .int .i64 x.number, .int .i64 x.size, .int .i64 x.spent], .bool true]) (by simp [results, Try.results11, go_sem, qZ0, qZ1, qZ2, qZ3, qZ4, qZ5, qZ6]) rfl ⟨rfl, HB.out⟩
    · skip
      obtain rfl : R = .tuple #[zLe.agg, .bool false] := by rw [HR9.out]; simp only [if_true, hfn]; rfl
      clear hfn
      have qR0 : W4.cell? ⟨N, 0, none⟩ = some (.int .i64 s.term) := cell_at HR.out 0
      have qR1 : W4.cell? ⟨N, 1, none⟩ = some (.int .i64 s.stamp) := cell_at HR.out 1
      have qR2 : W4.cell? ⟨N, 2, none⟩ = some (.int .i64 s.next) := cell_at HR.out 2
      have qR3 : W4.cell? ⟨N, 3, none⟩ = some (.slice ta tn tc) := cell_at HR.out 3
      have qR4 : W4.cell? ⟨N, 4, none⟩ = some (.slice la ln lc) := cell_at HR.out 4
      have qR5 : W4.cell? ⟨N, 5, none⟩ = some (.slice sa sn sc) := cell_at HR.out 5
      have qR6 : W4.cell? ⟨N, 6, none⟩ = some (.slice da dn dc) := cell_at HR.out 6
      have qRz : ∀ j, W4.frozen? ⟨N, j, none⟩ = false := fun j => free_at HR.out j
      have qRl : N < W4.heap.size := HR.out.lt
      have qZ0 : W4.cell? ⟨(N + 1), 0, none⟩ = some (.int .i64 0) := cell_at HZ.out 0
      have qZ1 : W4.cell? ⟨(N + 1), 1, none⟩ = some (.int .i64 0) := cell_at HZ.out 1
      have qZ2 : W4.cell? ⟨(N + 1), 2, none⟩ = some (.int .i64 0) := cell_at HZ.out 2
      have qZ3 : W4.cell? ⟨(N + 1), 3, none⟩ = some (.int .i64 0) := cell_at HZ.out 3
      have qZ4 : W4.cell? ⟨(N + 1), 4, none⟩ = some (.int .i64 0) := cell_at HZ.out 4
      have qZ5 : W4.cell? ⟨(N + 1), 5, none⟩ = some (.int .i64 0) := cell_at HZ.out 5
      have qZ6 : W4.cell? ⟨(N + 1), 6, none⟩ = some (.int .i64 0) := cell_at HZ.out 6
      have qZz : ∀ j, W4.frozen? ⟨(N + 1), j, none⟩ = false := fun j => free_at HZ.out j
      have qZl : (N + 1) < W4.heap.size := HZ.out.lt
      go_wp2_with fail
      clear qR0 qR1 qR2 qR3 qR4 qR5 qR6 qRz qRl qZ0 qZ1 qZ2 qZ3 qZ4 qZ5 qZ6 qZz qZl
      obtain ⟨LS, hLS⟩ : ∃ L : List Value, L = [.int .i64 0, .int .i64 0, .int .i64 0, .int .i64 0, .int .i64 0, .int .i64 0, .int .i64 0] := ⟨_, rfl⟩
      obtain ⟨W5, hWS⟩ : ∃ WS, WS = W4.setCells (N + 1) 0 LS := ⟨_, rfl⟩
      have hch := hWS
      rw [hLS] at hch
      simp only [World.setCells, Nat.zero_add, Nat.reduceAdd] at hch
      rw [← hch]
      clear hch
      have hkS := stC_blk HZ.out LS (by rw [hLS]; rfl)
      have hfS := stC_fr (N + 1) LS 0 W4
      rw [← hWS] at hkS hfS
      rw [hLS] at hkS
      replace HB := Lib.hid (HB.out.trans (hfS.below HB.out.size (by have := HLON.out; simp; try omega)))
      replace HT := Lib.hid (HT0.out.below HB.out)
      replace HL := Lib.hid (HL0.out.below HB.out)
      replace HS := Lib.hid (HS0.out.below HB.out)
      replace HD := Lib.hid (HD0.out.below HB.out)
      replace HR := Lib.hid (show Blk W5 N #[.int .i64 s.term, .int .i64 s.stamp, .int .i64 s.next, .slice ta tn tc, .slice la ln lc, .slice sa sn sc, .slice da dn dc] 27 from (hfS.block _ HR.out.lt (by simp; try omega)).trans HR.out)
      replace HZ := Lib.hid (show Blk W5 (N + 1) #[.int .i64 0, .int .i64 0, .int .i64 0, .int .i64 0, .int .i64 0, .int .i64 0, .int .i64 0] 31 from hkS)
      clear hWS hLS hkS hfS
      have qZ0 : W5.cell? ⟨(N + 1), 0, none⟩ = some (.int .i64 0) := cell_at HZ.out 0
      have qZ1 : W5.cell? ⟨(N + 1), 1, none⟩ = some (.int .i64 0) := cell_at HZ.out 1
      have qZ2 : W5.cell? ⟨(N + 1), 2, none⟩ = some (.int .i64 0) := cell_at HZ.out 2
      have qZ3 : W5.cell? ⟨(N + 1), 3, none⟩ = some (.int .i64 0) := cell_at HZ.out 3
      have qZ4 : W5.cell? ⟨(N + 1), 4, none⟩ = some (.int .i64 0) := cell_at HZ.out 4
      have qZ5 : W5.cell? ⟨(N + 1), 5, none⟩ = some (.int .i64 0) := cell_at HZ.out 5
      have qZ6 : W5.cell? ⟨(N + 1), 6, none⟩ = some (.int .i64 0) := cell_at HZ.out 6
      have qZz : ∀ j, W5.frozen? ⟨(N + 1), j, none⟩ = false := fun j => free_at HZ.out j
      have qZl : (N + 1) < W5.heap.size := HZ.out.lt
      exact bodyPost_ret (v := .tuple #[.agg #[.int .i64 0, .int .i64 0, .int .i64 0, .int .i64 0, .int .i64 0, .int .i64 0, .int .i64 0], .bool false]) (by simp [results, Try.results11, go_sem, qZ0, qZ1, qZ2, qZ3, qZ4, qZ5, qZ6]) rfl ⟨rfl, HB.out⟩
end Go.Proofs.Ytfgnjpdlchimpaa
namespace Go.Proofs.Ytfgnjpdlchimpaa
open Go.RowKit
set_option linter.unusedSimpArgs false
set_option linter.unusedVariables false

set_option maxRecDepth 100000 in
set_option maxHeartbeats 8000000 in
theorem swept_any (vt vl vs vd : Value) (s : StE) (w : World) (ht : TV w vt s.ts) (hl : LeV w vl s.ls) (hs : SeV w vs s.ss) (hd : DkV w vd s.ds) (hf : fewS s) (hz : sizeB s.ls) :
    Calls Try.prog 38 #[.agg #[.int .i64 s.term, .int .i64 s.stamp, .int .i64 s.next, vt, vl, vs, vd]] w fun e w' => ∃ vt', e = .returned (.agg #[.int .i64 s.term, .int .i64 s.stamp, .int .i64 s.next, vt', vl, vs, vd]) ∧ TV w' vt' (sweptS s).ts ∧ Below w.heap.size w w' := by
  have zl : ∀ u, (zeroValue 3).run Try.prog u = .ok (.int .i64 0) u := fun u => by kernel_rfl
  have HKW := Lib.hid (fun (X : World) (b : Nat) (G : Int → Int) (x : Int) (h : MapT X b (fun c : Int => Value.agg #[.int .i64 c]) G) => h.look key_whose Try.underlying63 (zl X) x)
  clear zl
  have HFEW := Lib.hid hf
  obtain ⟨f1, f2, f3, f4⟩ := hf
  obtain ⟨ta, tn, tc, rfl, Htn, tn1, tn2⟩ := ht.sh
  obtain ⟨la, ln, lc, rfl, Hln, ln1, ln2⟩ := hl.sh
  obtain ⟨sa, sn, sc, rfl, Hsn, sn1, sn2⟩ := hs.sh
  obtain ⟨da, dn, dc, rfl, Hdn, dn1, dn2⟩ := hd.sh
  have HT0 := Lib.hid ht
  have HL0 := Lib.hid hl
  have HS0 := Lib.hid hs
  have HD0 := Lib.hid hd
  have HT := Lib.hid ht
  have HL := Lib.hid hl
  have HS := Lib.hid hs
  have HD := Lib.hid hd
  clear ht hl hs hd
  rw [← Hln.out] at f2
  rw [← Htn.out] at f1
  have HSV : Hid (∀ W, TV W (.slice ta tn tc) s.ts → LeV W (.slice la ln lc) s.ls → SeV W (.slice sa sn sc) s.ss → DkV W (.slice da dn dc) s.ds → SV W (.agg #[.int .i64 s.term, .int .i64 s.stamp, .int .i64 s.next, .slice ta tn tc, .slice la ln lc, .slice sa sn sc, .slice da dn dc]) s) := Lib.hid (fun W h1 h2 h3 h4 => ⟨_, _, _, _, rfl, h1, h2, h3, h4⟩)
  have HZB := Lib.hid (fun t => outL_bd s.ls t hz)
  have HOF := Lib.hid (fun t : Int => show -9223372036854775808 ≤ outL s.ls t ∧ outL s.ls t ≤ 9223372036854775807 by have := HZB.out t; rw [← Hln.out] at this; omega)
  have HOU := Lib.hid (fun W v (h : SV W v s) => outs_any v s W h HFEW.out hz)
  clear hz
  have HB : Hid (Below w.heap.size w w) := Lib.hid (Below.refl _ _)
  go_enter Try.func38, Try.ntmps38
  go_upto_region 1 with fail
  obtain ⟨N, hN⟩ : ∃ n0, n0 = w.heap.size := ⟨_, rfl⟩
  have HLON : Hid (w.heap.size ≤ N) := Lib.hid (by have := HB.out.size; omega)
  obtain ⟨W1, hA0⟩ : ∃ W0, W0 = w.alloc (.cells #[.int .i64 s.term, .int .i64 s.stamp, .int .i64 s.next, .slice ta tn tc, .slice la ln lc, .slice sa sn sc, .slice da dn dc] 27) := ⟨_, rfl⟩
  have hB : Below w.heap.size w W1 := by rw [hA0]; exact (Below.refl _ _).alloc (Nat.le_refl _) _
  have hS0 : W1.heap.size = N + 1 := by rw [hA0]; simp [← hN]
  have HR := Lib.hid (show Blk W1 N #[.int .i64 s.term, .int .i64 s.stamp, .int .i64 s.next, .slice ta tn tc, .slice la ln lc, .slice sa sn sc, .slice da dn dc] 27 by rw [hA0, hN]; exact blk_new _ _ _)
  replace HB := Lib.hid (HB.out.trans (hB.mono HB.out.size))
  replace HT := Lib.hid (HT0.out.below HB.out)
  replace HL := Lib.hid (HL0.out.below HB.out)
  replace HS := Lib.hid (HS0.out.below HB.out)
  replace HD := Lib.hid (HD0.out.below HB.out)
  clear hB
  obtain ⟨W2, hA1⟩ : ∃ W0, W0 = W1.alloc (.cells #[.int .i64 0, .int .i64 0, .int .i64 0, .slice none 0 0, .slice none 0 0, .slice none 0 0, .slice none 0 0] 27) := ⟨_, rfl⟩
  have hB : Below W1.heap.size W1 W2 := by rw [hA1]; exact (Below.refl _ _).alloc (Nat.le_refl _) _
  have hS1 : W2.heap.size = N + 2 := by rw [hA1]; simp [hS0]
  have HZR := Lib.hid (show Blk W2 (N + 1) #[.int .i64 0, .int .i64 0, .int .i64 0, .slice none 0 0, .slice none 0 0, .slice none 0 0, .slice none 0 0] 27 by rw [hA1, ← hS0]; exact blk_new _ _ _)
  replace HB := Lib.hid (HB.out.trans (hB.mono HB.out.size))
  replace HT := Lib.hid (HT0.out.below HB.out)
  replace HL := Lib.hid (HL0.out.below HB.out)
  replace HS := Lib.hid (HS0.out.below HB.out)
  replace HD := Lib.hid (HD0.out.below HB.out)
  replace HR := Lib.hid (HR.out.step hB)
  clear hB
  have HSN := Lib.hid hS1
  rw [← hN, ← hA0, ← hA1]
  clear hA1 hA0 hN hS0 hS1
  have qR0 : W2.cell? ⟨N, 0, none⟩ = some (.int .i64 s.term) := cell_at HR.out 0
  have qR1 : W2.cell? ⟨N, 1, none⟩ = some (.int .i64 s.stamp) := cell_at HR.out 1
  have qR2 : W2.cell? ⟨N, 2, none⟩ = some (.int .i64 s.next) := cell_at HR.out 2
  have qR3 : W2.cell? ⟨N, 3, none⟩ = some (.slice ta tn tc) := cell_at HR.out 3
  have qR4 : W2.cell? ⟨N, 4, none⟩ = some (.slice la ln lc) := cell_at HR.out 4
  have qR5 : W2.cell? ⟨N, 5, none⟩ = some (.slice sa sn sc) := cell_at HR.out 5
  have qR6 : W2.cell? ⟨N, 6, none⟩ = some (.slice da dn dc) := cell_at HR.out 6
  have qRz : ∀ j, W2.frozen? ⟨N, j, none⟩ = false := fun j => free_at HR.out j
  have qRl : N < W2.heap.size := HR.out.lt
  go_wp2_with fail
  go_at_call 32
  go_fit (HOU.out _ _ (HSV.out _ HT.out HL.out HS.out HD.out))
  rintro e W3 ⟨b, rfl, hmt, hB⟩
  clear qR0 qR1 qR2 qR3 qR4 qR5 qR6 qRz qRl
  replace HB := Lib.hid (HB.out.trans (hB.mono HB.out.size))
  replace HT := Lib.hid (HT0.out.below HB.out)
  replace HL := Lib.hid (HL0.out.below HB.out)
  replace HS := Lib.hid (HS0.out.below HB.out)
  replace HD := Lib.hid (HD0.out.below HB.out)
  replace HR := Lib.hid (HR.out.step hB)
  replace HZR := Lib.hid (HZR.out.step hB)
  clear hB
  have HM := Lib.hid hmt
  clear hmt
  obtain ⟨M, hM⟩ : ∃ M, M = W3.heap.size := ⟨_, rfl⟩
  have HLOM : Hid (w.heap.size ≤ M) := Lib.hid (by rw [hM]; exact HB.out.size)
  have HFM0 : Hid (M ≤ W3.heap.size) := Lib.hid (by omega)
  have HMQ := Lib.hid hM
  clear hM
  have HMB : Hid (b < M) := Lib.hid (by rw [HMQ.out]; exact HM.out.lt)
  go_wp2_with fail
  go_loopw [4, 5] (fun o k wr => ∃ (i : Nat) (vo : Value) (ob : Option Nat), i ≤ 16 ∧ k = .int .i64 ((i : Int) + 1) ∧ o = vo ∧ InO M wr vo ob (outsL s.ls i) ∧ Below M W3 wr) (fun _ k _ => 17 - (intOf k).toNat)
  case atStart => exact ⟨0, _, _, Nat.zero_le _, rfl, rfl, ino_nil W3 M, Below.refl _ _⟩
  case round =>
    obtain ⟨i, vo, ob, hi, rfl, rfl, hor, hBM⟩ := hrel
    have HOR := Lib.hid hor
    have HBC := Lib.hid hBM
    have HFM : Hid (M ≤ wr.heap.size) := Lib.hid (Nat.le_trans HFM0.out hBM.size)
    have hB : Below W3.heap.size W3 wr := by rw [← HMQ.out]; exact hBM
    clear hor hBM
    replace HB := Lib.hid (HB.out.trans (hB.mono HB.out.size))
    replace HT := Lib.hid (HT0.out.below HB.out)
    replace HL := Lib.hid (HL0.out.below HB.out)
    replace HS := Lib.hid (HS0.out.below HB.out)
    replace HD := Lib.hid (HD0.out.below HB.out)
    replace HR := Lib.hid (HR.out.step hB)
    replace HZR := Lib.hid (HZR.out.step hB)
    replace HM := Lib.hid (HM.out.step hB)
    clear hB
    by_cases hlt : i < 16
    · skip
      have b9 : (((i : Int) + 1) ≤ 16) = True := eq_true (by omega)
      have ww5 : IntKind.i64.wrap (((i : Int) + 1) + 1) = ((i : Int) + 1) + 1 := IntWalk.i64_in _ (by omega)
      have HX := Lib.hid (HOF.out ((i : Int) + 1))
      have HSU := Lib.hid (outsL_succ s.ls i)
      have hlk0 := HKW.out wr b _ ((i : Int) + 1) HM.out
      obtain ⟨z, hz⟩ : ∃ z, z = outL s.ls ((i : Int) + 1) := ⟨_, rfl⟩
      rw [← hz] at HX HSU hlk0
      have HLK := Lib.hid hlk0
      clear hlk0
      clear hz
      have hlkA : (Instr.lookup 63 (.map (some b)) (.agg #[.int .i64 ((i : Int) + 1)]) false).run Try.prog wr = .ok (.int .i64 z) wr := HLK.out
      have hA : Below wr.heap.size wr (wr.alloc (.cells #[.int .i64 z] 3)) := (Below.refl _ _).alloc (Nat.le_refl _) _
      obtain ⟨v4, ob4, W4, hrun, hor, hBM0⟩ := in_app (ty := 45) (HOR.out.step hA) (inv_one (blk_new wr _ _) HX.out) (Nat.le_trans HFM.out hA.size) (by rw [outsL_len]; simp only [List.length_cons, List.length_nil]; omega)
      have hBM : Below M wr W4 := (hA.mono HFM.out).trans hBM0
      have HRUN := Lib.hid hrun
      clear hA hBM0
      go_wp2_with (at_builtin; refine Lib.wpList_append_run _ rfl (.tmp 12) (.tmp 17) 45 45 rfl _ _ rfl rfl _ _ HRUN.out ?_)
      replace HBC := Lib.hid (HBC.out.trans hBM)
      replace HFM := Lib.hid (Nat.le_trans HFM.out hBM.size)
      clear HOR
      have HOR := Lib.hid hor
      clear HRUN hrun hor hBM
      replace HOR := Lib.hid (by have h := HOR.out; rw [← HSU.out] at h; exact h)
      go_wp2_with fail
      go_roundw
      case rel => exact ⟨i + 1, _, _, by omega, by go_num, rfl, HOR.out, HBC.out⟩
      case measure => first | (simp [intOf]; done) | (simp [intOf]; omega)
    · skip
      obtain rfl : i = 16 := by omega
      have b9 : ((((16 : Nat) : Int) + 1) ≤ 16) = False := eq_false (by omega)
      have hv := HOR.out.v
      obtain ⟨oa, on, oc, rfl, Hon, on1, on2⟩ := hv.sh
      obtain ⟨ib, io, hI⟩ := hv.ints
      rw [outsL_len] at Hon
      obtain rfl : on = 16 := Hon.out
      have HSP := Lib.hid (psweep_any (.slice ta tn tc) s.ts oa 16 oc ib io _ wr HT.out hI (by rw [← Htn.out]; exact f1))
      rw [swL_outs] at HSP
      clear hv hI
      have qR0 : wr.cell? ⟨N, 0, none⟩ = some (.int .i64 s.term) := cell_at HR.out 0
      have qR1 : wr.cell? ⟨N, 1, none⟩ = some (.int .i64 s.stamp) := cell_at HR.out 1
      have qR2 : wr.cell? ⟨N, 2, none⟩ = some (.int .i64 s.next) := cell_at HR.out 2
      have qR3 : wr.cell? ⟨N, 3, none⟩ = some (.slice ta tn tc) := cell_at HR.out 3
      have qR4 : wr.cell? ⟨N, 4, none⟩ = some (.slice la ln lc) := cell_at HR.out 4
      have qR5 : wr.cell? ⟨N, 5, none⟩ = some (.slice sa sn sc) := cell_at HR.out 5
      have qR6 : wr.cell? ⟨N, 6, none⟩ = some (.slice da dn dc) := cell_at HR.out 6
      have qRz : ∀ j, wr.frozen? ⟨N, j, none⟩ = false := fun j => free_at HR.out j
      have qRl : N < wr.heap.size := HR.out.lt
      go_wp2_with fail
      go_at_call 70
      go_fit HSP.out
      rintro e W4 ⟨vq, rfl, hvq, hB⟩
      clear qR0 qR1 qR2 qR3 qR4 qR5 qR6 qRz qRl
      replace HB := Lib.hid (HB.out.trans (hB.mono HB.out.size))
      replace HT := Lib.hid (HT0.out.below HB.out)
      replace HL := Lib.hid (HL0.out.below HB.out)
      replace HS := Lib.hid (HS0.out.below HB.out)
      replace HD := Lib.hid (HD0.out.below HB.out)
      replace HR := Lib.hid (HR.out.step hB)
      replace HZR := Lib.hid (HZR.out.step hB)
      clear hB
      obtain ⟨b1, m1, k1, rfl, Hb1, x1, y1⟩ := hvq.sh
      have HQ := Lib.hid hvq
      have HQ0 := Lib.hid hvq
      clear hvq
      have qR0 : W4.cell? ⟨N, 0, none⟩ = some (.int .i64 s.term) := cell_at HR.out 0
      have qR1 : W4.cell? ⟨N, 1, none⟩ = some (.int .i64 s.stamp) := cell_at HR.out 1
      have qR2 : W4.cell? ⟨N, 2, none⟩ = some (.int .i64 s.next) := cell_at HR.out 2
      have qR3 : W4.cell? ⟨N, 3, none⟩ = some (.slice ta tn tc) := cell_at HR.out 3
      have qR4 : W4.cell? ⟨N, 4, none⟩ = some (.slice la ln lc) := cell_at HR.out 4
      have qR5 : W4.cell? ⟨N, 5, none⟩ = some (.slice sa sn sc) := cell_at HR.out 5
      have qR6 : W4.cell? ⟨N, 6, none⟩ = some (.slice da dn dc) := cell_at HR.out 6
      have qRz : ∀ j, W4.frozen? ⟨N, j, none⟩ = false := fun j => free_at HR.out j
      have qRl : N < W4.heap.size := HR.out.lt
      have qZR0 : W4.cell? ⟨(N + 1), 0, none⟩ = some (.int .i64 0) := cell_at HZR.out 0
      have qZR1 : W4.cell? ⟨(N + 1), 1, none⟩ = some (.int .i64 0) := cell_at HZR.out 1
      have qZR2 : W4.cell? ⟨(N + 1), 2, none⟩ = some (.int .i64 0) := cell_at HZR.out 2
      have qZR3 : W4.cell? ⟨(N + 1), 3, none⟩ = some (.slice none 0 0) := cell_at HZR.out 3
      have qZR4 : W4.cell? ⟨(N + 1), 4, none⟩ = some (.slice none 0 0) := cell_at HZR.out 4
      have qZR5 : W4.cell? ⟨(N + 1), 5, none⟩ = some (.slice none 0 0) := cell_at HZR.out 5
      have qZR6 : W4.cell? ⟨(N + 1), 6, none⟩ = some (.slice none 0 0) := cell_at HZR.out 6
      have qZRz : ∀ j, W4.frozen? ⟨(N + 1), j, none⟩ = false := fun j => free_at HZR.out j
      have qZRl : (N + 1) < W4.heap.size := HZR.out.lt
      go_upto_region 8 with fail
      clear qR0 qR1 qR2 qR3 qR4 qR5 qR6 qRz qRl qZR0 qZR1 qZR2 qZR3 qZR4 qZR5 qZR6 qZRz qZRl
      obtain ⟨W5, hWS⟩ : ∃ WS, WS = W4.setCell ⟨N, 3, none⟩ (.slice b1 m1 k1) := ⟨_, rfl⟩
      rw [← hWS]
      have hfS : Fr [N] W4 W5 := by rw [hWS]; exact (Fr.refl _ _).setCell _ (.inl (by simp)) _
      have hkS : Blk W5 N #[.int .i64 s.term, .int .i64 s.stamp, .int .i64 s.next, .slice b1 m1 k1, .slice la ln lc, .slice sa sn sc, .slice da dn dc] 27 := by rw [hWS]; exact HR.out.set 3 _
      replace HB := Lib.hid (HB.out.trans (hfS.below HB.out.size (by have := HLON.out; simp; try omega)))
      replace HT := Lib.hid (HT0.out.below HB.out)
      replace HL := Lib.hid (HL0.out.below HB.out)
      replace HS := Lib.hid (HS0.out.below HB.out)
      replace HD := Lib.hid (HD0.out.below HB.out)
      replace HZR := Lib.hid (show Blk W5 (N + 1) #[.int .i64 0, .int .i64 0, .int .i64 0, .slice none 0 0, .slice none 0 0, .slice none 0 0, .slice none 0 0] 27 from (hfS.block _ HZR.out.lt (by simp; try omega)).trans HZR.out)
      replace HQ := Lib.hid (HQ.out.fr HR.out hfS)
      replace HR := Lib.hid (show Blk W5 N #[.int .i64 s.term, .int .i64 s.stamp, .int .i64 s.next, .slice b1 m1 k1, .slice la ln lc, .slice sa sn sc, .slice da dn dc] 27 from hkS)
      clear hWS hfS hkS
      have qR0 : W5.cell? ⟨N, 0, none⟩ = some (.int .i64 s.term) := cell_at HR.out 0
      have qR1 : W5.cell? ⟨N, 1, none⟩ = some (.int .i64 s.stamp) := cell_at HR.out 1
      have qR2 : W5.cell? ⟨N, 2, none⟩ = some (.int .i64 s.next) := cell_at HR.out 2
      have qR3 : W5.cell? ⟨N, 3, none⟩ = some (.slice b1 m1 k1) := cell_at HR.out 3
      have qR4 : W5.cell? ⟨N, 4, none⟩ = some (.slice la ln lc) := cell_at HR.out 4
      have qR5 : W5.cell? ⟨N, 5, none⟩ = some (.slice sa sn sc) := cell_at HR.out 5
      have qR6 : W5.cell? ⟨N, 6, none⟩ = some (.slice da dn dc) := cell_at HR.out 6
      have qRz : ∀ j, W5.frozen? ⟨N, j, none⟩ = false := fun j => free_at HR.out j
      have qRl : N < W5.heap.size := HR.out.lt
      have qZR0 : W5.cell? ⟨(N + 1), 0, none⟩ = some (.int .i64 0) := cell_at HZR.out 0
      have qZR1 : W5.cell? ⟨(N + 1), 1, none⟩ = some (.int .i64 0) := cell_at HZR.out 1
      have qZR2 : W5.cell? ⟨(N + 1), 2, none⟩ = some (.int .i64 0) := cell_at HZR.out 2
      have qZR3 : W5.cell? ⟨(N + 1), 3, none⟩ = some (.slice none 0 0) := cell_at HZR.out 3
      have qZR4 : W5.cell? ⟨(N + 1), 4, none⟩ = some (.slice none 0 0) := cell_at HZR.out 4
      have qZR5 : W5.cell? ⟨(N + 1), 5, none⟩ = some (.slice none 0 0) := cell_at HZR.out 5
      have qZR6 : W5.cell? ⟨(N + 1), 6, none⟩ = some (.slice none 0 0) := cell_at HZR.out 6
      have qZRz : ∀ j, W5.frozen? ⟨(N + 1), j, none⟩ = false := fun j => free_at HZR.out j
      have qZRl : (N + 1) < W5.heap.size := HZR.out.lt
      go_wp2_with fail
      clear qR0 qR1 qR2 qR3 qR4 qR5 qR6 qRz qRl qZR0 qZR1 qZR2 qZR3 qZR4 qZR5 qZR6 qZRz qZRl
      obtain ⟨LS, hLS⟩ : ∃ L : List Value, L = [.int .i64 s.term, .int .i64 s.stamp, .int .i64 s.next, .slice b1 m1 k1, .slice la ln lc, .slice sa sn sc, .slice da dn dc] := ⟨_, rfl⟩
      obtain ⟨W6, hWS⟩ : ∃ WS, WS = W5.setCells (N + 1) 0 LS := ⟨_, rfl⟩
      have hch := hWS
      rw [hLS] at hch
      simp only [World.setCells, Nat.zero_add, Nat.reduceAdd] at hch
      rw [← hch]
      clear hch
      have hkS := stC_blk HZR.out LS (by rw [hLS]; rfl)
      have hfS := stC_fr (N + 1) LS 0 W5
      rw [← hWS] at hkS hfS
      rw [hLS] at hkS
      replace HB := Lib.hid (HB.out.trans (hfS.below HB.out.size (by have := HLON.out; simp; try omega)))
      replace HT := Lib.hid (HT0.out.below HB.out)
      replace HL := Lib.hid (HL0.out.below HB.out)
      replace HS := Lib.hid (HS0.out.below HB.out)
      replace HD := Lib.hid (HD0.out.below HB.out)
      replace HR := Lib.hid (show Blk W6 N #[.int .i64 s.term, .int .i64 s.stamp, .int .i64 s.next, .slice b1 m1 k1, .slice la ln lc, .slice sa sn sc, .slice da dn dc] 27 from (hfS.block _ HR.out.lt (by simp; try omega)).trans HR.out)
      replace HQ := Lib.hid (HQ.out.fr HZR.out hfS)
      replace HZR := Lib.hid (show Blk W6 (N + 1) #[.int .i64 s.term, .int .i64 s.stamp, .int .i64 s.next, .slice b1 m1 k1, .slice la ln lc, .slice sa sn sc, .slice da dn dc] 27 from hkS)
      clear hWS hLS hkS hfS
      have qZR0 : W6.cell? ⟨(N + 1), 0, none⟩ = some (.int .i64 s.term) := cell_at HZR.out 0
      have qZR1 : W6.cell? ⟨(N + 1), 1, none⟩ = some (.int .i64 s.stamp) := cell_at HZR.out 1
      have qZR2 : W6.cell? ⟨(N + 1), 2, none⟩ = some (.int .i64 s.next) := cell_at HZR.out 2
      have qZR3 : W6.cell? ⟨(N + 1), 3, none⟩ = some (.slice b1 m1 k1) := cell_at HZR.out 3
      have qZR4 : W6.cell? ⟨(N + 1), 4, none⟩ = some (.slice la ln lc) := cell_at HZR.out 4
      have qZR5 : W6.cell? ⟨(N + 1), 5, none⟩ = some (.slice sa sn sc) := cell_at HZR.out 5
      have qZR6 : W6.cell? ⟨(N + 1), 6, none⟩ = some (.slice da dn dc) := cell_at HZR.out 6
      have qZRz : ∀ j, W6.frozen? ⟨(N + 1), j, none⟩ = false := fun j => free_at HZR.out j
      have qZRl : (N + 1) < W6.heap.size := HZR.out.lt
      exact bodyPost_ret (v := .agg #[.int .i64 s.term, .int .i64 s.stamp, .int .i64 s.next, .slice b1 m1 k1, .slice la ln lc, .slice sa sn sc, .slice da dn dc]) (by simp [results, Try.results38, go_sem, qZR0, qZR1, qZR2, qZR3, qZR4, qZR5, qZR6]) rfl ⟨_, rfl, HQ.out, HB.out⟩
end Go.Proofs.Ytfgnjpdlchimpaa
namespace Go.Proofs.Ytfgnjpdlchimpaa
open Go.RowKit
set_option linter.unusedSimpArgs false
set_option linter.unusedVariables false

set_option maxRecDepth 100000 in
set_option maxHeartbeats 4000000 in
theorem credit1_d (u : FrameMode) (vt vl vs vd : Value) (s : StE) (N : Nat) (w : World) (hk : Blk w N #[.int .i64 s.term, .int .i64 s.stamp, .int .i64 s.next, vt, vl, vs, vd] 27) (ht : TV w vt s.ts) (hl : LeV w vl s.ls) (hs : SeV w vs s.ss) (hd : DkV w vd s.ds) (hf : fewS s) (hz : sizeB s.ls) :
    CallsD Try.prog 37 #[.pointer (some ⟨N, 0, none⟩)] u w fun e u' w' => u' = u ∧ ∃ vt', e = .returned (.tuple #[]) ∧ Blk w' N #[.int .i64 s.term, .int .i64 s.stamp, .int .i64 s.next, vt', vl, vs, vd] 27 ∧ TV w' vt' (sweptS s).ts ∧ Fr [N] w w' := by
  obtain ⟨ta, tn, tc, rfl, Htn, tn1, tn2⟩ := ht.sh
  obtain ⟨la, ln, lc, rfl, Hln, ln1, ln2⟩ := hl.sh
  obtain ⟨sa, sn, sc, rfl, Hsn, sn1, sn2⟩ := hs.sh
  obtain ⟨da, dn, dc, rfl, Hdn, dn1, dn2⟩ := hd.sh
  have HSW := Lib.hid (swept_any _ _ _ _ s w ht hl hs hd hf hz)
  have HR := Lib.hid hk
  clear ht hl hs hd hf hz hk
  have HB : Hid (Below w.heap.size w w) := Lib.hid (Below.refl _ _)
  have HLON : Hid (w.heap.size ≤ w.heap.size) := Lib.hid (Nat.le_refl _)
  go_enter_d Try.func37, Try.ntmps37
  have qR0 : w.cell? ⟨N, 0, none⟩ = some (.int .i64 s.term) := cell_at HR.out 0
  have qR1 : w.cell? ⟨N, 1, none⟩ = some (.int .i64 s.stamp) := cell_at HR.out 1
  have qR2 : w.cell? ⟨N, 2, none⟩ = some (.int .i64 s.next) := cell_at HR.out 2
  have qR3 : w.cell? ⟨N, 3, none⟩ = some (.slice ta tn tc) := cell_at HR.out 3
  have qR4 : w.cell? ⟨N, 4, none⟩ = some (.slice la ln lc) := cell_at HR.out 4
  have qR5 : w.cell? ⟨N, 5, none⟩ = some (.slice sa sn sc) := cell_at HR.out 5
  have qR6 : w.cell? ⟨N, 6, none⟩ = some (.slice da dn dc) := cell_at HR.out 6
  have qRz : ∀ j, w.frozen? ⟨N, j, none⟩ = false := fun j => free_at HR.out j
  have qRl : N < w.heap.size := HR.out.lt
  go_wp2_with fail
  go_at_call 38
  go_fit HSW.out
  rintro e W1 ⟨vq, rfl, hvq, hB⟩
  clear qR0 qR1 qR2 qR3 qR4 qR5 qR6 qRz qRl
  replace HB := Lib.hid (HB.out.trans (hB.mono HB.out.size))
  replace HR := Lib.hid (HR.out.step hB)
  clear hB
  obtain ⟨b1, m1, k1, rfl, Hb1, x1, y1⟩ := hvq.sh
  have HQ := Lib.hid hvq
  clear hvq
  have HFR : Hid (Fr [N] w W1) := Lib.hid ((Fr.of_below HB.out).mono (by simp))
  have qR0 : W1.cell? ⟨N, 0, none⟩ = some (.int .i64 s.term) := cell_at HR.out 0
  have qR1 : W1.cell? ⟨N, 1, none⟩ = some (.int .i64 s.stamp) := cell_at HR.out 1
  have qR2 : W1.cell? ⟨N, 2, none⟩ = some (.int .i64 s.next) := cell_at HR.out 2
  have qR3 : W1.cell? ⟨N, 3, none⟩ = some (.slice ta tn tc) := cell_at HR.out 3
  have qR4 : W1.cell? ⟨N, 4, none⟩ = some (.slice la ln lc) := cell_at HR.out 4
  have qR5 : W1.cell? ⟨N, 5, none⟩ = some (.slice sa sn sc) := cell_at HR.out 5
  have qR6 : W1.cell? ⟨N, 6, none⟩ = some (.slice da dn dc) := cell_at HR.out 6
  have qRz : ∀ j, W1.frozen? ⟨N, j, none⟩ = false := fun j => free_at HR.out j
  have qRl : N < W1.heap.size := HR.out.lt
  go_wp2_with fail
  clear qR0 qR1 qR2 qR3 qR4 qR5 qR6 qRz qRl
  obtain ⟨LS, hLS⟩ : ∃ L : List Value, L = [.int .i64 s.term, .int .i64 s.stamp, .int .i64 s.next, .slice b1 m1 k1, .slice la ln lc, .slice sa sn sc, .slice da dn dc] := ⟨_, rfl⟩
  obtain ⟨W2, hWS⟩ : ∃ WS, WS = W1.setCells N 0 LS := ⟨_, rfl⟩
  have hch := hWS
  rw [hLS] at hch
  simp only [World.setCells, Nat.zero_add, Nat.reduceAdd] at hch
  rw [← hch]
  clear hch
  have hkS := stC_blk HR.out LS (by rw [hLS]; rfl)
  have hfS := stC_fr N LS 0 W1
  rw [← hWS] at hkS hfS
  rw [hLS] at hkS
  replace HQ := Lib.hid (HQ.out.fr HR.out hfS)
  replace HR := Lib.hid hkS
  replace HFR := Lib.hid (HFR.out.trans hfS (by simp))
  clear hWS hLS hkS hfS
  go_end0
  exact ⟨_, rfl, HR.out, HQ.out, HFR.out⟩
set_option maxRecDepth 100000 in
set_option maxHeartbeats 4000000 in
theorem grant1_d (u : FrameMode) (vt vl vs vd : Value) (s : StE) (N : Nat) (w : World) (hk : Blk w N #[.int .i64 s.term, .int .i64 s.stamp, .int .i64 s.next, vt, vl, vs, vd] 27) (ht : TV w vt s.ts) (hl : LeV w vl s.ls) (hs : SeV w vs s.ss) (hd : DkV w vd s.ds) (hf : fewS s) (hz : sizeB s.ls) :
    CallsD Try.prog 43 #[.pointer (some ⟨N, 0, none⟩)] u w fun e u' w' => u' = u ∧ ∃ vt', e = .returned (.tuple #[]) ∧ Blk w' N #[.int .i64 s.term, .int .i64 s.stamp, .int .i64 s.next, vt', vl, vs, vd] 27 ∧ TV w' vt' (sweptS s).ts ∧ Fr [N] w w' := by
  obtain ⟨ta, tn, tc, rfl, Htn, tn1, tn2⟩ := ht.sh
  obtain ⟨la, ln, lc, rfl, Hln, ln1, ln2⟩ := hl.sh
  obtain ⟨sa, sn, sc, rfl, Hsn, sn1, sn2⟩ := hs.sh
  obtain ⟨da, dn, dc, rfl, Hdn, dn1, dn2⟩ := hd.sh
  have HSW := Lib.hid (swept_any _ _ _ _ s w ht hl hs hd hf hz)
  have HR := Lib.hid hk
  clear ht hl hs hd hf hz hk
  have HB : Hid (Below w.heap.size w w) := Lib.hid (Below.refl _ _)
  have HLON : Hid (w.heap.size ≤ w.heap.size) := Lib.hid (Nat.le_refl _)
  go_enter_d Try.func43, Try.ntmps43
  have qR0 : w.cell? ⟨N, 0, none⟩ = some (.int .i64 s.term) := cell_at HR.out 0
  have qR1 : w.cell? ⟨N, 1, none⟩ = some (.int .i64 s.stamp) := cell_at HR.out 1
  have qR2 : w.cell? ⟨N, 2, none⟩ = some (.int .i64 s.next) := cell_at HR.out 2
  have qR3 : w.cell? ⟨N, 3, none⟩ = some (.slice ta tn tc) := cell_at HR.out 3
  have qR4 : w.cell? ⟨N, 4, none⟩ = some (.slice la ln lc) := cell_at HR.out 4
  have qR5 : w.cell? ⟨N, 5, none⟩ = some (.slice sa sn sc) := cell_at HR.out 5
  have qR6 : w.cell? ⟨N, 6, none⟩ = some (.slice da dn dc) := cell_at HR.out 6
  have qRz : ∀ j, w.frozen? ⟨N, j, none⟩ = false := fun j => free_at HR.out j
  have qRl : N < w.heap.size := HR.out.lt
  go_wp2_with fail
  go_at_call 38
  go_fit HSW.out
  rintro e W1 ⟨vq, rfl, hvq, hB⟩
  clear qR0 qR1 qR2 qR3 qR4 qR5 qR6 qRz qRl
  replace HB := Lib.hid (HB.out.trans (hB.mono HB.out.size))
  replace HR := Lib.hid (HR.out.step hB)
  clear hB
  obtain ⟨b1, m1, k1, rfl, Hb1, x1, y1⟩ := hvq.sh
  have HQ := Lib.hid hvq
  clear hvq
  have HFR : Hid (Fr [N] w W1) := Lib.hid ((Fr.of_below HB.out).mono (by simp))
  have qR0 : W1.cell? ⟨N, 0, none⟩ = some (.int .i64 s.term) := cell_at HR.out 0
  have qR1 : W1.cell? ⟨N, 1, none⟩ = some (.int .i64 s.stamp) := cell_at HR.out 1
  have qR2 : W1.cell? ⟨N, 2, none⟩ = some (.int .i64 s.next) := cell_at HR.out 2
  have qR3 : W1.cell? ⟨N, 3, none⟩ = some (.slice ta tn tc) := cell_at HR.out 3
  have qR4 : W1.cell? ⟨N, 4, none⟩ = some (.slice la ln lc) := cell_at HR.out 4
  have qR5 : W1.cell? ⟨N, 5, none⟩ = some (.slice sa sn sc) := cell_at HR.out 5
  have qR6 : W1.cell? ⟨N, 6, none⟩ = some (.slice da dn dc) := cell_at HR.out 6
  have qRz : ∀ j, W1.frozen? ⟨N, j, none⟩ = false := fun j => free_at HR.out j
  have qRl : N < W1.heap.size := HR.out.lt
  go_wp2_with fail
  clear qR0 qR1 qR2 qR3 qR4 qR5 qR6 qRz qRl
  obtain ⟨LS, hLS⟩ : ∃ L : List Value, L = [.int .i64 s.term, .int .i64 s.stamp, .int .i64 s.next, .slice b1 m1 k1, .slice la ln lc, .slice sa sn sc, .slice da dn dc] := ⟨_, rfl⟩
  obtain ⟨W2, hWS⟩ : ∃ WS, WS = W1.setCells N 0 LS := ⟨_, rfl⟩
  have hch := hWS
  rw [hLS] at hch
  simp only [World.setCells, Nat.zero_add, Nat.reduceAdd] at hch
  rw [← hch]
  clear hch
  have hkS := stC_blk HR.out LS (by rw [hLS]; rfl)
  have hfS := stC_fr N LS 0 W1
  rw [← hWS] at hkS hfS
  rw [hLS] at hkS
  replace HQ := Lib.hid (HQ.out.fr HR.out hfS)
  replace HR := Lib.hid hkS
  replace HFR := Lib.hid (HFR.out.trans hfS (by simp))
  clear hWS hLS hkS hfS
  go_end0
  exact ⟨_, rfl, HR.out, HQ.out, HFR.out⟩
set_option maxRecDepth 100000 in
set_option maxHeartbeats 4000000 in
theorem report1_d (u : FrameMode) (vt vl vs vd : Value) (s : StE) (N : Nat) (w : World) (hk : Blk w N #[.int .i64 s.term, .int .i64 s.stamp, .int .i64 s.next, vt, vl, vs, vd] 27) (ht : TV w vt s.ts) (hl : LeV w vl s.ls) (hs : SeV w vs s.ss) (hd : DkV w vd s.ds) (hf : fewS s) (hz : sizeB s.ls) :
    CallsD Try.prog 52 #[.pointer (some ⟨N, 0, none⟩)] u w fun e u' w' => u' = u ∧ ∃ vt', e = .returned (.tuple #[]) ∧ Blk w' N #[.int .i64 s.term, .int .i64 s.stamp, .int .i64 s.next, vt', vl, vs, vd] 27 ∧ TV w' vt' (sweptS s).ts ∧ Fr [N] w w' := by
  obtain ⟨ta, tn, tc, rfl, Htn, tn1, tn2⟩ := ht.sh
  obtain ⟨la, ln, lc, rfl, Hln, ln1, ln2⟩ := hl.sh
  obtain ⟨sa, sn, sc, rfl, Hsn, sn1, sn2⟩ := hs.sh
  obtain ⟨da, dn, dc, rfl, Hdn, dn1, dn2⟩ := hd.sh
  have HSW := Lib.hid (swept_any _ _ _ _ s w ht hl hs hd hf hz)
  have HR := Lib.hid hk
  clear ht hl hs hd hf hz hk
  have HB : Hid (Below w.heap.size w w) := Lib.hid (Below.refl _ _)
  have HLON : Hid (w.heap.size ≤ w.heap.size) := Lib.hid (Nat.le_refl _)
  go_enter_d Try.func52, Try.ntmps52
  have qR0 : w.cell? ⟨N, 0, none⟩ = some (.int .i64 s.term) := cell_at HR.out 0
  have qR1 : w.cell? ⟨N, 1, none⟩ = some (.int .i64 s.stamp) := cell_at HR.out 1
  have qR2 : w.cell? ⟨N, 2, none⟩ = some (.int .i64 s.next) := cell_at HR.out 2
  have qR3 : w.cell? ⟨N, 3, none⟩ = some (.slice ta tn tc) := cell_at HR.out 3
  have qR4 : w.cell? ⟨N, 4, none⟩ = some (.slice la ln lc) := cell_at HR.out 4
  have qR5 : w.cell? ⟨N, 5, none⟩ = some (.slice sa sn sc) := cell_at HR.out 5
  have qR6 : w.cell? ⟨N, 6, none⟩ = some (.slice da dn dc) := cell_at HR.out 6
  have qRz : ∀ j, w.frozen? ⟨N, j, none⟩ = false := fun j => free_at HR.out j
  have qRl : N < w.heap.size := HR.out.lt
  go_wp2_with fail
  go_at_call 38
  go_fit HSW.out
  rintro e W1 ⟨vq, rfl, hvq, hB⟩
  clear qR0 qR1 qR2 qR3 qR4 qR5 qR6 qRz qRl
  replace HB := Lib.hid (HB.out.trans (hB.mono HB.out.size))
  replace HR := Lib.hid (HR.out.step hB)
  clear hB
  obtain ⟨b1, m1, k1, rfl, Hb1, x1, y1⟩ := hvq.sh
  have HQ := Lib.hid hvq
  clear hvq
  have HFR : Hid (Fr [N] w W1) := Lib.hid ((Fr.of_below HB.out).mono (by simp))
  have qR0 : W1.cell? ⟨N, 0, none⟩ = some (.int .i64 s.term) := cell_at HR.out 0
  have qR1 : W1.cell? ⟨N, 1, none⟩ = some (.int .i64 s.stamp) := cell_at HR.out 1
  have qR2 : W1.cell? ⟨N, 2, none⟩ = some (.int .i64 s.next) := cell_at HR.out 2
  have qR3 : W1.cell? ⟨N, 3, none⟩ = some (.slice ta tn tc) := cell_at HR.out 3
  have qR4 : W1.cell? ⟨N, 4, none⟩ = some (.slice la ln lc) := cell_at HR.out 4
  have qR5 : W1.cell? ⟨N, 5, none⟩ = some (.slice sa sn sc) := cell_at HR.out 5
  have qR6 : W1.cell? ⟨N, 6, none⟩ = some (.slice da dn dc) := cell_at HR.out 6
  have qRz : ∀ j, W1.frozen? ⟨N, j, none⟩ = false := fun j => free_at HR.out j
  have qRl : N < W1.heap.size := HR.out.lt
  go_wp2_with fail
  clear qR0 qR1 qR2 qR3 qR4 qR5 qR6 qRz qRl
  obtain ⟨LS, hLS⟩ : ∃ L : List Value, L = [.int .i64 s.term, .int .i64 s.stamp, .int .i64 s.next, .slice b1 m1 k1, .slice la ln lc, .slice sa sn sc, .slice da dn dc] := ⟨_, rfl⟩
  obtain ⟨W2, hWS⟩ : ∃ WS, WS = W1.setCells N 0 LS := ⟨_, rfl⟩
  have hch := hWS
  rw [hLS] at hch
  simp only [World.setCells, Nat.zero_add, Nat.reduceAdd] at hch
  rw [← hch]
  clear hch
  have hkS := stC_blk HR.out LS (by rw [hLS]; rfl)
  have hfS := stC_fr N LS 0 W1
  rw [← hWS] at hkS hfS
  rw [hLS] at hkS
  replace HQ := Lib.hid (HQ.out.fr HR.out hfS)
  replace HR := Lib.hid hkS
  replace HFR := Lib.hid (HFR.out.trans hfS (by simp))
  clear hWS hLS hkS hfS
  go_end0
  exact ⟨_, rfl, HR.out, HQ.out, HFR.out⟩
set_option maxRecDepth 100000 in
set_option maxHeartbeats 4000000 in
theorem expire1_d (u : FrameMode) (vt vl vs vd : Value) (s : StE) (N : Nat) (w : World) (hk : Blk w N #[.int .i64 s.term, .int .i64 s.stamp, .int .i64 s.next, vt, vl, vs, vd] 27) (ht : TV w vt s.ts) (hl : LeV w vl s.ls) (hs : SeV w vs s.ss) (hd : DkV w vd s.ds) (hf : fewS s) (hz : sizeB s.ls) :
    CallsD Try.prog 58 #[.pointer (some ⟨N, 0, none⟩)] u w fun e u' w' => u' = u ∧ ∃ vt', e = .returned (.tuple #[]) ∧ Blk w' N #[.int .i64 s.term, .int .i64 s.stamp, .int .i64 s.next, vt', vl, vs, vd] 27 ∧ TV w' vt' (sweptS s).ts ∧ Fr [N] w w' := by
  obtain ⟨ta, tn, tc, rfl, Htn, tn1, tn2⟩ := ht.sh
  obtain ⟨la, ln, lc, rfl, Hln, ln1, ln2⟩ := hl.sh
  obtain ⟨sa, sn, sc, rfl, Hsn, sn1, sn2⟩ := hs.sh
  obtain ⟨da, dn, dc, rfl, Hdn, dn1, dn2⟩ := hd.sh
  have HSW := Lib.hid (swept_any _ _ _ _ s w ht hl hs hd hf hz)
  have HR := Lib.hid hk
  clear ht hl hs hd hf hz hk
  have HB : Hid (Below w.heap.size w w) := Lib.hid (Below.refl _ _)
  have HLON : Hid (w.heap.size ≤ w.heap.size) := Lib.hid (Nat.le_refl _)
  go_enter_d Try.func58, Try.ntmps58
  have qR0 : w.cell? ⟨N, 0, none⟩ = some (.int .i64 s.term) := cell_at HR.out 0
  have qR1 : w.cell? ⟨N, 1, none⟩ = some (.int .i64 s.stamp) := cell_at HR.out 1
  have qR2 : w.cell? ⟨N, 2, none⟩ = some (.int .i64 s.next) := cell_at HR.out 2
  have qR3 : w.cell? ⟨N, 3, none⟩ = some (.slice ta tn tc) := cell_at HR.out 3
  have qR4 : w.cell? ⟨N, 4, none⟩ = some (.slice la ln lc) := cell_at HR.out 4
  have qR5 : w.cell? ⟨N, 5, none⟩ = some (.slice sa sn sc) := cell_at HR.out 5
  have qR6 : w.cell? ⟨N, 6, none⟩ = some (.slice da dn dc) := cell_at HR.out 6
  have qRz : ∀ j, w.frozen? ⟨N, j, none⟩ = false := fun j => free_at HR.out j
  have qRl : N < w.heap.size := HR.out.lt
  go_wp2_with fail
  go_at_call 38
  go_fit HSW.out
  rintro e W1 ⟨vq, rfl, hvq, hB⟩
  clear qR0 qR1 qR2 qR3 qR4 qR5 qR6 qRz qRl
  replace HB := Lib.hid (HB.out.trans (hB.mono HB.out.size))
  replace HR := Lib.hid (HR.out.step hB)
  clear hB
  obtain ⟨b1, m1, k1, rfl, Hb1, x1, y1⟩ := hvq.sh
  have HQ := Lib.hid hvq
  clear hvq
  have HFR : Hid (Fr [N] w W1) := Lib.hid ((Fr.of_below HB.out).mono (by simp))
  have qR0 : W1.cell? ⟨N, 0, none⟩ = some (.int .i64 s.term) := cell_at HR.out 0
  have qR1 : W1.cell? ⟨N, 1, none⟩ = some (.int .i64 s.stamp) := cell_at HR.out 1
  have qR2 : W1.cell? ⟨N, 2, none⟩ = some (.int .i64 s.next) := cell_at HR.out 2
  have qR3 : W1.cell? ⟨N, 3, none⟩ = some (.slice ta tn tc) := cell_at HR.out 3
  have qR4 : W1.cell? ⟨N, 4, none⟩ = some (.slice la ln lc) := cell_at HR.out 4
  have qR5 : W1.cell? ⟨N, 5, none⟩ = some (.slice sa sn sc) := cell_at HR.out 5
  have qR6 : W1.cell? ⟨N, 6, none⟩ = some (.slice da dn dc) := cell_at HR.out 6
  have qRz : ∀ j, W1.frozen? ⟨N, j, none⟩ = false := fun j => free_at HR.out j
  have qRl : N < W1.heap.size := HR.out.lt
  go_wp2_with fail
  clear qR0 qR1 qR2 qR3 qR4 qR5 qR6 qRz qRl
  obtain ⟨LS, hLS⟩ : ∃ L : List Value, L = [.int .i64 s.term, .int .i64 s.stamp, .int .i64 s.next, .slice b1 m1 k1, .slice la ln lc, .slice sa sn sc, .slice da dn dc] := ⟨_, rfl⟩
  obtain ⟨W2, hWS⟩ : ∃ WS, WS = W1.setCells N 0 LS := ⟨_, rfl⟩
  have hch := hWS
  rw [hLS] at hch
  simp only [World.setCells, Nat.zero_add, Nat.reduceAdd] at hch
  rw [← hch]
  clear hch
  have hkS := stC_blk HR.out LS (by rw [hLS]; rfl)
  have hfS := stC_fr N LS 0 W1
  rw [← hWS] at hkS hfS
  rw [hLS] at hkS
  replace HQ := Lib.hid (HQ.out.fr HR.out hfS)
  replace HR := Lib.hid hkS
  replace HFR := Lib.hid (HFR.out.trans hfS (by simp))
  clear hWS hLS hkS hfS
  go_end0
  exact ⟨_, rfl, HR.out, HQ.out, HFR.out⟩
end Go.Proofs.Ytfgnjpdlchimpaa
namespace Go.Proofs.Ytfgnjpdlchimpaa
open Go.RowKit
set_option linter.unusedSimpArgs false
set_option linter.unusedVariables false

theorem idx_contains {l : List Int} {key : Int} {i : Nat} (hf : ∀ j, j < i → gI l j ≠ key) (hc : (i < l.length ∧ gI l i = key) ∨ i = l.length) : (if i < l.length then true else false) = l.contains key := by
  rcases hc with ⟨hi, he⟩ | rfl
  · rw [if_pos hi]
    symm
    rw [List.contains_iff_mem]
    have := List.mem_of_getElem? (gI_lt hi)
    rwa [he] at this
  · rw [if_neg (Nat.lt_irrefl _)]
    symm
    refine Bool.eq_false_iff.2 fun h => ?_
    rw [List.contains_iff_mem] at h
    obtain ⟨k, hk, he⟩ := List.mem_iff_getElem.1 h
    refine hf k hk ?_
    have := gI_lt hk
    rw [List.getElem?_eq_getElem hk, he] at this
    exact (Option.some.inj this).symm
set_option maxRecDepth 100000 in
set_option maxHeartbeats 8000000 in
theorem index_any (v : Value) (l : List Int) (key : Int) (w : World) (h : InV w v l) :
    Calls Try.prog 86 #[v, .int .i64 key] w fun e w' => (∃ i : Nat, i ≤ l.length ∧ (∀ j, j < i → gI l j ≠ key) ∧ ((i < l.length ∧ gI l i = key ∧ e = .returned (.int .i64 (i : Nat))) ∨ (i = l.length ∧ e = .returned (.int .i64 (-1))))) ∧ Below w.heap.size w w' := by
  obtain ⟨a, n, cap, rfl, HN, m1, m2⟩ := h.sh
  have H1 := Lib.hid h
  rw [← HN.out]
  clear h
  go_enter Try.func86, Try.ntmps86
  go_wp2_with fail
  go_loopw [5, 8] (fun _ i wr => ∃ k : Nat, k ≤ n ∧ i = .int .i64 k ∧ (∀ j, j < k → gI l j ≠ key) ∧ Below w.heap.size w wr) (fun _ i _ => n - (intOf i).toNat)
  case atStart => exact ⟨0, Nat.zero_le _, rfl, (fun j hj => by omega), Below.refl _ _⟩
  case round =>
    obtain ⟨k, hk8, rfl, hf, hB⟩ := hrel
    have HB := Lib.hid hB
    have HF := Lib.hid hf
    clear hf hB
    by_cases hlt : k < n
    · obtain ⟨g, o, x, ea, g1, g2, c0, c1, c2⟩ := (H1.out.below HB.out).at k hlt
      subst ea
      have HX : Hid (x = gI l k) := Lib.hid (by have := g2; rw [gI_lt (by rw [← HN.out]; exact hlt)] at this; exact (Option.some.inj this).symm)
      have b9 : (k < n) = True := eq_true hlt
      have ww5 : IntKind.i64.wrap ((k : Int) + 1) = (k : Int) + 1 := IntWalk.i64_in _ (by omega)
      clear g2
      cases hd : (key == x)
      · have hne : (key = x) = False := eq_false (by simpa using hd)
        have HNE := Lib.hid hne
        go_wp2_with fail
        go_roundw
        case rel => exact ⟨k + 1, by omega, by go_num, (fun j hj => by
          rcases Nat.lt_or_ge j k with h | h
          · exact HF.out j h
          · obtain rfl : j = k := by omega
            rw [← HX.out]; intro e; rw [e] at HNE; simpa using HNE.out), HB.out⟩
        case measure => first | (simp [intOf]; done) | (simp [intOf]; omega)
      · have he : (key = x) = True := eq_true (by simpa using hd)
        have HE := Lib.hid he
        go_wp2_with fail
        go_ret
        exact ⟨⟨k, by omega, HF.out, .inl ⟨hlt, by rw [← HX.out]; exact (of_eq_true HE.out).symm, rfl⟩⟩, HB.out⟩
    · obtain rfl : k = n := by omega
      go_wp2_with fail
      go_ret
      exact ⟨⟨k, Nat.le_refl _, HF.out, .inr ⟨rfl, rfl⟩⟩, HB.out⟩
set_option maxRecDepth 100000 in
set_option maxHeartbeats 4000000 in
theorem contains_any (v : Value) (l : List Int) (key : Int) (w : World) (h : InV w v l) :
    Calls Try.prog 60 #[v, .int .i64 key] w fun e w' => e = .returned (.bool (l.contains key)) ∧ Below w.heap.size w w' := by
  have HIX := Lib.hid (index_any v l key w h)
  clear h
  go_enter Try.func60, Try.ntmps60
  go_wp2_with fail
  go_at_call 86
  go_fit HIX.out
  rintro e W1 ⟨⟨i, hi, hf, hc⟩, hB⟩
  have HF := Lib.hid hf
  have HB := Lib.hid hB
  clear hf hB
  rcases hc with ⟨hin, hk, rfl⟩ | ⟨hin, rfl⟩
  · have HR := Lib.hid (idx_contains HF.out (.inl ⟨hin, hk⟩))
    have HIN := Lib.hid hin
    clear hk hin
    go_wp2_with fail
    go_ret
    exact ⟨by rw [← HR.out, if_pos HIN.out]; exact ret_bool (by simp), HB.out⟩
  · have HR := Lib.hid (idx_contains HF.out (.inr hin))
    have HIN : Hid (¬ i < l.length) := Lib.hid (by omega)
    clear hin
    go_wp2_with fail
    go_ret
    exact ⟨by rw [← HR.out, if_neg HIN.out]; exact ret_bool (by simp), HB.out⟩
theorem ent_rp2 : EntK 54 := fun _ _ => by kernel_rfl
theorem ent_ex2 : EntK 59 := fun _ _ => by kernel_rfl
set_option maxRecDepth 100000 in
set_option maxHeartbeats 2000000 in
theorem rp2_any (x : LeE) (key : Int) (N : Nat) (w : World) (h : w.cell? ⟨N, 0, none⟩ = some (.int .i64 key)) (hl : N < w.heap.size) : Calls Try.prog 54 #[.agg #[.int .i64 x.id, .int .i64 x.tenant, .int .i64 x.shaper, .int .i64 x.epoch, .int .i64 x.number, .int .i64 x.size, .int .i64 x.spent], .pointer (some ⟨N, 0, none⟩)] w fun e w' => e = .returned (.bool (decide (x.id = key))) ∧ Below w.heap.size w w' := by
  obtain ⟨M, hM⟩ : ∃ M, M = w.heap.size := ⟨_, rfl⟩
  obtain ⟨W1, hW1⟩ : ∃ W1, W1 = w.alloc (.cells #[.int .i64 x.id, .int .i64 x.tenant, .int .i64 x.shaper, .int .i64 x.epoch, .int .i64 x.number, .int .i64 x.size, .int .i64 x.spent] 31) := ⟨_, rfl⟩
  have hB1 : Below w.heap.size w W1 := by rw [hW1]; exact (Below.refl _ _).alloc (Nat.le_refl _) _
  have hk : Blk W1 M #[.int .i64 x.id, .int .i64 x.tenant, .int .i64 x.shaper, .int .i64 x.epoch, .int .i64 x.number, .int .i64 x.size, .int .i64 x.spent] 31 := by rw [hW1, hM]; exact blk_new _ _ _
  have HB1 := Lib.hid hB1
  have c0 : W1.cell? ⟨M, 0, none⟩ = some (.int .i64 x.id) := cell_at hk 0
  have k0 : W1.cell? ⟨N, 0, none⟩ = some (.int .i64 key) := (hB1.cell (p := ⟨N, 0, none⟩) hl).trans h
  have hz := hk.lt
  go_enter Try.func54, Try.ntmps54
  go_upto_region 1 with fail
  rw [← hW1, ← hM]
  clear hW1 hM hB1 hk
  cases hd : (x.id == key)
  · have hne : ¬ x.id = key := by simpa using hd
    go_wp2_with fail
    go_ret
    exact ⟨ret_bool (by simp [hne]), by first | exact HB1.out | exact HB1.out.drew⟩
  · have he : x.id = key := by simpa using hd
    go_wp2_with fail
    go_ret
    exact ⟨ret_bool (by simp [he]), by first | exact HB1.out | exact HB1.out.drew⟩
set_option maxRecDepth 100000 in
set_option maxHeartbeats 4000000 in
theorem ex2_any (x : LeE) (v : Value) (l : List Int) (N : Nat) (w : World) (h : w.cell? ⟨N, 0, none⟩ = some v) (hl : N < w.heap.size) (hi : InV w v l) : Calls Try.prog 59 #[.agg #[.int .i64 x.id, .int .i64 x.tenant, .int .i64 x.shaper, .int .i64 x.epoch, .int .i64 x.number, .int .i64 x.size, .int .i64 x.spent], .pointer (some ⟨N, 0, none⟩)] w fun e w' => e = .returned (.bool (l.contains x.id)) ∧ Below w.heap.size w w' := by
  obtain ⟨a, n, cap, rfl, HN, m1, m2⟩ := hi.sh
  obtain ⟨M, hM⟩ : ∃ M, M = w.heap.size := ⟨_, rfl⟩
  obtain ⟨W1, hW1⟩ : ∃ W1, W1 = w.alloc (.cells #[.int .i64 x.id, .int .i64 x.tenant, .int .i64 x.shaper, .int .i64 x.epoch, .int .i64 x.number, .int .i64 x.size, .int .i64 x.spent] 31) := ⟨_, rfl⟩
  have hB1 : Below w.heap.size w W1 := by rw [hW1]; exact (Below.refl _ _).alloc (Nat.le_refl _) _
  have hk : Blk W1 M #[.int .i64 x.id, .int .i64 x.tenant, .int .i64 x.shaper, .int .i64 x.epoch, .int .i64 x.number, .int .i64 x.size, .int .i64 x.spent] 31 := by rw [hW1, hM]; exact blk_new _ _ _
  have HB1 := Lib.hid hB1
  have c0 : W1.cell? ⟨M, 0, none⟩ = some (.int .i64 x.id) := cell_at hk 0
  have k0 : W1.cell? ⟨N, 0, none⟩ = some (.slice a n cap) := (hB1.cell (p := ⟨N, 0, none⟩) hl).trans h
  have hz := hk.lt
  have HCN := Lib.hid (contains_any _ l x.id W1 (hi.below hB1))
  obtain ⟨R, hR⟩ : ∃ R, R = l.contains x.id := ⟨_, rfl⟩
  rw [← hR] at HCN ⊢
  clear hR
  go_enter Try.func59, Try.ntmps59
  go_upto_region 1 with fail
  rw [← hW1, ← hM]
  clear hW1 hM hB1 hk hi
  go_wp2_with fail
  go_at_call 60
  go_fit HCN.out
  rintro e W2 ⟨rfl, hB⟩
  have HB2 := Lib.hid (HB1.out.trans (hB.mono HB1.out.size))
  clear hB
  go_wp2_with fail
  go_ret
  exact ⟨rfl, HB2.out⟩
end Go.Proofs.Ytfgnjpdlchimpaa
namespace Go.Proofs.Ytfgnjpdlchimpaa
open Go.RowKit
set_option linter.unusedSimpArgs false
set_option linter.unusedVariables false

theorem filter_take {L : List LeE} (p : LeE → Bool) {i : Nat} {x : LeE} (h : L[i]? = some x) : (L.take (i + 1)).filter p = (L.take i).filter p ++ (if p x then [x] else []) := by
  rw [List.take_add_one, h, List.filter_append]
  congr 1
  simp only [Option.toList_some, List.filter_cons, List.filter_nil]
theorem filter_le (L : List LeE) (p : LeE → Bool) (i : Nat) : ((L.take i).filter p).length ≤ L.length := Nat.le_trans (List.length_filter_le _ _) (by rw [List.length_take]; omega)
set_option maxRecDepth 100000 in
set_option maxHeartbeats 8000000 in
theorem lwithout_any (kf : FuncId) (cs : Array Value) (d : LeE → Bool) (v : Value) (L : List LeE) (w0 w : World) (h : LeV w v L) (hk : EntK kf) (CS : ClL kf cs d L w0) (h0 : Below w0.heap.size w0 w) (hn : L.length ≤ 200) :
    Calls Try.prog 53 #[v, .func (.func kf) #[] cs] w fun e w' => ∃ v', e = .returned v' ∧ LeV w' v' (L.filter fun x => !d x) ∧ Below w.heap.size w w' := by
  obtain ⟨la, ln, lc, rfl, Hln, ln1, ln2⟩ := h.sh
  have HOK := Lib.hid h.ok
  have HL0 := Lib.hid h
  have HL := Lib.hid h
  have H0 := Lib.hid h0
  have HCS := Lib.hid CS
  rw [← Hln.out] at hn
  clear h CS h0
  have hk2 := hk
  unfold EntK at hk2
  have HB : Hid (Below w.heap.size w w) := Lib.hid (Below.refl _ _)
  obtain ⟨M, hM⟩ : ∃ M, M = w.heap.size := ⟨_, rfl⟩
  have HLOM : Hid (w.heap.size ≤ M) := Lib.hid (by omega)
  have HFM0 : Hid (M ≤ w.heap.size) := Lib.hid (by omega)
  clear hM
  go_enter Try.func53, Try.ntmps53
  go_wp2_with fail
  go_loopw [5, 7, 10] (fun o _ k wr => ∃ (i : Nat) (vo : Value) (ob : Option Nat), i ≤ ln ∧ k = .int .i64 i ∧ o = vo ∧ LeO M wr vo ob ((L.take i).filter fun x => !d x) ∧ Below w.heap.size w wr) (fun _ _ k _ => ln - (intOf k).toNat)
  case atStart => exact ⟨0, _, _, Nat.zero_le _, rfl, rfl, by simpa using leo_nil w M, Below.refl _ _⟩
  case round =>
    obtain ⟨i, vo, ob, hi, rfl, rfl, hor, hB⟩ := hrel
    have HOR := Lib.hid hor
    replace HB := Lib.hid hB
    replace HL := Lib.hid (HL0.out.below hB)
    have HFM : Hid (M ≤ wr.heap.size) := Lib.hid (Nat.le_trans HFM0.out hB.size)
    clear hor hB
    by_cases hlt : i < ln
    · skip
      have b9 : (i < ln) = True := eq_true hlt
      obtain ⟨g, o, x, ea, g1, g2, q0, q1, q2, q3, q4, q5, q6⟩ := HL.out.at i hlt
      subst ea
      have ww5 : IntKind.i64.wrap ((i : Int) + 1) = (i : Int) + 1 := IntWalk.i64_in _ (by omega)
      have HFT := Lib.hid (filter_take (fun x => !d x) g2)
      have HXO := Lib.hid (HOK.out x (List.mem_of_getElem? g2))
      have HCX := Lib.hid (fun W h => HCS.out x W (List.mem_of_getElem? g2) h)
      obtain ⟨D, hD⟩ : ∃ D, D = d x := ⟨_, rfl⟩
      rw [← hD] at HFT HCX
      clear g2 hD
      go_upto_region 5 with fail
      obtain ⟨E9, hE9⟩ : ∃ n0, n0 = wr.heap.size := ⟨_, rfl⟩
      have HLOE9 : Hid (w.heap.size ≤ E9) := Lib.hid (by have := HB.out.size; omega)
      obtain ⟨W1, hA0⟩ : ∃ W0, W0 = wr.alloc (.cells #[.int .i64 x.id, .int .i64 x.tenant, .int .i64 x.shaper, .int .i64 x.epoch, .int .i64 x.number, .int .i64 x.size, .int .i64 x.spent] 31) := ⟨_, rfl⟩
      have hB : Below wr.heap.size wr W1 := by rw [hA0]; exact (Below.refl _ _).alloc (Nat.le_refl _) _
      have hS0 : W1.heap.size = E9 + 1 := by rw [hA0]; simp [← hE9]
      have HE := Lib.hid (show Blk W1 E9 #[.int .i64 x.id, .int .i64 x.tenant, .int .i64 x.shaper, .int .i64 x.epoch, .int .i64 x.number, .int .i64 x.size, .int .i64 x.spent] 31 by rw [hA0, hE9]; exact blk_new _ _ _)
      replace HB := Lib.hid (HB.out.trans (hB.mono HB.out.size))
      replace HL := Lib.hid (HL0.out.below HB.out)
      replace HOR := Lib.hid (HOR.out.step hB)
      replace HFM := Lib.hid (Nat.le_trans HFM.out hB.size)
      clear hB
      have HSE9 := Lib.hid hS0
      rw [← hE9, ← hA0]
      clear hA0 hE9 hS0
      clear q0 q1 q2 q3 q4 q5 q6
      have HC := Lib.hid (HCX.out W1 (H0.out.trans (HB.out.mono H0.out.size)))
      cases D
      · skip
        have qE0 : W1.cell? ⟨E9, 0, none⟩ = some (.int .i64 x.id) := cell_at HE.out 0
        have qE1 : W1.cell? ⟨E9, 1, none⟩ = some (.int .i64 x.tenant) := cell_at HE.out 1
        have qE2 : W1.cell? ⟨E9, 2, none⟩ = some (.int .i64 x.shaper) := cell_at HE.out 2
        have qE3 : W1.cell? ⟨E9, 3, none⟩ = some (.int .i64 x.epoch) := cell_at HE.out 3
        have qE4 : W1.cell? ⟨E9, 4, none⟩ = some (.int .i64 x.number) := cell_at HE.out 4
        have qE5 : W1.cell? ⟨E9, 5, none⟩ = some (.int .i64 x.size) := cell_at HE.out 5
        have qE6 : W1.cell? ⟨E9, 6, none⟩ = some (.int .i64 x.spent) := cell_at HE.out 6
        have qEz : ∀ j, W1.frozen? ⟨E9, j, none⟩ = false := fun j => free_at HE.out j
        have qEl : E9 < W1.heap.size := HE.out.lt
        go_upto_region 6 with (refine Calls.mono HC.out ?_; rintro e W2 ⟨rfl, hB⟩)
        clear qE0 qE1 qE2 qE3 qE4 qE5 qE6 qEz qEl
        replace HB := Lib.hid (HB.out.trans (hB.mono HB.out.size))
        replace HL := Lib.hid (HL0.out.below HB.out)
        replace HOR := Lib.hid (HOR.out.step hB)
        replace HFM := Lib.hid (Nat.le_trans HFM.out hB.size)
        replace HE := Lib.hid (HE.out.step hB)
        clear hB HC
        have qE0 : W2.cell? ⟨E9, 0, none⟩ = some (.int .i64 x.id) := cell_at HE.out 0
        have qE1 : W2.cell? ⟨E9, 1, none⟩ = some (.int .i64 x.tenant) := cell_at HE.out 1
        have qE2 : W2.cell? ⟨E9, 2, none⟩ = some (.int .i64 x.shaper) := cell_at HE.out 2
        have qE3 : W2.cell? ⟨E9, 3, none⟩ = some (.int .i64 x.epoch) := cell_at HE.out 3
        have qE4 : W2.cell? ⟨E9, 4, none⟩ = some (.int .i64 x.number) := cell_at HE.out 4
        have qE5 : W2.cell? ⟨E9, 5, none⟩ = some (.int .i64 x.size) := cell_at HE.out 5
        have qE6 : W2.cell? ⟨E9, 6, none⟩ = some (.int .i64 x.spent) := cell_at HE.out 6
        have qEz : ∀ j, W2.frozen? ⟨E9, j, none⟩ = false := fun j => free_at HE.out j
        have qEl : E9 < W2.heap.size := HE.out.lt
        have hA : Below W2.heap.size W2 (W2.alloc (.cells #[.int .i64 x.id, .int .i64 x.tenant, .int .i64 x.shaper, .int .i64 x.epoch, .int .i64 x.number, .int .i64 x.size, .int .i64 x.spent] 31)) := (Below.refl _ _).alloc (Nat.le_refl _) _
        obtain ⟨v3, ob3, W3, hrun, hor, hBM0⟩ := le_app (ty := 23) (HOR.out.step hA) (lev_one (blk_new W2 _ _) HXO.out) (Nat.le_trans HFM.out hA.size) (by have := filter_le L (fun x => !d x) i; rw [← Hln.out] at this; simp only [List.length_cons, List.length_nil]; omega)
        have hBM : Below M W2 W3 := (hA.mono HFM.out).trans hBM0
        have HRUN := Lib.hid hrun
        clear hA hBM0
        go_upto_region 7 with (at_builtin; refine Lib.wpList_append_run _ rfl (.tmp 18) (.tmp 20) 23 23 rfl _ _ rfl rfl _ _ HRUN.out ?_)
        clear qE0 qE1 qE2 qE3 qE4 qE5 qE6 qEz qEl
        replace HB := Lib.hid (HB.out.trans (hBM.mono (by have hq := HLOM.out; omega)))
        replace HFM := Lib.hid (Nat.le_trans HFM.out hBM.size)
        clear HOR
        have HOR := Lib.hid hor
        clear HRUN hrun hor hBM
        replace HFT : Hid (_ = _ ++ [x]) := HFT
        replace HOR := Lib.hid (by have h := HOR.out; rw [← HFT.out] at h; exact h)
        go_wp2_with fail
        go_roundw
        case rel => exact ⟨i + 1, _, _, by omega, by go_num, rfl, HOR.out, HB.out⟩
        case measure => first | (simp [intOf]; done) | (simp [intOf]; omega)
      · skip
        have qE0 : W1.cell? ⟨E9, 0, none⟩ = some (.int .i64 x.id) := cell_at HE.out 0
        have qE1 : W1.cell? ⟨E9, 1, none⟩ = some (.int .i64 x.tenant) := cell_at HE.out 1
        have qE2 : W1.cell? ⟨E9, 2, none⟩ = some (.int .i64 x.shaper) := cell_at HE.out 2
        have qE3 : W1.cell? ⟨E9, 3, none⟩ = some (.int .i64 x.epoch) := cell_at HE.out 3
        have qE4 : W1.cell? ⟨E9, 4, none⟩ = some (.int .i64 x.number) := cell_at HE.out 4
        have qE5 : W1.cell? ⟨E9, 5, none⟩ = some (.int .i64 x.size) := cell_at HE.out 5
        have qE6 : W1.cell? ⟨E9, 6, none⟩ = some (.int .i64 x.spent) := cell_at HE.out 6
        have qEz : ∀ j, W1.frozen? ⟨E9, j, none⟩ = false := fun j => free_at HE.out j
        have qEl : E9 < W1.heap.size := HE.out.lt
        go_upto_region 7 with (refine Calls.mono HC.out ?_; rintro e W2 ⟨rfl, hB⟩)
        clear qE0 qE1 qE2 qE3 qE4 qE5 qE6 qEz qEl
        replace HB := Lib.hid (HB.out.trans (hB.mono HB.out.size))
        replace HL := Lib.hid (HL0.out.below HB.out)
        replace HOR := Lib.hid (HOR.out.step hB)
        replace HFM := Lib.hid (Nat.le_trans HFM.out hB.size)
        replace HE := Lib.hid (HE.out.step hB)
        clear hB HC
        replace HFT : Hid (_ = _ ++ []) := HFT
        replace HOR := Lib.hid (by have h := HOR.out; rw [← List.append_nil ((L.take i).filter fun x => !d x), ← HFT.out] at h; exact h)
        go_wp2_with fail
        go_roundw
        case rel => exact ⟨i + 1, _, _, by omega, by go_num, rfl, HOR.out, HB.out⟩
        case measure => first | (simp [intOf]; done) | (simp [intOf]; omega)
    · skip
      obtain rfl : ln = i := by omega
      have b9 : (ln < ln) = False := eq_false (by omega)
      have hl := HOR.out.v
      rw [Hln.out, List.take_length] at hl
      have HLL := Lib.hid hl
      clear hl
      go_wp2_with fail
      go_ret
      exact ⟨_, rfl, HLL.out, HB.out⟩
end Go.Proofs.Ytfgnjpdlchimpaa
namespace Go.Proofs.Ytfgnjpdlchimpaa
open Go.RowKit
set_option linter.unusedSimpArgs false
set_option linter.unusedVariables false

set_option maxRecDepth 100000 in
set_option maxHeartbeats 8000000 in
theorem twinO_any (v : Value) (s : StE) (w : World) (h : SV w v s) (hf : fewS s) :
    Calls Try.prog 36 #[v] w fun e w' => ∃ v', e = .returned v' ∧ SVO w.heap.size w' v' s ∧ Below w.heap.size w w' := by
  obtain ⟨f1, f2, f3, f4⟩ := hf
  obtain ⟨vt, vl, vs, vd, rfl, ht, hl, hs, hd⟩ := h
  obtain ⟨ta, tn, tc, rfl, Htn, tn1, tn2⟩ := ht.sh
  obtain ⟨la, ln, lc, rfl, Hln, ln1, ln2⟩ := hl.sh
  obtain ⟨sa, sn, sc, rfl, Hsn, sn1, sn2⟩ := hs.sh
  obtain ⟨da, dn, dc, rfl, Hdn, dn1, dn2⟩ := hd.sh
  have HT0 := Lib.hid ht
  have HL0 := Lib.hid hl
  have HS0 := Lib.hid hs
  have HD0 := Lib.hid hd
  have HT := Lib.hid ht
  have HL := Lib.hid hl
  have HS := Lib.hid hs
  have HD := Lib.hid hd
  clear ht hl hs hd
  have HB : Hid (Below w.heap.size w w) := Lib.hid (Below.refl _ _)
  go_enter Try.func36, Try.ntmps36
  go_upto_region 1 with fail
  obtain ⟨N, hN⟩ : ∃ n0, n0 = w.heap.size := ⟨_, rfl⟩
  have HLON : Hid (w.heap.size ≤ N) := Lib.hid (by have := HB.out.size; omega)
  obtain ⟨W1, hA0⟩ : ∃ W0, W0 = w.alloc (.cells #[.int .i64 s.term, .int .i64 s.stamp, .int .i64 s.next, .slice ta tn tc, .slice la ln lc, .slice sa sn sc, .slice da dn dc] 27) := ⟨_, rfl⟩
  have hB : Below w.heap.size w W1 := by rw [hA0]; exact (Below.refl _ _).alloc (Nat.le_refl _) _
  have hS0 : W1.heap.size = N + 1 := by rw [hA0]; simp [← hN]
  have HR := Lib.hid (show Blk W1 N #[.int .i64 s.term, .int .i64 s.stamp, .int .i64 s.next, .slice ta tn tc, .slice la ln lc, .slice sa sn sc, .slice da dn dc] 27 by rw [hA0, hN]; exact blk_new _ _ _)
  replace HB := Lib.hid (HB.out.trans (hB.mono HB.out.size))
  replace HT := Lib.hid (HT0.out.below HB.out)
  replace HL := Lib.hid (HL0.out.below HB.out)
  replace HS := Lib.hid (HS0.out.below HB.out)
  replace HD := Lib.hid (HD0.out.below HB.out)
  clear hB
  obtain ⟨W2, hA1⟩ : ∃ W0, W0 = W1.alloc (.cells #[.int .i64 0, .int .i64 0, .int .i64 0, .slice none 0 0, .slice none 0 0, .slice none 0 0, .slice none 0 0] 27) := ⟨_, rfl⟩
  have hB : Below W1.heap.size W1 W2 := by rw [hA1]; exact (Below.refl _ _).alloc (Nat.le_refl _) _
  have hS1 : W2.heap.size = N + 2 := by rw [hA1]; simp [hS0]
  have HK1 := Lib.hid (show Blk W2 (N + 1) #[.int .i64 0, .int .i64 0, .int .i64 0, .slice none 0 0, .slice none 0 0, .slice none 0 0, .slice none 0 0] 27 by rw [hA1, ← hS0]; exact blk_new _ _ _)
  replace HB := Lib.hid (HB.out.trans (hB.mono HB.out.size))
  replace HT := Lib.hid (HT0.out.below HB.out)
  replace HL := Lib.hid (HL0.out.below HB.out)
  replace HS := Lib.hid (HS0.out.below HB.out)
  replace HD := Lib.hid (HD0.out.below HB.out)
  replace HR := Lib.hid (HR.out.step hB)
  clear hB
  have HSN := Lib.hid hS1
  rw [← hN, ← hA0, ← hA1]
  clear hA1 hA0 hN hS0 hS1
  have qR0 : W2.cell? ⟨N, 0, none⟩ = some (.int .i64 s.term) := cell_at HR.out 0
  have qR1 : W2.cell? ⟨N, 1, none⟩ = some (.int .i64 s.stamp) := cell_at HR.out 1
  have qR2 : W2.cell? ⟨N, 2, none⟩ = some (.int .i64 s.next) := cell_at HR.out 2
  have qR3 : W2.cell? ⟨N, 3, none⟩ = some (.slice ta tn tc) := cell_at HR.out 3
  have qR4 : W2.cell? ⟨N, 4, none⟩ = some (.slice la ln lc) := cell_at HR.out 4
  have qR5 : W2.cell? ⟨N, 5, none⟩ = some (.slice sa sn sc) := cell_at HR.out 5
  have qR6 : W2.cell? ⟨N, 6, none⟩ = some (.slice da dn dc) := cell_at HR.out 6
  have qRz : ∀ j, W2.frozen? ⟨N, j, none⟩ = false := fun j => free_at HR.out j
  have qRl : N < W2.heap.size := HR.out.lt
  have HN0 := Lib.hid HR.out.lt
  have HN0k := Lib.hid HK1.out.lt
  have HL01 : Hid (w.heap.size ≤ W2.heap.size) := Lib.hid HB.out.size
  go_wp2_with fail
  go_at_call 66
  go_fit (clone_tn _ s.ts _ HT.out (by omega))
  rintro e W3 ⟨v1, ob1, rfl, hv1, hB⟩
  clear qR0 qR1 qR2 qR3 qR4 qR5 qR6 qRz qRl
  replace HB := Lib.hid (HB.out.trans (hB.mono HB.out.size))
  replace HT := Lib.hid (HT0.out.below HB.out)
  replace HL := Lib.hid (HL0.out.below HB.out)
  replace HS := Lib.hid (HS0.out.below HB.out)
  replace HD := Lib.hid (HD0.out.below HB.out)
  replace HR := Lib.hid (HR.out.step hB)
  replace HK1 := Lib.hid (HK1.out.step hB)
  clear hB
  obtain ⟨b1, m1, k1, rfl, Hb1, x1, y1⟩ := hv1.v.sh
  have O1 := Lib.hid hv1
  have HL1 : Hid (w.heap.size ≤ W2.heap.size) := HL01
  have FO1 := Lib.hid (show N < W2.heap.size from HN0.out)
  clear hv1
  have qR0 : W3.cell? ⟨N, 0, none⟩ = some (.int .i64 s.term) := cell_at HR.out 0
  have qR1 : W3.cell? ⟨N, 1, none⟩ = some (.int .i64 s.stamp) := cell_at HR.out 1
  have qR2 : W3.cell? ⟨N, 2, none⟩ = some (.int .i64 s.next) := cell_at HR.out 2
  have qR3 : W3.cell? ⟨N, 3, none⟩ = some (.slice ta tn tc) := cell_at HR.out 3
  have qR4 : W3.cell? ⟨N, 4, none⟩ = some (.slice la ln lc) := cell_at HR.out 4
  have qR5 : W3.cell? ⟨N, 5, none⟩ = some (.slice sa sn sc) := cell_at HR.out 5
  have qR6 : W3.cell? ⟨N, 6, none⟩ = some (.slice da dn dc) := cell_at HR.out 6
  have qRz : ∀ j, W3.frozen? ⟨N, j, none⟩ = false := fun j => free_at HR.out j
  have qRl : N < W3.heap.size := HR.out.lt
  go_upto_region 2 with fail
  clear qR0 qR1 qR2 qR3 qR4 qR5 qR6 qRz qRl
  obtain ⟨W4, hWS⟩ : ∃ WS, WS = W3.setCell ⟨N, 3, none⟩ (.slice b1 m1 k1) := ⟨_, rfl⟩
  rw [← hWS]
  have hfS : Fr [N] W3 W4 := by rw [hWS]; exact (Fr.refl _ _).setCell _ (.inl (by simp)) _
  have hkS : Blk W4 N #[.int .i64 s.term, .int .i64 s.stamp, .int .i64 s.next, .slice b1 m1 k1, .slice la ln lc, .slice sa sn sc, .slice da dn dc] 27 := by rw [hWS]; exact HR.out.set 3 _
  replace HB := Lib.hid (HB.out.trans (hfS.below HB.out.size (by have := HLON.out; simp; try omega)))
  replace HT := Lib.hid (HT0.out.below HB.out)
  replace HL := Lib.hid (HL0.out.below HB.out)
  replace HS := Lib.hid (HS0.out.below HB.out)
  replace HD := Lib.hid (HD0.out.below HB.out)
  replace HK1 := Lib.hid (show Blk W4 (N + 1) #[.int .i64 0, .int .i64 0, .int .i64 0, .slice none 0 0, .slice none 0 0, .slice none 0 0, .slice none 0 0] 27 from (hfS.block _ HK1.out.lt (by simp; try omega)).trans HK1.out)
  replace O1 := Lib.hid (O1.out.fr hfS (by have := FO1.out; omega))
  replace HR := Lib.hid (show Blk W4 N #[.int .i64 s.term, .int .i64 s.stamp, .int .i64 s.next, .slice b1 m1 k1, .slice la ln lc, .slice sa sn sc, .slice da dn dc] 27 from hkS)
  clear hWS hfS hkS
  have qR0 : W4.cell? ⟨N, 0, none⟩ = some (.int .i64 s.term) := cell_at HR.out 0
  have qR1 : W4.cell? ⟨N, 1, none⟩ = some (.int .i64 s.stamp) := cell_at HR.out 1
  have qR2 : W4.cell? ⟨N, 2, none⟩ = some (.int .i64 s.next) := cell_at HR.out 2
  have qR3 : W4.cell? ⟨N, 3, none⟩ = some (.slice b1 m1 k1) := cell_at HR.out 3
  have qR4 : W4.cell? ⟨N, 4, none⟩ = some (.slice la ln lc) := cell_at HR.out 4
  have qR5 : W4.cell? ⟨N, 5, none⟩ = some (.slice sa sn sc) := cell_at HR.out 5
  have qR6 : W4.cell? ⟨N, 6, none⟩ = some (.slice da dn dc) := cell_at HR.out 6
  have qRz : ∀ j, W4.frozen? ⟨N, j, none⟩ = false := fun j => free_at HR.out j
  have qRl : N < W4.heap.size := HR.out.lt
  have HN1 := Lib.hid HR.out.lt
  have HN1k := Lib.hid HK1.out.lt
  have HL02 : Hid (w.heap.size ≤ W4.heap.size) := Lib.hid HB.out.size
  go_wp2_with fail
  go_at_call 67
  go_fit (leclone_any _ s.ls _ HL.out (by omega))
  rintro e W5 ⟨v2, ob2, rfl, hv2, hB⟩
  clear qR0 qR1 qR2 qR3 qR4 qR5 qR6 qRz qRl
  replace HB := Lib.hid (HB.out.trans (hB.mono HB.out.size))
  replace HT := Lib.hid (HT0.out.below HB.out)
  replace HL := Lib.hid (HL0.out.below HB.out)
  replace HS := Lib.hid (HS0.out.below HB.out)
  replace HD := Lib.hid (HD0.out.below HB.out)
  replace HR := Lib.hid (HR.out.step hB)
  replace HK1 := Lib.hid (HK1.out.step hB)
  replace O1 := Lib.hid (O1.out.step hB)
  clear hB
  obtain ⟨b2, m2, k2, rfl, Hb2, x2, y2⟩ := hv2.v.sh
  have O2 := Lib.hid hv2
  have HL2 : Hid (w.heap.size ≤ W4.heap.size) := HL02
  have FO2 := Lib.hid (show N < W4.heap.size from HN1.out)
  clear hv2
  have qR0 : W5.cell? ⟨N, 0, none⟩ = some (.int .i64 s.term) := cell_at HR.out 0
  have qR1 : W5.cell? ⟨N, 1, none⟩ = some (.int .i64 s.stamp) := cell_at HR.out 1
  have qR2 : W5.cell? ⟨N, 2, none⟩ = some (.int .i64 s.next) := cell_at HR.out 2
  have qR3 : W5.cell? ⟨N, 3, none⟩ = some (.slice b1 m1 k1) := cell_at HR.out 3
  have qR4 : W5.cell? ⟨N, 4, none⟩ = some (.slice la ln lc) := cell_at HR.out 4
  have qR5 : W5.cell? ⟨N, 5, none⟩ = some (.slice sa sn sc) := cell_at HR.out 5
  have qR6 : W5.cell? ⟨N, 6, none⟩ = some (.slice da dn dc) := cell_at HR.out 6
  have qRz : ∀ j, W5.frozen? ⟨N, j, none⟩ = false := fun j => free_at HR.out j
  have qRl : N < W5.heap.size := HR.out.lt
  go_upto_region 3 with fail
  clear qR0 qR1 qR2 qR3 qR4 qR5 qR6 qRz qRl
  obtain ⟨W6, hWS⟩ : ∃ WS, WS = W5.setCell ⟨N, 4, none⟩ (.slice b2 m2 k2) := ⟨_, rfl⟩
  rw [← hWS]
  have hfS : Fr [N] W5 W6 := by rw [hWS]; exact (Fr.refl _ _).setCell _ (.inl (by simp)) _
  have hkS : Blk W6 N #[.int .i64 s.term, .int .i64 s.stamp, .int .i64 s.next, .slice b1 m1 k1, .slice b2 m2 k2, .slice sa sn sc, .slice da dn dc] 27 := by rw [hWS]; exact HR.out.set 4 _
  replace HB := Lib.hid (HB.out.trans (hfS.below HB.out.size (by have := HLON.out; simp; try omega)))
  replace HT := Lib.hid (HT0.out.below HB.out)
  replace HL := Lib.hid (HL0.out.below HB.out)
  replace HS := Lib.hid (HS0.out.below HB.out)
  replace HD := Lib.hid (HD0.out.below HB.out)
  replace HK1 := Lib.hid (show Blk W6 (N + 1) #[.int .i64 0, .int .i64 0, .int .i64 0, .slice none 0 0, .slice none 0 0, .slice none 0 0, .slice none 0 0] 27 from (hfS.block _ HK1.out.lt (by simp; try omega)).trans HK1.out)
  replace O1 := Lib.hid (O1.out.fr hfS (by have := FO1.out; omega))
  replace O2 := Lib.hid (O2.out.fr hfS (by have := FO2.out; omega))
  replace HR := Lib.hid (show Blk W6 N #[.int .i64 s.term, .int .i64 s.stamp, .int .i64 s.next, .slice b1 m1 k1, .slice b2 m2 k2, .slice sa sn sc, .slice da dn dc] 27 from hkS)
  clear hWS hfS hkS
  have qR0 : W6.cell? ⟨N, 0, none⟩ = some (.int .i64 s.term) := cell_at HR.out 0
  have qR1 : W6.cell? ⟨N, 1, none⟩ = some (.int .i64 s.stamp) := cell_at HR.out 1
  have qR2 : W6.cell? ⟨N, 2, none⟩ = some (.int .i64 s.next) := cell_at HR.out 2
  have qR3 : W6.cell? ⟨N, 3, none⟩ = some (.slice b1 m1 k1) := cell_at HR.out 3
  have qR4 : W6.cell? ⟨N, 4, none⟩ = some (.slice b2 m2 k2) := cell_at HR.out 4
  have qR5 : W6.cell? ⟨N, 5, none⟩ = some (.slice sa sn sc) := cell_at HR.out 5
  have qR6 : W6.cell? ⟨N, 6, none⟩ = some (.slice da dn dc) := cell_at HR.out 6
  have qRz : ∀ j, W6.frozen? ⟨N, j, none⟩ = false := fun j => free_at HR.out j
  have qRl : N < W6.heap.size := HR.out.lt
  have HN2 := Lib.hid HR.out.lt
  have HN2k := Lib.hid HK1.out.lt
  have HL03 : Hid (w.heap.size ≤ W6.heap.size) := Lib.hid HB.out.size
  go_wp2_with fail
  go_at_call 68
  go_fit (seclone_any _ s.ss _ HS.out (by omega))
  rintro e W7 ⟨v3, ob3, rfl, hv3, hB⟩
  clear qR0 qR1 qR2 qR3 qR4 qR5 qR6 qRz qRl
  replace HB := Lib.hid (HB.out.trans (hB.mono HB.out.size))
  replace HT := Lib.hid (HT0.out.below HB.out)
  replace HL := Lib.hid (HL0.out.below HB.out)
  replace HS := Lib.hid (HS0.out.below HB.out)
  replace HD := Lib.hid (HD0.out.below HB.out)
  replace HR := Lib.hid (HR.out.step hB)
  replace HK1 := Lib.hid (HK1.out.step hB)
  replace O1 := Lib.hid (O1.out.step hB)
  replace O2 := Lib.hid (O2.out.step hB)
  clear hB
  obtain ⟨b3, m3, k3, rfl, Hb3, x3, y3⟩ := hv3.v.sh
  have O3 := Lib.hid hv3
  have HL3 : Hid (w.heap.size ≤ W6.heap.size) := HL03
  have FO3 := Lib.hid (show N < W6.heap.size from HN2.out)
  clear hv3
  have qR0 : W7.cell? ⟨N, 0, none⟩ = some (.int .i64 s.term) := cell_at HR.out 0
  have qR1 : W7.cell? ⟨N, 1, none⟩ = some (.int .i64 s.stamp) := cell_at HR.out 1
  have qR2 : W7.cell? ⟨N, 2, none⟩ = some (.int .i64 s.next) := cell_at HR.out 2
  have qR3 : W7.cell? ⟨N, 3, none⟩ = some (.slice b1 m1 k1) := cell_at HR.out 3
  have qR4 : W7.cell? ⟨N, 4, none⟩ = some (.slice b2 m2 k2) := cell_at HR.out 4
  have qR5 : W7.cell? ⟨N, 5, none⟩ = some (.slice sa sn sc) := cell_at HR.out 5
  have qR6 : W7.cell? ⟨N, 6, none⟩ = some (.slice da dn dc) := cell_at HR.out 6
  have qRz : ∀ j, W7.frozen? ⟨N, j, none⟩ = false := fun j => free_at HR.out j
  have qRl : N < W7.heap.size := HR.out.lt
  go_upto_region 4 with fail
  clear qR0 qR1 qR2 qR3 qR4 qR5 qR6 qRz qRl
  obtain ⟨W8, hWS⟩ : ∃ WS, WS = W7.setCell ⟨N, 5, none⟩ (.slice b3 m3 k3) := ⟨_, rfl⟩
  rw [← hWS]
  have hfS : Fr [N] W7 W8 := by rw [hWS]; exact (Fr.refl _ _).setCell _ (.inl (by simp)) _
  have hkS : Blk W8 N #[.int .i64 s.term, .int .i64 s.stamp, .int .i64 s.next, .slice b1 m1 k1, .slice b2 m2 k2, .slice b3 m3 k3, .slice da dn dc] 27 := by rw [hWS]; exact HR.out.set 5 _
  replace HB := Lib.hid (HB.out.trans (hfS.below HB.out.size (by have := HLON.out; simp; try omega)))
  replace HT := Lib.hid (HT0.out.below HB.out)
  replace HL := Lib.hid (HL0.out.below HB.out)
  replace HS := Lib.hid (HS0.out.below HB.out)
  replace HD := Lib.hid (HD0.out.below HB.out)
  replace HK1 := Lib.hid (show Blk W8 (N + 1) #[.int .i64 0, .int .i64 0, .int .i64 0, .slice none 0 0, .slice none 0 0, .slice none 0 0, .slice none 0 0] 27 from (hfS.block _ HK1.out.lt (by simp; try omega)).trans HK1.out)
  replace O1 := Lib.hid (O1.out.fr hfS (by have := FO1.out; omega))
  replace O2 := Lib.hid (O2.out.fr hfS (by have := FO2.out; omega))
  replace O3 := Lib.hid (O3.out.fr hfS (by have := FO3.out; omega))
  replace HR := Lib.hid (show Blk W8 N #[.int .i64 s.term, .int .i64 s.stamp, .int .i64 s.next, .slice b1 m1 k1, .slice b2 m2 k2, .slice b3 m3 k3, .slice da dn dc] 27 from hkS)
  clear hWS hfS hkS
  have qR0 : W8.cell? ⟨N, 0, none⟩ = some (.int .i64 s.term) := cell_at HR.out 0
  have qR1 : W8.cell? ⟨N, 1, none⟩ = some (.int .i64 s.stamp) := cell_at HR.out 1
  have qR2 : W8.cell? ⟨N, 2, none⟩ = some (.int .i64 s.next) := cell_at HR.out 2
  have qR3 : W8.cell? ⟨N, 3, none⟩ = some (.slice b1 m1 k1) := cell_at HR.out 3
  have qR4 : W8.cell? ⟨N, 4, none⟩ = some (.slice b2 m2 k2) := cell_at HR.out 4
  have qR5 : W8.cell? ⟨N, 5, none⟩ = some (.slice b3 m3 k3) := cell_at HR.out 5
  have qR6 : W8.cell? ⟨N, 6, none⟩ = some (.slice da dn dc) := cell_at HR.out 6
  have qRz : ∀ j, W8.frozen? ⟨N, j, none⟩ = false := fun j => free_at HR.out j
  have qRl : N < W8.heap.size := HR.out.lt
  have HN3 := Lib.hid HR.out.lt
  have HN3k := Lib.hid HK1.out.lt
  have HL04 : Hid (w.heap.size ≤ W8.heap.size) := Lib.hid HB.out.size
  go_wp2_with fail
  go_at_call 69
  go_fit (dkclone_any _ s.ds _ HD.out (by omega))
  rintro e W9 ⟨v4, ob4, rfl, hv4, hB⟩
  clear qR0 qR1 qR2 qR3 qR4 qR5 qR6 qRz qRl
  replace HB := Lib.hid (HB.out.trans (hB.mono HB.out.size))
  replace HT := Lib.hid (HT0.out.below HB.out)
  replace HL := Lib.hid (HL0.out.below HB.out)
  replace HS := Lib.hid (HS0.out.below HB.out)
  replace HD := Lib.hid (HD0.out.below HB.out)
  replace HR := Lib.hid (HR.out.step hB)
  replace HK1 := Lib.hid (HK1.out.step hB)
  replace O1 := Lib.hid (O1.out.step hB)
  replace O2 := Lib.hid (O2.out.step hB)
  replace O3 := Lib.hid (O3.out.step hB)
  clear hB
  obtain ⟨b4, m4, k4, rfl, Hb4, x4, y4⟩ := hv4.v.sh
  have O4 := Lib.hid hv4
  have HL4 : Hid (w.heap.size ≤ W8.heap.size) := HL04
  have FO4 := Lib.hid (show N < W8.heap.size from HN3.out)
  clear hv4
  have qR0 : W9.cell? ⟨N, 0, none⟩ = some (.int .i64 s.term) := cell_at HR.out 0
  have qR1 : W9.cell? ⟨N, 1, none⟩ = some (.int .i64 s.stamp) := cell_at HR.out 1
  have qR2 : W9.cell? ⟨N, 2, none⟩ = some (.int .i64 s.next) := cell_at HR.out 2
  have qR3 : W9.cell? ⟨N, 3, none⟩ = some (.slice b1 m1 k1) := cell_at HR.out 3
  have qR4 : W9.cell? ⟨N, 4, none⟩ = some (.slice b2 m2 k2) := cell_at HR.out 4
  have qR5 : W9.cell? ⟨N, 5, none⟩ = some (.slice b3 m3 k3) := cell_at HR.out 5
  have qR6 : W9.cell? ⟨N, 6, none⟩ = some (.slice da dn dc) := cell_at HR.out 6
  have qRz : ∀ j, W9.frozen? ⟨N, j, none⟩ = false := fun j => free_at HR.out j
  have qRl : N < W9.heap.size := HR.out.lt
  go_upto_region 5 with fail
  clear qR0 qR1 qR2 qR3 qR4 qR5 qR6 qRz qRl
  obtain ⟨W10, hWS⟩ : ∃ WS, WS = W9.setCell ⟨N, 6, none⟩ (.slice b4 m4 k4) := ⟨_, rfl⟩
  rw [← hWS]
  have hfS : Fr [N] W9 W10 := by rw [hWS]; exact (Fr.refl _ _).setCell _ (.inl (by simp)) _
  have hkS : Blk W10 N #[.int .i64 s.term, .int .i64 s.stamp, .int .i64 s.next, .slice b1 m1 k1, .slice b2 m2 k2, .slice b3 m3 k3, .slice b4 m4 k4] 27 := by rw [hWS]; exact HR.out.set 6 _
  replace HB := Lib.hid (HB.out.trans (hfS.below HB.out.size (by have := HLON.out; simp; try omega)))
  replace HT := Lib.hid (HT0.out.below HB.out)
  replace HL := Lib.hid (HL0.out.below HB.out)
  replace HS := Lib.hid (HS0.out.below HB.out)
  replace HD := Lib.hid (HD0.out.below HB.out)
  replace HK1 := Lib.hid (show Blk W10 (N + 1) #[.int .i64 0, .int .i64 0, .int .i64 0, .slice none 0 0, .slice none 0 0, .slice none 0 0, .slice none 0 0] 27 from (hfS.block _ HK1.out.lt (by simp; try omega)).trans HK1.out)
  replace O1 := Lib.hid (O1.out.fr hfS (by have := FO1.out; omega))
  replace O2 := Lib.hid (O2.out.fr hfS (by have := FO2.out; omega))
  replace O3 := Lib.hid (O3.out.fr hfS (by have := FO3.out; omega))
  replace O4 := Lib.hid (O4.out.fr hfS (by have := FO4.out; omega))
  replace HR := Lib.hid (show Blk W10 N #[.int .i64 s.term, .int .i64 s.stamp, .int .i64 s.next, .slice b1 m1 k1, .slice b2 m2 k2, .slice b3 m3 k3, .slice b4 m4 k4] 27 from hkS)
  clear hWS hfS hkS
  have qR0 : W10.cell? ⟨N, 0, none⟩ = some (.int .i64 s.term) := cell_at HR.out 0
  have qR1 : W10.cell? ⟨N, 1, none⟩ = some (.int .i64 s.stamp) := cell_at HR.out 1
  have qR2 : W10.cell? ⟨N, 2, none⟩ = some (.int .i64 s.next) := cell_at HR.out 2
  have qR3 : W10.cell? ⟨N, 3, none⟩ = some (.slice b1 m1 k1) := cell_at HR.out 3
  have qR4 : W10.cell? ⟨N, 4, none⟩ = some (.slice b2 m2 k2) := cell_at HR.out 4
  have qR5 : W10.cell? ⟨N, 5, none⟩ = some (.slice b3 m3 k3) := cell_at HR.out 5
  have qR6 : W10.cell? ⟨N, 6, none⟩ = some (.slice b4 m4 k4) := cell_at HR.out 6
  have qRz : ∀ j, W10.frozen? ⟨N, j, none⟩ = false := fun j => free_at HR.out j
  have qRl : N < W10.heap.size := HR.out.lt
  have qK10 : W10.cell? ⟨(N + 1), 0, none⟩ = some (.int .i64 0) := cell_at HK1.out 0
  have qK11 : W10.cell? ⟨(N + 1), 1, none⟩ = some (.int .i64 0) := cell_at HK1.out 1
  have qK12 : W10.cell? ⟨(N + 1), 2, none⟩ = some (.int .i64 0) := cell_at HK1.out 2
  have qK13 : W10.cell? ⟨(N + 1), 3, none⟩ = some (.slice none 0 0) := cell_at HK1.out 3
  have qK14 : W10.cell? ⟨(N + 1), 4, none⟩ = some (.slice none 0 0) := cell_at HK1.out 4
  have qK15 : W10.cell? ⟨(N + 1), 5, none⟩ = some (.slice none 0 0) := cell_at HK1.out 5
  have qK16 : W10.cell? ⟨(N + 1), 6, none⟩ = some (.slice none 0 0) := cell_at HK1.out 6
  have qK1z : ∀ j, W10.frozen? ⟨(N + 1), j, none⟩ = false := fun j => free_at HK1.out j
  have qK1l : (N + 1) < W10.heap.size := HK1.out.lt
  go_wp2_with fail
  have FO12 := FO1
  have FO22 := FO2
  have FO32 := FO3
  have FO42 := FO4
  replace FO1 := Lib.hid (show N + 1 < _ from HN0k.out)
  replace FO2 := Lib.hid (show N + 1 < _ from HN1k.out)
  replace FO3 := Lib.hid (show N + 1 < _ from HN2k.out)
  replace FO4 := Lib.hid (show N + 1 < _ from HN3k.out)
  clear qR0 qR1 qR2 qR3 qR4 qR5 qR6 qRz qRl qK10 qK11 qK12 qK13 qK14 qK15 qK16 qK1z qK1l
  obtain ⟨LS, hLS⟩ : ∃ L : List Value, L = [.int .i64 s.term, .int .i64 s.stamp, .int .i64 s.next, .slice b1 m1 k1, .slice b2 m2 k2, .slice b3 m3 k3, .slice b4 m4 k4] := ⟨_, rfl⟩
  obtain ⟨W11, hWS⟩ : ∃ WS, WS = W10.setCells (N + 1) 0 LS := ⟨_, rfl⟩
  have hch := hWS
  rw [hLS] at hch
  simp only [World.setCells, Nat.zero_add, Nat.reduceAdd] at hch
  rw [← hch]
  clear hch
  have hkS := stC_blk HK1.out LS (by rw [hLS]; rfl)
  have hfS := stC_fr (N + 1) LS 0 W10
  rw [← hWS] at hkS hfS
  rw [hLS] at hkS
  replace HB := Lib.hid (HB.out.trans (hfS.below HB.out.size (by have := HLON.out; simp; try omega)))
  replace HT := Lib.hid (HT0.out.below HB.out)
  replace HL := Lib.hid (HL0.out.below HB.out)
  replace HS := Lib.hid (HS0.out.below HB.out)
  replace HD := Lib.hid (HD0.out.below HB.out)
  replace HR := Lib.hid (show Blk W11 N #[.int .i64 s.term, .int .i64 s.stamp, .int .i64 s.next, .slice b1 m1 k1, .slice b2 m2 k2, .slice b3 m3 k3, .slice b4 m4 k4] 27 from (hfS.block _ HR.out.lt (by simp; try omega)).trans HR.out)
  replace O1 := Lib.hid (O1.out.fr hfS (by have := FO1.out; omega))
  replace O2 := Lib.hid (O2.out.fr hfS (by have := FO2.out; omega))
  replace O3 := Lib.hid (O3.out.fr hfS (by have := FO3.out; omega))
  replace O4 := Lib.hid (O4.out.fr hfS (by have := FO4.out; omega))
  replace HK1 := Lib.hid (show Blk W11 (N + 1) #[.int .i64 s.term, .int .i64 s.stamp, .int .i64 s.next, .slice b1 m1 k1, .slice b2 m2 k2, .slice b3 m3 k3, .slice b4 m4 k4] 27 from hkS)
  clear hWS hLS hkS hfS
  have qK10 : W11.cell? ⟨(N + 1), 0, none⟩ = some (.int .i64 s.term) := cell_at HK1.out 0
  have qK11 : W11.cell? ⟨(N + 1), 1, none⟩ = some (.int .i64 s.stamp) := cell_at HK1.out 1
  have qK12 : W11.cell? ⟨(N + 1), 2, none⟩ = some (.int .i64 s.next) := cell_at HK1.out 2
  have qK13 : W11.cell? ⟨(N + 1), 3, none⟩ = some (.slice b1 m1 k1) := cell_at HK1.out 3
  have qK14 : W11.cell? ⟨(N + 1), 4, none⟩ = some (.slice b2 m2 k2) := cell_at HK1.out 4
  have qK15 : W11.cell? ⟨(N + 1), 5, none⟩ = some (.slice b3 m3 k3) := cell_at HK1.out 5
  have qK16 : W11.cell? ⟨(N + 1), 6, none⟩ = some (.slice b4 m4 k4) := cell_at HK1.out 6
  have qK1z : ∀ j, W11.frozen? ⟨(N + 1), j, none⟩ = false := fun j => free_at HK1.out j
  have qK1l : (N + 1) < W11.heap.size := HK1.out.lt
  exact bodyPost_ret (v := .agg #[.int .i64 s.term, .int .i64 s.stamp, .int .i64 s.next, .slice b1 m1 k1, .slice b2 m2 k2, .slice b3 m3 k3, .slice b4 m4 k4]) (by simp [results, Try.results36, go_sem, qK10, qK11, qK12, qK13, qK14, qK15, qK16]) rfl ⟨_, rfl, ⟨_, _, _, _, _, _, _, _, rfl, O1.out.le HL1.out, O2.out.le HL2.out, O3.out.le HL3.out, O4.out.le HL4.out⟩, HB.out⟩
end Go.Proofs.Ytfgnjpdlchimpaa
namespace Go.Proofs.Ytfgnjpdlchimpaa
open Go.RowKit
set_option linter.unusedSimpArgs false
set_option linter.unusedVariables false

theorem row_ty {W : World} {v v' : Value} {g : Nat} {e e' : TypeId} {s s' n n' : Nat} {xs xs' : List Value} (h : Row W v (some g) e s n xs) (h' : Row W v' (some g) e' s' n' xs') : e = e' := by
  rcases h.cases with ⟨he, _⟩ | ⟨g1, cap, cur, he, _, h3, _⟩
  · cases he
  · obtain rfl := Option.some.inj he
    rcases h'.cases with ⟨he', _⟩ | ⟨g2, cap', cur', he', _, h3', _⟩
    · cases he'
    · obtain rfl := Option.some.inj he'
      have := h3.symm.trans h3'
      injection this with this
      injection this
theorem row_blk_ne {W : World} {v : Value} {g n0 : Nat} {e t : TypeId} {s n : Nat} {xs : List Value} {cs : Array Value} (h : Row W v (some g) e s n xs) (hb : Blk W n0 cs t) (ht : t ≠ e) : n0 ≠ g := by
  intro e1
  subst e1
  rcases h.cases with ⟨he, _⟩ | ⟨g1, cap, cur, he, _, h3, _⟩
  · cases he
  · obtain rfl := Option.some.inj he
    have hb' : W.heap[n0]? = some (.cells cs t (0, 0)) := hb
    have := h3.symm.trans hb'
    injection this with this
    injection this with a b
    exact ht b.symm
theorem row_keep {W W' : World} {v v' : Value} {ob o2 : Option Nat} {e e' : TypeId} {s s' n n' : Nat} {xs xs' : List Value} (h : Row W v ob e s n xs) (hr : Row W v' o2 e' s' n' xs') (hne : e ≠ e') (hblk : ∀ g, g < W.heap.size → (∀ g2, o2 = some g2 → g ≠ g2) → W'.heap[g]? = W.heap[g]?) : Row W' v ob e s n xs :=
  h.congr fun g eg => by
    subst eg
    refine hblk g h.lt fun g2 e2 e3 => ?_
    subst e2 e3
    exact hne (row_ty h hr)
theorem grown_blk {W W' : World} {o2 : Option Nat} (hG : W.grownBy W' o2) (g : Nat) (hg : g < W.heap.size) (hne : ∀ g2, o2 = some g2 → g ≠ g2) : W'.heap[g]? = W.heap[g]? := hG.block g hg (fun e => hne g e.symm rfl)
theorem Blk.grown {W W' : World} {n0 M : Nat} {cs : Array Value} {t : TypeId} {v : Value} {o2 : Option Nat} {L : List LeE} (h : Blk W n0 cs t) (hr : LeO M W v o2 L) (hG : W.grownBy W' o2) (ht : t ≠ 31) : Blk W' n0 cs t :=
  (grown_blk hG n0 h.lt (fun g e => by subst e; exact row_blk_ne hr.1 h ht)).trans h
theorem TnO.grown {W W' : World} {M M2 : Nat} {v v2 : Value} {ob o2 : Option Nat} {L : List TnE} {L2 : List LeE} (h : TnO M W v ob L) (hr : LeO M2 W v2 o2 L2) (hG : W.grownBy W' o2) : TnO M W' v ob L := ⟨row_keep h.1 hr.1 (by decide) (grown_blk hG), h.2.1, h.2.2⟩
theorem SeO.grown {W W' : World} {M M2 : Nat} {v v2 : Value} {ob o2 : Option Nat} {L : List SeE} {L2 : List LeE} (h : SeO M W v ob L) (hr : LeO M2 W v2 o2 L2) (hG : W.grownBy W' o2) : SeO M W' v ob L := ⟨row_keep h.1 hr.1 (by decide) (grown_blk hG), h.2.1, h.2.2⟩
theorem DkO.grown {W W' : World} {M M2 : Nat} {v v2 : Value} {ob o2 : Option Nat} {L : List DkE} {L2 : List LeE} (h : DkO M W v ob L) (hr : LeO M2 W v2 o2 L2) (hG : W.grownBy W' o2) : DkO M W' v ob L := ⟨row_keep h.1 hr.1 (by decide) (grown_blk hG), h.2.1, h.2.2⟩
theorem TVo.grown {W W' : World} {m : Nat} {v : Value} {o2 : Option Nat} {L : List TnE} (h : TVo m W v L) (hG : W.grownBy W' o2) (ho : ∀ g, o2 = some g → g < m) : TVo m W' v L := by
  obtain ⟨a, b, o, c, e, h, h2⟩ := h
  refine ⟨a, b, o, c, e, ⟨h.le, h.max, fun hk => ⟨(h.at_ hk).1, by have := (h.at_ hk).2; have := hG.size; omega⟩, fun k hk => ?_, h.bd⟩, h2⟩
  have hb := (h.at_ (by omega)).2
  have hm := h2 (by omega)
  obtain ⟨c0, c1, c2, c3, c4⟩ := h.cell k hk
  have hbl := grown_blk hG b hb (fun g e => by have := ho g e; omega)
  have hc : ∀ q, W'.cell? ⟨b, q, none⟩ = W.cell? ⟨b, q, none⟩ := fun q => by unfold World.cell?; rw [hbl]
  exact ⟨(hc _).trans c0, (hc _).trans c1, (hc _).trans c2, (hc _).trans c3, (hc _).trans c4⟩
/-- one lease, built in place, pushed -/
theorem le_push {W : World} {M : Nat} {ty : TypeId} {v : Value} {ob : Option Nat} {L : List LeE} {e : LeE} (h : LeO M W v ob L) (ho : e.ok) (hn : L.length + 1 ≤ 100000) :
    ∃ v' w', (Builtin.append_ #[23, 23] ty #[v, .slice (some ⟨W.heap.size, 0, none⟩) 1 1]).run Try.prog (W.alloc (.cells #[.int .i64 e.id, .int .i64 e.tenant, .int .i64 e.shaper, .int .i64 e.epoch, .int .i64 e.number, .int .i64 e.size, .int .i64 e.spent] 31)) = .ok v' w' ∧ LeV w' v' (L ++ [e]) ∧ W.grownBy w' ob := by
  have hA : Below W.heap.size W (W.alloc (.cells #[.int .i64 e.id, .int .i64 e.tenant, .int .i64 e.shaper, .int .i64 e.epoch, .int .i64 e.number, .int .i64 e.size, .int .i64 e.spent] 31)) := (Below.refl _ _).alloc (Nat.le_refl _) _
  obtain ⟨r1, r4, r5⟩ := h.step hA
  obtain ⟨a2, b2, o2, c2, hs, d1⟩ := lev_one (blk_new W #[.int .i64 e.id, .int .i64 e.tenant, .int .i64 e.shaper, .int .i64 e.epoch, .int .i64 e.number, .int .i64 e.size, .int .i64 e.spent] 31) ho
  obtain ⟨i0, hi, hz0, hz1, hz2⟩ := info_parts leZero
  injection hs with hs1 hs2 hs3
  subst hs1 hs3
  have hat := fun j u hu => le_at2 d1 j u hu
  have hb2 := (d1.at_ (by simp)).1
  injection hb2 with hb2
  injection hb2 with hb2 hb3
  subst hb2 hb3
  rw [← llLe_g] at hat
  obtain ⟨v', ob', w', hrun, s1, s2, s3⟩ := run_append_row (P := Try.prog) _ 23 ty 31 i0 _ 7 56 Try.underlying23 hi hz0 hz1 hz2 rfl (by decide) v ob L.length (llLe L) r1 ⟨W.heap.size, 0, none⟩ 1 1 (llLe [e]) (by decide) (llLe_len [e]) (fun j u hu => by rw [addr_add]; exact hat j u hu) (llLe_ones [e]) (by unfold maxLen; omega) (by omega)
  refine ⟨v', w', hrun, lev_row (ob := some ob') (by rw [List.length_append, llLe_append]; exact s1) (fun x hx => ?_), ⟨s2.os.trans hA.os, s2.tape.trans hA.tape, s2.output.trans hA.output, Nat.le_trans hA.size s2.size, fun k hk hne => (s2.block k (Nat.lt_of_lt_of_le hk hA.size) hne).trans (hA.block k hk)⟩⟩
  rcases List.mem_append.1 hx with h | h
  · exact r4 x h
  · obtain rfl := List.mem_singleton.1 h
    exact ho
theorem take_set {α : Type} (l : List α) (n i : Nat) (a : α) : (l.set i a).take n = (l.take n).set i a := List.take_set
theorem llLe_set : ∀ (L : List LeE) (k : Nat) (x : LeE) (sp : Int), L[k]? = some x → (llLe L).set (k * 7 + 6) (.int .i64 sp) = llLe (L.set k ⟨x.id, x.tenant, x.shaper, x.epoch, x.number, x.size, sp⟩)
  | [], k, x, sp, h => by simp at h
  | y :: r, 0, x, sp, h => by
    simp at h
    subst h
    simp [llLe, LeE.cells]
  | y :: r, k + 1, x, sp, h => by
    have hl : llLe (y :: r) = y.cells ++ llLe r := by simp [llLe]
    have hl2 : llLe ((y :: r).set (k + 1) ⟨x.id, x.tenant, x.shaper, x.epoch, x.number, x.size, sp⟩) = y.cells ++ llLe (r.set k ⟨x.id, x.tenant, x.shaper, x.epoch, x.number, x.size, sp⟩) := by simp [llLe]
    have hc : y.cells.length = 7 := rfl
    rw [hl, hl2, ← llLe_set r k x sp (by simpa using h), List.set_append_right _ _ (by rw [hc]; omega), hc]
    congr 2
    omega
theorem llTn_set : ∀ (L : List TnE) (k : Nat) (x : TnE) (b : Int), L[k]? = some x → (llTn L).set (k * 5 + 3) (.int .i64 b) = llTn (L.set k ⟨x.id, x.rate, x.burst, b, x.gone⟩)
  | [], k, x, b, h => by simp at h
  | y :: r, 0, x, b, h => by
    simp at h
    subst h
    simp [llTn, TnE.cells]
  | y :: r, k + 1, x, b, h => by
    have hl : llTn (y :: r) = y.cells ++ llTn r := by simp [llTn]
    have hl2 : llTn ((y :: r).set (k + 1) ⟨x.id, x.rate, x.burst, b, x.gone⟩) = y.cells ++ llTn (r.set k ⟨x.id, x.rate, x.burst, b, x.gone⟩) := by simp [llTn]
    have hc : y.cells.length = 5 := rfl
    rw [hl, hl2, ← llTn_set r k x b (by simpa using h), List.set_append_right _ _ (by rw [hc]; omega), hc]
    congr 2
    omega
theorem row_setCell {W : World} {v : Value} {g n s : Nat} {e : TypeId} {xs : List Value} (h : Row W v (some g) e s n xs) (j : Nat) (u : Value) : Row (W.setCell ⟨g, j, none⟩ u) v (some g) e s n (xs.set j u) := by
  rcases h.cases with ⟨he, _⟩ | ⟨g1, cap, cur, he, rfl, h3, h4, h5, h6, h7⟩
  · cases he
  · obtain rfl := Option.some.inj he
    refine Row.mk (cur := cur.setIfInBounds j u) (Blk.set (show Blk W g cur e from h3) j u) h4 h5 (by simp [h6]) ?_
    rw [Array.toList_setIfInBounds, take_set, h7]
theorem LeO.setSpent {W : World} {M g k : Nat} {v : Value} {L : List LeE} {x : LeE} (h : LeO M W v (some g) L) (hk : L[k]? = some x) (sp : Int) (hsp : -9223372036854775808 ≤ sp ∧ sp ≤ 9223372036854775807) : LeO M (W.setCell ⟨g, k * 7 + 6, none⟩ (.int .i64 sp)) v (some g) (L.set k ⟨x.id, x.tenant, x.shaper, x.epoch, x.number, x.size, sp⟩) := by
  refine ⟨?_, fun y hy => ?_, h.2.2⟩
  · have := row_setCell h.1 (k * 7 + 6) (.int .i64 sp)
    rw [llLe_set L k x sp hk] at this
    rw [List.length_set]
    exact this
  · rcases List.mem_or_eq_of_mem_set hy with hy | rfl
    · exact h.2.1 y hy
    · have := h.2.1 x (List.mem_of_getElem? hk)
      exact ⟨this.1, this.2.1, this.2.2.1, this.2.2.2.1, this.2.2.2.2.1, this.2.2.2.2.2.1, hsp⟩
theorem TnO.setBkt {W : World} {M g k : Nat} {v : Value} {L : List TnE} {x : TnE} (h : TnO M W v (some g) L) (hk : L[k]? = some x) (b : Int) (hb : -9223372036854775808 ≤ b ∧ b ≤ 9223372036854775807) : TnO M (W.setCell ⟨g, k * 5 + 3, none⟩ (.int .i64 b)) v (some g) (L.set k ⟨x.id, x.rate, x.burst, b, x.gone⟩) := by
  refine ⟨?_, fun y hy => ?_, h.2.2⟩
  · have := row_setCell h.1 (k * 5 + 3) (.int .i64 b)
    rw [llTn_set L k x b hk] at this
    rw [List.length_set]
    exact this
  · rcases List.mem_or_eq_of_mem_set hy with hy | rfl
    · exact h.2.1 y hy
    · have := h.2.1 x (List.mem_of_getElem? hk)
      exact ⟨this.1, this.2.1, this.2.2.1, hb, trivial⟩
/-- other rows, other blocks, where a cell of one row is stored -/
theorem frs_blk {W W' : World} {g : Nat} (hf : Fr [g] W W') (k : Nat) (hk : k < W.heap.size) (hne : ∀ g2, some g = some g2 → k ≠ g2) : W'.heap[k]? = W.heap[k]? := hf.block k hk (by simpa using hne g rfl)
theorem TnO.frL {W W' : World} {M M2 g : Nat} {v v2 : Value} {ob : Option Nat} {L : List TnE} {L2 : List LeE} (h : TnO M W v ob L) (hr : LeO M2 W v2 (some g) L2) (hf : Fr [g] W W') : TnO M W' v ob L := ⟨row_keep h.1 hr.1 (by decide) (frs_blk hf), h.2.1, h.2.2⟩
theorem SeO.frL {W W' : World} {M M2 g : Nat} {v v2 : Value} {ob : Option Nat} {L : List SeE} {L2 : List LeE} (h : SeO M W v ob L) (hr : LeO M2 W v2 (some g) L2) (hf : Fr [g] W W') : SeO M W' v ob L := ⟨row_keep h.1 hr.1 (by decide) (frs_blk hf), h.2.1, h.2.2⟩
theorem DkO.frL {W W' : World} {M M2 g : Nat} {v v2 : Value} {ob : Option Nat} {L : List DkE} {L2 : List LeE} (h : DkO M W v ob L) (hr : LeO M2 W v2 (some g) L2) (hf : Fr [g] W W') : DkO M W' v ob L := ⟨row_keep h.1 hr.1 (by decide) (frs_blk hf), h.2.1, h.2.2⟩
theorem LeO.frT {W W' : World} {M M2 g : Nat} {v v2 : Value} {ob : Option Nat} {L : List LeE} {L2 : List TnE} (h : LeO M W v ob L) (hr : TnO M2 W v2 (some g) L2) (hf : Fr [g] W W') : LeO M W' v ob L := ⟨row_keep h.1 hr.1 (by decide) (frs_blk hf), h.2.1, h.2.2⟩
theorem SeO.frT {W W' : World} {M M2 g : Nat} {v v2 : Value} {ob : Option Nat} {L : List SeE} {L2 : List TnE} (h : SeO M W v ob L) (hr : TnO M2 W v2 (some g) L2) (hf : Fr [g] W W') : SeO M W' v ob L := ⟨row_keep h.1 hr.1 (by decide) (frs_blk hf), h.2.1, h.2.2⟩
theorem DkO.frT {W W' : World} {M M2 g : Nat} {v v2 : Value} {ob : Option Nat} {L : List DkE} {L2 : List TnE} (h : DkO M W v ob L) (hr : TnO M2 W v2 (some g) L2) (hf : Fr [g] W W') : DkO M W' v ob L := ⟨row_keep h.1 hr.1 (by decide) (frs_blk hf), h.2.1, h.2.2⟩
theorem TnO.frU {A B : World} {M N : Nat} {v : Value} {ob : Option Nat} {L : List TnE} (h : TnO M A v ob L) (hf : Fr [N] A B) (hu : ∀ g, ob = some g → g < N) : TnO M B v ob L := ⟨h.1.congr fun g e => hf.block g (by subst e; exact h.1.lt) (by have := hu g e; simp; omega), h.2.1, h.2.2⟩
theorem LeO.frU {A B : World} {M N : Nat} {v : Value} {ob : Option Nat} {L : List LeE} (h : LeO M A v ob L) (hf : Fr [N] A B) (hu : ∀ g, ob = some g → g < N) : LeO M B v ob L := ⟨h.1.congr fun g e => hf.block g (by subst e; exact h.1.lt) (by have := hu g e; simp; omega), h.2.1, h.2.2⟩
theorem SeO.frU {A B : World} {M N : Nat} {v : Value} {ob : Option Nat} {L : List SeE} (h : SeO M A v ob L) (hf : Fr [N] A B) (hu : ∀ g, ob = some g → g < N) : SeO M B v ob L := ⟨h.1.congr fun g e => hf.block g (by subst e; exact h.1.lt) (by have := hu g e; simp; omega), h.2.1, h.2.2⟩
theorem DkO.frU {A B : World} {M N : Nat} {v : Value} {ob : Option Nat} {L : List DkE} (h : DkO M A v ob L) (hf : Fr [N] A B) (hu : ∀ g, ob = some g → g < N) : DkO M B v ob L := ⟨h.1.congr fun g e => hf.block g (by subst e; exact h.1.lt) (by have := hu g e; simp; omega), h.2.1, h.2.2⟩
/-- a region none of whose operations panics, in a function that defers -/
def NoPan (Q : Exit → Act → World → Prop) (e : Exit) (a : Act) (w : World) : Prop :=
  match e with
  | .panic _ => False
  | e => Q e a w
theorem wp_np {P : Program} {c : Code} {Q : Exit → Act → World → Prop} {a : Act} {w : World} (h : c.wp P (NoPan Q) a w) : c.wp P Q a w :=
  Code.wp_mono (fun e a w h => by cases e <;> first | exact h | exact h.elim) h
end Go.Proofs.Ytfgnjpdlchimpaa
namespace Go.Proofs.Ytfgnjpdlchimpaa
open Go.RowKit
set_option linter.unusedSimpArgs false
set_option linter.unusedVariables false

set_option maxRecDepth 100000 in
set_option maxHeartbeats 4000000 in
theorem pset_own (v : Value) (L : List TnE) (x : TnE) (w : World) (h : TV w v L) (hn5 : L.length ≤ 200) (hx : x.ok) : Calls Try.prog 48 #[v, .agg #[.int .i64 x.id, .int .i64 x.rate, .int .i64 x.burst, .int .i64 x.bkt, .bool x.gone]] w fun e w' => ∃ v', e = .returned (.tuple #[v', .int .i64 (setE L x)]) ∧ TVo w.heap.size w' v' (setL L x) ∧ Below w.heap.size w w' := by
  have HVW := Lib.hid h
  obtain ⟨N, hN⟩ : ∃ N, N = w.heap.size := ⟨_, rfl⟩
  obtain ⟨W1, hW1⟩ : ∃ W1, W1 = w.alloc (.cells #[.int .i64 x.id, .int .i64 x.rate, .int .i64 x.burst, .int .i64 x.bkt, .bool x.gone] 54) := ⟨_, rfl⟩
  have hB1 : Below w.heap.size w W1 := by rw [hW1]; exact (Below.refl _ _).alloc (Nat.le_refl _) _
  have HK1 : Hid (Blk W1 N #[.int .i64 x.id, .int .i64 x.rate, .int .i64 x.burst, .int .i64 x.bkt, .bool x.gone] 54) := Lib.hid (by rw [hW1, hN]; exact blk_new _ _ _)
  have HV1 := Lib.hid (h.below hB1)
  have HB1 := Lib.hid hB1
  have HNB : Hid (w.heap.size ≤ N) := Lib.hid (by rw [hN]; exact Nat.le_refl _)
  clear hB1 h
  obtain ⟨Y, hY⟩ : ∃ Y, Y = setL L x := ⟨_, rfl⟩
  obtain ⟨E, hE⟩ : ∃ E, E = setE L x := ⟨_, rfl⟩
  rw [← hY, ← hE]
  have HY := Lib.hid hY
  have HE := Lib.hid hE
  obtain ⟨C, hC⟩ : ∃ C, C = chk L := ⟨_, rfl⟩
  have HC := Lib.hid hC
  have HXO := Lib.hid hx
  have HCK := Lib.hid (pcheck_any v L W1 HV1.out)
  rw [← hC] at HCK
  obtain ⟨M, hM⟩ : ∃ M, M = mayT x := ⟨_, rfl⟩
  have HM := Lib.hid hM
  have HMY := Lib.hid (fun W => mayT_any x W)
  unfold TnE.agg at HMY
  rw [← hM] at HMY
  clear hY hE hC hM hx
  go_enter Try.func48, Try.ntmps48
  go_upto_region 1 with fail
  rw [← hN, ← hW1]
  clear hN hW1
  cases C
  · have hsb : setB L x = false := by unfold setB; rw [← HC.out]; rfl
    have hYx : Y = L := by rw [HY.out]; unfold setL; rw [hsb]; rfl
    have hEx : E = 2 := by rw [HE.out]; unfold setE; rw [hsb]; rfl
    have HYX := Lib.hid hYx
    subst hEx
    clear hYx hsb
    go_wp2_with fail
    go_at_call 33
    refine Calls.mono HCK.out ?_
    rintro e W2 ⟨rfl, hB⟩
    have HK2 := Lib.hid (HK1.out.step hB)
    have HB2 := Lib.hid (HB1.out.trans (hB.mono HB1.out.size))
    have HCL := Lib.hid (clone_tv v L W2 (HVW.out.below HB2.out) hn5)
    clear hB
    go_wp2_with fail
    go_at_call 66
    refine Calls.mono HCL.out ?_
    rintro e W9 ⟨v9, rfl, hv9, hB⟩
    have HV9 := Lib.hid (hv9.le HB2.out.size)
    have HB9 := Lib.hid (HB2.out.trans (hB.mono HB2.out.size))
    clear hv9 hB
    go_wp2_with fail
    exact bodyPost_ret (v := .tuple #[v9, .int .i64 2]) (by simp [results, Try.results48, go_sem]) rfl ⟨_, rfl, by rw [HYX.out]; exact HV9.out, HB9.out⟩
  · go_wp2_with fail
    go_at_call 33
    refine Calls.mono HCK.out ?_
    rintro e W2 ⟨rfl, hB⟩
    have HK2 := Lib.hid (HK1.out.step hB)
    have HB2 := Lib.hid (HB1.out.trans (hB.mono HB1.out.size))
    clear hB
    have q0 : W2.cell? ⟨N, 0, none⟩ = some (.int .i64 x.id) := cell_at HK2.out 0
    have q1 : W2.cell? ⟨N, 1, none⟩ = some (.int .i64 x.rate) := cell_at HK2.out 1
    have q2 : W2.cell? ⟨N, 2, none⟩ = some (.int .i64 x.burst) := cell_at HK2.out 2
    have q3 : W2.cell? ⟨N, 3, none⟩ = some (.int .i64 x.bkt) := cell_at HK2.out 3
    have q4 : W2.cell? ⟨N, 4, none⟩ = some (.bool x.gone) := cell_at HK2.out 4
    have zq : ∀ j, W2.frozen? ⟨N, j, none⟩ = false := fun j => free_at HK2.out j
    have lq : N < W2.heap.size := HK2.out.lt
    cases M
    · have hsb : setB L x = false := by unfold setB; rw [← HC.out, ← HM.out]; rfl
      have hYx : Y = L := by rw [HY.out]; unfold setL; rw [hsb]; rfl
      have hEx : E = 2 := by rw [HE.out]; unfold setE; rw [hsb]; rfl
      have HYX := Lib.hid hYx
      subst hEx
      clear hYx hsb
      go_wp2_with fail
      go_at_call 65
      refine Calls.mono (HMY.out _) ?_
      rintro e W3 ⟨rfl, hB⟩
      have HB3 := Lib.hid (HB2.out.trans (hB.mono HB2.out.size))
      have HCL := Lib.hid (clone_tv v L W3 (HVW.out.below HB3.out) hn5)
      clear hB q0 q1 q2 q3 q4 zq lq
      go_wp2_with fail
      go_at_call 66
      refine Calls.mono HCL.out ?_
      rintro e W9 ⟨v9, rfl, hv9, hB⟩
      have HV9 := Lib.hid (hv9.le HB3.out.size)
      have HB9 := Lib.hid (HB3.out.trans (hB.mono HB3.out.size))
      clear hv9 hB
      go_wp2_with fail
      exact bodyPost_ret (v := .tuple #[v9, .int .i64 2]) (by simp [results, Try.results48, go_sem]) rfl ⟨_, rfl, by rw [HYX.out]; exact HV9.out, HB9.out⟩
    · have hsb : setB L x = true := by unfold setB; rw [← HC.out, ← HM.out]; rfl
      have hYx : Y = layR x L := by rw [HY.out]; unfold setL; rw [hsb]; rfl
      have hEx : E = 0 := by rw [HE.out]; unfold setE; rw [hsb]; rfl
      have HYX := Lib.hid hYx
      subst hEx
      clear hYx hsb
      go_wp2_with fail
      go_at_call 65
      refine Calls.mono (HMY.out _) ?_
      rintro e W3 ⟨rfl, hB⟩
      have HK3 := Lib.hid (HK2.out.step hB)
      have HB3 := Lib.hid (HB2.out.trans (hB.mono HB2.out.size))
      clear hB q0 q1 q2 q3 q4 zq lq
      have HLY := Lib.hid (lay_any v L x W3 (HVW.out.below HB3.out) hn5 HXO.out)
      unfold TnE.agg at HLY
      rw [layL_eq, ← HYX.out] at HLY
      have q0 : W3.cell? ⟨N, 0, none⟩ = some (.int .i64 x.id) := cell_at HK3.out 0
      have q1 : W3.cell? ⟨N, 1, none⟩ = some (.int .i64 x.rate) := cell_at HK3.out 1
      have q2 : W3.cell? ⟨N, 2, none⟩ = some (.int .i64 x.burst) := cell_at HK3.out 2
      have q3 : W3.cell? ⟨N, 3, none⟩ = some (.int .i64 x.bkt) := cell_at HK3.out 3
      have q4 : W3.cell? ⟨N, 4, none⟩ = some (.bool x.gone) := cell_at HK3.out 4
      have zq : ∀ j, W3.frozen? ⟨N, j, none⟩ = false := fun j => free_at HK3.out j
      have lq : N < W3.heap.size := HK3.out.lt
      go_wp2_with fail
      go_at_call 81
      refine Calls.mono HLY.out ?_
      rintro e W4 ⟨v4, rfl, hv4, hB⟩
      have HV4 := Lib.hid (hv4.le HB3.out.size)
      have HB4 := Lib.hid (HB3.out.trans (hB.mono HB3.out.size))
      clear hv4 hB
      go_wp2_with fail
      exact bodyPost_ret (v := .tuple #[v4, .int .i64 0]) (by simp [results, Try.results48, go_sem]) rfl ⟨_, rfl, HV4.out, HB4.out⟩
set_option maxRecDepth 100000 in
set_option maxHeartbeats 4000000 in
theorem rset_own (v : Value) (L : List TnE) (x : TnE) (w : World) (h : TV w v L) (hn5 : L.length ≤ 200) (hx : x.ok) (hsb0 : setB L x = true) : Calls Try.prog 51 #[v, .agg #[.int .i64 x.id, .int .i64 x.rate, .int .i64 x.burst, .int .i64 x.bkt, .bool x.gone]] w fun e w' => ∃ v', e = .returned (.tuple #[v', .int .i64 (setE L x)]) ∧ TVo w.heap.size w' v' (setL L x) ∧ Below w.heap.size w w' := by
  have HVW := Lib.hid h
  have HSB0 := Lib.hid hsb0
  clear hsb0
  obtain ⟨N, hN⟩ : ∃ N, N = w.heap.size := ⟨_, rfl⟩
  obtain ⟨W1, hW1⟩ : ∃ W1, W1 = w.alloc (.cells #[.int .i64 x.id, .int .i64 x.rate, .int .i64 x.burst, .int .i64 x.bkt, .bool x.gone] 54) := ⟨_, rfl⟩
  have hB1 : Below w.heap.size w W1 := by rw [hW1]; exact (Below.refl _ _).alloc (Nat.le_refl _) _
  have HK1 : Hid (Blk W1 N #[.int .i64 x.id, .int .i64 x.rate, .int .i64 x.burst, .int .i64 x.bkt, .bool x.gone] 54) := Lib.hid (by rw [hW1, hN]; exact blk_new _ _ _)
  have HV1 := Lib.hid (h.below hB1)
  have HB1 := Lib.hid hB1
  have HNB : Hid (w.heap.size ≤ N) := Lib.hid (by rw [hN]; exact Nat.le_refl _)
  clear hB1 h
  obtain ⟨Y, hY⟩ : ∃ Y, Y = setL L x := ⟨_, rfl⟩
  obtain ⟨E, hE⟩ : ∃ E, E = setE L x := ⟨_, rfl⟩
  rw [← hY, ← hE]
  have HY := Lib.hid hY
  have HE := Lib.hid hE
  obtain ⟨C, hC⟩ : ∃ C, C = chk L := ⟨_, rfl⟩
  have HC := Lib.hid hC
  have HXO := Lib.hid hx
  have HCK := Lib.hid (rcheck_any v L W1 HV1.out)
  rw [← hC] at HCK
  obtain ⟨M, hM⟩ : ∃ M, M = mayT x := ⟨_, rfl⟩
  have HM := Lib.hid hM
  clear hY hE hC hM hx
  go_enter Try.func51, Try.ntmps51
  go_upto_region 1 with fail
  rw [← hN, ← hW1]
  clear hN hW1
  cases C
  · have hsb : setB L x = false := by unfold setB; rw [← HC.out]; rfl
    exact absurd (HSB0.out.symm.trans hsb) (by simp)
  · go_wp2_with fail
    go_at_call 30
    refine Calls.mono HCK.out ?_
    rintro e W2 ⟨rfl, hB⟩
    have HK2 := Lib.hid (HK1.out.step hB)
    have HB2 := Lib.hid (HB1.out.trans (hB.mono HB1.out.size))
    clear hB
    have HWI := Lib.hid (with_any v L x W2 (HVW.out.below HB2.out) hn5 HXO.out)
    unfold TnE.agg at HWI
    rw [withF_lay _ L 0 HC.out.symm] at HWI
    have HCL : Hid (chk (layR x L) = mayT x) := Lib.hid ((chk_lay x L 0 HC.out.symm).trans may_id)
    have q0 : W2.cell? ⟨N, 0, none⟩ = some (.int .i64 x.id) := cell_at HK2.out 0
    have q1 : W2.cell? ⟨N, 1, none⟩ = some (.int .i64 x.rate) := cell_at HK2.out 1
    have q2 : W2.cell? ⟨N, 2, none⟩ = some (.int .i64 x.burst) := cell_at HK2.out 2
    have q3 : W2.cell? ⟨N, 3, none⟩ = some (.int .i64 x.bkt) := cell_at HK2.out 3
    have q4 : W2.cell? ⟨N, 4, none⟩ = some (.bool x.gone) := cell_at HK2.out 4
    have zq : ∀ j, W2.frozen? ⟨N, j, none⟩ = false := fun j => free_at HK2.out j
    have lq : N < W2.heap.size := HK2.out.lt
    go_wp2_with fail
    go_at_call 83
    refine Calls.mono HWI.out ?_
    rintro e W3 ⟨v3, rfl, hv3, hB⟩
    have HV3 := Lib.hid hv3.tv
    have HV3o := Lib.hid hv3
    have HB3 := Lib.hid (HB2.out.trans (hB.mono HB2.out.size))
    have HC2 := Lib.hid (rcheck_any v3 (layR x L) W3 HV3.out)
    rw [HCL.out, ← HM.out] at HC2
    clear hv3 hB q0 q1 q2 q3 q4 zq lq
    cases M
    · have hsb : setB L x = false := by unfold setB; rw [← HC.out, ← HM.out]; rfl
      exact absurd (HSB0.out.symm.trans hsb) (by simp)
    · have hsb : setB L x = true := by unfold setB; rw [← HC.out, ← HM.out]; rfl
      have hYx : Y = layR x L := by rw [HY.out]; unfold setL; rw [hsb]; rfl
      have hEx : E = 0 := by rw [HE.out]; unfold setE; rw [hsb]; rfl
      have HYX := Lib.hid hYx
      subst hEx
      clear hYx hsb
      go_wp2_with fail
      go_at_call 30
      refine Calls.mono HC2.out ?_
      rintro e W4 ⟨rfl, hB⟩
      have HB4 := Lib.hid (HB3.out.trans (hB.mono HB3.out.size))
      have HV4 := Lib.hid ((HV3o.out.below hB).le HB2.out.size)
      clear hB
      go_wp2_with fail
      exact bodyPost_ret (v := .tuple #[v3, .int .i64 0]) (by simp [results, Try.results51, go_sem]) rfl ⟨_, rfl, by rw [HYX.out]; exact HV4.out, HB4.out⟩

end Go.Proofs.Ytfgnjpdlchimpaa
