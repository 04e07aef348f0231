/-
  Does an order fit: the document.
-/
import Derived.Test.YthmjlomlceljkaaHik
import Derived.Test.YthmjlomlceljkaaHii
import Derived.Deep.DeepFit
import Derived.Lib.AppendZeros
import Derived.Deep.RegionLaw
import Derived.Deep.RegionWith
import Derived.Lib.EndianBits
import Derived.Deep.MidRow
namespace Go.Proofs.Ythmjlomlceljkaa
open Go.RowKit
set_option linter.unusedSimpArgs false
set_option linter.unusedVariables false

def seenA (D n : Nat) : Array Value := ((List.range n).map fun k => Value.bool (D.testBit k)).toArray
theorem seenA_size (D n : Nat) : (seenA D n).size = n := by simp [seenA]
theorem seenA_at {D n k : Nat} (h : k < n) : (seenA D n)[k]? = some (.bool (D.testBit k)) := by simp [seenA, h]
theorem seenA_set {D n k : Nat} (h : k < n) : (seenA D n).setIfInBounds k (.bool true) = seenA (D ||| 2 ^ k) n := by
  apply Array.ext_getElem?
  intro i
  rw [Array.getElem?_setIfInBounds, seenA_size]
  by_cases hi : i < n
  · rw [seenA_at hi, seenA_at hi, bit_or]
    by_cases he : k = i
    · subst he; simp [h]
    · rw [if_neg he]; simp [he]
  · have e : ∀ D, (seenA D n)[i]? = none := fun D => Array.getElem?_eq_none (by rw [seenA_size]; omega)
    rw [e, e, if_neg (by omega)]
theorem boolInfo : (Try.prog.info? 4).map (fun i => (i.zero, i.size, i.bytes)) = some (some (.bool false), 1, 1) := by kernel_rfl
theorem make_bools (k : Nat) (h8 : k ≤ 64) (w : World) : (Instr.makeSlice 99 (.int .i64 (k : Int)) (.int .i64 (k : Int))).run Try.prog w = .ok (.slice (some ⟨w.heap.size, 0, none⟩) k k) (w.alloc (.cells (seenA 0 k) 4)) := by
  obtain ⟨i0, hi, hz0, hz1, hz2⟩ := info_parts boolInfo
  have hr := run_makeSlice (P := Try.prog) w 99 4 i0 _ Try.underlying99 hi hz0 .i64 .i64 k k (by omega) (Int.le_refl _) (by rw [hz1]; simp; omega) (by rw [hz2]; omega) (by omega)
  rw [hz1] at hr
  have e : madeCells (Value.bool false).cells (k * 1) = seenA 0 k := by
    rw [← Array.toList_inj]
    show (madeCells #[Value.bool false] (k * 1)).toList = _
    rw [toList_madeCells_one]
    unfold seenA
    apply List.ext_getElem?
    intro i
    by_cases hk : i < k
    · simp [hk, Nat.zero_testBit]
    · rw [List.getElem?_eq_none (by simp; omega), List.getElem?_eq_none (by simp; omega)]
  rw [← e]
  simpa only [Int.toNat_natCast] using hr
theorem mayC_til {c : CaE} (h : mayC c = true) : (c.til ≠ 0 ↔ 0 < c.til) ∧ (0 < c.til → c.fr < c.til) := by
  simp only [mayC, Bool.and_eq_true, Bool.or_eq_true, decide_eq_true_eq] at h
  omega
set_option maxRecDepth 100000 in
set_option maxHeartbeats 40000000 in
theorem rtry_any (v vo : Value) (L : List CaE) (ord : List Int) (w : World) (h : CaV w v L) (ho : InV w vo ord) : Calls Try.prog 26 #[v, vo] w fun e w' => e = .returned (.tuple #[.bool (ckB L && tryL L 0 [] ord), .int .i64 (fitsE L)]) ∧ Below w.heap.size w w' := by
  obtain ⟨a, n, cap, rfl, HN, m1, m2⟩ := h.sh
  obtain ⟨ia, iN, ic, rfl, Hin, in1, in2⟩ := ho.sh
  have HL0 := Lib.hid h
  have HL := Lib.hid h
  have HI0 := Lib.hid ho
  have HI := Lib.hid ho
  have HCK := Lib.hid (fun W (h : CaV W (.slice a n cap) L) => rcheck_any _ L W h)
  obtain ⟨C, hC⟩ : ∃ C, C = ckB L := ⟨_, rfl⟩
  rw [← hC] at HCK
  rw [← hC]
  have HC := Lib.hid hC
  obtain ⟨E, hE⟩ : ∃ E, E = fitsE L := ⟨_, rfl⟩
  rw [← hE]
  unfold fitsE at hE
  have HE := Lib.hid hE
  obtain ⟨R, hR⟩ : ∃ R, R = tryL L 0 [] ord := ⟨_, rfl⟩
  rw [← hR]
  have HR := Lib.hid hR
  clear hC hE h ho hR
  have HB : Hid (Below w.heap.size w w) := Lib.hid (Below.refl _ _)
  go_enter Try.func26, Try.ntmps26
  go_wp2_with fail
  go_at_call 24
  go_fit (HCK.out _ HL.out)
  rintro e W1 ⟨rfl, hB⟩
  replace HB := Lib.hid (HB.out.trans (hB.mono HB.out.size))
  replace HL := Lib.hid (HL0.out.below HB.out)
  replace HI := Lib.hid (HI0.out.below HB.out)
  clear hB
  cases C
  · skip
    rw [← HC.out, if_neg (by decide)] at HE
    have q3 := HE.out
    subst q3
    go_wp2_with fail
    exact bodyPost_ret (v := .tuple #[.bool false, .int .i64 2]) (by simp [results, Try.results26, go_sem]) rfl ⟨rfl, HB.out⟩
  rw [← HC.out, if_pos rfl] at HE
  have q3 := HE.out
  subst q3
  have hck : ckB L = true := HC.out.symm
  have hL12 : L.length ≤ 12 := by unfold ckB at hck; simp only [Bool.and_eq_true, decide_eq_true_eq] at hck; exact hck.1
  have hall : allC L = true := by unfold ckB at hck; simp only [Bool.and_eq_true, decide_eq_true_eq] at hck; exact hck.2
  have HAL := Lib.hid (fun (j : Nat) (z : CaE) (hz : L[j]? = some z) => mayC_til (allC_mem hall z (List.mem_of_getElem? hz)))
  have hn12 : n ≤ 12 := by have := HN.out; omega
  have HL12 := Lib.hid hL12
  clear hck hL12 hall
  have hmk := fun W => make_bools n (by omega) W
  go_upto_region 4 with fail
  clear hmk
  obtain ⟨B, hBn⟩ : ∃ n0, n0 = W1.heap.size := ⟨_, rfl⟩
  obtain ⟨W2, hA⟩ : ∃ W0, W0 = W1.alloc (.cells (seenA 0 n) 4) := ⟨_, rfl⟩
  have hB : Below W1.heap.size W1 W2 := by rw [hA]; exact (Below.refl _ _).alloc (Nat.le_refl _) _
  have HSN := Lib.hid (show Blk W2 B (seenA 0 n) 4 by rw [hA, hBn]; exact blk_new _ _ _)
  have HLB : Hid (w.heap.size ≤ B) := Lib.hid (by have := HB.out.size; omega)
  rw [← hBn, ← hA]
  clear hA hBn
  replace HB := Lib.hid (HB.out.trans (hB.mono HB.out.size))
  replace HL := Lib.hid (HL0.out.below HB.out)
  replace HI := Lib.hid (HI0.out.below HB.out)
  clear hB
  go_wp2_with fail
  go_loopw [7, 8, 9, 10, 11, 12] (fun vt i _ _ _ _ wr => ∃ (j D : Nat) (t : List FcE) (ot : Option Nat), j ≤ iN ∧ i = .int .i64 j ∧ D < 4096 ∧ tblB 0 t = true ∧ FcO 0 wr vt ot t ∧ R = tryL L D t (ord.drop j) ∧ Blk wr B (seenA D n) 4 ∧ Below w.heap.size w wr) (fun _ i _ _ _ _ _ => iN - (intOf i).toNat)
  case atStart => exact ⟨0, 0, [], none, Nat.zero_le _, rfl, by omega, rfl, fco_nil _ _, HR.out, HSN.out, HB.out⟩
  case round =>
    clear HB HL HI HSN
    obtain ⟨j, D, t, ot, hj, rfl, hD, ht, hT, hR, hS, hB⟩ := hrel
    have HB := Lib.hid hB
    have HD := Lib.hid hD
    have HTB := Lib.hid ht
    have HT := Lib.hid hT
    have HRT := Lib.hid hR
    have HSN := Lib.hid hS
    have HL := Lib.hid (HL0.out.below HB.out)
    have HI := Lib.hid (HI0.out.below HB.out)
    obtain ⟨st, hst⟩ := hT.v.sh
    clear hB hD ht hR hS
    obtain ⟨tN, tc, rfl, Htn, tn1, tn2⟩ := hst
    clear hT
    by_cases hlt : j < iN
    rotate_left
    · obtain rfl : j = iN := by omega
      have hfin : R = alB D 0 L := by rw [HRT.out, Hin.out, List.drop_length]; rfl
      go_wp2_with fail
      go_loopw [13] (fun i wr => ∃ q : Nat, q ≤ n ∧ i = .int .i64 q ∧ alB D q (L.drop q) = R ∧ Blk wr B (seenA D n) 4 ∧ Below w.heap.size w wr) (fun i _ => n - (intOf i).toNat)
      case atStart => exact ⟨0, Nat.zero_le _, rfl, hfin.symm, HSN.out, HB.out⟩
      case round =>
        clear HB HL HI HSN HT hfin
        obtain ⟨q, hq, rfl, hc, hS, hB⟩ := hrel
        have HB := Lib.hid hB
        have HC2 := Lib.hid hc
        have HSN := Lib.hid hS
        have HL := Lib.hid (HL0.out.below HB.out)
        clear hB hc hS
        by_cases hlt : q < n
        · obtain ⟨g, o, x, ea, g1, hx, _, hrg⟩ := HL.out.ld q hlt
          subst ea
          have HST : Hid (R = (!(decide (0 < x.til) && !D.testBit q) && alB D (q + 1) (L.drop (q + 1)))) := Lib.hid (by rw [← HC2.out, ← gCa_of hx]; exact alB_step _ (by rw [← HN.out]; exact hlt))
          have hti := HAL.out q x hx
          have z14 : wr.cell? ⟨g, o + q * 20 + 14, none⟩ = some (.int .i64 x.til) := hrg 14 _ rfl
          have sb : wr.cell? ⟨B, q, none⟩ = some (.bool (D.testBit q)) := by rw [cell_at HSN.out, seenA_at hlt]
          obtain ⟨bt, hbt⟩ : ∃ b, b = D.testBit q := ⟨_, rfl⟩
          rw [← hbt] at HST sb
          have ww5 : IntKind.i64.wrap ((q : Int) + 1) = (q : Int) + 1 := IntWalk.i64_in _ (by omega)
          have b9 : ((q : Int) < (n : Int)) = True := eq_true (by omega)
          have bk1 : (q < n) = True := eq_true hlt
          have HLQ := Lib.hid hlt
          clear hx hrg hbt HC2 hlt
          by_cases t1 : 0 < x.til
          rotate_left
          · have q1 : (x.til != 0) = false := by simp; omega
            have T1 := Lib.hid t1
            clear t1 hti
            go_wp2_with fail
            try ((refine wp_region_quiet_lit (by kernel_rfl) (by kernel_rfl) ?_; (repeat (first | go_big_quiet_step (fail) | (refine BigFrame.wpQuiet_skip (by rfl) ?_; try simp only [Act.put, List.setIfInBounds_toArray, List.set_cons_zero, List.set_cons_succ]))); refine wpQuiet_nil ?_; intro _ hw9; obtain ⟨nq, hw8⟩ := hw9; subst hw8); go_wp2_with fail)
            go_roundw
            case rel => exact ⟨q + 1, by have := HLQ.out; omega, by go_num, by rw [HST.out, show decide (0 < x.til) = false from decide_eq_false (by have := T1.out; omega)]; simp, HSN.out, HB.out⟩
            case measure => (have h8 := HLQ.out; first | (simp [intOf]; done) | (simp [intOf]; omega))
          have q1 : (x.til != 0) = true := by simp; omega
          have T1 := Lib.hid t1
          clear t1 hti
          cases bt
          · have hr : R = false := by rw [HST.out, decide_eq_true T1.out]; rfl
            subst hr
            go_wp2_with fail
            try ((refine wp_region_quiet_lit (by kernel_rfl) (by kernel_rfl) ?_; (repeat (first | go_big_quiet_step (fail) | (refine BigFrame.wpQuiet_skip (by rfl) ?_; try simp only [Act.put, List.setIfInBounds_toArray, List.set_cons_zero, List.set_cons_succ]))); refine wpQuiet_nil ?_; intro _ hw9; obtain ⟨nq, hw8⟩ := hw9; subst hw8); go_wp2_with fail)
            exact bodyPost_ret (v := .tuple #[.bool false, .int .i64 0]) (by simp [results, Try.results26, go_sem]) rfl ⟨by simp, HB.out⟩
          · go_wp2_with fail
            try ((refine wp_region_quiet_lit (by kernel_rfl) (by kernel_rfl) ?_; (repeat (first | go_big_quiet_step (fail) | (refine BigFrame.wpQuiet_skip (by rfl) ?_; try simp only [Act.put, List.setIfInBounds_toArray, List.set_cons_zero, List.set_cons_succ]))); refine wpQuiet_nil ?_; intro _ hw9; obtain ⟨nq, hw8⟩ := hw9; subst hw8); go_wp2_with fail)
            go_roundw
            case rel => exact ⟨q + 1, by have := HLQ.out; omega, by go_num, by rw [HST.out]; simp, HSN.out, HB.out⟩
            case measure => (have h8 := HLQ.out; first | (simp [intOf]; done) | (simp [intOf]; omega))
        · obtain rfl : q = n := by omega
          have hE : R = true := by rw [← HC2.out, HN.out]; exact alB_end _ _ _
          subst hE
          go_wp2_with fail
          exact bodyPost_ret (v := .tuple #[.bool true, .int .i64 0]) (by simp [results, Try.results26, go_sem]) rfl ⟨by simp, HB.out⟩
    obtain ⟨ig, io, x, ea, ig1, hx, c0⟩ := HI.out.at j hlt
    subst ea
    have hdr := HRT.out
    rw [in_drop hx] at hdr
    have HDR := Lib.hid hdr
    have HLT := Lib.hid hlt
    have ww5 : IntKind.i64.wrap ((j : Int) + 1) = (j : Int) + 1 := IntWalk.i64_in _ (by omega)
    have bj9 : ((j : Int) < (iN : Int)) = True := eq_true (by omega)
    have bj1 : (j < iN) = True := eq_true hlt
    clear hx hdr
    by_cases hneg : x < 0
    · skip
      have d1 : decide (x < 0) = true := decide_eq_true hneg
      have hr : R = false := by rw [HDR.out]; exact tryL_out (.inl hneg)
      subst hr
      go_wp2_with fail
      exact bodyPost_ret (v := .tuple #[.bool false, .int .i64 0]) (by simp [results, Try.results26, go_sem]) rfl ⟨by simp, HB.out⟩
    have d1 : decide (x < 0) = false := decide_eq_false hneg
    by_cases hge : (n : Int) ≤ x
    · skip
      have d2 : decide ((n : Int) ≤ x) = true := decide_eq_true hge
      have hr : R = false := by rw [HDR.out]; exact tryL_out (.inr (by have := HN.out; omega))
      subst hr
      go_wp2_with fail
      exact bodyPost_ret (v := .tuple #[.bool false, .int .i64 0]) (by simp [results, Try.results26, go_sem]) rfl ⟨by simp, HB.out⟩
    obtain ⟨q, rfl⟩ : ∃ q : Nat, x = q := ⟨x.toNat, by omega⟩
    have hqn : q < n := by omega
    have d2 : decide ((n : Int) ≤ (q : Int)) = false := decide_eq_false hge
    have d2' : decide (n ≤ q) = false := decide_eq_false (by omega)
    have HQN := Lib.hid hqn
    obtain ⟨g, o, z, ez, g1, hz, hld, hrg⟩ := HL.out.ld q hqn
    subst ez
    clear hld hrg
    have hgz : gCa L q = z := gCa_of hz
    have HZ := Lib.hid hz
    have HTZ := Lib.hid (HAL.out q z hz)
    have hst := HDR.out
    rw [tryL_in (by rw [← HN.out]; exact hqn), hgz] at hst
    have HST := Lib.hid hst
    obtain ⟨b1, hb1⟩ : ∃ b, b = D.testBit q := ⟨_, rfl⟩
    obtain ⟨b2, hb2⟩ : ∃ b, b = stB D z.fr 0 L := ⟨_, rfl⟩
    rw [← hb1, ← hb2] at HST
    have HB2 := Lib.hid hb2
    have sb : wr.cell? ⟨B, q, none⟩ = some (.bool b1) := by rw [cell_at HSN.out, seenA_at hqn, hb1]
    have bk9 : ((q : Int) < (n : Int)) = True := eq_true (by omega)
    have bk1 : (q < n) = True := eq_true hqn
    clear hz hgz hst hb1 hb2 hneg hge
    cases b1
    rotate_left
    · skip
      have hr : R = false := by rw [HST.out]; simp
      subst hr
      go_wp2_with fail
      exact bodyPost_ret (v := .tuple #[.bool false, .int .i64 0]) (by simp [results, Try.results26, go_sem]) rfl ⟨by simp, HB.out⟩
    go_wp2_with fail
    clear sb
    go_loopw [10] (fun i wr => ∃ p : Nat, p ≤ n ∧ i = .int .i64 p ∧ stB D z.fr p (L.drop p) = b2 ∧ Blk wr B (seenA D n) 4 ∧ FcO 0 wr (.slice st tN tc) ot t ∧ Below w.heap.size w wr) (fun i _ => n - (intOf i).toNat)
    case atStart => exact ⟨0, Nat.zero_le _, rfl, HB2.out.symm, HSN.out, HT.out, HB.out⟩
    case round =>
      clear HB HL HI HSN HT
      obtain ⟨p, hp, rfl, hc, hS, hT, hB⟩ := hrel
      have HB := Lib.hid hB
      have HC2 := Lib.hid hc
      have HSN := Lib.hid hS
      have HT := Lib.hid hT
      have HL := Lib.hid (HL0.out.below HB.out)
      clear hB hc hS hT
      by_cases hlp : p < n
      · skip
        obtain ⟨g', o', y, ea', g1', hy, _, hry⟩ := HL.out.ld p hlp
        obtain ⟨rfl, rfl⟩ : g = g' ∧ o = o' := by injection ea' with e; injection e with e1 e2; exact ⟨e1, e2⟩
        have HSTP : Hid (b2 = (!(decide (0 < y.til) && !D.testBit p && decide (y.til < z.fr)) && stB D z.fr (p + 1) (L.drop (p + 1)))) := Lib.hid (by rw [← HC2.out, ← gCa_of hy]; exact stB_step _ _ (by rw [← HN.out]; exact hlp))
        have hti := HAL.out p y hy
        have htz := HTZ.out
        have y14 : wr.cell? ⟨g, o + p * 20 + 14, none⟩ = some (.int .i64 y.til) := hry 14 _ rfl
        have z13 : wr.cell? ⟨g, o + q * 20 + 13, none⟩ = some (.int .i64 z.fr) := HL.out.rg HQN.out HZ.out 13 _ rfl
        have sb : wr.cell? ⟨B, p, none⟩ = some (.bool (D.testBit p)) := by rw [cell_at HSN.out, seenA_at hlp]
        have hyz : p = q → y = z := fun e => by subst e; exact Option.some.inj (hy.symm.trans HZ.out)
        obtain ⟨bt, hbt⟩ : ∃ b, b = D.testBit p := ⟨_, rfl⟩
        rw [← hbt] at HSTP sb
        have ww6 : IntKind.i64.wrap ((p : Int) + 1) = (p : Int) + 1 := IntWalk.i64_in _ (by omega)
        have bp9 : ((p : Int) < (n : Int)) = True := eq_true (by omega)
        have bp1 : (p < n) = True := eq_true hlp
        have HLP := Lib.hid hlp
        clear hy hry hbt HC2 hlp ea' ww5
        cases bt
        rotate_left
        · skip
          clear hti htz hyz
          go_wp2_with fail
          (refine wp_region_quiet_lit (by kernel_rfl) (by kernel_rfl) ?_; (repeat (first | go_big_quiet_step (fail) | (refine BigFrame.wpQuiet_skip (by rfl) ?_; try simp only [Act.put, List.setIfInBounds_toArray, List.set_cons_zero, List.set_cons_succ]))); refine wpQuiet_nil ?_; intro _ hw9; obtain ⟨nq, hw8⟩ := hw9; subst hw8)
          go_wp2_with fail
          go_roundw
          case rel => exact ⟨p + 1, by have := HLP.out; omega, by go_num, by rw [HSTP.out]; simp, HSN.out.step (dN _ _), HT.out.step (dN _ _), HB.out.trans ((dN _ _).mono HB.out.size)⟩
          case measure => (have h8 := HLP.out; first | (simp [intOf]; done) | (simp [intOf]; omega))
        by_cases hpq : p = q
        · skip
          have e1 : ((p : Int) != (q : Int)) = false := by simp; omega
          have hyz2 := hyz hpq
          have HF := Lib.hid (show (decide (0 < y.til) && decide (y.til < z.fr)) = false by
            rw [hyz2]
            by_cases h0 : 0 < z.til
            · have := htz.2 h0
              rw [decide_eq_false (show ¬ z.til < z.fr by omega)]; simp
            · rw [decide_eq_false h0]; rfl)
          clear hti htz hyz hyz2 hpq
          go_wp2_with fail
          (refine wp_region_quiet_lit (by kernel_rfl) (by kernel_rfl) ?_; (repeat (first | go_big_quiet_step (fail) | (refine BigFrame.wpQuiet_skip (by rfl) ?_; try simp only [Act.put, List.setIfInBounds_toArray, List.set_cons_zero, List.set_cons_succ]))); refine wpQuiet_nil ?_; intro _ hw9; obtain ⟨nq, hw8⟩ := hw9; subst hw8)
          go_wp2_with fail
          go_roundw
          case rel => exact ⟨p + 1, by have := HLP.out; omega, by go_num, by rw [HSTP.out]; have h5 := HF.out; simp only [Bool.and_eq_false_iff, decide_eq_false_iff_not] at h5; rcases h5 with h5 | h5 <;> simp [h5], HSN.out.step (dN _ _), HT.out.step (dN _ _), HB.out.trans ((dN _ _).mono HB.out.size)⟩
          case measure => (have h8 := HLP.out; first | (simp [intOf]; done) | (simp [intOf]; omega))
        have e1 : ((p : Int) != (q : Int)) = true := by simp; omega
        clear hpq hyz htz
        by_cases t1 : 0 < y.til
        rotate_left
        · skip
          have q1 : (y.til != 0) = false := by simp; omega
          have T1 := Lib.hid t1
          clear t1 hti
          go_wp2_with fail
          (refine wp_region_quiet_lit (by kernel_rfl) (by kernel_rfl) ?_; (repeat (first | go_big_quiet_step (fail) | (refine BigFrame.wpQuiet_skip (by rfl) ?_; try simp only [Act.put, List.setIfInBounds_toArray, List.set_cons_zero, List.set_cons_succ]))); refine wpQuiet_nil ?_; intro _ hw9; obtain ⟨nq, hw8⟩ := hw9; subst hw8)
          go_wp2_with fail
          go_roundw
          case rel => exact ⟨p + 1, by have := HLP.out; omega, by go_num, by rw [HSTP.out]; rw [show decide (0 < y.til) = false from decide_eq_false (by have := T1.out; omega)]; simp, HSN.out.step (dN _ _), HT.out.step (dN _ _), HB.out.trans ((dN _ _).mono HB.out.size)⟩
          case measure => (have h8 := HLP.out; first | (simp [intOf]; done) | (simp [intOf]; omega))
        have q1 : (y.til != 0) = true := by simp; omega
        have T1 := Lib.hid t1
        clear t1 hti
        by_cases t2 : y.til < z.fr
        rotate_left
        · skip
          have q2 : decide (y.til < z.fr) = false := decide_eq_false t2
          have T2 := Lib.hid t2
          clear t2
          go_wp2_with fail
          (refine wp_region_quiet_lit (by kernel_rfl) (by kernel_rfl) ?_; (repeat (first | go_big_quiet_step (fail) | (refine BigFrame.wpQuiet_skip (by rfl) ?_; try simp only [Act.put, List.setIfInBounds_toArray, List.set_cons_zero, List.set_cons_succ]))); refine wpQuiet_nil ?_; intro _ hw9; obtain ⟨nq, hw8⟩ := hw9; subst hw8)
          go_wp2_with fail
          go_roundw
          case rel => exact ⟨p + 1, by have := HLP.out; omega, by go_num, by rw [HSTP.out]; rw [show decide (y.til < z.fr) = false from decide_eq_false (by have := T2.out; omega)]; simp, HSN.out.step (dN _ _), HT.out.step (dN _ _), HB.out.trans ((dN _ _).mono HB.out.size)⟩
          case measure => (have h8 := HLP.out; first | (simp [intOf]; done) | (simp [intOf]; omega))
        have q2 : decide (y.til < z.fr) = true := decide_eq_true t2
        have hb2 : b2 = false := by rw [HSTP.out, decide_eq_true T1.out, q2]; rfl
        have hr : R = false := by rw [HST.out, hb2]; simp
        subst hr
        clear hb2 t2
        go_wp2_with fail
        (refine wp_region_quiet_lit (by kernel_rfl) (by kernel_rfl) ?_; (repeat (first | go_big_quiet_step (fail) | (refine BigFrame.wpQuiet_skip (by rfl) ?_; try simp only [Act.put, List.setIfInBounds_toArray, List.set_cons_zero, List.set_cons_succ]))); refine wpQuiet_nil ?_; intro _ hw9; obtain ⟨nq, hw8⟩ := hw9; subst hw8)
        go_wp2_with fail
        exact bodyPost_ret (v := .tuple #[.bool false, .int .i64 0]) (by simp [results, Try.results26, go_sem]) rfl ⟨by simp, HB.out.trans ((dN _ _).mono HB.out.size)⟩
      obtain rfl : p = n := by omega
      have hb2 : b2 = true := by rw [← HC2.out, HN.out]; exact stB_end _ _ _ _
      subst hb2
      clear HC2
      have hlB := HSN.out.lt
      have sb : wr.cell? ⟨B, q, none⟩ = some (.bool (D.testBit q)) := by rw [cell_at HSN.out, seenA_at HQN.out]
      have fzB : ∀ j, wr.frozen? ⟨B, j, none⟩ = false := fun j => free_at HSN.out j
      obtain ⟨W5, hW5⟩ : ∃ X, X = wr.setCell ⟨B, q, none⟩ (.bool true) := ⟨_, rfl⟩
      have hS5 : Blk W5 B (seenA (D ||| 2 ^ q) p) 4 := by rw [hW5, ← seenA_set HQN.out]; exact HSN.out.set q _
      have hf5 : Fr [B] wr W5 := by rw [hW5]; exact (Fr.refl _ _).setCell _ (.inl (by simp)) _
      have HB5 := Lib.hid (HB.out.trans (hf5.below HB.out.size (by simp; exact HLB.out)))
      have HT5 := Lib.hid (HT.out.frT HSN.out hf5 (by decide))
      have HS5 := Lib.hid hS5
      clear hS5 hf5
      go_upto_region 17 with fail
      rw [← hW5]
      clear hW5 sb fzB hlB HB HT HSN HL
      have HB := HB5
      have HT := HT5
      have HSN := HS5
      have HL := Lib.hid (HL0.out.below HB.out)
      clear HB5 HT5 HS5
      obtain ⟨A, hA⟩ : ∃ A, A = doC t z := ⟨_, rfl⟩
      rw [← hA] at HST
      have HDO := Lib.hid (fun W (h : FcV W (.slice st tN tc) t) => rdo_any z _ t W h (by have := tbl_len16 HTB.out; omega))
      rw [← hA] at HDO
      have HA := Lib.hid hA
      clear hA
      have HRG13 := Lib.hid (ca_range13 (HL.out.rg HQN.out HZ.out))
      go_wp2_with (refine wpList_load_mid rfl 51 (.tmp 89) rfl g (o + q * 20) rfl [.int .i8 z.kind, .int .i64 z.client, .int .i64 z.number, .int .i64 z.tenant, .int .i64 z.crate, .int .i64 z.cburst, .int .i64 z.shaper, .int .i64 z.epoch, .int .i64 z.clease, .int .i64 z.csize, .int .i64 z.spent, .bool z.closed, .slice z.lsa z.lsn z.lsc] _ (by exact HRG13.out) Try.underlying51 rfl (by kernel_rfl) ?_)
      go_at_call 21
      go_fit (HDO.out _ HT.out.v)
      rintro e W21 ⟨v2, ob2, rfl, ho2, hB⟩
      clear HRG13 HDO
      replace HB := Lib.hid (HB.out.trans (hB.mono HB.out.size))
      replace HL := Lib.hid (HL0.out.below HB.out)
      replace HT := Lib.hid (HT.out.step hB)
      replace HSN := Lib.hid (HSN.out.step hB)
      clear hB
      have HT2 := Lib.hid (ho2.le (Nat.zero_le _))
      obtain ⟨a2, n2, c2, rfl, H2, q21, q22⟩ := ho2.v.sh
      clear ho2 HT
      go_upto_region 18 with fail
      obtain ⟨Q, hQ⟩ : ∃ n0, n0 = W21.heap.size := ⟨_, rfl⟩
      have HLOQ : Hid (w.heap.size ≤ Q) := Lib.hid (by have := HB.out.size; omega)
      obtain ⟨W22, hA0⟩ : ∃ W0, W0 = W21.alloc (.cells #[.int .i64 A.e, .int .i64 A.r, .int .i64 A.b, .int .i64 0, .int .i64 0] 54) := ⟨_, rfl⟩
      have hB : Below W21.heap.size W21 W22 := by rw [hA0]; exact (Below.refl _ _).alloc (Nat.le_refl _) _
      have hS0 : W22.heap.size = Q + 1 := by rw [hA0]; simp [← hQ]
      have HQ := Lib.hid (show Blk W22 Q #[.int .i64 A.e, .int .i64 A.r, .int .i64 A.b, .int .i64 0, .int .i64 0] 54 by rw [hA0, hQ]; exact blk_new _ _ _)
      replace HB := Lib.hid (HB.out.trans (hB.mono HB.out.size))
      replace HL := Lib.hid (HL0.out.below HB.out)
      replace HSN := Lib.hid (HSN.out.step hB)
      replace HT2 := Lib.hid (HT2.out.step hB)
      clear hB
      have HSQ := Lib.hid hS0
      rw [← hQ, ← hA0]
      clear hA0 hQ hS0
      have hrg := HL.out.rg HQN.out HZ.out
      have z14 : W22.cell? ⟨g, o + q * 20 + 14, none⟩ = some (.int .i64 z.til) := hrg 14 _ rfl
      have z15 : W22.cell? ⟨g, o + q * 20 + 15, none⟩ = some (.int .i64 z.e) := hrg 15 _ rfl
      have z16 : W22.cell? ⟨g, o + q * 20 + 16, none⟩ = some (.int .i64 z.rate) := hrg 16 _ rfl
      have z17 : W22.cell? ⟨g, o + q * 20 + 17, none⟩ = some (.int .i64 z.burst) := hrg 17 _ rfl
      have z18 : W22.cell? ⟨g, o + q * 20 + 18, none⟩ = some (.int .i64 z.lease) := hrg 18 _ rfl
      have z19 : W22.cell? ⟨g, o + q * 20 + 19, none⟩ = some (.int .i64 z.size) := hrg 19 _ rfl
      clear hrg
      have qQ0 : W22.cell? ⟨Q, 0, none⟩ = some (.int .i64 A.e) := cell_at HQ.out 0
      have qQ1 : W22.cell? ⟨Q, 1, none⟩ = some (.int .i64 A.r) := cell_at HQ.out 1
      have qQ2 : W22.cell? ⟨Q, 2, none⟩ = some (.int .i64 A.b) := cell_at HQ.out 2
      have qQ3 : W22.cell? ⟨Q, 3, none⟩ = some (.int .i64 0) := cell_at HQ.out 3
      have qQ4 : W22.cell? ⟨Q, 4, none⟩ = some (.int .i64 0) := cell_at HQ.out 4
      have qQz : ∀ j, W22.frozen? ⟨Q, j, none⟩ = false := fun j => free_at HQ.out j
      have qQl : Q < W22.heap.size := HQ.out.lt
      have hq := fun W => an_neq A.e A.r A.b 0 0 z.e z.rate z.burst z.lease z.size W
      obtain ⟨pb, hqe⟩ : ∃ p, p = !(decide (A.e = z.e) && decide (A.r = z.rate) && decide (A.b = z.burst) && decide (0 = z.lease) && decide (0 = z.size)) := ⟨_, rfl⟩
      rw [← hqe] at hq
      have hne : neA z A = (decide (0 < z.til) && pb) := by rw [hqe]; rfl
      rw [hne] at HST
      clear hqe hne
      have htz := HTZ.out
      by_cases t1 : 0 < z.til
      · skip
        have q1 : (z.til != 0) = true := by simp; omega
        have T1 := Lib.hid t1
        rw [decide_eq_true t1] at HST
        clear t1 htz
        cases pb
        rotate_left
        · skip
          have hr : R = false := by rw [HST.out]; simp
          subst hr
          go_wp2_with fail
          (refine wp_region_quiet_lit (by kernel_rfl) (by kernel_rfl) ?_; (repeat (first | go_big_quiet_step (fail) | (refine BigFrame.wpQuiet_skip (by rfl) ?_; try simp only [Act.put, List.setIfInBounds_toArray, List.set_cons_zero, List.set_cons_succ]))); refine wpQuiet_nil ?_; intro _ hw9; obtain ⟨nq, hw8⟩ := hw9; subst hw8)
          obtain ⟨W23, hWn⟩ : ∃ X, X = W22.drewN nq := ⟨_, rfl⟩
          rw [← hWn]
          have hB : Below W22.heap.size W22 W23 := by rw [hWn]; exact dN _ _
          clear hWn hq
          clear z14 z15 z16 z17 z18 z19 qQ0 qQ1 qQ2 qQ3 qQ4 qQz qQl
          replace HB := Lib.hid (HB.out.trans (hB.mono HB.out.size))
          replace HL := Lib.hid (HL0.out.below HB.out)
          replace HSN := Lib.hid (HSN.out.step hB)
          replace HT2 := Lib.hid (HT2.out.step hB)
          replace HQ := Lib.hid (HQ.out.step hB)
          clear hB
          go_wp2_with fail
          exact bodyPost_ret (v := .tuple #[.bool false, .int .i64 0]) (by simp [results, Try.results26, go_sem]) rfl ⟨by simp, HB.out⟩
        go_wp2_with fail
        (refine wp_region_quiet_lit (by kernel_rfl) (by kernel_rfl) ?_; (repeat (first | go_big_quiet_step (fail) | (refine BigFrame.wpQuiet_skip (by rfl) ?_; try simp only [Act.put, List.setIfInBounds_toArray, List.set_cons_zero, List.set_cons_succ]))); refine wpQuiet_nil ?_; intro _ hw9; obtain ⟨nq, hw8⟩ := hw9; subst hw8)
        obtain ⟨W23, hWn⟩ : ∃ X, X = W22.drewN nq := ⟨_, rfl⟩
        rw [← hWn]
        have hB : Below W22.heap.size W22 W23 := by rw [hWn]; exact dN _ _
        clear hWn hq
        clear z14 z15 z16 z17 z18 z19 qQ0 qQ1 qQ2 qQ3 qQ4 qQz qQl
        replace HB := Lib.hid (HB.out.trans (hB.mono HB.out.size))
        replace HL := Lib.hid (HL0.out.below HB.out)
        replace HSN := Lib.hid (HSN.out.step hB)
        replace HT2 := Lib.hid (HT2.out.step hB)
        replace HQ := Lib.hid (HQ.out.step hB)
        clear hB
        have ww5 : IntKind.i64.wrap ((j : Int) + 1) = (j : Int) + 1 := IntWalk.i64_in _ (by have := HLT.out; omega)
        go_wp2_with fail
        go_roundw
        case rel => exact ⟨j + 1, D ||| 2 ^ q, A.l, ob2, by have := HLT.out; omega, by go_num, bit_lt HD.out (by have := HQN.out; omega), by rw [HA.out]; exact tbl_do _ _ _ _ HTB.out, HT2.out, by rw [HST.out]; simp, HSN.out, HB.out⟩
        case measure => (have h8 := HLT.out; first | (simp [intOf]; done) | (simp [intOf]; omega))
      · skip
        have q1 : (z.til != 0) = false := by simp; omega
        rw [decide_eq_false t1] at HST
        clear t1 htz
        go_wp2_with fail
        (refine wp_region_quiet_lit (by kernel_rfl) (by kernel_rfl) ?_; (repeat (first | go_big_quiet_step (fail) | (refine BigFrame.wpQuiet_skip (by rfl) ?_; try simp only [Act.put, List.setIfInBounds_toArray, List.set_cons_zero, List.set_cons_succ]))); refine wpQuiet_nil ?_; intro _ hw9; obtain ⟨nq, hw8⟩ := hw9; subst hw8)
        obtain ⟨W23, hWn⟩ : ∃ X, X = W22.drewN nq := ⟨_, rfl⟩
        rw [← hWn]
        have hB : Below W22.heap.size W22 W23 := by rw [hWn]; exact dN _ _
        clear hWn hq
        clear z14 z15 z16 z17 z18 z19 qQ0 qQ1 qQ2 qQ3 qQ4 qQz qQl
        replace HB := Lib.hid (HB.out.trans (hB.mono HB.out.size))
        replace HL := Lib.hid (HL0.out.below HB.out)
        replace HSN := Lib.hid (HSN.out.step hB)
        replace HT2 := Lib.hid (HT2.out.step hB)
        replace HQ := Lib.hid (HQ.out.step hB)
        clear hB
        have ww5 : IntKind.i64.wrap ((j : Int) + 1) = (j : Int) + 1 := IntWalk.i64_in _ (by have := HLT.out; omega)
        go_wp2_with fail
        go_roundw
        case rel => exact ⟨j + 1, D ||| 2 ^ q, A.l, ob2, by have := HLT.out; omega, by go_num, bit_lt HD.out (by have := HQN.out; omega), by rw [HA.out]; exact tbl_do _ _ _ _ HTB.out, HT2.out, by rw [HST.out]; simp, HSN.out, HB.out⟩
        case measure => (have h8 := HLT.out; first | (simp [intOf]; done) | (simp [intOf]; omega))
end Go.Proofs.Ythmjlomlceljkaa
