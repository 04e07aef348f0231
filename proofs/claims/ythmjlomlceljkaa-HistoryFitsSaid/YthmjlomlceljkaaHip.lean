/-
  A search of the document.
-/
import Derived.Test.YthmjlomlceljkaaHio
import Derived.Test.YthmjlomlceljkaaHij
import Derived.Deep.DeepFit
import Derived.Lib.AppendZeros
import Derived.Deep.RegionLaw
import Derived.Deep.RegionWith
import Derived.Lib.EndianBits
import Derived.Deep.MidRow
namespace Go.Proofs.Ythmjlomlceljkaa
open Go.RowKit
set_option linter.unusedSimpArgs false
set_option linter.unusedVariables false

theorem bc0 : ∀ {b1 b2 : Bool}, false = (!b1 && b2) → (b1 || !b2) = true := by decide
theorem bc1 : ∀ {b1 b2 : Bool}, true = (!b1 && b2) → b1 = false ∧ b2 = true := by decide
theorem sr_len (L : List CaE) : ∀ (m D : Nat) (t : List FcE) (r : List Int), free D L.length < m → sr L D t = some r → r.length ≤ m
  | 0, D, t, r, h, _ => by omega
  | m + 1, D, t, r, h, hs => by
    rw [sr_eq] at hs
    by_cases ha : alB D 0 L = true
    · rw [if_pos ha] at hs
      obtain rfl := Option.some.inj hs
      exact Nat.zero_le _
    · rw [if_neg ha] at hs
      have hs' : srL (sr L) L D t 0 (L.drop 0) = some r := hs
      obtain ⟨q, r', _, h2, rfl, h4, h5, h6⟩ := srL_some L.length 0 (by omega) hs'
      have hb : D.testBit q = false := by
        cases hq : D.testBit q
        · rfl
        · rw [hq] at h4; simp at h4
      have := sr_len L m _ _ _ (by have := free_or h2 hb; omega) h6
      rw [List.length_cons]
      omega
theorem ino_one {W : World} {M b : Nat} {x : Int} (h : Blk W b #[.int .i64 x] 3) (ho : -9223372036854775808 ≤ x ∧ x ≤ 9223372036854775807) (hM : M ≤ b) : InO M W (.slice (some ⟨b, 0, none⟩) 1 1) (some b) [x] :=
  ⟨Row.mk (cur := #[.int .i64 x]) h (Nat.le_refl _) (by unfold maxLen; omega) (by simp) (by simp [inL]), fun y hy => by simp at hy; subst hy; exact ho, fun g e => by obtain rfl := Option.some.inj e; exact hM⟩
theorem cost_step {E E' E6 fq C : Nat} (h1 : E' ≤ E + fq * C) (h2 : E6 ≤ E' + C) : E6 ≤ E + (fq + 1) * C := by rw [Nat.succ_mul]; omega
theorem cost_le {X E fq m C : Nat} (h : X ≤ E + fq * C) (hf : fq ≤ m) : X ≤ E + m * C := by have := Nat.mul_le_mul_right C hf; omega
set_option maxRecDepth 100000 in
set_option maxHeartbeats 40000000 in
theorem find_any (w0 : World) (F : Nat) (vl : Value) (L : List CaE) (hL : L.length ≤ 12) (hall : allC L = true) : ∀ (m D : Nat) (t : List FcE) (v : Value) (ot : Option Nat) (vd : Value) (ob : Option Nat) (E : List DeE) (w : World),
    free D L.length < m → D < 4096 → tblB 0 t = true → FcO 0 w v ot t → DS w0 w F vl L vd ob E → E.length + cost m ≤ 4000000000000 →
    Calls Try.prog 57 #[.pointer (some ⟨F, 0, none⟩), .int .u16 (D : Nat), v] w fun e w' => DP w0 F vl L E (cost m) D t w e w' := by
  intro m
  induction m with
  | zero => intro D t v ot vd ob E w hf; omega
  | succ m ih =>
    intro D t v ot vd ob E w hf hD ht hv hE hc
    obtain ⟨ta, tn, tc, rfl, Htn, tn1, tn2⟩ := hv.v.sh
    have HT := Lib.hid hv
    have HE := Lib.hid hE
    obtain ⟨w9, hw9⟩ : ∃ X, X = w := ⟨_, rfl⟩
    have HS : Hid (DF w0.heap.size w9 w) := Lib.hid (by rw [hw9]; exact DF.refl _ _)
    suffices hsuf : Calls Try.prog 57 #[.pointer (some ⟨F, 0, none⟩), .int .u16 (D : Nat), .slice ta tn tc] w fun e w' => DP w0 F vl L E (cost (m + 1)) D t w9 e w' by rw [hw9] at hsuf; exact hsuf
    clear hw9
    have HTB := Lib.hid ht
    have HF := Lib.hid hf
    have HD := Lib.hid hD
    have HC := Lib.hid hc
    have HL := Lib.hid hL
    have IH := Lib.hid ih
    have HAL := Lib.hid (fun (j : Nat) (z : CaE) (hz : L[j]? = some z) => mayC_til (allC_mem hall z (List.mem_of_getElem? hz)))
    obtain ⟨a, n, cap, rfl, HN, m1, m2⟩ := hE.hl.sh
    obtain ⟨da, dn, dc, rfl, HDN, d1, d2⟩ := hE.row.v.sh
    have hn12 : n ≤ 12 := by have := HN.out; omega
    obtain ⟨A0, hA0⟩ : ∃ A0, A0 = alB D 0 L := ⟨_, rfl⟩
    have HA0 := Lib.hid hA0
    have hdn : dn ≤ 4000000000000 := by have := HDN.out; omega
    clear hv hE hf hc hL ih hall hA0
    go_enter Try.func57, Try.ntmps57
    go_wp2_with fail
    go_loopw [8, 9] (fun wh i wr => ∃ (k : Nat) (b : Bool), k ≤ n ∧ wh = .bool b ∧ i = .int .i64 k ∧ (b && alB D k (L.drop k)) = A0 ∧ wr = w) (fun _ i _ => n - (intOf i).toNat)
    case atStart => exact ⟨0, true, Nat.zero_le _, rfl, rfl, HA0.out.symm, rfl⟩
    case round =>
      obtain ⟨k, b, hk, rfl, rfl, hR, rfl⟩ := hrel
      have HR := Lib.hid hR
      clear hR
      by_cases hlt : k < n
      · skip
        obtain ⟨g, o, x, ea, g1, hx, hld, hrg⟩ := (HE.out.hl.below HE.out.lo).ld k hlt
        subst ea
        clear hld
        have HST : Hid (A0 = (b && (!(decide (0 < x.til) && !D.testBit k) && alB D (k + 1) (L.drop (k + 1))))) := Lib.hid (by rw [← HR.out, ← gCa_of hx, alB_step D (by rw [← HN.out]; exact hlt)])
        have hti := HAL.out k x hx
        have z14 : wr.cell? ⟨g, o + k * 20 + 14, none⟩ = some (.int .i64 x.til) := hrg 14 _ rfl
        have hb1 := bit16_has D k HD.out
        obtain ⟨bt, hbt⟩ : ∃ b, b = D.testBit k := ⟨_, rfl⟩
        rw [← hbt] at hb1 HST
        have wk : IntKind.u64.wrap (k : Int) = (k : Int) := wraps_u64 _ (by omega) (by omega)
        have ww5 : IntKind.i64.wrap ((k : Int) + 1) = (k : Int) + 1 := IntWalk.i64_in _ (by omega)
        have b9 : ((k : Int) < (n : Int)) = True := eq_true (by omega)
        have bk1 : (k < n) = True := eq_true hlt
        have HLT := Lib.hid hlt
        clear hx hrg hbt HR hlt
        have ef0 : wr.cell? ⟨F, 0, none⟩ = some (.slice (some ⟨g, o, none⟩) n cap) := cell_at HE.out.cf 0
        have ef1 : wr.cell? ⟨F, 1, none⟩ = some (.slice da dn dc) := cell_at HE.out.cf 1
        cases b
        · skip
          clear hti
          go_wp2_with fail
          go_roundw
          case rel => exact ⟨k + 1, false, by have := HLT.out; omega, by first | rfl | simp [*], by go_num, by rw [HST.out]; rfl, by first | rfl | trivial⟩
          case measure => (have h8 := HLT.out; first | (simp [intOf]; done) | (simp [intOf]; omega))
        by_cases t1 : 0 < x.til
        rotate_left
        · skip
          have q1 : (x.til == 0) = true := by simp; omega
          have T1 := Lib.hid t1
          clear t1 hti
          go_wp2_with fail
          go_roundw
          case rel => exact ⟨k + 1, true, by have := HLT.out; omega, by first | rfl | simp [*], by go_num, by rw [HST.out]; rw [show decide (0 < x.til) = false from decide_eq_false (by have := T1.out; omega)]; simp, by first | rfl | trivial⟩
          case measure => (have h8 := HLT.out; first | (simp [intOf]; done) | (simp [intOf]; omega))
        have q1 : (x.til == 0) = false := by simp; omega
        have T1 := Lib.hid t1
        clear t1 hti
        go_wp2_with fail
        go_roundw
        case rel => exact ⟨k + 1, bt, by have := HLT.out; omega, by first | rfl | simp [*], by go_num, by rw [HST.out]; rw [decide_eq_true T1.out]; cases bt <;> simp, by first | rfl | trivial⟩
        case measure => (have h8 := HLT.out; first | (simp [intOf]; done) | (simp [intOf]; omega))
      obtain rfl : k = n := by omega
      have hAl : A0 = b := by rw [← HR.out, HN.out, alB_end]; simp
      clear HR
      have ef0 : wr.cell? ⟨F, 0, none⟩ = some (.slice a k cap) := cell_at HE.out.cf 0
      have ef1 : wr.cell? ⟨F, 1, none⟩ = some (.slice da dn dc) := cell_at HE.out.cf 1
      cases b
      rotate_left
      · skip
        have hr : sr L D t = some [] := by rw [sr_eq, ← HA0.out, hAl]; rfl
        have HRR := Lib.hid hr
        clear hAl hr
        go_wp2_with fail
        exact bodyPost_ret (v := .tuple #[.slice none 0 0, .bool true]) (by simp [results, Try.results57, go_sem]) rfl (dp_some HE.out HS.out HRR.out (inv_nil _) (by omega))
      have HSR : Hid (sr L D t = srL (sr L) L D t 0 L) := Lib.hid (by rw [sr_eq, ← HA0.out, hAl, if_neg (by simp)])
      clear hAl HA0
      have HW : Hid (Below wr.heap.size wr wr) := Lib.hid (Below.refl _ _)
      go_wp2_with fail
      clear ef0 ef1
      go_loopw [10] (fun i wq => ∃ j : Nat, j ≤ dn ∧ i = .int .i64 j ∧ DS w0 wq F (.slice a k cap) L (.slice da dn dc) ob E ∧ DF w0.heap.size w9 wq ∧ FcO 0 wq (.slice ta tn tc) ot t) (fun i _ => dn - (intOf i).toNat)
      case atStart => exact ⟨0, Nat.zero_le _, rfl, HE.out, HS.out, HT.out⟩
      case round =>
        clear HE HS HT HW
        obtain ⟨j, hj, rfl, hE, hS, hT⟩ := hrel
        have HE := Lib.hid hE
        have HS := Lib.hid hS
        have HT := Lib.hid hT
        clear hE hS hT
        by_cases hlt : j < dn
        · skip
          obtain ⟨dg, dO, x, ea, g1, hx, c0, c1⟩ := HE.out.row.v.at j hlt
          subst ea
          obtain ⟨eo, et, e1, e2, e3⟩ := HE.out.ent x (List.mem_of_getElem? hx)
          have HX1 := Lib.hid e1
          have HX2 := Lib.hid e2
          have HX3 := Lib.hid e3
          have HSM := Lib.hid (fun W (h1 : FcV W (.slice x.ta x.tn x.tc) et) (h2 : FcV W (.slice ta tn tc) t) => same_any _ _ et t W h1 h2)
          have ww5 : IntKind.i64.wrap ((j : Int) + 1) = (j : Int) + 1 := IntWalk.i64_in _ (by omega)
          have b9 : ((j : Int) < (dn : Int)) = True := eq_true (by omega)
          have bk1 : (j < dn) = True := eq_true hlt
          have HLT := Lib.hid hlt
          clear hx e1 e2 e3 hlt
          have ef0 : wr.cell? ⟨F, 0, none⟩ = some (.slice a k cap) := cell_at HE.out.cf 0
          have ef1 : wr.cell? ⟨F, 1, none⟩ = some (.slice (some ⟨dg, dO, none⟩) dn dc) := cell_at HE.out.cf 1
          by_cases t1 : x.done = (D : Int)
          rotate_left
          · skip
            have q1 : (x.done == (D : Int)) = false := by simp; omega
            clear t1
            go_wp2_with fail
            go_roundw
            case rel => exact ⟨j + 1, by have := HLT.out; omega, by go_num, HE.out, HS.out, HT.out⟩
            case measure => (have h8 := HLT.out; first | (simp [intOf]; done) | (simp [intOf]; omega))
          have q1 : (x.done == (D : Int)) = true := by simp; omega
          have T1 := Lib.hid t1
          clear t1
          obtain ⟨sb, hsb⟩ : ∃ s, s = decide (et = t) := ⟨_, rfl⟩
          rw [← hsb] at HSM
          have HSB := Lib.hid hsb
          clear hsb
          go_wp2_with fail
          go_at_call 70
          go_fit (HSM.out _ HX1.out.v HT.out.v)
          rintro e W1 ⟨rfl, hB⟩
          clear ef0 ef1
          replace HS := Lib.hid (HS.out.trans (DF.of_below hB HE.out.lo.size))
          replace HE := Lib.hid (HE.out.sf hB)
          replace HT := Lib.hid (HT.out.step hB)
          clear hB
          have ef0 : W1.cell? ⟨F, 0, none⟩ = some (.slice a k cap) := cell_at HE.out.cf 0
          have ef1 : W1.cell? ⟨F, 1, none⟩ = some (.slice (some ⟨dg, dO, none⟩) dn dc) := cell_at HE.out.cf 1
          clear HX1 HSM
          cases sb
          · skip
            go_wp2_with fail
            go_roundw
            case rel => exact ⟨j + 1, by have := HLT.out; omega, by go_num, HE.out, HS.out, HT.out⟩
            case measure => (have h8 := HLT.out; first | (simp [intOf]; done) | (simp [intOf]; omega))
          have het : et = t := of_decide_eq_true HSB.out.symm
          have hn : sr L D t = none := by have h3 := HX3.out; rw [T1.out, Int.toNat_natCast, het] at h3; exact h3
          have HNN := Lib.hid hn
          clear het hn
          go_wp2_with fail
          exact bodyPost_ret (v := .tuple #[.slice none 0 0, .bool false]) (by simp [results, Try.results57, go_sem]) rfl (dp_none HE.out HS.out HNN.out (by omega))
        obtain rfl : j = dn := by omega
        have ef0 : wr.cell? ⟨F, 0, none⟩ = some (.slice a k cap) := cell_at HE.out.cf 0
        have ef1 : wr.cell? ⟨F, 1, none⟩ = some (.slice da j dc) := cell_at HE.out.cf 1
        have HSR2 : Hid (srL (sr L) L D t 0 (L.drop 0) = sr L D t) := Lib.hid HSR.out.symm
        clear HSR
        go_wp2_with fail
        clear ef0 ef1
        go_loopw [11, 12, 13, 14, 15, 16, 17] (fun i _ _ _ _ _ _ wq => ∃ (q : Nat) (vd : Value) (ob : Option Nat) (E' : List DeE), q ≤ k ∧ i = .int .i64 q ∧ DS w0 wq F (.slice a k cap) L vd ob E' ∧ DF w0.heap.size w9 wq ∧ FcO 0 wq (.slice ta tn tc) ot t ∧ srL (sr L) L D t q (L.drop q) = sr L D t ∧ E'.length ≤ E.length + free D q * cost m) (fun i _ _ _ _ _ _ _ => k - (intOf i).toNat)
        case atStart => exact ⟨0, _, ob, E, Nat.zero_le _, rfl, HE.out, HS.out, HT.out, HSR2.out, Nat.le_add_right _ _⟩
        case round =>
          clear HE HS HT HSR2
          obtain ⟨q, vd, ob', E', hq, rfl, hE, hS, hT, hr, hEl⟩ := hrel
          have HE := Lib.hid hE
          have HS := Lib.hid hS
          have HT := Lib.hid hT
          have HSR := Lib.hid hr
          have HEL := Lib.hid hEl
          obtain ⟨da', dn', dc', rfl, HDN', d1', d2'⟩ := hE.row.v.sh
          clear hE hS hT hr hEl
          by_cases hlt : q < k
          · skip
            obtain ⟨g, o, z, ea, g1, hz, hld, hrg⟩ := (HE.out.hl.below HE.out.lo).ld q hlt
            subst ea
            clear hld hrg
            have hgz : gCa L q = z := gCa_of hz
            have HZ := Lib.hid hz
            have HTZ := Lib.hid (HAL.out q z hz)
            have hst := srL_step (f := sr L) (L := L) (D := D) (t := t) (k := q) (by rw [← HN.out]; exact hlt)
            rw [hgz, HSR.out] at hst
            have hfs := free_step D q
            have hb1 := bit16_not D q HD.out
            obtain ⟨b1, hb1'⟩ : ∃ b, b = D.testBit q := ⟨_, rfl⟩
            obtain ⟨b2, hb2⟩ : ∃ b, b = stB D z.fr 0 L := ⟨_, rfl⟩
            rw [← hb1', ← hb2] at hst
            rw [← hb1'] at hb1 hfs
            have HST := Lib.hid hst
            have HFS := Lib.hid hfs
            have HB1 := Lib.hid hb1'
            have HB2 := Lib.hid hb2
            have wk : IntKind.u64.wrap (q : Int) = (q : Int) := wraps_u64 _ (by omega) (by omega)
            have b9 : ((q : Int) < (k : Int)) = True := eq_true (by omega)
            have bk1 : (q < k) = True := eq_true hlt
            have HLT := Lib.hid hlt
            clear hz hgz hst hb1' hb2 HSR hfs hlt
            have ef0 : wr.cell? ⟨F, 0, none⟩ = some (.slice (some ⟨g, o, none⟩) k cap) := cell_at HE.out.cf 0
            have ef1 : wr.cell? ⟨F, 1, none⟩ = some ((.slice da' dn' dc')) := cell_at HE.out.cf 1
            go_wp2_with fail
            clear hb1 wk b9 bk1
            clear ef0 ef1
            go_loopw [12, 13] (fun fr i wq => ∃ (p : Nat) (fb : Bool), p ≤ k ∧ fr = .bool fb ∧ i = .int .i64 p ∧ (fb && stB D z.fr p (L.drop p)) = (!b1 && b2) ∧ DS w0 wq F (.slice (some ⟨g, o, none⟩) k cap) L (.slice da' dn' dc') ob' E' ∧ DF w0.heap.size w9 wq ∧ FcO 0 wq (.slice ta tn tc) ot t) (fun _ i _ => k - (intOf i).toNat)
            case atStart => exact ⟨0, !b1, Nat.zero_le _, rfl, rfl, by rw [HB2.out]; rfl, HE.out, HS.out, HT.out⟩
            case round =>
              clear HE HS HT
              obtain ⟨p, fb, hp, rfl, rfl, hR, hE, hS, hT⟩ := hrel
              have HE := Lib.hid hE
              have HS := Lib.hid hS
              have HT := Lib.hid hT
              have HR := Lib.hid hR
              clear hE hS hT hR
              by_cases hlp : p < k
              · skip
                obtain ⟨g', o', y, ea', g1', hy, _, hry⟩ := (HE.out.hl.below HE.out.lo).ld p hlp
                obtain ⟨rfl, rfl⟩ : g = g' ∧ o = o' := by injection ea' with e; injection e with e1 e2; exact ⟨e1, e2⟩
                have HSTP : Hid ((!b1 && b2) = (fb && (!(decide (0 < y.til) && !D.testBit p && decide (y.til < z.fr)) && stB D z.fr (p + 1) (L.drop (p + 1))))) := Lib.hid (by rw [← HR.out, ← gCa_of hy, stB_step _ _ (by rw [← HN.out]; exact hlp)])
                have hti := HAL.out p y hy
                have htz := HTZ.out
                have y14 : wr.cell? ⟨g, o + p * 20 + 14, none⟩ = some (.int .i64 y.til) := hry 14 _ rfl
                have z13 : wr.cell? ⟨g, o + q * 20 + 13, none⟩ = some (.int .i64 z.fr) := (HE.out.hl.below HE.out.lo).rg HLT.out HZ.out 13 _ rfl
                have hyz : p = q → y = z := fun e => by subst e; exact Option.some.inj (hy.symm.trans HZ.out)
                have hb1 := bit16_not D p HD.out
                obtain ⟨bt, hbt⟩ : ∃ b, b = D.testBit p := ⟨_, rfl⟩
                rw [← hbt] at HSTP hb1
                have wk : IntKind.u64.wrap (p : Int) = (p : Int) := wraps_u64 _ (by omega) (by omega)
                have wq1 : IntKind.i64.wrap ((p : Int) + 1) = (p : Int) + 1 := IntWalk.i64_in _ (by omega)
                have b9 : ((p : Int) < (k : Int)) = True := eq_true (by omega)
                have bk1 : (p < k) = True := eq_true hlp
                have bq9 : ((q : Int) < (k : Int)) = True := eq_true (by have := HLT.out; omega)
                have bqk1 : (q < k) = True := eq_true HLT.out
                have HLP := Lib.hid hlp
                clear hy hry hbt HR ea'
                have ef0 : wr.cell? ⟨F, 0, none⟩ = some (.slice (some ⟨g, o, none⟩) k cap) := cell_at HE.out.cf 0
                have ef1 : wr.cell? ⟨F, 1, none⟩ = some ((.slice da' dn' dc')) := cell_at HE.out.cf 1
                by_cases hpq : p = q
                · skip
                  have e1 : ((p : Int) != (q : Int)) = false := by simp; omega
                  have hyz2 := hyz hpq
                  have HFF := Lib.hid (show (decide (0 < y.til) && decide (y.til < z.fr)) = false by
                    rw [hyz2]
                    by_cases h0 : 0 < z.til
                    · have := htz.2 h0
                      rw [decide_eq_false (show ¬ z.til < z.fr by omega)]; simp
                    · rw [decide_eq_false h0]; rfl)
                  clear hti htz hyz hyz2 hpq
                  go_wp2_with fail
                  (refine wp_region_quiet_lit (by kernel_rfl) (by kernel_rfl) ?_; (repeat (first | go_big_quiet_step (fail) | (refine BigFrame.wpQuiet_skip (by rfl) ?_; try simp only [Act.put, List.setIfInBounds_toArray, List.set_cons_zero, List.set_cons_succ]))); refine wpQuiet_nil ?_; intro _ hw9; obtain ⟨nq, hw8⟩ := hw9; subst hw8)
                  obtain ⟨W1, hWn⟩ : ∃ X, X = wr.drewN nq := ⟨_, rfl⟩
                  rw [← hWn]
                  have hB : Below wr.heap.size wr W1 := by rw [hWn]; exact dN _ _
                  clear hWn
                  clear ef0 ef1
                  replace HS := Lib.hid (HS.out.trans (DF.of_below hB HE.out.lo.size))
                  replace HE := Lib.hid (HE.out.sf hB)
                  replace HT := Lib.hid (HT.out.step hB)
                  clear hB
                  go_wp2_with fail
                  go_roundw
                  case rel => exact ⟨p + 1, fb, by have := HLP.out; omega, by first | rfl | simp [*], by go_num, by rw [HSTP.out]; have h5 := HFF.out; simp only [Bool.and_eq_false_iff, decide_eq_false_iff_not] at h5; rcases h5 with h5 | h5 <;> simp [h5], HE.out, HS.out, HT.out⟩
                  case measure => (have h8 := HLP.out; first | (simp [intOf]; done) | (simp [intOf]; omega))
                have e1 : ((p : Int) != (q : Int)) = true := by simp; omega
                clear hpq hyz htz
                cases bt
                rotate_left
                · skip
                  clear hti
                  go_wp2_with fail
                  (refine wp_region_quiet_lit (by kernel_rfl) (by kernel_rfl) ?_; (repeat (first | go_big_quiet_step (fail) | (refine BigFrame.wpQuiet_skip (by rfl) ?_; try simp only [Act.put, List.setIfInBounds_toArray, List.set_cons_zero, List.set_cons_succ]))); refine wpQuiet_nil ?_; intro _ hw9; obtain ⟨nq, hw8⟩ := hw9; subst hw8)
                  obtain ⟨W1, hWn⟩ : ∃ X, X = wr.drewN nq := ⟨_, rfl⟩
                  rw [← hWn]
                  have hB : Below wr.heap.size wr W1 := by rw [hWn]; exact dN _ _
                  clear hWn
                  clear ef0 ef1
                  replace HS := Lib.hid (HS.out.trans (DF.of_below hB HE.out.lo.size))
                  replace HE := Lib.hid (HE.out.sf hB)
                  replace HT := Lib.hid (HT.out.step hB)
                  clear hB
                  go_wp2_with fail
                  go_roundw
                  case rel => exact ⟨p + 1, fb, by have := HLP.out; omega, by first | rfl | simp [*], by go_num, by rw [HSTP.out]; simp, HE.out, HS.out, HT.out⟩
                  case measure => (have h8 := HLP.out; first | (simp [intOf]; done) | (simp [intOf]; omega))
                by_cases t1 : 0 < y.til
                rotate_left
                · skip
                  have q1 : (y.til != 0) = false := by simp; omega
                  have T1 := Lib.hid t1
                  clear t1 hti
                  go_wp2_with fail
                  (refine wp_region_quiet_lit (by kernel_rfl) (by kernel_rfl) ?_; (repeat (first | go_big_quiet_step (fail) | (refine BigFrame.wpQuiet_skip (by rfl) ?_; try simp only [Act.put, List.setIfInBounds_toArray, List.set_cons_zero, List.set_cons_succ]))); refine wpQuiet_nil ?_; intro _ hw9; obtain ⟨nq, hw8⟩ := hw9; subst hw8)
                  obtain ⟨W1, hWn⟩ : ∃ X, X = wr.drewN nq := ⟨_, rfl⟩
                  rw [← hWn]
                  have hB : Below wr.heap.size wr W1 := by rw [hWn]; exact dN _ _
                  clear hWn
                  clear ef0 ef1
                  replace HS := Lib.hid (HS.out.trans (DF.of_below hB HE.out.lo.size))
                  replace HE := Lib.hid (HE.out.sf hB)
                  replace HT := Lib.hid (HT.out.step hB)
                  clear hB
                  go_wp2_with fail
                  go_roundw
                  case rel => exact ⟨p + 1, fb, by have := HLP.out; omega, by first | rfl | simp [*], by go_num, by rw [HSTP.out]; rw [show decide (0 < y.til) = false from decide_eq_false (by have := T1.out; omega)]; simp, HE.out, HS.out, HT.out⟩
                  case measure => (have h8 := HLP.out; first | (simp [intOf]; done) | (simp [intOf]; omega))
                have q1 : (y.til != 0) = true := by simp; omega
                have T1 := Lib.hid t1
                clear t1 hti
                by_cases t2 : y.til < z.fr
                rotate_left
                · skip
                  have q2 : decide (y.til < z.fr) = false := decide_eq_false t2
                  have T2 := Lib.hid t2
                  clear t2
                  go_wp2_with fail
                  (refine wp_region_quiet_lit (by kernel_rfl) (by kernel_rfl) ?_; (repeat (first | go_big_quiet_step (fail) | (refine BigFrame.wpQuiet_skip (by rfl) ?_; try simp only [Act.put, List.setIfInBounds_toArray, List.set_cons_zero, List.set_cons_succ]))); refine wpQuiet_nil ?_; intro _ hw9; obtain ⟨nq, hw8⟩ := hw9; subst hw8)
                  obtain ⟨W1, hWn⟩ : ∃ X, X = wr.drewN nq := ⟨_, rfl⟩
                  rw [← hWn]
                  have hB : Below wr.heap.size wr W1 := by rw [hWn]; exact dN _ _
                  clear hWn
                  clear ef0 ef1
                  replace HS := Lib.hid (HS.out.trans (DF.of_below hB HE.out.lo.size))
                  replace HE := Lib.hid (HE.out.sf hB)
                  replace HT := Lib.hid (HT.out.step hB)
                  clear hB
                  go_wp2_with fail
                  go_roundw
                  case rel => exact ⟨p + 1, fb, by have := HLP.out; omega, by first | rfl | simp [*], by go_num, by rw [HSTP.out]; rw [show decide (y.til < z.fr) = false from decide_eq_false (by have := T2.out; omega)]; simp, HE.out, HS.out, HT.out⟩
                  case measure => (have h8 := HLP.out; first | (simp [intOf]; done) | (simp [intOf]; omega))
                have q2 : decide (y.til < z.fr) = true := decide_eq_true t2
                have T2 := Lib.hid t2
                clear t2
                go_wp2_with fail
                (refine wp_region_quiet_lit (by kernel_rfl) (by kernel_rfl) ?_; (repeat (first | go_big_quiet_step (fail) | (refine BigFrame.wpQuiet_skip (by rfl) ?_; try simp only [Act.put, List.setIfInBounds_toArray, List.set_cons_zero, List.set_cons_succ]))); refine wpQuiet_nil ?_; intro _ hw9; obtain ⟨nq, hw8⟩ := hw9; subst hw8)
                obtain ⟨W1, hWn⟩ : ∃ X, X = wr.drewN nq := ⟨_, rfl⟩
                rw [← hWn]
                have hB : Below wr.heap.size wr W1 := by rw [hWn]; exact dN _ _
                clear hWn
                clear ef0 ef1
                replace HS := Lib.hid (HS.out.trans (DF.of_below hB HE.out.lo.size))
                replace HE := Lib.hid (HE.out.sf hB)
                replace HT := Lib.hid (HT.out.step hB)
                clear hB
                go_wp2_with fail
                go_roundw
                case rel => exact ⟨p + 1, false, by have := HLP.out; omega, by first | rfl | simp [*], by go_num, by rw [HSTP.out]; rw [decide_eq_true T1.out, decide_eq_true T2.out]; cases fb <;> rfl, HE.out, HS.out, HT.out⟩
                case measure => (have h8 := HLP.out; first | (simp [intOf]; done) | (simp [intOf]; omega))
              obtain rfl : p = k := by omega
              have hfb : fb = (!b1 && b2) := by rw [← HR.out, HN.out, stB_end]; simp
              clear HR
              have ww5 : IntKind.i64.wrap ((q : Int) + 1) = (q : Int) + 1 := IntWalk.i64_in _ (by have := HLT.out; omega)
              have bq9 : ((q : Int) < (p : Int)) = True := eq_true (by have := HLT.out; omega)
              have bqk1 : (q < p) = True := eq_true HLT.out
              have HFM : Hid (free D (q + 1) ≤ m) := Lib.hid (by
                have h1 := free_mono D (q + 1) (L.length - (q + 1))
                have h2 := HLT.out
                have h3 := HN.out
                rw [show q + 1 + (L.length - (q + 1)) = L.length by omega] at h1
                have := HF.out
                omega)
              have HKEEP : Hid (E'.length ≤ E.length + free D (q + 1) * cost m) := Lib.hid (cost_le HEL.out (by have := HFS.out; omega))
              cases fb
              · skip
                have hq0 : (b1 || !b2) = true := bc0 hfb
                have hgo : srL (sr L) L D t (q + 1) (L.drop (q + 1)) = sr L D t := by rw [HST.out, if_pos hq0]
                have HGO := Lib.hid hgo
                clear hfb hq0 hgo
                have ef0 : wr.cell? ⟨F, 0, none⟩ = some (.slice (some ⟨g, o, none⟩) p cap) := cell_at HE.out.cf 0
                have ef1 : wr.cell? ⟨F, 1, none⟩ = some ((.slice da' dn' dc')) := cell_at HE.out.cf 1
                go_wp2_with fail
                go_roundw
                case rel => exact ⟨q + 1, _, _, _, by have := HLT.out; omega, by go_num, HE.out, HS.out, HT.out, by exact HGO.out, HKEEP.out⟩
                case measure => (have h8 := HLT.out; first | (simp [intOf]; done) | (simp [intOf]; omega))
              obtain ⟨rfl, rfl⟩ : b1 = false ∧ b2 = true := bc1 hfb
              clear hfb
              obtain ⟨A, hA⟩ : ∃ A, A = doC t z := ⟨_, rfl⟩
              have hst : sr L D t = if neA z A = true then srL (sr L) L D t (q + 1) (L.drop (q + 1)) else match sr L (D ||| 2 ^ q) A.l with | some r => some ((q : Int) :: r) | none => srL (sr L) L D t (q + 1) (L.drop (q + 1)) := by rw [HST.out, if_neg (by simp), hA]; rfl
              replace HST := Lib.hid hst
              have HDO := Lib.hid (fun W (h : FcV W (.slice ta tn tc) t) => rdo_any z _ t W h (by have := tbl_len16 HTB.out; omega))
              rw [← hA] at HDO
              have HA := Lib.hid hA
              clear hA hst
              have HRG13 := Lib.hid (ca_range13 ((HE.out.hl.below HE.out.lo).rg HLT.out HZ.out))
              have ef0 : wr.cell? ⟨F, 0, none⟩ = some (.slice (some ⟨g, o, none⟩) p cap) := cell_at HE.out.cf 0
              have ef1 : wr.cell? ⟨F, 1, none⟩ = some ((.slice da' dn' dc')) := cell_at HE.out.cf 1
              go_wp2_with (refine wpList_load_mid rfl 51 (.tmp 154) rfl g (o + q * 20) rfl [.int .i8 z.kind, .int .i64 z.client, .int .i64 z.number, .int .i64 z.tenant, .int .i64 z.crate, .int .i64 z.cburst, .int .i64 z.shaper, .int .i64 z.epoch, .int .i64 z.clease, .int .i64 z.csize, .int .i64 z.spent, .bool z.closed, .slice z.lsa z.lsn z.lsc] _ (by exact HRG13.out) Try.underlying51 rfl (by kernel_rfl) ?_)
              go_at_call 21
              go_fit (HDO.out _ HT.out.v)
              rintro e W1 ⟨v2, ob2, rfl, ho2, hB⟩
              clear HRG13 HDO
              clear ef0 ef1
              replace HS := Lib.hid (HS.out.trans (DF.of_below hB HE.out.lo.size))
              replace HE := Lib.hid (HE.out.sf hB)
              replace HT := Lib.hid (HT.out.step hB)
              clear hB
              have HT2 := Lib.hid (ho2.le (Nat.zero_le _))
              obtain ⟨a2, n2, c2, rfl, H2, q21, q22⟩ := ho2.v.sh
              clear ho2
              go_upto_region 24 with fail
              obtain ⟨Q, hQ⟩ : ∃ n0, n0 = W1.heap.size := ⟨_, rfl⟩
              obtain ⟨W2, hA⟩ : ∃ W0, W0 = W1.alloc (.cells #[.int .i64 A.e, .int .i64 A.r, .int .i64 A.b, .int .i64 0, .int .i64 0] 54) := ⟨_, rfl⟩
              have hB : Below W1.heap.size W1 W2 := by rw [hA]; exact (Below.refl _ _).alloc (Nat.le_refl _) _
              have HQ := Lib.hid (show Blk W2 Q #[.int .i64 A.e, .int .i64 A.r, .int .i64 A.b, .int .i64 0, .int .i64 0] 54 by rw [hA, hQ]; exact blk_new _ _ _)
              rw [← hQ, ← hA]
              clear hA hQ
              replace HS := Lib.hid (HS.out.trans (DF.of_below hB HE.out.lo.size))
              replace HE := Lib.hid (HE.out.sf hB)
              replace HT := Lib.hid (HT.out.step hB)
              replace HT2 := Lib.hid (HT2.out.step hB)
              clear hB
              have hrg := (HE.out.hl.below HE.out.lo).rg HLT.out HZ.out
              have z14 : W2.cell? ⟨g, o + q * 20 + 14, none⟩ = some (.int .i64 z.til) := hrg 14 _ rfl
              have z15 : W2.cell? ⟨g, o + q * 20 + 15, none⟩ = some (.int .i64 z.e) := hrg 15 _ rfl
              have z16 : W2.cell? ⟨g, o + q * 20 + 16, none⟩ = some (.int .i64 z.rate) := hrg 16 _ rfl
              have z17 : W2.cell? ⟨g, o + q * 20 + 17, none⟩ = some (.int .i64 z.burst) := hrg 17 _ rfl
              have z18 : W2.cell? ⟨g, o + q * 20 + 18, none⟩ = some (.int .i64 z.lease) := hrg 18 _ rfl
              have z19 : W2.cell? ⟨g, o + q * 20 + 19, none⟩ = some (.int .i64 z.size) := hrg 19 _ rfl
              clear hrg
              have ef0 : W2.cell? ⟨F, 0, none⟩ = some (.slice (some ⟨g, o, none⟩) p cap) := cell_at HE.out.cf 0
              have ef1 : W2.cell? ⟨F, 1, none⟩ = some ((.slice da' dn' dc')) := cell_at HE.out.cf 1
              have qQ0 : W2.cell? ⟨Q, 0, none⟩ = some (.int .i64 A.e) := cell_at HQ.out 0
              have qQ1 : W2.cell? ⟨Q, 1, none⟩ = some (.int .i64 A.r) := cell_at HQ.out 1
              have qQ2 : W2.cell? ⟨Q, 2, none⟩ = some (.int .i64 A.b) := cell_at HQ.out 2
              have qQ3 : W2.cell? ⟨Q, 3, none⟩ = some (.int .i64 0) := cell_at HQ.out 3
              have qQ4 : W2.cell? ⟨Q, 4, none⟩ = some (.int .i64 0) := cell_at HQ.out 4
              have qQz : ∀ j, W2.frozen? ⟨Q, j, none⟩ = false := fun j => free_at HQ.out j
              have qQl : Q < W2.heap.size := HQ.out.lt
              have hq := fun W => an_neq A.e A.r A.b 0 0 z.e z.rate z.burst z.lease z.size W
              obtain ⟨pb, hqe⟩ : ∃ p, p = !(decide (A.e = z.e) && decide (A.r = z.rate) && decide (A.b = z.burst) && decide (0 = z.lease) && decide (0 = z.size)) := ⟨_, rfl⟩
              rw [← hqe] at hq
              have hne : neA z A = (decide (0 < z.til) && pb) := by rw [hqe]; rfl
              have hst := HST.out
              rw [hne] at hst
              clear hqe hne HST
              by_cases t1 : 0 < z.til
              · skip
                have q1 : (z.til != 0) = true := by simp; omega
                rw [decide_eq_true t1, Bool.true_and] at hst
                clear t1
                cases pb
                rotate_left
                · skip
                  have HGO : Hid (srL (sr L) L D t (q + 1) (L.drop (q + 1)) = sr L D t) := Lib.hid (by rw [hst, if_pos rfl])
                  clear hst
                  go_wp2_with fail
                  (refine wp_region_quiet_lit (by kernel_rfl) (by kernel_rfl) ?_; (repeat (first | go_big_quiet_step (fail) | (refine BigFrame.wpQuiet_skip (by rfl) ?_; try simp only [Act.put, List.setIfInBounds_toArray, List.set_cons_zero, List.set_cons_succ]))); refine wpQuiet_nil ?_; intro _ hw9; obtain ⟨nq, hw8⟩ := hw9; subst hw8)
                  obtain ⟨W3, hWn⟩ : ∃ X, X = W2.drewN nq := ⟨_, rfl⟩
                  rw [← hWn]
                  have hB : Below W2.heap.size W2 W3 := by rw [hWn]; exact dN _ _
                  clear hWn
                  clear z14 z15 z16 z17 z18 z19 ef0 ef1 qQ0 qQ1 qQ2 qQ3 qQ4 qQz qQl
                  replace HS := Lib.hid (HS.out.trans (DF.of_below hB HE.out.lo.size))
                  replace HE := Lib.hid (HE.out.sf hB)
                  replace HT := Lib.hid (HT.out.step hB)
                  replace HT2 := Lib.hid (HT2.out.step hB)
                  replace HQ := Lib.hid (HQ.out.step hB)
                  clear hB
                  go_wp2_with fail
                  go_roundw
                  case rel => exact ⟨q + 1, _, _, _, by have := HLT.out; omega, by go_num, HE.out, HS.out, HT.out, by exact HGO.out, HKEEP.out⟩
                  case measure => (have h8 := HLT.out; first | (simp [intOf]; done) | (simp [intOf]; omega))
                rw [if_neg (by simp)] at hst
                have HST := Lib.hid hst
                clear hst
                go_wp2_with fail
                (refine wp_region_quiet_lit (by kernel_rfl) (by kernel_rfl) ?_; (repeat (first | go_big_quiet_step (fail) | (refine BigFrame.wpQuiet_skip (by rfl) ?_; try simp only [Act.put, List.setIfInBounds_toArray, List.set_cons_zero, List.set_cons_succ]))); refine wpQuiet_nil ?_; intro _ hw9; obtain ⟨nq, hw8⟩ := hw9; subst hw8)
                obtain ⟨W3, hWn⟩ : ∃ X, X = W2.drewN nq := ⟨_, rfl⟩
                rw [← hWn]
                have hB : Below W2.heap.size W2 W3 := by rw [hWn]; exact dN _ _
                clear hWn
                clear z14 z15 z16 z17 z18 z19 ef0 ef1 qQ0 qQ1 qQ2 qQ3 qQ4 qQz qQl
                replace HS := Lib.hid (HS.out.trans (DF.of_below hB HE.out.lo.size))
                replace HE := Lib.hid (HE.out.sf hB)
                replace HT := Lib.hid (HT.out.step hB)
                replace HT2 := Lib.hid (HT2.out.step hB)
                replace HQ := Lib.hid (HQ.out.step hB)
                clear hB
                clear hq
                clear HQ
                have ef0 : W3.cell? ⟨F, 0, none⟩ = some (.slice (some ⟨g, o, none⟩) p cap) := cell_at HE.out.cf 0
                have ef1 : W3.cell? ⟨F, 1, none⟩ = some ((.slice da' dn' dc')) := cell_at HE.out.cf 1
                have hIH := IH.out (D ||| 2 ^ q) A.l (.slice a2 n2 c2) ob2 (.slice da' dn' dc') ob' E' W3 (by have := free_or (D := D) (k := q) (n := L.length) (by rw [← HN.out]; exact HLT.out) HB1.out.symm; have := HF.out; omega) (bit_lt HD.out (by have := HLT.out; omega)) (by rw [HA.out]; exact tbl_do _ _ _ _ HTB.out) HT2.out HE.out (by
                  have h1 := cost_step HEL.out (Nat.le_refl (E'.length + cost m))
                  have h2 := HFS.out
                  rw [if_neg (by simp)] at h2
                  rw [← h2] at h1
                  have h3 := cost_le h1 HFM.out
                  have h4 : cost (m + 1) = 1 + m * cost m := rfl
                  have h5 := HC.out
                  omega)
                have HIH := Lib.hid hIH
                clear hIH
                have wk : IntKind.u64.wrap (q : Int) = (q : Int) := wraps_u64 _ (by omega) (by have := HLT.out; omega)
                have hbit := bit16_put D q HD.out (by have := HLT.out; omega)
                go_wp2_with fail
                go_at_call 57
                go_fit HIH.out
                rintro e W4 ⟨v6, rfl, hv6, hs6, vd6, ob6, E6, hE6, hl6⟩
                clear ef0 ef1
                clear hbit HIH wk
                have HL6 : Hid (E6.length ≤ E.length + free D (q + 1) * cost m) := Lib.hid (by
                  have h2 := HFS.out
                  rw [if_neg (by simp)] at h2
                  rw [h2]
                  exact cost_step HEL.out hl6)
                replace HS := Lib.hid (HS.out.trans hs6)
                replace HT := Lib.hid (hs6.fco HT.out)
                replace HE := Lib.hid hE6
                clear HT2 hs6 hE6 hl6 HEL HKEEP
                obtain ⟨R, hR⟩ : ∃ R, R = sr L (D ||| 2 ^ q) A.l := ⟨_, rfl⟩
                rw [← hR] at hv6 HST ⊢
                clear hR
                cases R with
                | none =>
                  have HGO : Hid (srL (sr L) L D t (q + 1) (L.drop (q + 1)) = sr L D t) := Lib.hid HST.out.symm
                  obtain ⟨a6, n6, c6, rfl, _, _, _⟩ := hv6.sh
                  clear hv6
                  go_wp2_with fail
                  go_roundw
                  case rel => exact ⟨q + 1, _, _, _, by have := HLT.out; omega, by go_num, HE.out, HS.out, HT.out, by exact HGO.out, HL6.out⟩
                  case measure => (have h8 := HLT.out; first | (simp [intOf]; done) | (simp [intOf]; omega))
                | some r =>
                  have hfin : sr L D t = some ((q : Int) :: r) := HST.out
                  have HFIN := Lib.hid hfin
                  obtain ⟨a6, n6, c6, rfl, H6, q61, q62⟩ := hv6.sh
                  have hB1 : Below W4.heap.size W4 (W4.alloc (.cells #[.int .i64 (q : Int)] 3)) := (Below.refl _ _).alloc (Nat.le_refl _) _
                  have hl6 : r.length ≤ 50000 := by
                    have h1 := sr_len L (free D L.length + 1) D t _ (Nat.lt_succ_self _) hfin
                    have h2 := free_le L.length D
                    have h3 := HL.out
                    rw [List.length_cons] at h1
                    omega
                  obtain ⟨v7, ob7, W5, hrun, hio, hB2⟩ := in_app (ty := 33) (M := W4.heap.size) (ino_one (blk_new W4 #[.int .i64 (q : Int)] 3) (by have := HLT.out; omega) (Nat.le_refl _)) (hv6.below hB1) hB1.size (by simp; omega)
                  obtain ⟨a7, n7, c7, rfl, H7, q71, q72⟩ := hio.v.sh
                  have HRUN := Lib.hid hrun
                  have HV7 := Lib.hid hio.v
                  have HB7 := Lib.hid (hB1.trans hB2)
                  clear hrun hio hB1 hB2 hfin hl6 hv6
                  go_wp2_with (at_builtin; refine Lib.wpList_append_run _ rfl (.tmp 193) (.tmp 194) 33 33 rfl _ _ rfl rfl _ _ HRUN.out ?_)
                  exact bodyPost_ret (v := .tuple #[.slice a7 n7 c7, .bool true]) (by simp [results, Try.results57, go_sem]) rfl (dp_some (HE.out.sf HB7.out) (HS.out.trans (DF.of_below HB7.out HE.out.lo.size)) HFIN.out HV7.out (by
                    have h3 := cost_le HL6.out HFM.out
                    have h4 : cost (m + 1) = 1 + m * cost m := rfl
                    omega))
              · skip
                have q1 : (z.til != 0) = false := by have htz := HTZ.out; simp; omega
                rw [decide_eq_false t1, Bool.false_and, if_neg (by simp)] at hst
                clear t1
                have HST := Lib.hid hst
                clear hst
                go_wp2_with fail
                (refine wp_region_quiet_lit (by kernel_rfl) (by kernel_rfl) ?_; (repeat (first | go_big_quiet_step (fail) | (refine BigFrame.wpQuiet_skip (by rfl) ?_; try simp only [Act.put, List.setIfInBounds_toArray, List.set_cons_zero, List.set_cons_succ]))); refine wpQuiet_nil ?_; intro _ hw9; obtain ⟨nq, hw8⟩ := hw9; subst hw8)
                obtain ⟨W3, hWn⟩ : ∃ X, X = W2.drewN nq := ⟨_, rfl⟩
                rw [← hWn]
                have hB : Below W2.heap.size W2 W3 := by rw [hWn]; exact dN _ _
                clear hWn
                clear z14 z15 z16 z17 z18 z19 ef0 ef1 qQ0 qQ1 qQ2 qQ3 qQ4 qQz qQl
                replace HS := Lib.hid (HS.out.trans (DF.of_below hB HE.out.lo.size))
                replace HE := Lib.hid (HE.out.sf hB)
                replace HT := Lib.hid (HT.out.step hB)
                replace HT2 := Lib.hid (HT2.out.step hB)
                replace HQ := Lib.hid (HQ.out.step hB)
                clear hB
                clear hq
                clear HQ
                have ef0 : W3.cell? ⟨F, 0, none⟩ = some (.slice (some ⟨g, o, none⟩) p cap) := cell_at HE.out.cf 0
                have ef1 : W3.cell? ⟨F, 1, none⟩ = some ((.slice da' dn' dc')) := cell_at HE.out.cf 1
                have hIH := IH.out (D ||| 2 ^ q) A.l (.slice a2 n2 c2) ob2 (.slice da' dn' dc') ob' E' W3 (by have := free_or (D := D) (k := q) (n := L.length) (by rw [← HN.out]; exact HLT.out) HB1.out.symm; have := HF.out; omega) (bit_lt HD.out (by have := HLT.out; omega)) (by rw [HA.out]; exact tbl_do _ _ _ _ HTB.out) HT2.out HE.out (by
                  have h1 := cost_step HEL.out (Nat.le_refl (E'.length + cost m))
                  have h2 := HFS.out
                  rw [if_neg (by simp)] at h2
                  rw [← h2] at h1
                  have h3 := cost_le h1 HFM.out
                  have h4 : cost (m + 1) = 1 + m * cost m := rfl
                  have h5 := HC.out
                  omega)
                have HIH := Lib.hid hIH
                clear hIH
                have wk : IntKind.u64.wrap (q : Int) = (q : Int) := wraps_u64 _ (by omega) (by have := HLT.out; omega)
                have hbit := bit16_put D q HD.out (by have := HLT.out; omega)
                go_wp2_with fail
                go_at_call 57
                go_fit HIH.out
                rintro e W4 ⟨v6, rfl, hv6, hs6, vd6, ob6, E6, hE6, hl6⟩
                clear ef0 ef1
                clear hbit HIH wk
                have HL6 : Hid (E6.length ≤ E.length + free D (q + 1) * cost m) := Lib.hid (by
                  have h2 := HFS.out
                  rw [if_neg (by simp)] at h2
                  rw [h2]
                  exact cost_step HEL.out hl6)
                replace HS := Lib.hid (HS.out.trans hs6)
                replace HT := Lib.hid (hs6.fco HT.out)
                replace HE := Lib.hid hE6
                clear HT2 hs6 hE6 hl6 HEL HKEEP
                obtain ⟨R, hR⟩ : ∃ R, R = sr L (D ||| 2 ^ q) A.l := ⟨_, rfl⟩
                rw [← hR] at hv6 HST ⊢
                clear hR
                cases R with
                | none =>
                  have HGO : Hid (srL (sr L) L D t (q + 1) (L.drop (q + 1)) = sr L D t) := Lib.hid HST.out.symm
                  obtain ⟨a6, n6, c6, rfl, _, _, _⟩ := hv6.sh
                  clear hv6
                  go_wp2_with fail
                  go_roundw
                  case rel => exact ⟨q + 1, _, _, _, by have := HLT.out; omega, by go_num, HE.out, HS.out, HT.out, by exact HGO.out, HL6.out⟩
                  case measure => (have h8 := HLT.out; first | (simp [intOf]; done) | (simp [intOf]; omega))
                | some r =>
                  have hfin : sr L D t = some ((q : Int) :: r) := HST.out
                  have HFIN := Lib.hid hfin
                  obtain ⟨a6, n6, c6, rfl, H6, q61, q62⟩ := hv6.sh
                  have hB1 : Below W4.heap.size W4 (W4.alloc (.cells #[.int .i64 (q : Int)] 3)) := (Below.refl _ _).alloc (Nat.le_refl _) _
                  have hl6 : r.length ≤ 50000 := by
                    have h1 := sr_len L (free D L.length + 1) D t _ (Nat.lt_succ_self _) hfin
                    have h2 := free_le L.length D
                    have h3 := HL.out
                    rw [List.length_cons] at h1
                    omega
                  obtain ⟨v7, ob7, W5, hrun, hio, hB2⟩ := in_app (ty := 33) (M := W4.heap.size) (ino_one (blk_new W4 #[.int .i64 (q : Int)] 3) (by have := HLT.out; omega) (Nat.le_refl _)) (hv6.below hB1) hB1.size (by simp; omega)
                  obtain ⟨a7, n7, c7, rfl, H7, q71, q72⟩ := hio.v.sh
                  have HRUN := Lib.hid hrun
                  have HV7 := Lib.hid hio.v
                  have HB7 := Lib.hid (hB1.trans hB2)
                  clear hrun hio hB1 hB2 hfin hl6 hv6
                  go_wp2_with (at_builtin; refine Lib.wpList_append_run _ rfl (.tmp 193) (.tmp 194) 33 33 rfl _ _ rfl rfl _ _ HRUN.out ?_)
                  exact bodyPost_ret (v := .tuple #[.slice a7 n7 c7, .bool true]) (by simp [results, Try.results57, go_sem]) rfl (dp_some (HE.out.sf HB7.out) (HS.out.trans (DF.of_below HB7.out HE.out.lo.size)) HFIN.out HV7.out (by
                    have h3 := cost_le HL6.out HFM.out
                    have h4 : cost (m + 1) = 1 + m * cost m := rfl
                    omega))
          obtain rfl : q = k := by omega
          have hn : sr L D t = none := by rw [← HSR.out, HN.out, List.drop_length]; rfl
          have HNN := Lib.hid hn
          clear HSR hn
          have HLE : Hid (E'.length + 1 ≤ E.length + cost (m + 1)) := Lib.hid (by
            have h1 := cost_le HEL.out (show free D q ≤ m by have := HF.out; rw [← HN.out] at this; omega)
            have h4 : cost (m + 1) = 1 + m * cost m := rfl
            omega)
          have ef0 : wr.cell? ⟨F, 0, none⟩ = some (.slice a q cap) := cell_at HE.out.cf 0
          have ef1 : wr.cell? ⟨F, 1, none⟩ = some ((.slice da' dn' dc')) := cell_at HE.out.cf 1
          have hB1 : Below wr.heap.size wr (wr.alloc (.cells #[.int .u16 (D : Nat), .slice ta tn tc] 126)) := (Below.refl _ _).alloc (Nat.le_refl _) _
          have hE1 := HE.out.sf hB1
          obtain ⟨v7, ob7, W3, hrun, hio, hlo, hkp⟩ := de_push (ty := 108) (x := ⟨D, ta, tn, tc⟩) hE1.row (blk_new wr #[.int .u16 (D : Nat), .slice ta tn tc] 126) (by unfold DeE.ok; simp only [maxLen]; have := HD.out; omega) hE1.lo.size (by have := HLE.out; have := HC.out; omega)
          obtain ⟨a7, n7, c7, rfl, H7, q71, q72⟩ := hio.v.sh
          have HRUN := Lib.hid hrun
          have hcf : Blk W3 F #[.slice a q cap, .slice da' dn' dc'] 110 := (hkp F _ _ _ hE1.cf (by decide)).trans hE1.cf
          have ff1 : W3.cell? ⟨F, 1, none⟩ = some (.slice da' dn' dc') := cell_at hcf 1
          have fz1 : W3.frozen? ⟨F, 1, none⟩ = false := free_at hcf 1
          have lo1 : F < W3.heap.size := hcf.lt
          have HADD := Lib.hid (fun W' h => hE1.add (x := ⟨D, ta, tn, tc⟩) (W' := W') (HT.out.step hB1) HTB.out (by rw [Int.toNat_natCast]; exact HNN.out) hlo hkp hio h)
          have HS9 := Lib.hid (HS.out.trans (DF.of_below hB1 HE.out.lo.size))
          clear hrun hio hlo hkp hB1 hE1 hcf
          go_wp2_with (at_builtin; refine Lib.wpList_append_run _ rfl (.tmp 200) (.tmp 204) 108 108 rfl _ _ rfl rfl _ _ HRUN.out ?_)
          obtain ⟨W9, hW9⟩ : ∃ X, X = W3.setCell ⟨F, 1, none⟩ (.slice a7 n7 c7) := ⟨_, rfl⟩
          rw [← hW9]
          obtain ⟨hE9, hS9⟩ := HADD.out W9 hW9
          exact bodyPost_ret (v := .tuple #[.slice none 0 0, .bool false]) (by simp [results, Try.results57, go_sem]) rfl (dp_none hE9 (HS9.out.trans hS9) HNN.out (by rw [List.length_append, List.length_singleton]; exact HLE.out))
end Go.Proofs.Ythmjlomlceljkaa
