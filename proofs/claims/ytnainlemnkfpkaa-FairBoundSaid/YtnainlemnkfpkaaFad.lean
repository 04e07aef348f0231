/-
  A run: the program.
-/
import Derived.Test.YtnainlemnkfpkaaFac
namespace Go.Proofs.Ytnainlemnkfpkaa
open Go.RowKit
set_option linter.unusedSimpArgs false
set_option linter.unusedVariables false

set_option maxRecDepth 100000 in
set_option maxHeartbeats 4000000 in
theorem fnew_len (va : Value) (L : List Int) (w : World) (hv : InV w va L) (hl : L.length < 1 ∨ 8 < L.length) :
    Calls Try.prog 8 #[va] w fun e w' => e = .returned (.tuple #[.pointer none, .int .i64 2]) ∧ Below w.heap.size w w' := by
  obtain ⟨xa, n, xc, rfl, HN, m1, m2⟩ := hv.sh
  have hn : n = L.length := HN.out
  have NW := Lib.hid (new_bad (n : Int) w (by omega))
  clear hn hv hl
  go_enter Try.func8, Try.ntmps8
  go_wp2_with fail
  go_at_call 20
  go_fit (NW.out)
  rintro e W1 ⟨v, rfl, av, cv, ob, rfl, _, _, hB1⟩
  have HB1 := Lib.hid hB1
  clear hB1
  go_wp2_with fail
  exact bodyPost_ret (v := .tuple #[.pointer none, .int .i64 2]) (by simp [results, Try.results8, go_sem]) rfl ⟨rfl, HB1.out.alloc HB1.out.size _⟩
def natL (l : List Nat) : List Int := l.map fun x : Nat => (x : Int)
theorem natL_append (a b : List Nat) : natL (a ++ b) = natL a ++ natL b := by simp [natL]
def slLen : Value → Nat
  | .slice _ n _ => n
  | _ => 0
/-- what a run serves -/
def okRun (L : List Int) (Q : Nat → List Int) (n : Nat) : Prop := okWt L ∧ L.length = n ∧ okQ Q n
def runL (L : List Int) (Q : Nat → List Int) (n : Nat) : List Nat := runF n (gI L) (sumW (gI L) n) Q (totQ Q n + 1) s0F (fun _ => 0)
structure RunP (L : List Int) (Q : Nat → List Int) (n : Nat) (w : World) (v : Value) (w' : World) : Prop where
  ex : ∃ ob R, InO w.heap.size w' v ob R ∧ ((okRun L Q n ∧ R = natL (runL L Q n)) ∨ (¬ okRun L Q n ∧ R = []))
  b : Below w.heap.size w w'
theorem runF_some {n : Nat} {wt : Nat → Int} {al : Int} {Q : Nat → List Int} {f : Nat} {s : FS} {at_ : Nat → Nat} {k : Nat} (h : pkK n wt al (hdQ Q at_) s = some k) : runF n wt al Q (f + 1) s at_ = k :: runF n wt al Q f (pkS n wt al (hdQ Q at_) s) (upf at_ k (at_ k + 1)) := by rw [runF, h]
theorem runF_len {n : Nat} {wt : Nat → Int} {al : Int} {Q : Nat → List Int} (hw : WtOk n wt al) (hq : okQ Q n) : ∀ (f : Nat) {s : FS} {at_ : Nat → Nat}, Inv n s → leftQ Q at_ n < f → (runF n wt al Q f s at_).length = leftQ Q at_ n
  | 0, _, _, _, h => by omega
  | f + 1, s, at_, hi, h => by
    obtain ⟨h1, h2⟩ := inv_pk hw (hq.hd at_) hi
    unfold runF
    cases hp : pkK n wt al (hdQ Q at_) s with
    | none =>
      have := pk_none hp
      simp only [List.length_nil]
      exact (leftQ_none fun k hk => Nat.le_of_not_lt (fun hlt => this k hk ((hq.pos at_ hk).2 hlt))).symm
    | some k =>
      obtain ⟨hk, hz⟩ := h2 k hp
      have hlt := (hq.pos at_ hk).1 hz
      have hu := leftQ_up hlt hk
      simp only [List.length_cons]
      rw [runF_len hw hq f h1 (by omega)]
      omega
set_option maxRecDepth 100000 in
set_option maxHeartbeats 40000000 in
theorem frun_any (va : Value) (L : List Int) (a : Option Addr) (n cap b o : Nat) (vs : Nat → Value) (Q : Nat → List Int) (w : World) (hv : InV w va L) (hq : QIn w a n cap b o vs Q) (hn : n ≤ 1000) (hql : ∀ k, k < n → (Q k).length ≤ 1000000) :
    Calls Try.prog 16 #[va, .slice a n cap] w fun e w' => ∃ v, e = .returned v ∧ RunP L Q n w v w' := by
  have m1 := hq.le
  have m2 := hq.max
  unfold maxLen at m2
  obtain ⟨xa, xn, xc, rfl, HXN, x1, x2⟩ := hv.sh
  have HV := Lib.hid hv
  have HQ := Lib.hid hq
  have HN := Lib.hid hn
  have HQL := Lib.hid hql
  by_cases hlen : L.length < 1 ∨ 8 < L.length
  · have NW := Lib.hid (fnew_len _ L w hv hlen)
    have HNO : Hid (¬ okRun L Q n) := Lib.hid (fun h => by have h1 := h.1.1; have h2 := h.1.2.1; omega)
    clear hv hq hn hql hlen
    go_enter Try.func16, Try.ntmps16
    go_wp2_with fail
    go_at_call 8
    go_fit (NW.out)
    rintro e W1 ⟨rfl, hB1⟩
    have HB1 := Lib.hid hB1
    clear hB1
    go_wp2_with fail
    try rw [Exit.noGoto_ret]
    go_ret
    exact ⟨_, rfl, ⟨none, [], ino_nil _ _, .inr ⟨HNO.out, rfl⟩⟩, HB1.out⟩
  have NW := Lib.hid (fnew_any _ L w hv (by omega) (by omega))
  have HLN : Hid (1 ≤ L.length ∧ L.length ≤ 8) := Lib.hid (by omega)
  clear hv hq hn hql hlen
  go_enter Try.func16, Try.ntmps16
  go_wp2_with fail
  go_at_call 8
  go_fit (NW.out)
  intro e W1 hnew
  rcases hnew with ⟨hwt, g, fo, ft, c1, c2, rfl, hfr, hB1⟩ | ⟨hwt, rfl, hB1⟩
  rotate_left
  · have HB1 := Lib.hid hB1
    have HNO : Hid (¬ okRun L Q n) := Lib.hid (fun h => hwt h.1)
    clear hB1 hwt NW
    go_wp2_with fail
    try rw [Exit.noGoto_ret]
    go_ret
    exact ⟨_, rfl, ⟨none, [], ino_nil _ _, .inr ⟨HNO.out, rfl⟩⟩, HB1.out⟩
  have HB1 := Lib.hid hB1
  have HFR := Lib.hid hfr
  have HWT := Lib.hid hwt
  clear hB1 hfr hwt NW
  by_cases hne : n = xn
  rotate_left
  · have HNO : Hid (¬ okRun L Q n) := Lib.hid (fun h => hne (by rw [HXN.out]; exact h.2.1.symm))
    have d1 : ((n : Int) != (xn : Int)) = true := by simp; omega
    clear hne HXN
    go_wp2_with fail
    try rw [Exit.noGoto_ret]
    go_ret
    exact ⟨_, rfl, ⟨none, [], ino_nil _ _, .inr ⟨HNO.out, rfl⟩⟩, HB1.out⟩
  have hxn : xn = n := hne.symm
  subst hxn
  have d1 : ((xn : Int) != (xn : Int)) = false := by simp
  have HXL : Hid (xn = L.length) := HXN
  have HNB : Hid (1 ≤ xn ∧ xn ≤ 8) := Lib.hid (by rw [HXN.out]; exact HLN.out)
  have MR := Lib.hid (mayRun_any a xn cap b o vs Q W1 (HQ.out.below HB1.out) (by have := HNB.out; omega) HQL.out)
  clear hne
  go_wp2_with fail
  go_at_call 37
  go_fit (MR.out)
  rintro e W2 ⟨B, rfl, rfl, hB⟩
  clear MR
  cases B
  · have HNO : Hid (¬ okRun L Q xn) := Lib.hid (fun h => by have := hB.2 h.2.2; cases this)
    clear hB
    go_wp2_with fail
    try rw [Exit.noGoto_ret]
    go_ret
    exact ⟨_, rfl, ⟨none, [], ino_nil _ _, .inr ⟨HNO.out, rfl⟩⟩, HB1.out⟩
  have hok := hB.1 rfl
  have HOK := Lib.hid hok
  have HQ1 := Lib.hid (HQ.out.below HB1.out)
  have CL := Lib.hid (qclone_any a xn cap b o vs Q W1 HQ1.out (by have := HNB.out; omega) (by have := HNB.out; omega))
  have hwk := HWT.out.ok
  rw [← HXL.out] at hwk HFR
  have HWK := Lib.hid hwk
  obtain ⟨wt, hwt⟩ : ∃ f, f = gI L := ⟨_, rfl⟩
  obtain ⟨al, hal⟩ : ∃ x, x = sumW (gI L) xn := ⟨_, rfl⟩
  rw [← hal, ← hwt] at HWK HFR
  have HRL : Hid (runL L Q xn = runF xn wt al Q (totQ Q xn + 1) s0F (fun _ => 0)) := Lib.hid (by unfold runL; rw [hwt, hal])
  clear hB hok hwk hwt hal d1
  go_wp2_with fail
  go_at_call 38
  go_fit (CL.out)
  rintro e W3 ⟨qa, qc, qob, rfl, hqr, hB3, hqo⟩
  have hq0 : ∃ qb, qob = some qb ∧ qa = some ⟨qb, 0, none⟩ := by
    obtain ⟨qb, e1, _⟩ := hqr.cell 0 (by have := HNB.out; omega)
    subst e1
    obtain ⟨a', c', e2, _, _, e3⟩ := hqr.shape
    injection e2 with e4 e5 e6
    exact ⟨qb, rfl, e4.trans e3⟩
  obtain ⟨qb, rfl, rfl⟩ := hq0
  have HRN := Lib.hid (show RnAt w W3 g fo ft xn c1 c2 qb qc wt al s0F vs (.slice none 0 0) none Q (fun _ => 0) [] from ⟨HFR.out.step hB3, inv0 HNB.out.2, hqr, fun k hk => by rw [List.drop_zero]; exact HQ.out.inv k hk, ino_nil _ _, HB1.out.trans (hB3.mono HB1.out.size), Nat.le_trans HB1.out.size (hqo qb rfl)⟩)
  have HQC : Hid (xn ≤ qc) := Lib.hid (by obtain ⟨a', c', e2, h1, _, _⟩ := hqr.shape; injection e2 with e4 e5 e6; rw [e6]; exact h1)
  have hqc2 : qc ≤ 9223372036854775807 := by obtain ⟨a', c', e2, h1, h2, _⟩ := hqr.shape; injection e2 with e4 e5 e6; rw [e6]; unfold maxLen at h2; exact h2
  have hqc1 := HQC.out
  clear hqr hB3 hqo CL HFR HQ1
  go_wp2_with fail
  go_loopw [7, 8, 9, 10, 11, 12] (fun v7 _ _ _ _ _ wr => ∃ (s : FS) (vq : Nat → Value) (ob : Option Nat) (at_ : Nat → Nat) (O : List Nat) (ft c2 : Nat), RnAt w wr g fo ft xn c1 c2 qb qc wt al s vq v7 ob Q at_ (natL O) ∧ O.length + leftQ Q at_ xn = totQ Q xn ∧ runF xn wt al Q (totQ Q xn + 1) s0F (fun _ => 0) = O ++ runF xn wt al Q (leftQ Q at_ xn + 1) s at_) (fun v7 _ _ _ _ _ _ => totQ Q xn + 1 - slLen v7)
  case atStart => exact ⟨s0F, vs, none, fun _ => 0, [], ft, c2, HRN.out, by rw [leftQ_zero]; simp, by rw [leftQ_zero]; rfl⟩
  case round =>
    clear HRN
    obtain ⟨s, vq, ob, at_, O, ft, c2, hrn, hlO, hrun⟩ := hrel
    have HRUN := Lib.hid hrun
    have HLO := Lib.hid hlO
    have HRN := Lib.hid hrn
    have HTT : Hid (totQ Q xn ≤ 1000) := Lib.hid HOK.out.1
    obtain ⟨sa, sn, sc, rfl, HSN, s1, s2⟩ := hrn.sv.v.sh
    have hsn : sn = O.length := by have := HSN.out; simpa [natL] using this
    have HSL := Lib.hid hsn
    have HMK := Lib.hid (fun W => make_heads xn HNB.out.2 W)
    have hmk := HMK.out wr
    obtain ⟨HB, hHB⟩ : ∃ N, N = wr.heap.size := ⟨_, rfl⟩
    obtain ⟨W4, hW4⟩ : ∃ W, W = wr.alloc (.cells (madeCells (Value.agg #[.int .i64 0, .int .i64 0]).cells (xn * 2)) 67) := ⟨_, rfl⟩
    rw [← hHB, ← hW4] at hmk
    have hB4 : Below wr.heap.size wr W4 := by rw [hW4]; exact alloc_b _ _
    have HRN4 := Lib.hid (hrn.step hB4)
    have HHE := Lib.hid (show HeAt W4 HB xn (fun _ => 0) by rw [hW4, hHB]; exact HeAt.new wr xn)
    have HHB : Hid (w.heap.size ≤ HB) := Lib.hid (by rw [hHB]; exact hrn.b.size)
    clear hrun hlO hrn hsn hB4 hHB hW4
    go_wp2_with fail
    clear hmk
    go_loopw [9, 10, 39] (fun _ _ i wq => ∃ j : Nat, j ≤ xn ∧ i = .int .i64 j ∧ HeAt wq HB xn (fun k => if k < j then hdQ Q at_ k else 0) ∧ RnAt w wq g fo ft xn c1 c2 qb qc wt al s vq (.slice sa sn sc) ob Q at_ (natL O)) (fun _ _ i _ => xn - (intOf i).toNat)
    case atStart => exact ⟨0, Nat.zero_le _, rfl, by simpa using HHE.out, HRN4.out⟩
    case round =>
      clear HHE HRN4
      obtain ⟨j, hj, rfl, hhe, hrn⟩ := hrel
      have HHE := Lib.hid hhe
      have HRQ := Lib.hid hrn
      by_cases hlj : j < xn
      rotate_left
      · obtain rfl : j = xn := by omega
        have hmm : HeAt wr HB j (hdQ Q at_) := by
          obtain ⟨cs, hb, hc⟩ := hhe
          exact ⟨cs, hb, fun k hk => by have := hc k hk; rw [if_pos hk] at this; exact this⟩
        have HMM := Lib.hid hmm
        have PK := Lib.hid (fpick_good w.heap.size g fo ft j c1 c2 wt al s (some ⟨HB, 0, none⟩) j HB 0 (fun k => ⟨hdQ Q at_ k, 0⟩) wr hrn.fr (fun W' hB' => (hmm.ty hB'.t (by decide)).in_ (HOK.out.hd at_) HNB.out.2) (HOK.out.hd at_) hrn.iv HWK.out (by have := HNB.out; omega))
        have hpk := inv_pk HWK.out (HOK.out.hd at_) hrn.iv
        clear hhe hrn hmm hlj
        go_wp2_with fail
        go_at_call 11
        go_fit (PK.out)
        rintro e W5 ⟨rfl, hp5⟩
        obtain ⟨ft5, c5, hrn5⟩ := HRQ.out.pick hp5 hpk.1
        clear PK hp5 HRQ HHE HMM
        have hEE : (fun k => hsz (fun k => (⟨hdQ Q at_ k, 0⟩ : HdE)) k) = hdQ Q at_ := rfl
        cases hpc : pkK j wt al (hdQ Q at_) s with
        | none =>
          have hr : runF j wt al Q (leftQ Q at_ j + 1) s at_ = [] := by unfold runF; rw [hpc]
          have HFIN : Hid (natL O = natL (runL L Q j)) := Lib.hid (by rw [HRL.out, HRUN.out, hr, List.append_nil])
          have HRN5 := Lib.hid hrn5
          have hpc' : pkK j wt al (hsz fun k => (⟨hdQ Q at_ k, 0⟩ : HdE)) s = none := hpc
          rw [hpc']
          clear hr hrn5 hpc hpc' hpk hEE
          simp only [kI, Option.isSome_none]
          go_wp2_with fail
          try rw [Exit.noGoto_ret]
          go_ret
          exact ⟨_, rfl, ⟨ob, _, HRN5.out.sv, .inl ⟨⟨HWT.out, HXL.out.symm, HOK.out⟩, HFIN.out⟩⟩, HRN5.out.b⟩
        | some k =>
          obtain ⟨hk, hz⟩ := hpk.2 k hpc
          have hlt := (HOK.out.pos at_ hk).1 hz
          have hup := leftQ_up hlt hk
          have hr : runF j wt al Q (leftQ Q at_ j + 1) s at_ = k :: runF j wt al Q (leftQ Q (upf at_ k (at_ k + 1)) j + 1) (pkS j wt al (hdQ Q at_) s) (upf at_ k (at_ k + 1)) := by
            rw [← hup]
            exact runF_some hpc
          have HRR : Hid (runF j wt al Q (totQ Q j + 1) s0F (fun _ => 0) = (O ++ [k]) ++ runF j wt al Q (leftQ Q (upf at_ k (at_ k + 1)) j + 1) (pkS j wt al (hdQ Q at_) s) (upf at_ k (at_ k + 1))) := Lib.hid (by rw [HRUN.out, hr]; simp)
          have HLL : Hid ((O ++ [k]).length + leftQ Q (upf at_ k (at_ k + 1)) j = totQ Q j ∧ O.length ≤ 1000) := Lib.hid (by have := HLO.out; have := HTT.out; rw [List.length_append]; simp; omega)
          have hpc' : pkK j wt al (hsz fun k => (⟨hdQ Q at_ k, 0⟩ : HdE)) s = some k := hpc
          rw [hpc']
          obtain ⟨q1, e1, qcell, qfree⟩ := hrn5.qr.cell k (by rw [Nat.mul_one]; exact hk)
          obtain rfl := Option.some.inj e1
          rw [vsL_at vq hk] at qcell
          have hqv := hrn5.qv k hk
          obtain ⟨ea, en, ec, ev, HEN, ee1, ee2⟩ := hqv.sh
          have hen : 1 ≤ en := by rw [HEN.out, List.length_drop]; omega
          rw [ev] at qcell hqv
          obtain ⟨hsl, htl⟩ := inv_tail hqv hen
          rw [List.drop_drop] at htl
          obtain ⟨pa, hpa⟩ : ∃ x, x = tailA ea ec := ⟨_, rfl⟩
          obtain ⟨pn, hpn⟩ : ∃ x, x = en - 1 := ⟨_, rfl⟩
          obtain ⟨pc, hpcc⟩ : ∃ x, x = ec - 1 := ⟨_, rfl⟩
          rw [← hpa, ← hpn, ← hpcc] at hsl htl
          have qz : ∀ i, W5.frozen? ⟨qb, i, none⟩ = false := by obtain ⟨cq, hcq⟩ := blk_row hrn5.qr; exact fun i => free_at hcq i
          have ql := hrn5.qr.lt
          obtain ⟨W6, hW6⟩ : ∃ W, W = W5.setCell ⟨qb, k, none⟩ (.slice pa pn pc) := ⟨_, rfl⟩
          have hrn6 := hrn5.cut hk htl hW6
          have hB7 : Below W6.heap.size W6 (W6.alloc (.cells #[.int .i64 k] 3)) := alloc_b _ _
          have hrn7 := hrn6.step hB7
          obtain ⟨v8, o8, W8, hrun8, hio8, hg8, hn8, hlo8⟩ := in_grow (M := w.heap.size) (ty := 22) hrn7.sv (blk_new W6 #[.int .i64 k] 3) (by have := HNB.out; omega) hrn7.b.size (by have := HLL.out; simp [natL]; omega)
          have HRN8 := Lib.hid (hrn6.serve hB7 hio8 hg8 hlo8)
          have HRUN8 := Lib.hid hrun8
          obtain ⟨a8, n8, c8, rfl, HN8, q81, q82⟩ := hio8.v.sh
          have hN8 : n8 = O.length + 1 := by have := HN8.out; simpa [natL] using this
          have HN8' := Lib.hid hN8
          have hnat : natL O ++ [(k : Int)] = natL (O ++ [k]) := by simp [natL]
          rw [hnat] at HRN8
          have bk1 : (k < j) = True := eq_true hk
          have bk2 : ((k : Int) < (j : Int)) = True := eq_true (by omega)
          have bk0 : ((0 : Int) ≤ (k : Int)) = True := eq_true (by omega)
          have bqc : (k < qc) = True := eq_true (by omega)
          clear hr hup hlt hz hk hpc hpc' hpk hEE hrn5 hqv HEN hen ev htl hpa hpn hpcc hrn6 hB7 hrn7 hrun8 hio8 hg8 hn8 hlo8 hN8 hnat ee1 ee2 q81 q82
          simp only [kI, Option.isSome_some]
          go_upto_region 17 with fail
          rw [← hW6]
          clear hW6 qcell qfree hsl qz ql
          go_wp2_with (at_builtin; refine Lib.wpList_append_run _ rfl (.tmp 72) (.tmp 74) 22 22 rfl _ _ rfl rfl _ _ HRUN8.out ?_)
          go_roundw
          case rel => exact ⟨pkS j wt al (hdQ Q at_) s, upf vq k (.slice pa pn pc), some o8, upf at_ k (at_ k + 1), O ++ [k], ft5, c5, HRN8.out, HLL.out.1, HRR.out⟩
          case measure => (have h1 := HN8'.out; have h2 := HSL.out; have h3 := HLL.out.1; rw [List.length_append] at h3; simp only [slLen, List.length_singleton] at h3 ⊢; omega)
      obtain ⟨q1, e1, qcell, qfree⟩ := hrn.qr.cell j (by rw [Nat.mul_one]; exact hlj)
      obtain rfl := Option.some.inj e1
      rw [vsL_at vq hlj] at qcell
      have hqv := (hrn.qv j hlj).below hrn.b
      obtain ⟨ea, en, ec, ev, HEN, ee1, ee2⟩ := hqv.sh
      rw [ev] at qcell hqv
      have hen : en = (Q j).length - at_ j := by rw [HEN.out, List.length_drop]
      have HENN := Lib.hid hen
      have bj1 : (j < xn) = True := eq_true hlj
      have bj2 : ((j : Int) < (xn : Int)) = True := eq_true (by omega)
      have bj0 : ((0 : Int) ≤ (j : Int)) = True := eq_true (by omega)
      have wj5 : IntKind.i64.wrap ((j : Int) + 1) = (j : Int) + 1 := IntWalk.i64_in _ (by omega)
      have HLJ := Lib.hid hlj
      by_cases h0 : 0 < en
      · have d2 : decide ((0 : Int) < (en : Int)) = true := decide_eq_true (by omega)
        have d2' : decide (0 < en) = true := decide_eq_true h0
        obtain ⟨gy, oy, y, ea2, l1, hy, cy⟩ := hqv.at 0 h0
        subst ea2
        replace cy := cy.1
        rw [Nat.add_zero] at cy
        have hyv : hdQ Q at_ j = y := by
          unfold hdQ gI
          rw [List.getElem?_drop, Nat.add_zero] at hy
          rw [hy]; rfl
        have HYV := Lib.hid hyv
        have hz := hhe.free
        have hl := hhe.lt
        have hc0 := hhe.cell hlj
        obtain ⟨W6, hW6⟩ : ∃ W, W = wr.setCell ⟨HB, j * 2, none⟩ (.int .i64 y) := ⟨_, rfl⟩
        obtain ⟨hhe6, hf6⟩ := hhe.put hlj y hW6
        have hrn6 : RnAt w W6 g fo ft xn c1 c2 qb qc wt al s vq (.slice sa sn sc) ob Q at_ (natL O) := by
          obtain ⟨cs, hb, _⟩ := hhe.ex
          exact hrn.other hf6 hb (by decide) (by decide) (by decide) HHB.out
        have HHE6 := Lib.hid hhe6
        have HRN6 := Lib.hid hrn6
        have bz : (0 < en) = True := eq_true h0
        have bz2 : ((0 : Int) < (en : Int)) = True := eq_true (by omega)
        clear hhe hrn hqv ev HEN hen hy hyv hhe6 hf6 hrn6 h0 hlj ee1 ee2
        go_upto_region 12 with fail
        rw [← hW6]
        clear hW6 qcell qfree cy hz hl hc0
        go_wp2_with fail
        go_roundw
        case rel =>
          refine ⟨j + 1, by have := HLJ.out; omega, by go_num, ?_, HRN6.out⟩
          obtain ⟨cs, hb, hc⟩ := HHE6.out
          refine ⟨cs, hb, fun k hk => ?_⟩
          have h1 := hc k hk
          by_cases hkj : k = j
          · subst hkj
            rw [upf_at] at h1
            rw [if_pos (by omega), HYV.out]
            exact h1
          · rw [upf_ne _ _ hkj] at h1
            by_cases hkl : k < j
            · rw [if_pos hkl] at h1; rw [if_pos (by omega)]; exact h1
            · rw [if_neg hkl] at h1; rw [if_neg (by omega)]; exact h1
        case measure => (have h8 := HLJ.out; first | (simp [intOf]; done) | (simp [intOf]; omega))
      · obtain rfl : en = 0 := by omega
        clear hhe hrn hqv ev HEN hen h0 hlj ee1 ee2
        go_wp2_with fail
        go_roundw
        case rel =>
          refine ⟨j + 1, by have := HLJ.out; omega, by go_num, ?_, HRQ.out⟩
          obtain ⟨cs, hb, hc⟩ := HHE.out
          refine ⟨cs, hb, fun k hk => ?_⟩
          have h1 := hc k hk
          by_cases hkj : k = j
          · subst hkj
            rw [if_neg (by omega)] at h1
            have : hdQ Q at_ k = 0 := by unfold hdQ; exact gI_out (by have := HENN.out; omega)
            rw [if_pos (by omega), this]
            exact h1
          · by_cases hkl : k < j
            · rw [if_pos hkl] at h1; rw [if_pos (by omega)]; exact h1
            · rw [if_neg hkl] at h1; rw [if_neg (by omega)]; exact h1
        case measure => (have h8 := HLJ.out; first | (simp [intOf]; done) | (simp [intOf]; omega))
end Go.Proofs.Ytnainlemnkfpkaa
