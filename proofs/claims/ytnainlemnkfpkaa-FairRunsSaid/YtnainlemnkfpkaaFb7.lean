/-
  A run: the document.
-/
import Derived.Test.YtnainlemnkfpkaaFb9
namespace Go.Proofs.Ytnainlemnkfpkaa
open Go.RowKit
set_option linter.unusedSimpArgs false
set_option linter.unusedVariables false

theorem RfAt.blks9 {W : World} {M : Nat} {x : RL} {ft c2 : Nat} {wt : Nat → Int} {al : Int} {s : FS} (h : RfAt W M x ft c2 wt al s) : ∃ a b c d e, Blk W x.g a 43 ∧ Blk W x.fw b 3 ∧ Blk W x.fz c 3 ∧ Blk W x.fv d 4 ∧ Blk W ft e 80 := by
  obtain ⟨cv, hv⟩ := bat_blk h.sv
  obtain ⟨ct, hct⟩ := blk_row h.tg
  obtain ⟨cw, hw⟩ := iat_blk h.w
  obtain ⟨cz, hz⟩ := iat_blk h.z
  exact ⟨_, _, _, _, _, h.blk, hw, hz, hv, hct⟩
theorem fr_cell {l : List Nat} {W W' : World} (h : Fr l W W') {b j : Nat} (hn : b ∉ l) (hl : b < W.heap.size) : W'.cell? ⟨b, j, none⟩ = W.cell? ⟨b, j, none⟩ := by
  unfold World.cell?
  simp only [h.block b hl hn]
theorem RdAt.heads {W0 W W' : World} {x : RL} {ft c2 qb : Nat} {wt : Nat → Int} {al : Int} {s : FS} {v7 : Value} {ob : Option Nat} {at_ : Nat → Nat} {O : List Int} (h : RdAt W0 W x ft c2 qb wt al s v7 ob at_ O) {oh : Option Nat} {v : Value} {n : Nat} {xs : List Value} (hr : Row W v oh 67 2 n xs) (hg : W.grownBy W' oh) (hlo : Below W0.heap.size W W') : RdAt W0 W' x ft c2 qb wt al s v7 ob at_ O := by
  have hf : Fr oh.toList W W' := ⟨hg.os, hg.tape, hg.output, hg.size, fun i hi hq => hg.block i hi (fun e => hq (by rw [← e]; simp))⟩
  have ne1 : ∀ {q : Nat} {cs : Array Value} {ty : TypeId}, Blk W q cs ty → ty ≠ 67 → q ∉ oh.toList := fun {q cs ty} hb ht hm => by
    have e : oh = some q := by simpa using hm
    rw [e] at hr
    exact row_blk_ne hr hb ht rfl
  obtain ⟨cv, hv⟩ := bat_blk h.fr.sv
  obtain ⟨ct, ht⟩ := blk_row h.fr.tg
  obtain ⟨ca, ha⟩ := iat_blk h.ar
  obtain ⟨cw, hw⟩ := iat_blk h.fr.w
  obtain ⟨cz, hz⟩ := iat_blk h.fr.z
  refine ⟨h.fr.fr hf (ne1 h.fr.blk (by decide)) (ne1 hw (by decide)) (ne1 hz (by decide)) (ne1 hv (by decide)) (ne1 ht (by decide)), h.iv, h.ar.fr hf (ne1 ha (by decide)), ⟨h.sv.1.congr fun q e => ?_, h.sv.2.1, h.sv.2.2⟩, h.b.trans hlo, h.qge, h.ne, h.no⟩
  have hs := h.sv.1
  rw [e] at hs
  obtain ⟨cs, hb⟩ := blk_row hs
  exact hf.block q hb.lt (ne1 hb (by decide))

set_option maxRecDepth 100000 in
set_option maxHeartbeats 40000000 in
theorem rfrun_any (va : Value) (L : List Int) (a : Option Addr) (n cap b o : Nat) (vs : Nat → Value) (Q : Nat → List Int) (w : World) (hv : InV w va L) (hq : QIn w a n cap b o vs Q) (hn : n ≤ 1000) (hql : ∀ k, k < n → (Q k).length ≤ 1000000) :
    Calls Try.prog 17 #[va, .slice a n cap] w fun e w' => ∃ v, e = .returned v ∧ RunP L Q n w v w' := by
  have m1 := hq.le
  have m2 := hq.max
  unfold maxLen at m2
  obtain ⟨xa, xn, xc, rfl, HXN, x1, x2⟩ := hv.sh
  have HV := Lib.hid hv
  have HQ := Lib.hid hq
  have HN := Lib.hid hn
  have HQL := Lib.hid hql
  by_cases hlen : L.length < 1 ∨ 8 < L.length
  · have NW := Lib.hid (rfnew_len _ L w hv hlen)
    have HNO : Hid (¬ okRun L Q n) := Lib.hid (fun h => by have h1 := h.1.1; have h2 := h.1.2.1; omega)
    clear hv hq hn hql hlen
    go_enter Try.func17, Try.ntmps17
    go_wp2_with fail
    go_at_call 9
    go_fit (NW.out)
    rintro e W1 ⟨rfl, hB1⟩
    have HB1 := Lib.hid hB1
    clear hB1
    go_wp2_with fail
    try rw [Exit.noGoto_ret]
    go_ret
    exact ⟨_, rfl, ⟨none, [], ino_nil _ _, .inr ⟨HNO.out, rfl⟩⟩, HB1.out⟩
  have NW := Lib.hid (rfnew_any _ L w hv (by omega) (by omega))
  have HLN : Hid (1 ≤ L.length ∧ L.length ≤ 8) := Lib.hid (by omega)
  clear hv hq hn hql hlen
  go_enter Try.func17, Try.ntmps17
  go_wp2_with fail
  go_at_call 9
  go_fit (NW.out)
  intro e W1 hnew
  rcases hnew with ⟨hwt, x, ft, c2, rfl, hxn, hfr, hB1⟩ | ⟨hwt, rfl, hB1⟩
  rotate_left
  · have HB1 := Lib.hid hB1
    have HNO : Hid (¬ okRun L Q n) := Lib.hid (fun h => hwt h.1)
    clear hB1 hwt NW
    go_wp2_with fail
    try rw [Exit.noGoto_ret]
    go_ret
    exact ⟨_, rfl, ⟨none, [], ino_nil _ _, .inr ⟨HNO.out, rfl⟩⟩, HB1.out⟩
  have HB1 := Lib.hid hB1
  have HFR := Lib.hid hfr
  have HX := Lib.hid hxn
  have HWT := Lib.hid hwt
  clear hB1 hfr hwt NW hxn
  by_cases hne : n = xn
  rotate_left
  · have HNO : Hid (¬ okRun L Q n) := Lib.hid (fun h => hne (by rw [HXN.out]; exact h.2.1.symm))
    have d1 : ((n : Int) != (xn : Int)) = true := by simp; omega
    clear hne HXN
    go_wp2_with fail
    try rw [Exit.noGoto_ret]
    go_ret
    exact ⟨_, rfl, ⟨none, [], ino_nil _ _, .inr ⟨HNO.out, rfl⟩⟩, HB1.out⟩
  have hxn : xn = n := hne.symm
  subst hxn
  have d1 : ((xn : Int) != (xn : Int)) = false := by simp
  have HXL : Hid (xn = L.length) := HXN
  have HNB : Hid (1 ≤ xn ∧ xn ≤ 8) := Lib.hid (by rw [HXN.out]; exact HLN.out)
  clear hne
  go_wp2_with fail
  go_loopw [7, 8, 9, 10] (fun vl va i _ wr => ∃ (k : Nat) (oa : Option Nat), k ≤ xn ∧ i = .int .i64 k ∧ vl = .int .i64 (totQ Q k : Nat) ∧ totQ Q k ≤ 1000 ∧ (∀ j, j < k → ∀ x ∈ Q j, 1 ≤ x ∧ x ≤ 1500) ∧ InO W1.heap.size wr va oa (List.replicate k 0) ∧ Below W1.heap.size W1 wr) (fun _ _ i _ _ => xn - (intOf i).toNat)
  case atStart => exact ⟨0, none, Nat.zero_le _, rfl, rfl, by simp [totQ], (fun j h => by omega), ⟨Row.nil _ _ _, (fun x h => by cases h), (fun q e => by cases e)⟩, Below.refl _ _⟩
  case round =>
    obtain ⟨k, oa, hk, rfl, rfl, ht, ho, hio, hB⟩ := hrel
    have HO := Lib.hid ho
    have HT := Lib.hid ht
    have HIO := Lib.hid hio
    have HB2 := Lib.hid (HB1.out.trans (hB.mono HB1.out.size))
    have HBW := Lib.hid hB
    by_cases hlt : k < xn
    rotate_left
    · obtain rfl : k = xn := by omega
      obtain ⟨qb, qc, rfl, rfl, hqc, hqb, hat⟩ := ino_at hio (n := k) (by simp) (by have := HNB.out; omega) (f := fun _ => 0) (fun j hj => by simp [hj])
      have hok : okQ Q k := ⟨HT.out, HO.out⟩
      have HOK := Lib.hid hok
      have hxk : x.n = k := by rw [HX.out]; exact HXL.out.symm
      have HXK := Lib.hid hxk
      have hwk := HWT.out.ok
      rw [← HXL.out] at hwk HFR
      obtain ⟨wt, hwt⟩ : ∃ f, f = gI L := ⟨_, rfl⟩
      obtain ⟨al, hal⟩ : ∃ y, y = sumW (gI L) k := ⟨_, rfl⟩
      rw [← hal, ← hwt] at hwk HFR
      have HWK := Lib.hid hwk
      have HRL : Hid (runL L Q k = runF k wt al Q (totQ Q k + 1) s0F (fun _ => 0)) := Lib.hid (by unfold runL; rw [hwt, hal])
      have hfw := HFR.out.w.lt
      have hfz := HFR.out.z.lt
      have HRD := Lib.hid (show RdAt w wr x ft c2 qb wt al s0F (.slice none 0 0) none (fun _ => 0) [] from ⟨HFR.out.step hB, by rw [hxk]; exact inv0 HNB.out.2, by rw [hxk]; exact hat, ino_nil _ _, HB2.out, Nat.le_trans HB1.out.size hqb, ⟨by omega, by omega⟩, fun q e => by cases e⟩)
      have HQC := Lib.hid hqc
      clear ho ht hio hB hat hok hxk hwk hwt hal hfw hfz HIO hqb hqc
      go_wp2_with fail
      go_loopw [7, 11, 12, 13, 14, 15, 16] (fun vl v7 _ _ _ _ _ wq => ∃ (s : FS) (ob : Option Nat) (at_ : Nat → Nat) (O : List Nat) (ft c2 : Nat), vl = .int .i64 (leftQ Q at_ k : Nat) ∧ RdAt w wq x ft c2 qb wt al s v7 ob at_ (natL O) ∧ O.length + leftQ Q at_ k = totQ Q k ∧ runF k wt al Q (totQ Q k + 1) s0F (fun _ => 0) = O ++ runF k wt al Q (leftQ Q at_ k + 1) s at_) (fun vl _ _ _ _ _ _ _ => (intOf vl).toNat)
      case atStart => exact ⟨s0F, none, fun _ => 0, [], ft, c2, by rw [leftQ_zero], HRD.out, by rw [leftQ_zero]; simp, by rw [leftQ_zero]; rfl⟩
      case round =>
        clear HRD
        obtain ⟨s, ob, at_, O, ft, c2, rfl, hrd, hlO, hrun⟩ := hrel
        have HRUN := Lib.hid hrun
        have HLO := Lib.hid hlO
        have HRD := Lib.hid hrd
        have HTT : Hid (totQ Q k ≤ 1000) := Lib.hid HOK.out.1
        have hiv := hrd.iv
        rw [HXK.out] at hiv
        have hpk := inv_pk HWK.out (HOK.out.hd at_) hiv
        obtain ⟨sa, sn, sc, rfl, HSN, s1, s2⟩ := hrd.sv.v.sh
        by_cases hz : leftQ Q at_ k = 0
        · have hnone : pkK k wt al (hdQ Q at_) s = none := by
            cases hpc : pkK k wt al (hdQ Q at_) s with
            | none => rfl
            | some q =>
              obtain ⟨hq, hz2⟩ := hpk.2 q hpc
              have hlt := (HOK.out.pos at_ hq).1 hz2
              have := leftQ_up hlt hq
              omega
          have hr : runF k wt al Q (leftQ Q at_ k + 1) s at_ = [] := by unfold runF; rw [hnone]
          have HFIN : Hid (natL O = natL (runL L Q k)) := Lib.hid (by rw [HRL.out, HRUN.out, hr, List.append_nil])
          have d2 : decide ((0 : Int) < ((leftQ Q at_ k : Nat) : Int)) = false := decide_eq_false (by omega)
          rw [hz] at d2 ⊢
          clear hrun hlO hrd hiv hpk hnone hr hz
          go_wp2_with fail
          try rw [Exit.noGoto_ret]
          go_ret
          exact ⟨_, rfl, ⟨ob, _, HRD.out.sv, .inl ⟨⟨HWT.out, HXL.out.symm, HOK.out⟩, HFIN.out⟩⟩, HRD.out.b⟩
        have d2 : decide ((0 : Int) < ((leftQ Q at_ k : Nat) : Int)) = true := decide_eq_true (by omega)
        obtain ⟨LF, hLF⟩ : ∃ y, y = leftQ Q at_ k := ⟨_, rfl⟩
        have HPK := Lib.hid hpk
        rw [← hLF] at d2 ⊢
        have HLF := Lib.hid hLF
        have HZ : Hid (1 ≤ LF) := Lib.hid (by omega)
        have d2' : decide (0 < LF) = true := decide_eq_true (by omega)
        clear hrun hlO hrd hiv hpk hz hLF
        go_wp2_with fail
        go_loopw [12, 13, 14] (fun vh vi _ wq => ∃ (j : Nat) (oh : Option Nat), j ≤ k ∧ vi = .int .i64 j ∧ Row wq vh oh 67 2 j (hdL (fun q => ⟨hdQ Q at_ q, 0⟩) j) ∧ (∀ q, oh = some q → w.heap.size ≤ q) ∧ RdAt w wq x ft c2 qb wt al s (.slice sa sn sc) ob at_ (natL O)) (fun _ vi _ _ => k - (intOf vi).toNat)
        case atStart => exact ⟨0, none, Nat.zero_le _, rfl, Row.nil _ _ _, (fun q e => by cases e), HRD.out⟩
        case round =>
          clear HRD
          obtain ⟨j, oh, hj, rfl, hrow, hoh, hrd⟩ := hrel
          have HRD := Lib.hid hrd
          have HROW := Lib.hid hrow
          have HOH := Lib.hid hoh
          by_cases hlj : j < k
          · obtain ⟨ea, hbl⟩ := HQ.out.at_ (by omega)
            subst ea
            have hv := HQ.out.inv j hlj
            obtain ⟨ya, yn, yc, ev, HYN, y1, y2⟩ := hv.sh
            have HV := Lib.hid hv
            have HEV := Lib.hid ev
            have HLJ := Lib.hid hlj
            obtain ⟨NH, hNH⟩ : ∃ N, N = wr.heap.size := ⟨_, rfl⟩
            have b9 : ((j : Int) < (k : Int)) = True := eq_true (by omega)
            have bk1 : (j < k) = True := eq_true hlj
            have HBL := Lib.hid hbl
            obtain ⟨ah, ch, rfl, -, -, -⟩ := hrow.shape
            obtain ⟨W5, hW5⟩ : ∃ W, W = wr.alloc (.cells #[.int .i64 0, .int .i64 0] 67) := ⟨_, rfl⟩
            have hB5 : Below wr.heap.size wr W5 := by rw [hW5]; exact alloc_b _ _
            have HX5 := Lib.hid (show Blk W5 NH #[.int .i64 0, .int .i64 0] 67 by rw [hW5, hNH]; exact blk_new _ _ _)
            have HRD5 := Lib.hid (hrd.step hB5)
            have HROW5 := Lib.hid (hrow.congr (w' := W5) fun q e => hB5.block q (by rw [e] at hrow; exact hrow.lt))
            clear hbl hv ev hrow hoh hrd
            go_upto_region 26 with fail
            obtain ⟨PP, hPP⟩ : ∃ P, P = at_ j := ⟨_, rfl⟩
            have ca := HRD5.out.ar.cell (k := j) (by rw [HXK.out]; exact hlj)
            rw [← hPP] at ca
            have hq5 := HQ.out.below HRD5.out.b
            have c0 := hq5.cell j hlj
            rw [HEV.out] at c0
            have HPP := Lib.hid hPP
            have b5 : ((0 : Int) ≤ (j : Int)) = True := eq_true (by omega)
            have HB5 := Lib.hid hB5
            have HNN : Hid (wr.heap.size ≤ NH) := Lib.hid (by rw [hNH]; exact Nat.le_refl _)
            clear hPP hB5 hq5
            rw [← hNH, ← hW5]
            clear hNH hW5
            by_cases hpy : PP < yn
            · have d3 : decide ((PP : Int) < (yn : Int)) = true := decide_eq_true (by omega)
              have hvk := HV.out.below HRD5.out.b
              rw [HEV.out] at hvk
              obtain ⟨gy, oy, y, ey, _, hyy, cy, _⟩ := hvk.at PP hpy
              subst ey
              have HGY : Hid (gy < w.heap.size) := Lib.hid (by
                have h9 := HV.out
                rw [HEV.out] at h9
                obtain ⟨g9, o9, y9, e9, l9, _⟩ := h9.at PP hpy
                injection e9 with e9
                injection e9 with e9 _ _
                rw [e9]; exact l9)
              have HYY : Hid (hdQ Q at_ j = y) := Lib.hid (by unfold hdQ gI; rw [← HPP.out, hyy]; rfl)
              have bpp : (PP < yn) = True := eq_true hpy
              have bpp2 : ((PP : Int) < (yn : Int)) = True := eq_true (by omega)
              have bp0 : ((0 : Int) ≤ (PP : Int)) = True := eq_true (by omega)
              clear hvk hyy hpy
              (refine wp_region_quiet_lit (by kernel_rfl) (by kernel_rfl) ?_; (repeat (first | go_big_quiet_step (fail) | (refine BigFrame.wpQuiet_skip (by rfl) ?_; try simp only [Act.put, List.setIfInBounds_toArray, List.set_cons_zero, List.set_cons_succ]))); refine wpQuiet_nil ?_; intro _ hw9; obtain ⟨nq, hw8⟩ := hw9; subst hw8)
              obtain ⟨W6, hW6⟩ : ∃ X, X = W5.drewN nq := ⟨_, rfl⟩
              have hB6 : Below W5.heap.size W5 W6 := by rw [hW6]; exact dN _ _
              have hc6 : ∀ p : Addr, W6.cell? p = W5.cell? p := fun p => by rw [hW6]; rfl
              rw [← hc6] at ca c0 cy
              have HRD6 := Lib.hid (HRD5.out.step hB6)
              have HROW6 := Lib.hid (HROW5.out.congr (w' := W6) fun q e => hB6.block q (by have h9 := HROW5.out; rw [e] at h9; exact h9.lt))
              have HX6 := Lib.hid (HX5.out.step hB6)
              have HCS := Lib.hid (show W6.cell? ⟨b, o + j, none⟩ = some (.slice (some ⟨gy, oy, none⟩) yn yc) ∧ W6.cell? ⟨qb, j, none⟩ = some (.int .i64 (PP : Int)) ∧ W6.cell? ⟨gy, oy + PP, none⟩ = some (.int .i64 y) from ⟨c0, ca, cy⟩)
              have HB6 := Lib.hid (HB5.out.trans (hB6.mono HB5.out.size))
              have HNE := Lib.hid (show b ≠ NH ∧ qb ≠ NH ∧ gy ≠ NH from ⟨by have h9 := HBL.out; have := HNN.out; have := HRD.out.b.size; omega, by have h9 := HRD.out.ar.lt; have := HNN.out; omega, by have h9 := HGY.out; have := HNN.out; have := HRD.out.b.size; omega⟩)
              have HLTS := Lib.hid (show b < W6.heap.size ∧ qb < W6.heap.size ∧ gy < W6.heap.size from ⟨by have h9 := HBL.out; have := HB6.out.size; have := HRD.out.b.size; omega, by have h9 := HRD.out.ar.lt; have := HB6.out.size; omega, by have h9 := HGY.out; have := HB6.out.size; have := HRD.out.b.size; omega⟩)
              rw [← hW6]
              clear hW6 hB6 hc6 ca c0 cy HRD5 HROW5 HX5
              go_upto_region 27 with fail
              refine wp_region_held_drew (S := fun X => X.cell? ⟨b, o + j, none⟩ = some (.slice (some ⟨gy, oy, none⟩) yn yc) ∧ X.cell? ⟨qb, j, none⟩ = some (.int .i64 (PP : Int)) ∧ X.cell? ⟨gy, oy + PP, none⟩ = some (.int .i64 y)) (by kernel_rfl) HCS.out (fun hHeld => ?_)
              try simp only [Act.put, List.setIfInBounds_toArray, List.set_cons_zero, List.set_cons_succ]
              have Bz := belowN (Below.refl W6.heap.size W6) 1
              have HX7 := Lib.hid (show Blk W6.drew NH #[.int .i64 0, .int .i64 0] 67 from HX6.out.step Bz)
              ((refine wpAnyH_take (i := 0) (v := ?_) (by (simp only [List.getElem?_toArray, List.getElem?_cons_succ, List.getElem?_cons_zero]); rfl) (by kernel_rfl) (by kernel_rfl) (by kernel_rfl) (by exact fun _ _ _ h => h) (Or.inl ⟨by rfl, ?_⟩) (by assumption) ?_); rotate_left; focus (intro wS hSw; (try dsimp only at hSw); go_simp; first | done | with_reducible rfl); try simp only [Act.put, List.setIfInBounds_toArray, List.set_cons_zero, List.set_cons_succ])
              ((refine wpAnyH_take (i := 1) (v := ?_) (by (simp only [List.getElem?_toArray, List.getElem?_cons_succ, List.getElem?_cons_zero]); rfl) (by kernel_rfl) (by kernel_rfl) (by kernel_rfl) (by exact fun _ _ _ h => h) (Or.inl ⟨by rfl, ?_⟩) (by assumption) ?_); rotate_left; focus (intro wS hSw; (try dsimp only at hSw); go_simp; first | done | with_reducible rfl); try simp only [Act.put, List.setIfInBounds_toArray, List.set_cons_zero, List.set_cons_succ])
              ((refine wpAnyH_take (i := 2) (v := ?_) (by (simp only [List.getElem?_toArray, List.getElem?_cons_succ, List.getElem?_cons_zero]); rfl) (by kernel_rfl) (by kernel_rfl) (by kernel_rfl) (by exact fun _ _ _ h => h) (Or.inl ⟨by rfl, ?_⟩) (by assumption) ?_); rotate_left; focus (intro wS hSw; (try dsimp only at hSw); go_simp; first | done | with_reducible rfl); try simp only [Act.put, List.setIfInBounds_toArray, List.set_cons_zero, List.set_cons_succ])
              ((refine wpAnyH_take (i := 3) (v := ?_) (by (simp only [List.getElem?_toArray, List.getElem?_cons_succ, List.getElem?_cons_zero]); rfl) (by kernel_rfl) (by kernel_rfl) (by kernel_rfl) (by exact fun _ _ _ h => h) (Or.inl ⟨by rfl, ?_⟩) (by assumption) ?_); rotate_left; focus (intro wS hSw; (try dsimp only at hSw); go_simp; first | done | with_reducible rfl); try simp only [Act.put, List.setIfInBounds_toArray, List.set_cons_zero, List.set_cons_succ])
              ((refine wpAnyH_take (i := 4) (v := ?_) (by (simp only [List.getElem?_toArray, List.getElem?_cons_succ, List.getElem?_cons_zero]); rfl) (by kernel_rfl) (by kernel_rfl) (by kernel_rfl) (by exact fun _ _ _ h => h) (Or.inl ⟨by rfl, ?_⟩) (by assumption) ?_); rotate_left; focus (intro wS hSw; (try dsimp only at hSw); go_simp; first | done | with_reducible rfl); try simp only [Act.put, List.setIfInBounds_toArray, List.set_cons_zero, List.set_cons_succ])
              ((refine wpAnyH_take (i := 5) (v := ?_) (by (simp only [List.getElem?_toArray, List.getElem?_cons_succ, List.getElem?_cons_zero]); rfl) (by kernel_rfl) (by kernel_rfl) (by kernel_rfl) (by exact fun _ _ _ h => h) (Or.inl ⟨by rfl, ?_⟩) (by assumption) ?_); rotate_left; focus (intro wS hSw; (try dsimp only at hSw); go_simp; first | done | with_reducible rfl); try simp only [Act.put, List.setIfInBounds_toArray, List.set_cons_zero, List.set_cons_succ])
              ((refine wpAnyH_take (i := 6) (v := ?_) (by (simp only [List.getElem?_toArray, List.getElem?_cons_succ, List.getElem?_cons_zero]); rfl) (by kernel_rfl) (by kernel_rfl) (by kernel_rfl) (by exact fun _ _ _ h => h) (Or.inl ⟨by rfl, ?_⟩) (by assumption) ?_); rotate_left; focus (intro wS hSw; (try dsimp only at hSw); go_simp; first | done | with_reducible rfl); try simp only [Act.put, List.setIfInBounds_toArray, List.set_cons_zero, List.set_cons_succ])
              ((refine wpAnyH_take (i := 7) (v := ?_) (by (simp only [List.getElem?_toArray, List.getElem?_cons_succ, List.getElem?_cons_zero]); rfl) (by kernel_rfl) (by kernel_rfl) (by kernel_rfl) (by exact fun _ _ _ h => h) (Or.inl ⟨by rfl, ?_⟩) (by assumption) ?_); rotate_left; focus (intro wS hSw; (try dsimp only at hSw); go_simp; first | done | with_reducible rfl); try simp only [Act.put, List.setIfInBounds_toArray, List.set_cons_zero, List.set_cons_succ])
              ((refine wpAnyH_take (i := 8) (v := ?_) (by (simp only [List.getElem?_toArray, List.getElem?_cons_succ, List.getElem?_cons_zero]); rfl) (by kernel_rfl) (by kernel_rfl) (by kernel_rfl) (by exact fun _ _ _ h => h) (Or.inl ⟨by rfl, ?_⟩) (by assumption) ?_); rotate_left; focus (intro wS hSw; (try dsimp only at hSw); go_simp; first | done | with_reducible rfl); try simp only [Act.put, List.setIfInBounds_toArray, List.set_cons_zero, List.set_cons_succ])
              ((refine wpAnyH_take (i := 9) (v := ?_) (by (simp only [List.getElem?_toArray, List.getElem?_cons_succ, List.getElem?_cons_zero]); rfl) (by kernel_rfl) (by kernel_rfl) (by kernel_rfl) (by exact fun _ _ _ h => h) (Or.inl ⟨by rfl, ?_⟩) (by assumption) ?_); rotate_left; focus (intro wS hSw; (try dsimp only at hSw); go_simp; first | done | with_reducible rfl); try simp only [Act.put, List.setIfInBounds_toArray, List.set_cons_zero, List.set_cons_succ])
              ((refine wpAnyH_take (i := 10) (v := ?_) (by (simp only [List.getElem?_toArray, List.getElem?_cons_succ, List.getElem?_cons_zero]); rfl) (by kernel_rfl) (by kernel_rfl) (by kernel_rfl) (by exact fun _ _ _ h => h) (Or.inl ⟨by rfl, ?_⟩) (by assumption) ?_); rotate_left; focus (intro wS hSw; (try dsimp only at hSw); go_simp; first | done | with_reducible rfl); try simp only [Act.put, List.setIfInBounds_toArray, List.set_cons_zero, List.set_cons_succ])
              have x0 : W6.drew.cell? ⟨NH, 0, none⟩ = some (.int .i64 0) := cell_at HX7.out 0
              have xz : ∀ j, W6.drew.frozen? ⟨NH, j, none⟩ = false := fun j => free_at HX7.out j
              have xl : NH < W6.drew.heap.size := HX7.out.lt
              refine wpAnyH_ready (rs := [11]) (by kernel_rfl) (by simp) ?_
              refine AllReadyH.cons (by (simp only [List.getElem?_toArray, List.getElem?_cons_succ, List.getElem?_cons_zero]); rfl) (fun K hK => ?_) AllReadyH.nil
              go_simp
              generalize hW8' : (W6.setCell ⟨NH, 0, none⟩ (.int .i64 y)).drew = W8
              have hW8 := hW8'.symm
              clear hW8'
              have hf8 : Fr [NH] W6 W8 := by rw [hW8]; exact ((Fr.refl _ _).setCell _ (.inl (by simp)) _).trans (Fr.of_below (belowN (Below.refl _ _) 1)) (by simp)
              have HXn := Lib.hid (show Blk W8 NH #[.int .i64 y, .int .i64 0] 67 by rw [hW8]; exact HX6.out.set 0 _)
              have hB8 : Below wr.heap.size wr W8 := HB6.out.trans (hf8.below HB6.out.size (by simp; exact HNN.out))
              have HRDn := Lib.hid (HRD.out.step hB8)
              have HROWn := Lib.hid (HROW.out.congr (w' := W8) fun q e => hB8.block q (by have h9 := HROW.out; rw [e] at h9; exact h9.lt))
              have HCS8 := Lib.hid (show W8.cell? ⟨b, o + j, none⟩ = some (.slice (some ⟨gy, oy, none⟩) yn yc) ∧ W8.cell? ⟨qb, j, none⟩ = some (.int .i64 (PP : Int)) ∧ W8.cell? ⟨gy, oy + PP, none⟩ = some (.int .i64 y) from ⟨(fr_cell hf8 (by simpa using HNE.out.1) HLTS.out.1).trans HCS.out.1, (fr_cell hf8 (by simpa using HNE.out.2.1) HLTS.out.2.1).trans HCS.out.2.1, (fr_cell hf8 (by simpa using HNE.out.2.2) HLTS.out.2.2).trans HCS.out.2.2⟩)
              refine hK _ _ HCS8.out (fun hHeld => ?_)
              clear hK K x0 xz xl hW8 hf8 hB8 HX7 HX6 HRD6 HROW6 HCS HCS8
              try simp only [Act.put, List.setIfInBounds_toArray, List.set_cons_zero, List.set_cons_succ]
              refine wpAnyH_done (by kernel_rfl) ?_ _
              try simp only [Act.put, List.setIfInBounds_toArray, List.set_cons_zero, List.set_cons_succ]
              obtain ⟨v8, o8, W9, hrun9, hrow9, hg9, hs9, hlo9, hm9⟩ := hd_grow (M := w.heap.size) (ty := 32) (E := fun q => ⟨hdQ Q at_ q, 0⟩) (n := j) (W := W8.alloc (.cells #[.int .i64 y, .int .i64 0] 67)) (HROWn.out.congr fun q e => (alloc_b W8 _).block q (by have h9 := HROWn.out; rw [e] at h9; exact h9.lt)) HOH.out (by have h9 := blk_new W8 #[.int .i64 y, .int .i64 0] 67; rw [← HYY.out] at h9 ⊢; exact h9) (Nat.le_trans HRDn.out.b.size (alloc_b W8 _).size) (by have := HNB.out; have := HLJ.out; omega)
              have HRUN9 := Lib.hid hrun9
              have HROW9 := Lib.hid hrow9
              have HOH9 := Lib.hid hm9
              have HRD9 := Lib.hid ((HRDn.out.step (alloc_b W8 _)).heads (HROWn.out.congr fun q e => (alloc_b W8 _).block q (by have h9 := HROWn.out; rw [e] at h9; exact h9.lt)) hg9 hlo9)
              have x0 : W8.cell? ⟨NH, 0, none⟩ = some (.int .i64 y) := cell_at HXn.out 0
              have x1 : W8.cell? ⟨NH, 1, none⟩ = some (.int .i64 0) := cell_at HXn.out 1
              have ww5 : IntKind.i64.wrap ((j : Int) + 1) = (j : Int) + 1 := IntWalk.i64_in _ (by have := HNB.out; have := HLJ.out; omega)
              clear hrun9 hrow9 hg9 hs9 hlo9 hm9
              go_wp2_with (at_builtin; refine Lib.wpList_append_run _ rfl (.tmp 108) (.tmp 110) 32 32 rfl _ _ rfl rfl _ _ HRUN9.out ?_)
              go_roundw
              case rel => exact ⟨j + 1, some o8, by have := HLJ.out; omega, by go_num, HROW9.out, (fun q e => by obtain rfl := Option.some.inj e; exact HOH9.out), HRD9.out⟩
              case measure => (have h8 := HLJ.out; first | (simp [intOf]; done) | (simp [intOf]; omega))
            · have d3 : decide ((PP : Int) < (yn : Int)) = false := decide_eq_false (by omega)
              have d3' : decide (PP < yn) = false := decide_eq_false (by omega)
              have HYY : Hid (hdQ Q at_ j = 0) := Lib.hid (by unfold hdQ; exact gI_out (by rw [← HPP.out]; have h9 := HYN.out; omega))
              clear hpy
              (refine wp_region_quiet_lit (by kernel_rfl) (by kernel_rfl) ?_; (repeat (first | go_big_quiet_step (fail) | (refine BigFrame.wpQuiet_skip (by rfl) ?_; try simp only [Act.put, List.setIfInBounds_toArray, List.set_cons_zero, List.set_cons_succ]))); refine wpQuiet_nil ?_; intro _ hw9; obtain ⟨nq, hw8⟩ := hw9; subst hw8)
              obtain ⟨W6, hW6⟩ : ∃ X, X = W5.drewN nq := ⟨_, rfl⟩
              have hB6 : Below W5.heap.size W5 W6 := by rw [hW6]; exact dN _ _
              have HRDn := Lib.hid (HRD5.out.step hB6)
              have HROWn := Lib.hid (HROW5.out.congr (w' := W6) fun q e => hB6.block q (by have h9 := HROW5.out; rw [e] at h9; exact h9.lt))
              have HXn := Lib.hid (HX5.out.step hB6)
              rw [← hW6]
              clear hW6 hB6 ca c0 HRD5 HROW5 HX5
              obtain ⟨v8, o8, W9, hrun9, hrow9, hg9, hs9, hlo9, hm9⟩ := hd_grow (M := w.heap.size) (ty := 32) (E := fun q => ⟨hdQ Q at_ q, 0⟩) (n := j) (W := W6.alloc (.cells #[.int .i64 0, .int .i64 0] 67)) (HROWn.out.congr fun q e => (alloc_b W6 _).block q (by have h9 := HROWn.out; rw [e] at h9; exact h9.lt)) HOH.out (by have h9 := blk_new W6 #[.int .i64 0, .int .i64 0] 67; rw [← HYY.out] at h9 ⊢; exact h9) (Nat.le_trans HRDn.out.b.size (alloc_b W6 _).size) (by have := HNB.out; have := HLJ.out; omega)
              have HRUN9 := Lib.hid hrun9
              have HROW9 := Lib.hid hrow9
              have HOH9 := Lib.hid hm9
              have HRD9 := Lib.hid ((HRDn.out.step (alloc_b W6 _)).heads (HROWn.out.congr fun q e => (alloc_b W6 _).block q (by have h9 := HROWn.out; rw [e] at h9; exact h9.lt)) hg9 hlo9)
              have x0 : W6.cell? ⟨NH, 0, none⟩ = some (.int .i64 0) := cell_at HXn.out 0
              have x1 : W6.cell? ⟨NH, 1, none⟩ = some (.int .i64 0) := cell_at HXn.out 1
              have ww5 : IntKind.i64.wrap ((j : Int) + 1) = (j : Int) + 1 := IntWalk.i64_in _ (by have := HNB.out; have := HLJ.out; omega)
              clear hrun9 hrow9 hg9 hs9 hlo9 hm9
              go_wp2_with (at_builtin; refine Lib.wpList_append_run _ rfl (.tmp 108) (.tmp 110) 32 32 rfl _ _ rfl rfl _ _ HRUN9.out ?_)
              go_roundw
              case rel => exact ⟨j + 1, some o8, by have := HLJ.out; omega, by go_num, HROW9.out, (fun q e => by obtain rfl := Option.some.inj e; exact HOH9.out), HRD9.out⟩
              case measure => (have h8 := HLJ.out; first | (simp [intOf]; done) | (simp [intOf]; omega))
          obtain rfl : j = k := by omega
          obtain ⟨ah, ch, rfl, -, -, -⟩ := hrow.shape
          have HEE : Hid (∀ W', Fr [x.g, x.fz, x.fv, ft] wr W' → HdIn W' ah x.n ch (oh.getD 0) 0 (fun q => ⟨hdQ Q at_ q, 0⟩)) := Lib.hid (fun W' hf => by
            have hr9 := hd_fr HROW.out hf (by
              obtain ⟨_, _, _, _, _, r1, r2, r3, r4, r5⟩ := HRD.out.fr.blks9
              intro q hq
              simp at hq
              rcases hq with rfl | rfl | rfl | rfl
              · exact ⟨_, _, r1, by decide⟩
              · exact ⟨_, _, r3, by decide⟩
              · exact ⟨_, _, r4, by decide⟩
              · exact ⟨_, _, r5, by decide⟩)
            obtain ⟨a9, c9, he, hh⟩ := hd_row hr9 (fun q hq => by
              have := HOK.out.hd at_ q hq
              exact ⟨⟨by show _ ≤ hdQ Q at_ q; omega, by show hdQ Q at_ q ≤ _; omega⟩, by show _ ≤ (0 : Int); omega, by show (0 : Int) ≤ _; omega⟩)
            injection he with e1 e2 e3
            rw [HXK.out, e1, e3]
            exact hh)
          have PK := Lib.hid (rfpick_good w.heap.size x ft c2 wt al s ah ch (oh.getD 0) 0 (fun q => ⟨hdQ Q at_ q, 0⟩) wr hrd.fr HEE.out (by rw [HXK.out]; exact HOK.out.hd at_) hrd.iv (by rw [HXK.out]; exact HWK.out) (by rw [HXK.out]; have := HNB.out; omega))
          rw [HXK.out] at PK
          clear hrow hoh hrd hlj HEE HROW HOH
          go_wp2_with fail
          go_at_call 12
          go_fit (PK.out)
          rintro e W5 ⟨rfl, hp5⟩
          have hsz9 : pkS j wt al (hsz fun q => (⟨hdQ Q at_ q, 0⟩ : HdE)) s = pkS j wt al (hdQ Q at_) s := rfl
          rw [hsz9] at hp5
          obtain ⟨ft5, c5, hrd5⟩ := HRD.out.pick hp5 (by rw [HXK.out]; exact HPK.out.1)
          clear PK hp5 hsz9 HRD
          have hpc9 : pkK j wt al (hsz fun q => (⟨hdQ Q at_ q, 0⟩ : HdE)) s = pkK j wt al (hdQ Q at_) s := rfl
          rw [hpc9]
          clear hpc9
          cases hpc : pkK j wt al (hdQ Q at_) s with
          | none =>
            exfalso
            have h9 := pk_none hpc
            have h8 : leftQ Q at_ j = 0 := leftQ_none fun q hq => Nat.le_of_not_lt (fun hlt => h9 q hq ((HOK.out.pos at_ hq).2 hlt))
            have := HZ.out
            have := HLF.out
            omega
          | some q =>
            obtain ⟨hk, hz⟩ := HPK.out.2 q hpc
            have hlt := (HOK.out.pos at_ hk).1 hz
            have hup := leftQ_up hlt hk
            have hr : runF j wt al Q (leftQ Q at_ j + 1) s at_ = q :: runF j wt al Q (leftQ Q (upf at_ q (at_ q + 1)) j + 1) (pkS j wt al (hdQ Q at_) s) (upf at_ q (at_ q + 1)) := by
              rw [← hup]
              exact runF_some hpc
            have HRR : Hid (runF j wt al Q (totQ Q j + 1) s0F (fun _ => 0) = (O ++ [q]) ++ runF j wt al Q (leftQ Q (upf at_ q (at_ q + 1)) j + 1) (pkS j wt al (hdQ Q at_) s) (upf at_ q (at_ q + 1))) := Lib.hid (by rw [HRUN.out, hr]; simp)
            have HLL : Hid ((O ++ [q]).length + leftQ Q (upf at_ q (at_ q + 1)) j = totQ Q j ∧ O.length ≤ 1000) := Lib.hid (by have := HLO.out; have := HTT.out; rw [List.length_append]; simp; omega)
            obtain ⟨L2, hL2⟩ : ∃ y, y = leftQ Q (upf at_ q (at_ q + 1)) j := ⟨_, rfl⟩
            have HL2 : Hid (LF = L2 + 1) := Lib.hid (by rw [HLF.out, hL2]; omega)
            have HL2' := Lib.hid hL2
            have wl : IntKind.i64.wrap ((LF : Int) - 1) = (L2 : Int) := (IntWalk.i64_in _ (by have := HL2.out; have := HLF.out; have := HLO.out; have := HTT.out; omega)).trans (by have := HL2.out; omega)
            have hkx : q < x.n := by rw [HXK.out]; exact hk
            have ca := hrd5.ar.cell hkx
            have az := hrd5.ar.free
            have al9 := hrd5.ar.lt
            obtain ⟨P9, hP9⟩ : ∃ P, P = at_ q := ⟨_, rfl⟩
            have hq1000 : P9 ≤ 1000000 := by rw [hP9]; have := HQL.out q hk; omega
            rw [← hP9] at ca
            have wa : IntKind.i64.wrap ((P9 : Int) + 1) = (P9 : Int) + 1 := IntWalk.i64_in _ (by omega)
            obtain ⟨W6, hW6⟩ : ∃ W, W = W5.setCell ⟨qb, q, none⟩ (.int .i64 ((P9 : Int) + 1)) := ⟨_, rfl⟩
            have hrd6 := hrd5.put hkx (W' := W6) (by rw [hW6, hP9]; rfl)
            have HRD6 := Lib.hid hrd6
            have HKJ : Hid (q < j) := Lib.hid hk
            have bk1 : (q < j) = True := eq_true hk
            have bk2 : ((q : Int) < (j : Int)) = True := eq_true (by omega)
            have bk0 : ((0 : Int) ≤ (q : Int)) = True := eq_true (by omega)
            clear hr hup hlt hz hk hpc hrd5 hrd6 hL2 hkx hP9 hq1000
            simp only [kI, Option.isSome_some]
            go_upto_region 33 with fail
            rw [← hW6]
            clear hW6 ca az al9 wa
            have hB7 : Below W6.heap.size W6 (W6.alloc (.cells #[.int .i64 q] 3)) := alloc_b _ _
            have hrd7 := HRD6.out.step hB7
            obtain ⟨v8, o8, W8, hrun8, hio8, hg8, hn8, hlo8⟩ := in_grow (M := w.heap.size) (ty := 22) hrd7.sv (blk_new W6 #[.int .i64 q] 3) (by have := HNB.out; have := HKJ.out; omega) hrd7.b.size (by have := HLL.out; simp [natL]; omega)
            have HRD8 := Lib.hid (hrd7.serve hio8 hg8 hn8 hlo8)
            have HRUN8 := Lib.hid hrun8
            obtain ⟨a8, n8, c8, rfl, HN8, q81, q82⟩ := hio8.v.sh
            have hnat : natL O ++ [(q : Int)] = natL (O ++ [q]) := by simp [natL]
            rw [hnat] at HRD8
            clear hB7 hrd7 hrun8 hio8 hg8 hn8 hlo8 hnat q81 q82
            go_wp2_with (at_builtin; refine Lib.wpList_append_run _ rfl (.tmp 127) (.tmp 129) 22 22 rfl _ _ rfl rfl _ _ HRUN8.out ?_)
            go_roundw
            case rel => exact ⟨pkS j wt al (hdQ Q at_) s, some o8, upf at_ q (at_ q + 1), O ++ [q], ft5, c5, by rw [HL2'.out], HRD8.out, HLL.out.1, HRR.out⟩
            case measure => (have h8 := HL2.out; first | (simp [intOf]; done) | (simp [intOf]; omega) | omega)
    obtain ⟨ea, hbl⟩ := HQ.out.at_ (by omega)
    subst ea
    have c0 := (HQ.out.below HB2.out).cell k hlt
    have hv := HQ.out.inv k hlt
    obtain ⟨ya, yn, yc, ev, HYN, y1, y2⟩ := hv.sh
    rw [ev] at c0 hv
    have HVK := Lib.hid (hv.below HB2.out)
    have hxl : yn = (Q k).length := HYN.out
    have hxb : yn ≤ 1000000 := by rw [hxl]; exact HQL.out k hlt
    obtain ⟨S, hS⟩ : ∃ S, S = totQ Q k := ⟨_, rfl⟩
    obtain ⟨S2, hS2⟩ : ∃ S2, S2 = S + yn := ⟨_, rfl⟩
    have HS2 : Hid (totQ Q (k + 1) = S2) := Lib.hid (by rw [hS2, hS, hxl]; rfl)
    rw [← hS] at ht ⊢
    have ws : IntKind.i64.wrap ((S : Int) + (yn : Int)) = (S2 : Int) := (IntWalk.i64_in _ (by omega)).trans (by omega)
    have ww5 : IntKind.i64.wrap ((k : Int) + 1) = (k : Int) + 1 := IntWalk.i64_in _ (by have := HNB.out; omega)
    have b9 : ((k : Int) < (xn : Int)) = True := eq_true (by omega)
    have bk1 : (k < xn) = True := eq_true hlt
    have HLT := Lib.hid hlt
    have hr0 := hio.1
    rw [List.length_replicate] at hr0
    obtain ⟨az, cz, rfl, -, -, -⟩ := hr0.shape
    have hBx : Below wr.heap.size wr (wr.alloc (.cells #[.int .i64 0] 3)) := alloc_b _ _
    obtain ⟨v6, ob6, W9, hrun, hio9, hgr, hs, hlo⟩ := in_grow (M := W1.heap.size) (ty := 22) (x := 0) (HIO.out.step hBx) (blk_new wr #[.int .i64 0] 3) (by omega) (Nat.le_trans hB.size hBx.size) (by rw [List.length_replicate]; have := HNB.out; omega)
    rw [← List.replicate_succ'] at hio9
    have HRUN := Lib.hid hrun
    have HIO9 := Lib.hid hio9
    have HB9 : Hid (Below W1.heap.size W1 W9) := Lib.hid ((hB.trans (hBx.mono hB.size)).trans hlo)
    have HV9 := Lib.hid (hv.below (HB1.out.trans (HB9.out.mono HB1.out.size)))
    have c9 : W9.cell? ⟨b, o + k, none⟩ = some (.slice ya yn yc) := by
      have h9 := (HQ.out.below (HB1.out.trans (HB9.out.mono HB1.out.size))).cell k hlt
      rw [ev] at h9
      exact h9
    have HYL : Hid (yn = (Q k).length) := HYN
    have HYB := Lib.hid hxb
    clear ho hbl hv ev hxl hS hlt hr0 hBx hrun hio9 hgr hs hlo hio hB
    by_cases hbig : 1000 < S2
    · have d1 : decide ((1000 : Int) < (S2 : Int)) = true := decide_eq_true (by omega)
      have HBG := Lib.hid hbig
      have HNO : Hid (¬ okRun L Q xn) := Lib.hid (fun h => by have h1 := h.2.2.1; have h2 := totQ_mono Q (k := k + 1) (n := xn) (by have := HLT.out; omega); have := HS2.out; have := HBG.out; omega)
      clear hbig hS2 ht
      go_wp2_with (at_builtin; refine Lib.wpList_append_run _ rfl (.tmp 44) (.tmp 45) 22 22 rfl _ _ rfl rfl _ _ HRUN.out ?_)
      try rw [Exit.noGoto_ret]
      go_ret
      exact ⟨_, rfl, ⟨none, [], ino_nil _ _, .inr ⟨HNO.out, rfl⟩⟩, HB1.out.trans (HB9.out.mono HB1.out.size)⟩
    have d1 : decide ((1000 : Int) < (S2 : Int)) = false := decide_eq_false (by omega)
    have HSM : Hid (S2 ≤ 1000) := Lib.hid (by omega)
    clear hbig hS2 ht
    go_wp2_with (at_builtin; refine Lib.wpList_append_run _ rfl (.tmp 44) (.tmp 45) 22 22 rfl _ _ rfl rfl _ _ HRUN.out ?_)
    go_loopw [10] (fun v wq => ∃ j : Nat, j ≤ yn ∧ v = .int .i64 j ∧ (∀ i, i < j → 1 ≤ gI (Q k) i ∧ gI (Q k) i ≤ 1500) ∧ wq = W9) (fun v _ => yn - (intOf v).toNat)
    case atStart => exact ⟨0, Nat.zero_le _, rfl, (fun i h => by omega), rfl⟩
    case round =>
      obtain ⟨j, hj, rfl, hoj, ew⟩ := hrel
      subst ew
      have HOJ := Lib.hid hoj
      by_cases hlj : j < yn
      rotate_left
      · obtain rfl : j = yn := by omega
        clear hoj
        go_wp2_with fail
        go_roundw
        case rel => exact ⟨k + 1, some ob6, by have := HLT.out; omega, by go_num, by rw [HS2.out], by rw [HS2.out]; exact HSM.out, (fun i hi => by
          by_cases hik : i = k
          · subst hik
            intro x hx
            obtain ⟨q, hq1, hq2⟩ := List.getElem_of_mem hx
            have := HOJ.out q (by rw [HYL.out]; exact hq1)
            unfold gI at this
            rw [List.getElem?_eq_getElem hq1, hq2] at this
            exact this
          · exact HO.out i (by omega)), HIO9.out, HB9.out⟩
        case measure => (have h8 := HLT.out; first | (simp [intOf]; done) | (simp [intOf]; omega))
      obtain ⟨gy, oy, y, ey, _, hyy, cy, _⟩ := HV9.out.at j hlj
      subst ey
      have hgy : gI (Q k) j = y := by unfold gI; rw [hyy]; rfl
      have HGY := Lib.hid hgy
      have wj5 : IntKind.i64.wrap ((j : Int) + 1) = (j : Int) + 1 := IntWalk.i64_in _ (by have := HYB.out; omega)
      have bj9 : ((j : Int) < (yn : Int)) = True := eq_true (by omega)
      have bj1 : (j < yn) = True := eq_true hlj
      have HLJ := Lib.hid hlj
      clear hyy hgy hoj hlj
      by_cases hbad : y < 1 ∨ 1500 < y
      · have HNO : Hid (¬ okRun L Q xn) := Lib.hid (fun h => by
          have hm : y ∈ Q k := by rw [← HGY.out]; exact List.mem_of_getElem? (gI_lt (by rw [← HYL.out]; exact HLJ.out))
          have := h.2.2.2 k HLT.out y hm
          omega)
        rcases hbad with hb | hb
        · have d2 : decide (y < 1) = true := decide_eq_true hb
          clear hb
          go_wp2_with fail
          try rw [Exit.noGoto_ret]
          go_ret
          exact ⟨_, rfl, ⟨none, [], ino_nil _ _, .inr ⟨HNO.out, rfl⟩⟩, HB1.out.trans (HB9.out.mono HB1.out.size)⟩
        · have d2 : decide (y < 1) = false := decide_eq_false (by omega)
          have d3 : decide (1500 < y) = true := decide_eq_true hb
          clear hb
          go_wp2_with fail
          try rw [Exit.noGoto_ret]
          go_ret
          exact ⟨_, rfl, ⟨none, [], ino_nil _ _, .inr ⟨HNO.out, rfl⟩⟩, HB1.out.trans (HB9.out.mono HB1.out.size)⟩
      have HYG : Hid (1 ≤ y ∧ y ≤ 1500) := Lib.hid (by omega)
      have d2 : decide (y < 1) = false := decide_eq_false (by omega)
      have d3 : decide (1500 < y) = false := decide_eq_false (by omega)
      clear hbad
      go_wp2_with fail
      go_roundw
      case rel => exact ⟨j + 1, by have := HLJ.out; omega, by go_num, (fun i hi => by
        by_cases hij : i = j
        · subst hij; rw [HGY.out]; exact HYG.out
        · exact HOJ.out i (by omega)), by first | rfl | trivial⟩
      case measure => (have h8 := HLJ.out; first | (simp [intOf]; done) | (simp [intOf]; omega))
end Go.Proofs.Ytnainlemnkfpkaa
