/-
  Texts of this claim, put together: Vc.
-/
import Derived.Test.YtoodmocapagapaaOf1
namespace Go.Proofs.Ytoodmocapagapaa
open Go.RowKit
set_option linter.unusedSimpArgs false
set_option linter.unusedVariables false

structure LfS (W0 W : World) (M S : Nat) (fl : Nat → FlowE) (n i k : Nat) (own most : Int) (v11 : Value) (I : List (Nat × (Nat → Nat))) (O R : List (Nat × PD)) (s : SS) (m : ShM) (oR : Option Nat) (fr c : Nat) : Prop where
  sh : ShAt W M S fl n k m s
  w : WI I fl n s O
  fi : FI fl n i own most c s O fr
  sz : SzI fl n i own most s
  c : c ≤ O.length + k
  r : SnO W W0.heap.size v11 oR R
  st : ∃ pre, O = pre ++ R ∧ fr ≤ pre.length
  ok : okP (wI fl n i) (alF fl n) i own most R
  b : Below W0.heap.size W0 W
  il : I.length ≤ k
theorem LfS.step {W0 W W' : World} {M S : Nat} {fl : Nat → FlowE} {n i k : Nat} {own most : Int} {v11 : Value} {I : List (Nat × (Nat → Nat))} {O R : List (Nat × PD)} {s : SS} {m : ShM} {oR : Option Nat} {fr c : Nat} (h : LfS W0 W M S fl n i k own most v11 I O R s m oR fr c) (hB : Below W.heap.size W W') : LfS W0 W' M S fl n i k own most v11 I O R s m oR fr c :=
  ⟨h.sh.step hB, h.w, h.fi, h.sz, h.c, h.r.step hB, h.st, h.ok, h.b.trans (hB.mono h.b.size), h.il⟩
def LfE (W0 W : World) (M S : Nat) (fl : Nat → FlowE) (n i k : Nat) (own most : Int) (v11 : Value) : Prop := ∃ I O R s m oR fr c, LfS W0 W M S fl n i k own most v11 I O R s m oR fr c
set_option maxRecDepth 100000 in
set_option maxHeartbeats 40000000 in
theorem fair_walk (fa : Option Addr) (n fc fb fo : Nat) (fl : Nat → FlowE) (a : Option Addr) (na ca b o : Nat) (A : Nat → AtE) (f : Int) (W : World) (hfl : FlowIn W fa n fc fb fo fl) (hs : AtIn W a na ca b o A) : Calls Try.prog 5 #[.slice fa n fc, .slice a na ca, .int .i64 f] W fun e w' => e = .returned (.bool true) ∧ Below W.heap.size W w' := by
  have m1 := hs.le
  have m2 := hs.max
  have m3 := hfl.le
  have m4 := hfl.max
  unfold maxLen at m2 m4
  have HFL := Lib.hid hfl
  have HAT := Lib.hid hs
  have GR := Lib.hid (great_any a na ca b o A W hs)
  have WK := Lib.hid shwakes_any
  clear hfl hs
  go_enter Try.func5, Try.ntmps5
  go_wp2_with fail
  go_fit GR.out
  rintro e W1 ⟨⟨G, rfl, hG, hB1⟩⟩
  have HB1 := Lib.hid hB1
  cases G with
  | true =>
    clear hG hB1 GR
    go_wp2_with fail
    go_at_call 14
    go_fit (WK.out W1)
    rintro e WZ ⟨rfl, hBZ⟩
    have HBZ := Lib.hid (HB1.out.trans (hBZ.mono HB1.out.size))
    clear hBZ
    go_wp2_with fail
    try rw [Exit.noGoto_ret]
    go_ret
    exact ⟨rfl, HBZ.out⟩
  | false =>
    have HOK := Lib.hid (hG rfl)
    clear hG hB1 GR
    by_cases h8 : 8 < n
    · have d1 : decide ((8 : Int) < (n : Int)) = true := decide_eq_true (by omega)
      have d2 : decide (8 < n) = true := decide_eq_true h8
      clear h8
      go_wp2_with fail
      go_at_call 14
      go_fit (WK.out W1)
      rintro e WZ ⟨rfl, hBZ⟩
      have HBZ := Lib.hid (HB1.out.trans (hBZ.mono HB1.out.size))
      clear hBZ
      go_wp2_with fail
      try rw [Exit.noGoto_ret]
      go_ret
      exact ⟨rfl, HBZ.out⟩
    have d1 : decide ((8 : Int) < (n : Int)) = false := decide_eq_false (by omega)
    have d2 : decide (8 < n) = false := decide_eq_false h8
    have HN8 : Hid (n ≤ 8) := Lib.hid (by omega)
    clear h8
    by_cases hf0 : f < 0
    · have d3 : decide (f < 0) = true := decide_eq_true hf0
      clear hf0
      go_wp2_with fail
      go_at_call 14
      go_fit (WK.out W1)
      rintro e WZ ⟨rfl, hBZ⟩
      have HBZ := Lib.hid (HB1.out.trans (hBZ.mono HB1.out.size))
      clear hBZ
      go_wp2_with fail
      try rw [Exit.noGoto_ret]
      go_ret
      exact ⟨rfl, HBZ.out⟩
    have d3 : decide (f < 0) = false := decide_eq_false hf0
    obtain ⟨i, rfl⟩ : ∃ i : Nat, f = (i : Int) := ⟨f.toNat, by omega⟩
    clear hf0
    by_cases hin : n ≤ i
    · have d4 : decide ((n : Int) ≤ (i : Int)) = true := decide_eq_true (by omega)
      have d5 : decide (n ≤ i) = true := decide_eq_true hin
      clear hin
      go_wp2_with fail
      go_at_call 14
      go_fit (WK.out W1)
      rintro e WZ ⟨rfl, hBZ⟩
      have HBZ := Lib.hid (HB1.out.trans (hBZ.mono HB1.out.size))
      clear hBZ
      go_wp2_with fail
      try rw [Exit.noGoto_ret]
      go_ret
      exact ⟨rfl, HBZ.out⟩
    have d4 : decide ((n : Int) ≤ (i : Int)) = false := decide_eq_false (by omega)
    have d5 : decide (n ≤ i) = false := decide_eq_false hin
    have HI : Hid (i < n) := Lib.hid (by omega)
    have AP := Lib.hid (apart_any fa n fc fb fo fl W1 (HFL.out.below HB1.out) (by have := HN8.out; omega))
    clear hin
    go_wp2_with fail
    go_fit AP.out
    rintro e W2 ⟨⟨B, rfl, hap⟩, hB2⟩
    have HB2 := Lib.hid (HB1.out.trans (hB2.mono HB1.out.size))
    clear hB2 AP d1 d2 d3 d4 d5
    cases B with
    | false =>
      clear hap HB1
      go_wp2_with fail
      go_at_call 14
      go_fit (WK.out W2)
      rintro e WZ ⟨rfl, hBZ⟩
      have HBZ := Lib.hid (HB2.out.trans (hBZ.mono HB2.out.size))
      clear hBZ
      go_wp2_with fail
      try rw [Exit.noGoto_ret]
      go_ret
      exact ⟨rfl, HBZ.out⟩
    | true =>
      have HAP : Hid (∀ j, j < n → j ≠ i → (fl j).t ≠ (fl i).t) := Lib.hid (fun j hj hji e => by
        rcases Nat.lt_or_ge j i with h | h
        · exact hap rfl i j h HI.out e
        · exact hap rfl j i (by omega) hj e.symm)
      have NW := Lib.hid (new_any2 fa n fc fb fo fl W2 (HFL.out.below HB2.out))
      clear hap HB1
      go_wp2_with fail
      go_at_call 16
      go_fit NW.out
      rintro e W3 ⟨hB3, ⟨hok, S, m, rfl, hx3⟩ | ⟨_, rfl⟩⟩
      rotate_left
      · have HB3 := Lib.hid (HB2.out.trans (hB3.mono HB2.out.size))
        clear hB3 NW
        go_wp2_with fail
        go_at_call 14
        go_fit (WK.out W3)
        rintro e WZ ⟨rfl, hBZ⟩
        have HBZ := Lib.hid (HB3.out.trans (hBZ.mono HB3.out.size))
        clear hBZ
        go_wp2_with fail
        try rw [Exit.noGoto_ret]
        go_ret
        exact ⟨rfl, HBZ.out⟩
      obtain ⟨M, hM⟩ : ∃ M, M = W2.heap.size := ⟨_, rfl⟩
      rw [← hM] at hx3
      have HM : Hid (W.heap.size ≤ M) := Lib.hid (by rw [hM]; exact HB2.out.size)
      have HFO := Lib.hid hok
      have HB3 := Lib.hid (HB2.out.trans (hB3.mono HB2.out.size))
      obtain ⟨hfi, hsz⟩ := fi_start hok HI.out
      have HLW := Lib.hid (show LfE W W3 M S fl n i 0 0 0 (.slice none 0 0) from ⟨[], [], [], s0S, m, none, 0, 0, hx3, ⟨rfl, fun k hk p hp => by simp [s0S] at hp, fun x hx => by simp at hx, by
        have : ∀ k, totL s0S.q k = 0 := fun k => by induction k with
          | zero => rfl
          | succ k ih => rw [totL, ih]; rfl
        rw [this]; rfl, List.Pairwise.nil, fun k hk => List.Pairwise.nil, fun x hx => by simp at hx⟩, hfi, hsz, Nat.zero_le _, SnO.none _ _, ⟨[], rfl, Nat.le_refl _⟩, okP_nil _ _ _ _ _, HB3.out, Nat.zero_le _⟩)
      have hfw := HFL.out.below HB3.out
      obtain ⟨f0, _, _⟩ := hfw.cell i HI.out
      have fbl := (hfw.at_ (by have := HI.out; omega)).2
      obtain ⟨e0, _⟩ := hfw.at_ (by have := HI.out; omega)
      subst e0
      obtain ⟨ten, hten⟩ : ∃ x, x = (fl i).t := ⟨_, rfl⟩
      rw [← hten] at f0
      have HTEN := Lib.hid hten
      have hin := HI.out
      have i1 : (i < n) = True := eq_true hin
      have i2 : ((i : Int) < (n : Int)) = True := eq_true (by omega)
      have i0 : ((0 : Int) ≤ (i : Int)) = True := eq_true (by omega)
      clear hok hx3 hM hB3 NW hfi hsz hfw hten hin HB2 HB3
      go_wp2_with fail
      clear f0 fbl i1 i2 i0
      go_loopw [9, 10, 11, 14, 15, 16, 17, 18, 19, 20, 59] (fun v9 v10 v11 _ _ _ _ _ _ _ vi wr => ∃ (k : Nat) (own most : Int), k ≤ na ∧ vi = .int .i64 k ∧ v9 = .int .i64 own ∧ v10 = .int .i64 most ∧ LfE W wr M S fl n i k own most v11) (fun _ _ _ _ _ _ _ _ _ _ vi _ => na - (intOf vi).toNat)
      case atStart => exact ⟨0, 0, 0, Nat.zero_le _, rfl, rfl, rfl, HLW.out⟩
      case round =>
        clear HLW
        obtain ⟨k, own, most, hk, rfl, rfl, rfl, I, O, R, s, m, oR, fr, c, hls⟩ := hrel
        have HLS := Lib.hid hls
        by_cases hlt : k < na
        rotate_left
        · have HBB := Lib.hid hls.b
          obtain rfl : k = na := by omega
          clear hls hlt hk HLS
          go_wp2_with fail
          go_at_call 14
          go_fit (WK.out wr)
          rintro e WZ ⟨rfl, hBZ⟩
          have HBZ := Lib.hid (HBB.out.trans (hBZ.mono HBB.out.size))
          clear hBZ
          go_wp2_with fail
          try rw [Exit.noGoto_ret]
          go_ret
          exact ⟨rfl, HBZ.out⟩
        obtain ⟨e0, _⟩ := HAT.out.at_ (by omega)
        subst e0
        obtain ⟨x9, c9, rfl, _, _, e9⟩ := hls.r.row.shape
        clear e9
        have hat := HAT.out.below hls.b
        have cc := hat.cell k hlt
        have abl := (hat.at_ (by omega)).2
        obtain ⟨X, hX⟩ : ∃ X, X = A k := ⟨_, rfl⟩
        rw [← hX] at cc
        obtain ⟨⟨kd, tn, vn, ⟨ba, bn, bc, bb, bo, bX⟩⟩, hX2⟩ : ∃ Y : AtE, Y = X := ⟨X, rfl⟩
        rw [← hX2] at cc
        have HXA : Hid (A k = ⟨kd, tn, vn, ⟨ba, bn, bc, bb, bo, bX⟩⟩) := Lib.hid (by rw [hX2, hX])
        have cc0 : wr.cell? ⟨b, o + k * 4, none⟩ = some (.int .i64 kd) := cc 0 (by omega)
        have cc1 : wr.cell? ⟨b, o + k * 4 + 1, none⟩ = some (.int .i64 tn) := cc 1 (by omega)
        have cc2 : wr.cell? ⟨b, o + k * 4 + 2, none⟩ = some (.int .i64 vn) := cc 2 (by omega)
        have cc3 : wr.cell? ⟨b, o + k * 4 + 3, none⟩ = some (.slice ba bn bc) := cc 3 (by omega)
        have HLT : Hid (k < na ∧ na ≤ 120) := Lib.hid ⟨hlt, HOK.out.1⟩
        have b1 : (k < na) = True := eq_true hlt
        have b2 : ((k : Int) < (na : Int)) = True := eq_true (by omega)
        have b0 : ((0 : Int) ≤ (k : Int)) = True := eq_true (by omega)
        have wk : IntKind.i64.wrap ((k : Int) + 1) = (k : Int) + 1 := IntWalk.i64_in _ (by have := HLT.out; omega)
        obtain ⟨N4, hN4⟩ : ∃ N, N = wr.heap.size := ⟨_, rfl⟩
        obtain ⟨W4, hW4⟩ : ∃ Y, Y = wr.alloc (.cells #[.int .i64 kd, .int .i64 tn, .int .i64 vn, .slice ba bn bc] 44) := ⟨_, rfl⟩
        have hB4 : Below wr.heap.size wr W4 := by rw [hW4]; exact alloc_b _ _
        have hp4 : Blk W4 N4 #[.int .i64 kd, .int .i64 tn, .int .i64 vn, .slice ba bn bc] 44 := by rw [hW4, hN4]; exact blk_new _ _ _
        have HL4 := Lib.hid (hls.step hB4)
        have HP4 := Lib.hid hp4
        have p0 : W4.cell? ⟨N4, 0, none⟩ = some (.int .i64 kd) := cell_at hp4 0
        have q0 : W4.cell? ⟨N4, 1, none⟩ = some (.int .i64 tn) := cell_at hp4 1
        have q1 : W4.cell? ⟨N4, 2, none⟩ = some (.int .i64 vn) := cell_at hp4 2
        have q2 : W4.cell? ⟨N4, 3, none⟩ = some (.slice ba bn bc) := cell_at hp4 3
        have pl := hp4.lt
        clear hls hat cc hX hX2 hk hB4 hp4 hlt HLS
        go_upto_region 12 with fail
        rw [← hN4, ← hW4]
        clear hN4 hW4 cc0 cc1 cc2 cc3 abl
        have HBY := Lib.hid (show ByIn W4 ba bn bc bb bo bX from by
          have h := (HAT.out.ld k HLT.out.1).below HL4.out.b
          rw [HXA.out] at h
          exact h)
        have HBN : Hid (bn ≤ 20000) := Lib.hid (by have h := HOK.out.le HLT.out.1; rw [HXA.out] at h; exact h)
        have HSM : Hid (W.heap.size ≤ S ∧ M ≤ S) := Lib.hid (by have := HL4.out.sh.ge; have := HM.out; omega)
        clear HXA
        by_cases h0 : kd = 0
        · subst h0
          have RP := Lib.hid (rparse_any ba bn bc bb bo bX W4 HBY.out (by have := HBN.out; omega))
          go_wp2_with fail
          go_at_call 19
          go_fit RP.out
          intro e W5 hP
          obtain ⟨hB5, pt, pc, pa, pn, pcap, pe, rfl, hcase⟩ := parse_out hP
          have HTT : Hid (parseOk bX bn = true → pt = (bX 1 : Nat)) := Lib.hid (fun h => by
            rcases hcase with h2 | h2
            · rw [h2.2.1] at h; cases h
            · exact h2.2.2.1)
          obtain ⟨N6, hN6⟩ : ∃ N, N = W5.heap.size := ⟨_, rfl⟩
          obtain ⟨W6, hW6⟩ : ∃ Y, Y = W5.alloc (.cells #[.int .i64 0, .int .i64 pt, .int .i64 pc, .slice pa pn pcap] 53) := ⟨_, rfl⟩
          have hB6 : Below W5.heap.size W5 W6 := by rw [hW6]; exact alloc_b _ _
          have hp6 : Blk W6 N6 #[.int .i64 0, .int .i64 pt, .int .i64 pc, .slice pa pn pcap] 53 := by rw [hW6, hN6]; exact blk_new _ _ _
          have hl5 := HL4.out.step hB5
          have hl6 := hl5.step hB6
          have HL6 := Lib.hid hl6
          have HNO : Hid (N6 ≠ S ∧ ∀ j, j < n → N6 ≠ m.D j ∧ N6 ≠ m.R j) := Lib.hid (by
            refine ⟨?_, fun j hj => ?_⟩
            · have := hl5.sh.blk.lt; omega
            · obtain ⟨cr, hcr⟩ := (hl5.sh.q.qs j hj).rblk
              have := (hl5.sh.q.qs j hj).own.lt
              have := hcr.lt
              omega)
          have HP6 := Lib.hid ((HP4.out.step hB5).step hB6)
          have HQ6 := Lib.hid hp6
          have HBY6 := Lib.hid (ByIn.below (ByIn.below HBY.out hB5) hB6)
          have a3 : W6.cell? ⟨N4, 3, none⟩ = some (.slice ba bn bc) := cell_at HP6.out 3
          have al := HP6.out.lt
          have IN := Lib.hid (in_any2 W6 M S fl n k m s HL6.out.sh HFO.out (by have := HLT.out; omega) ba bn bc bb bo bX HBY6.out)
          clear hP hB5 hcase hB6 hp6 hl5 hl6 HL4 HP4 HBY RP p0 q0 q1 q2 pl
          go_upto_region 15 with fail
          rw [← hN6, ← hW6]
          clear hN6 hW6
          by_cases hE : inE fl n s bX bn = 0
          rotate_left
          · have hd : (inE fl n s bX bn == 0) = false := by simpa using hE
            obtain ⟨eE, heE⟩ : ∃ x, x = inE fl n s bX bn := ⟨_, rfl⟩
            obtain ⟨eN, heN⟩ : ∃ x, x = inN fl n s bX bn := ⟨_, rfl⟩
            have hS : inS fl n s bX bn = s := by unfold inS; rw [if_neg hE]
            rw [hS, ← heE, ← heN] at IN
            rw [← heE] at hd
            clear hE heE heN hS
            go_wp2_with fail
            go_at_call 6
            go_fit IN.out
            rintro e W7 ⟨rfl, ⟨m7, hx7⟩, hs7, _⟩
            have HL7 : Hid (LfE W W7 M S fl n i (k + 1) (own) (most) (.slice x9 R.length c9)) := Lib.hid ⟨I, O, R, s, m7, oR, fr, c, hx7, HL6.out.w, HL6.out.fi, HL6.out.sz, by have := HL6.out.c; omega, HL6.out.r.ty hs7.t (by decide), HL6.out.st, HL6.out.ok, HL6.out.b.trans (hs7.b.mono HM.out), by have := HL6.out.il; omega⟩
            clear hx7 hs7 HL6 IN a3 al
            go_wp2_with fail
            go_roundw
            case rel => exact ⟨k + 1, _, _, HLT.out.1, by go_num, rfl, rfl, HL7.out⟩
            case measure => (have h8 := HLT.out.1; first | (simp [intOf]; done) | (simp [intOf]; omega))
          have hN : inN fl n s bX bn = s.num + 1 := by unfold inN; rw [if_pos hE]
          rw [hN, hE] at IN
          have HE := Lib.hid hE
          clear hE hN
          go_wp2_with fail
          go_at_call 6
          go_fit IN.out
          rintro e W7 ⟨rfl, ⟨m7, hx7⟩, hs7, hko⟩
          have hp7 : Blk W7 N4 #[.int .i64 0, .int .i64 tn, .int .i64 vn, .slice ba bn bc] 44 := hs7.t _ _ _ HP6.out (by decide)
          have hq7 : Blk W7 N6 #[.int .i64 0, .int .i64 pt, .int .i64 pc, .slice pa pn pcap] 53 := (hko N6 HQ6.out.lt HNO.out.1 HNO.out.2).trans HQ6.out
          have hpt := HTT.out (inE_parts HE.out).1
          have hwb := HL6.out.sz.bd
          obtain ⟨hf7, hz7⟩ := fi_in HFO.out HI.out HL6.out.fi HL6.out.sz HE.out
          have HL7 : Hid (LfE W W7 M S fl n i (k + 1) (ownN fl i own bX bn) (max most (bn : Int)) (.slice x9 R.length c9)) := Lib.hid ⟨I ++ [(bn, bX)], O, R, inS fl n s bX bn, m7, oR, fr, c, hx7, HL6.out.w.in_ HBY6.out.bd HE.out, hf7, hz7, by have := HL6.out.c; omega, HL6.out.r.ty hs7.t (by decide), HL6.out.st, HL6.out.ok.mono ⟨by have := (HFO.out.wi HI.out).1; omega, (HFO.out.wi HI.out).1.2.2⟩ (by unfold ownN; split <;> omega) (by omega), HL6.out.b.trans (hs7.b.mono HM.out), by have := HL6.out.il; rw [List.length_append]; simp; omega⟩
          have b3 : W7.cell? ⟨N4, 3, none⟩ = some (.slice ba bn bc) := cell_at hp7 3
          have b4 := hp7.lt
          have b5 : W7.cell? ⟨N6, 1, none⟩ = some (.int .i64 (bX 1 : Nat)) := by rw [← hpt]; exact cell_at hq7 1
          have b6 := hq7.lt
          clear hx7 hs7 hko hp7 hq7 hpt hwb hf7 hz7 HL6 IN a3 al
          by_cases hten : ((bX 1 : Nat) : Int) = ten
          · have d1 : (((bX 1 : Nat) : Int) == ten) = true := by simpa using hten
            have HW : Hid (ownN fl i own bX bn = max own (bn : Int)) := Lib.hid (by unfold ownN; rw [if_pos (hten.trans HTEN.out)])
            rw [HW.out] at HL7
            clear hten HW
            go_wp2_with fail
            go_roundw
            case rel => exact ⟨k + 1, _, _, HLT.out.1, by go_num, rfl, rfl, HL7.out⟩
            case measure => (have h8 := HLT.out.1; first | (simp [intOf]; done) | (simp [intOf]; omega))
          · have d1 : (((bX 1 : Nat) : Int) == ten) = false := by simpa using hten
            have HW : Hid (ownN fl i own bX bn = own) := Lib.hid (by unfold ownN; rw [if_neg (fun e => hten (e.trans HTEN.out.symm))])
            rw [HW.out] at HL7
            clear hten HW
            go_wp2_with fail
            go_roundw
            case rel => exact ⟨k + 1, _, _, HLT.out.1, by go_num, rfl, rfl, HL7.out⟩
            case measure => (have h8 := HLT.out.1; first | (simp [intOf]; done) | (simp [intOf]; omega))
        by_cases h1 : kd = 1
        · subst h1
          have FL := Lib.hid (fill_any W4 M S fl n k m s HL4.out.sh tn vn)
          obtain ⟨eE, heE⟩ : ∃ x, x = fillE tn vn := ⟨_, rfl⟩
          rw [← heE] at FL
          clear h0 heE
          go_wp2_with fail
          go_at_call 9
          go_fit FL.out
          rintro e W5 ⟨rfl, hx5, hf5⟩
          have hS : (fillS s tn vn).q = s.q ∧ (fillS s tn vn).fs = s.fs ∧ (fillS s tn vn).num = s.num := by unfold fillS; split <;> exact ⟨rfl, rfl, rfl⟩
          have HL5 : Hid (LfE W W5 M S fl n i (k + 1) (own) (most) (.slice x9 R.length c9)) := Lib.hid ⟨I, O, R, fillS s tn vn, m, oR, fr, c, hx5.cnt (Nat.le_succ _), HL4.out.w.same hS.1 hS.2.2, HL4.out.fi.same hS.1 hS.2.1, HL4.out.sz.same hS.1, by have := HL4.out.c; omega, HL4.out.r.fr hf5 (ot_one HL4.out.sh.blk (by decide)), HL4.out.st, HL4.out.ok, HL4.out.b.trans (hf5.below HL4.out.b.size (by simpa using HSM.out.1)), by have := HL4.out.il; omega⟩
          clear hx5 hf5 hS HL4 FL
          go_wp2_with fail
          go_roundw
          case rel => exact ⟨k + 1, _, _, HLT.out.1, by go_num, rfl, rfl, HL5.out⟩
          case measure => (have h8 := HLT.out.1; first | (simp [intOf]; done) | (simp [intOf]; omega))
        by_cases h3 : kd = 3
        · subst h3
          have WN := Lib.hid (wants_any W4 M S fl n k m s HL4.out.sh HFO.out.n1.2 ten)
          have hwn : wantF fl s ten n = sumZ (s.q i) := by rw [HTEN.out, want_one n (fun j hj hji => HAP.out j hj hji), if_pos HI.out]
          rw [hwn] at WN
          clear hwn h0 h1
          go_wp2_with fail
          go_at_call 12
          go_fit WN.out
          rintro e W5 ⟨rfl, hB5⟩
          have HL5 := Lib.hid (HL4.out.step hB5)
          have HP5 := Lib.hid (HP4.out.step hB5)
          have TK := Lib.hid (tokens_any W5 M S fl n k m s HL5.out.sh ten)
          have htv : tokV s ten = s.tok ten.toNat := by unfold tokV; rw [if_pos (by rw [HTEN.out]; exact HFO.out.t i HI.out)]
          rw [htv] at TK
          obtain ⟨wq, hwq⟩ : ∃ x, x = sumZ (s.q i) := ⟨_, rfl⟩
          obtain ⟨tq, htq⟩ : ∃ x, x = s.tok ten.toNat := ⟨_, rfl⟩
          rw [← htq] at TK
          have HWT : Hid (wq = sumZ (s.q i) ∧ tq = s.tok ten.toNat) := Lib.hid ⟨hwq, htq⟩
          rw [← hwq]
          clear hB5 htv HL4 HP4 WN hwq htq HBY p0 q0 q1 q2 pl
          go_wp2_with fail
          go_at_call 10
          go_fit TK.out
          rintro e W6 ⟨rfl, rfl⟩
          have a2 : W5.cell? ⟨N4, 2, none⟩ = some (.int .i64 vn) := cell_at HP5.out 2
          have al := HP5.out.lt
          have hOk : O.length ≤ k := by have := HL5.out.w.cnt; have := HL5.out.il; omega
          have HOK2 := Lib.hid hOk
          clear hOk TK
          have hwp := pumpS_wi HFO.out vn HL5.out.w HL5.out.sh.iv
          have hlen1 : O.length + (pumpS fl n vn s).2.length ≤ k := by have := hwp.1.cnt; rw [List.length_append] at this; have := HL5.out.il; omega
          by_cases hgt : tq < wq
          · have d1 : decide (tq < wq) = true := decide_eq_true hgt
            have PU := Lib.hid (pump_any W5 M S fl n k m s HL5.out.sh HFO.out vn)
            obtain ⟨fr2, hfi, hsz⟩ := fi_pump HFO.out HI.out (totL s.q n + 1) (s := budIn s vn) (HL5.out.fi.same rfl rfl) (HL5.out.sz.same rfl) (by have h1 : (pumpF fl n (totL s.q n + 1) (budIn s vn)).2.length = (pumpS fl n vn s).2.length := rfl; have := HL5.out.c; have := HLT.out; omega)
            have HFI := Lib.hid (show FI fl n i own most (c + (pumpS fl n vn s).2.length + 1) (pumpS fl n vn s).1 (O ++ (pumpS fl n vn s).2) fr2 ∧ SzI fl n i own most (pumpS fl n vn s).1 from ⟨hfi.same rfl rfl, hsz.same rfl⟩)
            have HWP := Lib.hid hwp
            have HLN1 := Lib.hid hlen1
            clear hgt hfi hsz hwp hlen1
            go_wp2_with fail
            go_at_call 8
            go_fit PU.out
            rintro e W7 ⟨v1, v2, o1, o2, m7, rfl, hsn7, hby7, hx7, hs7⟩
            obtain ⟨xa, xc, rfl, _, _, e1⟩ := hsn7.row.shape
            obtain ⟨ya, yc, rfl, _, _, e2⟩ : ∃ a c, _ := hby7.ex.choose_spec.1.shape
            have HL7 : Hid (LfE W W7 M S fl n i (k + 1) (own) (most) (.slice none 0 0)) := Lib.hid ⟨I, O ++ (pumpS fl n vn s).2, [], (pumpS fl n vn s).1, m7, none, fr2, _, hx7.cnt (Nat.le_succ _), HWP.out.1, HFI.out.1, HFI.out.2, by have := HL5.out.c; rw [List.length_append]; omega, SnO.none _ _, ⟨O ++ (pumpS fl n vn s).2, by rw [List.append_nil], HFI.out.1.fb.le⟩, okP_nil _ _ _ _ _, HL5.out.b.trans (hs7.b.mono HM.out), by have := HL5.out.il; omega⟩
            clear e1 e2 hsn7 hby7 hx7 hs7 HL5 HP5 PU a2 al HFI HWP
            go_wp2_with fail
            go_roundw
            case rel => exact ⟨k + 1, _, _, HLT.out.1, by go_num, rfl, rfl, HL7.out⟩
            case measure => (have h8 := HLT.out.1; first | (simp [intOf]; done) | (simp [intOf]; omega))
          have d1 : decide (tq < wq) = false := decide_eq_false hgt
          have hle : sumZ (s.q i) ≤ s.tok (fl i).t.toNat := by have h1 := HWT.out.1; have h2 := HWT.out.2; rw [HTEN.out] at h2; omega
          have hRl : R.length ≤ 120 := by obtain ⟨pre, e1, _⟩ := HL5.out.st; have h5 := HOK2.out; have := HLT.out; rw [e1, List.length_append] at h5; omega
          have PDX := Lib.hid (pumped_any W5 M S fl n k m s HL5.out.sh HFO.out vn i HI.out W.heap.size HM.out x9 c9 oR R HL5.out.r (by omega))
          have hok0 : okP (wI fl n i) (alF fl n) i own most (if (s.q i).length = 0 then [] else R) := by split; exact okP_nil _ _ _ _ _; exact HL5.out.ok
          obtain ⟨fr2, hfi, hsz, hok2, hw2, hst2⟩ := fi_pumped HFO.out HI.out (fun j hj hji => HAP.out j hj hji) (totL s.q n + 1) (s := budIn s vn) (R := if (s.q i).length = 0 then [] else R) (HL5.out.fi.same rfl rfl) (HL5.out.sz.same rfl) (by have h1 : (pumpF fl n (totL s.q n + 1) (budIn s vn)).2.length = (pumpS fl n vn s).2.length := rfl; have := HL5.out.c; have := HLT.out; omega) hle hok0 (fun he => by
            obtain ⟨pre, e1, e2⟩ := HL5.out.st
            have he' : s.q i ≠ [] := he
            rw [if_neg (fun h => he' (List.eq_nil_of_length_eq_zero h))]
            exact ⟨pre, e1, e2⟩)
          obtain ⟨PM, hPM⟩ : ∃ P, P = pmF i (s.q i).length (if (s.q i).length = 0 then [] else R) (pumpS fl n vn s).2 := ⟨_, rfl⟩
          have hPM2 : PM = pmF i ((budIn s vn).q i).length (if (s.q i).length = 0 then [] else R) (pumpF fl n (totL s.q n + 1) (budIn s vn)).2 := hPM
          rw [← hPM2] at hok2 hw2 hst2
          rw [← hPM] at PDX
          have hmem : ∀ x ∈ PM.1, x ∈ O ++ (pumpS fl n vn s).2 := fun x hx => by
            rw [hPM] at hx
            rcases pmF_mem i _ _ _ x hx with h | h
            · by_cases h0 : (s.q i).length = 0
              · rw [if_pos h0] at h; cases h
              · rw [if_neg h0] at h
                obtain ⟨pre, e1, _⟩ := HL5.out.st
                rw [e1]
                exact List.mem_append.2 (.inl (List.mem_append.2 (.inr h)))
            · exact List.mem_append.2 (.inr h)
          have hPL : PM.1.length ≤ 250 := by
            have h1 := pmF_len i (pumpS fl n vn s).2 (s.q i).length (if (s.q i).length = 0 then [] else R)
            rw [← hPM] at h1
            have h2 : (if (s.q i).length = 0 then ([] : List (Nat × PD)) else R).length ≤ R.length := by split <;> simp
            have := HLT.out
            omega
          have hgd : ∀ x ∈ PM.1, (1 ≤ x.2.t ∧ x.2.t ≤ 16) ∧ x.2.n ≤ 1492 ∧ x.1 ≤ 100 ∧ 1 ≤ x.2.num ∧ x.2.num ≤ 100000 := fun x hx => by
            obtain ⟨g1, g2⟩ := hwp.1.o x (hmem x hx)
            have g3 := g2.bd
            have g4 := g2.hi
            have g5 := g2.lo
            have g6 := HFO.out.n1
            have := HL5.out.il
            have := HLT.out
            exact ⟨g3.1, g3.2.1, by omega, g5, by omega⟩
          have hfair := fair_true HFO.out HI.out (R := PM.1) (fun x hx => by have := (hgd x hx).2.1; unfold PD.sz; omega) hsz.bd hok2
          have HFI := Lib.hid (show FI fl n i own most (c + (pumpS fl n vn s).2.length + 1) (pumpS fl n vn s).1 (O ++ (pumpS fl n vn s).2) fr2 ∧ SzI fl n i own most (pumpS fl n vn s).1 from ⟨hfi.same rfl rfl, hsz.same rfl⟩)
          have HPX := Lib.hid (show okP (wI fl n i) (alF fl n) i own most PM.1 ∧ ((pumpS fl n vn s).1.q i ≠ [] → ∃ pre, O ++ (pumpS fl n vn s).2 = pre ++ PM.1 ∧ fr2 ≤ pre.length) ∧ PM.2 = ((pumpS fl n vn s).1.q i).length from ⟨hok2, hst2, hw2⟩)
          have HGD := Lib.hid hgd
          have HPL := Lib.hid hPL
          have HFT := Lib.hid hfair
          have HWP := Lib.hid hwp
          have HLN1 := Lib.hid hlen1
          clear hgt hle hRl hok0 hfi hsz hok2 hw2 hst2 hPM hPM2 hmem hPL hgd hfair hwp hlen1
          go_wp2_with fail
          go_at_call 20
          go_fit PDX.out
          rintro e W7 ⟨v', o', m7, rfl, hsn7, hx7, hB7⟩
          obtain ⟨xa, xc, rfl, _, _, e1⟩ := hsn7.row.shape
          have hb7 := HL5.out.b.trans hB7
          obtain ⟨_, sb, hSI⟩ := sno_sentin hsn7 HGD.out
          have RF := Lib.hid (rfair_any (i : Int) own most (some ⟨fb, fo, none⟩) n fc fb fo fl xa PM.1.length xc sb 0 (snS PM.1) W7 (HFL.out.below hb7) hSI HPL.out (by have := HN8.out; omega))
          rw [HFT.out] at RF
          obtain ⟨wz, hwz⟩ : ∃ x, x = PM.2 := ⟨_, rfl⟩
          rw [← hwz]
          have HL7 : Hid (wz ≠ 0 → LfE W W7 M S fl n i (k + 1) (own) (most) (.slice xa PM.1.length xc)) := Lib.hid (fun hne => ⟨I, O ++ (pumpS fl n vn s).2, PM.1, (pumpS fl n vn s).1, m7, o', fr2, _, hx7.cnt (Nat.le_succ _), HWP.out.1, HFI.out.1, HFI.out.2, by have := HL5.out.c; rw [List.length_append]; omega, hsn7, HPX.out.2.1 (fun h => hne (by rw [hwz, HPX.out.2.2, h]; rfl)), HPX.out.1, hb7, by have := HL5.out.il; omega⟩)
          have HL8 : Hid (LfE W W7 M S fl n i (k + 1) (own) (most) (.slice none 0 0)) := Lib.hid ⟨I, O ++ (pumpS fl n vn s).2, [], (pumpS fl n vn s).1, m7, none, fr2, _, hx7.cnt (Nat.le_succ _), HWP.out.1, HFI.out.1, HFI.out.2, by have := HL5.out.c; rw [List.length_append]; omega, SnO.none _ _, ⟨O ++ (pumpS fl n vn s).2, by rw [List.append_nil], HFI.out.1.fb.le⟩, okP_nil _ _ _ _ _, hb7, by have := HL5.out.il; omega⟩
          clear e1 hsn7 hx7 hB7 hb7 hSI hwz HL5 HP5 PDX a2 al HFI HWP HPX HGD HPL HFT
          go_wp2_with fail
          go_at_call 21
          go_fit RF.out
          rintro e W8 ⟨rfl, rfl⟩
          by_cases hw : wz = 0
          · have d2 : ((wz : Int) == 0) = true := by simp [hw]
            have d3 : (wz == 0) = true := by simp [hw]
            clear hw HL7 RF
            go_wp2_with fail
            go_roundw
            case rel => exact ⟨k + 1, _, _, HLT.out.1, by go_num, rfl, rfl, HL8.out⟩
            case measure => (have h8 := HLT.out.1; first | (simp [intOf]; done) | (simp [intOf]; omega))
          · have d2 : ((wz : Int) == 0) = false := by simp; omega
            have d3 : (wz == 0) = false := by simp; omega
            have HL9 := Lib.hid (HL7.out hw)
            clear hw HL7 HL8 RF
            go_wp2_with fail
            go_roundw
            case rel => exact ⟨k + 1, _, _, HLT.out.1, by go_num, rfl, rfl, HL9.out⟩
            case measure => (have h8 := HLT.out.1; first | (simp [intOf]; done) | (simp [intOf]; omega))
        · have e0 : (kd == 0) = false := by simpa using h0
          have e1 : (kd == 1) = false := by simpa using h1
          have e3 : (kd == 3) = false := by simpa using h3
          have HL5 : Hid (LfE W W4 M S fl n i (k + 1) (own) (most) (.slice x9 R.length c9)) := Lib.hid ⟨I, O, R, s, m, oR, fr, c, HL4.out.sh.cnt (Nat.le_succ _), HL4.out.w, HL4.out.fi, HL4.out.sz, by have := HL4.out.c; omega, HL4.out.r, HL4.out.st, HL4.out.ok, HL4.out.b, by have := HL4.out.il; omega⟩
          clear h0 h1 h3 HL4
          go_wp2_with fail
          go_roundw
          case rel => exact ⟨k + 1, _, _, HLT.out.1, by go_num, rfl, rfl, HL5.out⟩
          case measure => (have h8 := HLT.out.1; first | (simp [intOf]; done) | (simp [intOf]; omega))
end Go.Proofs.Ytoodmocapagapaa
