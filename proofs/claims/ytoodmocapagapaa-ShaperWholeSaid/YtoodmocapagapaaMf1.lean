/-
  Texts of this claim, put together: Wd.
-/
import Derived.Test.YtoodmocapagapaaMe1
import Derived.Deep.CutBlock
namespace Go.Proofs.Ytoodmocapagapaa
open Go.RowKit
set_option linter.unusedSimpArgs false
set_option linter.unusedVariables false

/-- where the law stands between two acts -/
structure LwS (W0 W : World) (M S tb : Nat) (fl : Nat → FlowE) (n k : Nat) (v7 v8 v9 : Value) (I : List (Nat × (Nat → Nat))) (O : List (Nat × PD)) (s : SS) (m : ShM) (oI oB oS : Option Nat) : Prop where
  sh : ShAt W M S fl n k m s
  w : WI I fl n s O
  r : LwR W0 W tb s.tok I O v7 v8 v9 oI oB oS
  tb : ∀ t, s.tok t ≤ 1000000 * (k : Int)
  ln : ∀ x ∈ I, x.1 ≤ 1500
  il : I.length ≤ k
def LwE (W0 W : World) (M S tb : Nat) (fl : Nat → FlowE) (n k : Nat) (v7 v8 v9 : Value) : Prop := ∃ I O s m oI oB oS, LwS W0 W M S tb fl n k v7 v8 v9 I O s m oI oB oS
set_option maxRecDepth 100000 in
set_option maxHeartbeats 40000000 in
theorem whole_walk (fa : Option Addr) (n fc fb fo : Nat) (fl : Nat → FlowE) (a : Option Addr) (na ca b o : Nat) (A : Nat → AtE) (W : World) (hfl : FlowIn W fa n fc fb fo fl) (hs : AtIn W a na ca b o A) : Calls Try.prog 4 #[.slice fa n fc, .slice a na ca] W fun e w' => e = .returned (.bool true) ∧ Below W.heap.size W w' := by
  have m1 := hs.le
  have m2 := hs.max
  have m3 := hfl.le
  have m4 := hfl.max
  unfold maxLen at m2 m4
  have HFL := Lib.hid hfl
  have HAT := Lib.hid hs
  have GR := Lib.hid (great_any a na ca b o A W hs)
  have WK := Lib.hid shwakes_any
  clear hfl hs
  go_enter Try.func4, Try.ntmps4
  go_wp2_with fail
  go_fit GR.out
  rintro e W1 ⟨⟨G, rfl, hG, hB1⟩⟩
  have HB1 := Lib.hid hB1
  cases G with
  | true =>
    clear hG hB1 GR
    go_wp2_with fail
    go_at_call 14
    go_fit (WK.out W1)
    rintro e W2 ⟨rfl, hB2⟩
    have HB2 := Lib.hid (HB1.out.trans (hB2.mono HB1.out.size))
    clear hB2
    go_wp2_with fail
    go_ret
    exact ⟨rfl, HB2.out⟩
  | false =>
    have HOK := Lib.hid (hG rfl)
    clear hG hB1 GR
    by_cases h60 : 60 < n
    · have d1 : decide ((60 : Int) < (n : Int)) = true := decide_eq_true (by omega)
      have d2 : decide (60 < n) = true := decide_eq_true h60
      clear h60
      go_wp2_with fail
      go_at_call 14
      go_fit (WK.out W1)
      rintro e W2 ⟨rfl, hB2⟩
      have HB2 := Lib.hid (HB1.out.trans (hB2.mono HB1.out.size))
      clear hB2
      go_wp2_with fail
      go_ret
      exact ⟨rfl, HB2.out⟩
    have d1 : decide ((60 : Int) < (n : Int)) = false := decide_eq_false (by omega)
    have d2 : decide (60 < n) = false := decide_eq_false h60
    have HN60 : Hid (n ≤ 60) := Lib.hid (by omega)
    have NW := Lib.hid (new_any2 fa n fc fb fo fl W1 (HFL.out.below HB1.out))
    clear h60
    go_wp2_with fail
    go_at_call 16
    go_fit NW.out
    rintro e W2 ⟨hB2, ⟨hok, S, m, rfl, hx2⟩ | ⟨_, rfl⟩⟩
    rotate_left
    · have HB2 := Lib.hid (HB1.out.trans (hB2.mono HB1.out.size))
      clear hB2 NW d1 d2
      go_wp2_with fail
      go_at_call 14
      go_fit (WK.out W2)
      rintro e W3 ⟨rfl, hB3⟩
      have HB3 := Lib.hid (HB2.out.trans (hB3.mono HB2.out.size))
      clear hB3
      go_wp2_with fail
      go_ret
      exact ⟨rfl, HB3.out⟩
    obtain ⟨M, hM⟩ : ∃ M, M = W1.heap.size := ⟨_, rfl⟩
    rw [← hM] at hx2
    have HM : Hid (W.heap.size ≤ M) := Lib.hid (by rw [hM]; exact HB1.out.size)
    have HFO := Lib.hid hok
    have HB2 := Lib.hid (HB1.out.trans (hB2.mono HB1.out.size))
    obtain ⟨tb, htb⟩ : ∃ N, N = W2.heap.size := ⟨_, rfl⟩
    obtain ⟨W3, hW3⟩ : ∃ X, X = W2.alloc (.cells (tokC fun _ => 0) 41) := ⟨_, rfl⟩
    have hB3 : Below W2.heap.size W2 W3 := by rw [hW3]; exact alloc_b _ _
    have htk : Blk W3 tb (tokC fun _ => 0) 41 := by rw [hW3, htb]; exact blk_new _ _ _
    have HLW := Lib.hid (show LwE W W3 M S tb fl n 0 (.slice none 0 0) (.slice none 0 0) (.slice none 0 0) from ⟨[], [], s0S, m, none, none, none, hx2.step hB3, ⟨rfl, fun k hk p hp => by simp [s0S] at hp, fun x hx => by simp at hx, by
        have : ∀ k, totL s0S.q k = 0 := fun k => by induction k with
          | zero => rfl
          | succ k ih => rw [totL, ih]; rfl
        rw [this]; rfl, List.Pairwise.nil, fun k hk => List.Pairwise.nil, fun x hx => by simp at hx⟩, ⟨⟨⟨[], Row.nil _ _ _, fun i x hx => by simp at hx⟩, (fun g e => by cases e)⟩, BsO.none _ _, SnO.none _ _, htk, (fun g e => by cases e), by rw [htb]; exact HB2.out.size, HB2.out.trans (hB3.mono HB2.out.size)⟩, fun t => by simp [s0S], fun x hx => by simp at hx, by simp⟩)
    unfold tokC at hW3
    clear hok hx2 hM hB2 htk hB3 NW d1 d2 HB1 HB2
    go_upto_region 9 with fail
    rw [← htb, ← hW3]
    clear htb hW3
    go_wp2_with fail
    go_loopw [7, 8, 9, 12, 13, 14, 15, 16, 17, 18, 19, 20, 41] (fun v7 v8 v9 _ _ _ _ _ _ _ _ _ vi wr => ∃ k : Nat, k ≤ na ∧ vi = .int .i64 k ∧ LwE W wr M S tb fl n k v7 v8 v9) (fun _ _ _ _ _ _ _ _ _ _ _ _ vi _ => na - (intOf vi).toNat)
    case atStart => exact ⟨0, Nat.zero_le _, rfl, HLW.out⟩
    case round =>
      clear HLW
      obtain ⟨k, hk, rfl, I, O, s, m, oI, oB, oS, hls⟩ := hrel
      have HLS := Lib.hid hls
      by_cases hlt : k < na
      rotate_left
      · obtain rfl : k = na := by omega
        obtain ⟨x7, c7, rfl, _, _, e7⟩ : ∃ a c, _ := hls.r.i.ex.choose_spec.1.shape
        obtain ⟨x8, c8, rfl, _, _, e8⟩ : ∃ a c, _ := hls.r.bs.ex.choose_spec.1.shape
        obtain ⟨x9, c9, rfl, _, _, e9⟩ := hls.r.sn.row.shape
        clear e7 e8 e9
        have hlen := hls.w.cnt
        have hI := HOK.out.1
        have hil := hls.il
        obtain ⟨_, ib, HI, hBI, hII⟩ := inr_bsin hls.r.i hls.r.b
        obtain ⟨_, bb, HB, hBB, hIB⟩ := bso_bsin hls.r.bs (fun x hx => good_bld (hls.w.o x hx).2)
        obtain ⟨_, sb, hSI⟩ := sno_sentin hls.r.sn (fun x hx => by
          obtain ⟨h1, h2⟩ := hls.w.o x hx
          have h3 := h2.bd
          have h4 := h2.hi
          have h5 := h2.lo
          have h6 := HFO.out.n1
          exact ⟨h3.1, h3.2.1, by omega, h5, by omega⟩)
        have hwo := wi_whole hls.w (HI := HI) (HB := HB) (S := snS O) ⟨hII, fun i x hx => snS_at hx, hIB⟩
        have WH := Lib.hid (rwhole_any x7 I.length c7 ib 0 HI fa n fc fb fo fl x9 O.length c9 sb 0 (snS O) x8 O.length c8 bb 0 HB wr hBI (HFL.out.below hls.r.b) hSI hBB (by omega) HN60.out (by omega) (fun i hi => by
          have h1 := (hII i _ (List.getElem?_eq_getElem hi)).1
          have h2 := hls.ln _ (List.getElem_mem hi)
          omega) (fun i hi => by
          have h1 := (hIB i _ (List.getElem?_eq_getElem hi)).1
          have h2 := (hls.w.o _ (List.getElem_mem hi)).2.bd.2.1
          omega))
        have HWO := Lib.hid hwo
        have HCN := Lib.hid (show totL s.q n + O.length = I.length ∧ I.length ≤ 120 ∧ n ≤ 8 from ⟨hlen, by omega, HFO.out.n1.2⟩)
        have HLW2 := Lib.hid hls
        have WQ := Lib.hid (fun t => waiting_any wr M S fl n k m s hls.sh t)
        clear hlen hI hil hBI hII hBB hIB hSI hwo hls hlt hk HLS
        go_wp2_with fail
        obtain ⟨wz, hwz⟩ : ∃ Y, Y = wr := ⟨_, rfl⟩
        rw [← hwz] at WH HLW2 WQ
        rw [← hwz]
        clear hwz
        go_loopw [21, 22, 200] (fun v21 _ vi wq => ∃ j : Nat, j ≤ n ∧ vi = .int .i64 j ∧ v21 = .int .i64 (totL s.q j : Nat) ∧ Below wz.heap.size wz wq ∧ wq = wz) (fun _ _ vi _ => n - (intOf vi).toNat)
        case atStart => exact ⟨0, Nat.zero_le _, rfl, rfl, Below.refl _ _, rfl⟩
        case round =>
          obtain ⟨j, hj, rfl, rfl, _, rfl⟩ := hrel
          have htb := tot_bd HLW2.out.sh.q j hj
          by_cases hlj : j < n
          · have HLJ := Lib.hid hlj
            have hb64 := (HLW2.out.sh.q.sz hlj).2
            have WJ := Lib.hid (WQ.out (j : Nat))
            have hv : waitV s n (j : Nat) = (((s.q j).length : Nat) : Int) := by unfold waitV; rw [if_pos (by omega), Int.toNat_natCast]
            rw [hv] at WJ
            have HNX : Hid (totL s.q (j + 1) = totL s.q j + (s.q j).length) := Lib.hid rfl
            obtain ⟨u, hu⟩ : ∃ u, u = totL s.q j := ⟨_, rfl⟩
            obtain ⟨v, hv2⟩ : ∃ v, v = (s.q j).length := ⟨_, rfl⟩
            rw [← hu, ← hv2] at HNX
            rw [← hv2] at WJ hb64
            rw [← hu] at htb
            rw [← hu]
            have w1 : IntKind.i64.wrap ((u : Int) + (v : Int)) = (u : Int) + (v : Int) := IntWalk.i64_in _ (by have := HCN.out; omega)
            have b1 : (j < n) = True := eq_true hlj
            have b2 : ((j : Int) < (n : Int)) = True := eq_true (by omega)
            have b0 : ((0 : Int) ≤ (j : Int)) = True := eq_true (by omega)
            have wj : IntKind.i64.wrap ((j : Int) + 1) = (j : Int) + 1 := IntWalk.i64_in _ (by have := HCN.out; omega)
            clear hlj hb64 hv hu hv2 htb hj
            go_wp2_with fail
            go_at_call 11
            go_fit WJ.out
            rintro e W5 ⟨rfl, rfl⟩
            go_wp2_with fail
            go_roundw
            case rel => exact ⟨j + 1, HLJ.out, by go_num, by rw [HNX.out]; simp, Below.refl _ _, by trivial⟩
            case measure => (have h8 := HLJ.out; first | (simp [intOf]; done) | (simp [intOf]; omega))
          · obtain rfl : j = n := by omega
            obtain ⟨u, hu⟩ : ∃ u, u = totL s.q j := ⟨_, rfl⟩
            have HUU : Hid (u + O.length = I.length ∧ u ≤ 512) := Lib.hid (by have := HCN.out; omega)
            rw [← hu]
            have w1 : IntKind.i64.wrap ((u : Int) + (O.length : Int)) = (u : Int) + (O.length : Int) := IntWalk.i64_in _ (by have := HCN.out; have := HUU.out; omega)
            have d1 : ((u : Int) + (O.length : Int) == (I.length : Int)) = true := by have := HUU.out; simp; omega
            have d2 : (u + O.length == I.length) = true := by have := HUU.out; simp; omega
            clear hu hlj hj htb
            go_wp2_with fail
            go_at_call 17
            go_fit WH.out
            rintro e W5 ⟨⟨B, rfl, hB⟩, hb5⟩
            obtain rfl : B = true := hB.2 HWO.out
            have HB5 := Lib.hid (HLW2.out.r.b.trans (hb5.mono HLW2.out.r.b.size))
            clear hB hb5
            go_wp2_with fail
            go_at_call 14
            go_fit (WK.out W5)
            rintro e W6 ⟨rfl, hB6⟩
            have HB6 := Lib.hid (HB5.out.trans (hB6.mono HB5.out.size))
            clear hB6
            go_wp2_with fail
            try rw [Exit.noGoto_ret]
            go_ret
            exact ⟨rfl, HB6.out⟩
      obtain ⟨e0, _⟩ := HAT.out.at_ (by omega)
      subst e0
      obtain ⟨x7, c7, rfl, _, _, e7⟩ : ∃ a c, _ := hls.r.i.ex.choose_spec.1.shape
      obtain ⟨x8, c8, rfl, _, _, e8⟩ : ∃ a c, _ := hls.r.bs.ex.choose_spec.1.shape
      obtain ⟨x9, c9, rfl, _, _, e9⟩ := hls.r.sn.row.shape
      clear e7 e8 e9
      have hat := HAT.out.below hls.r.b
      have cc := hat.cell k hlt
      have abl := (hat.at_ (by omega)).2
      obtain ⟨X, hX⟩ : ∃ X, X = A k := ⟨_, rfl⟩
      rw [← hX] at cc
      obtain ⟨⟨kd, tn, vn, ⟨ba, bn, bc, bb, bo, bX⟩⟩, hX2⟩ : ∃ Y : AtE, Y = X := ⟨X, rfl⟩
      rw [← hX2] at cc
      have HXX : Hid (A k = ⟨kd, tn, vn, ⟨ba, bn, bc, bb, bo, bX⟩⟩) := Lib.hid (by rw [hX2, hX])
      have HXA : Hid (A k = ⟨kd, tn, vn, ⟨ba, bn, bc, bb, bo, bX⟩⟩) := Lib.hid (by rw [hX2, hX])
      have cc0 : wr.cell? ⟨b, o + k * 4, none⟩ = some (.int .i64 kd) := cc 0 (by omega)
      have cc1 : wr.cell? ⟨b, o + k * 4 + 1, none⟩ = some (.int .i64 tn) := cc 1 (by omega)
      have cc2 : wr.cell? ⟨b, o + k * 4 + 2, none⟩ = some (.int .i64 vn) := cc 2 (by omega)
      have cc3 : wr.cell? ⟨b, o + k * 4 + 3, none⟩ = some (.slice ba bn bc) := cc 3 (by omega)
      have HLT : Hid (k < na ∧ na ≤ 120) := Lib.hid ⟨hlt, HOK.out.1⟩
      have b1 : (k < na) = True := eq_true hlt
      have b2 : ((k : Int) < (na : Int)) = True := eq_true (by omega)
      have b0 : ((0 : Int) ≤ (k : Int)) = True := eq_true (by omega)
      have wk : IntKind.i64.wrap ((k : Int) + 1) = (k : Int) + 1 := IntWalk.i64_in _ (by have := HLT.out; omega)
      obtain ⟨N4, hN4⟩ : ∃ N, N = wr.heap.size := ⟨_, rfl⟩
      obtain ⟨W4, hW4⟩ : ∃ Y, Y = wr.alloc (.cells #[.int .i64 kd, .int .i64 tn, .int .i64 vn, .slice ba bn bc] 44) := ⟨_, rfl⟩
      have hB4 : Below wr.heap.size wr W4 := by rw [hW4]; exact alloc_b _ _
      have hp4 : Blk W4 N4 #[.int .i64 kd, .int .i64 tn, .int .i64 vn, .slice ba bn bc] 44 := by rw [hW4, hN4]; exact blk_new _ _ _
      have HL4 : Hid (LwS W W4 M S tb fl n k _ _ _ I O s m oI oB oS) := Lib.hid ⟨hls.sh.step hB4, hls.w, hls.r.step hB4, hls.tb, hls.ln, hls.il⟩
      have HP4 := Lib.hid hp4
      have p0 : W4.cell? ⟨N4, 0, none⟩ = some (.int .i64 kd) := cell_at hp4 0
      have pl := hp4.lt
      have HN4 : Hid (W.heap.size ≤ N4) := Lib.hid (by rw [hN4]; exact hls.r.b.size)
      clear hls hat cc hX hX2 hk hB4 hp4 hlt HLS
      go_upto_region 12 with fail
      rw [← hN4, ← hW4]
      clear hN4 hW4 cc0 cc1 cc2 cc3 abl
      have HBY := Lib.hid (show ByIn W4 ba bn bc bb bo bX from by
        have h := (HAT.out.ld k HLT.out.1).below HL4.out.r.b
        rw [HXA.out] at h
        exact h)
      have HBN : Hid (bn ≤ 20000) := Lib.hid (by have h := HOK.out.le HLT.out.1; rw [HXA.out] at h; exact h)
      have HSM : Hid (W.heap.size ≤ S ∧ M ≤ S) := Lib.hid (by have := HL4.out.sh.ge; have := HM.out; omega)
      clear HXA
      go_upto_block 2 with fail
      go_cut [7, 8, 9, 13, 14, 15, 16, 17, 18, 19] from 42 to 197 (fun y7 y8 y9 _ _ _ _ _ _ _ wx => LwE W wx M S tb fl n (k + 1) y7 y8 y9)
      case first =>
        clear b0 b1 b2 wk
        have ps := HP4.out
        have q0 : W4.cell? ⟨N4, 1, none⟩ = some (.int .i64 tn) := cell_at ps 1
        have q1 : W4.cell? ⟨N4, 2, none⟩ = some (.int .i64 vn) := cell_at ps 2
        have q2 : W4.cell? ⟨N4, 3, none⟩ = some (.slice ba bn bc) := cell_at ps 3
        clear ps
        by_cases h0 : kd = 0
        · subst h0
          have IN := Lib.hid (in_any W4 M S fl n k m s HL4.out.sh HFO.out (by have := HLT.out; omega) ba bn bc bb bo bX HBY.out)
          by_cases hE : inE fl n s bX bn = 0
          rotate_left
          · have hd : (inE fl n s bX bn == 0) = false := by simpa using hE
            obtain ⟨eE, heE⟩ : ∃ x, x = inE fl n s bX bn := ⟨_, rfl⟩
            obtain ⟨eN, heN⟩ : ∃ x, x = inN fl n s bX bn := ⟨_, rfl⟩
            have hS : inS fl n s bX bn = s := by unfold inS; rw [if_neg hE]
            rw [hS, ← heE, ← heN] at IN
            rw [← heE] at hd
            clear hE heE heN hS
            go_wp2_with fail
            go_at_call 6
            go_fit IN.out
            rintro e W5 ⟨rfl, ⟨m5, hx5⟩, hs5⟩
            have HL5 : Hid (LwE W W5 M S tb fl n (k + 1) (.slice x7 I.length c7) (.slice x8 O.length c8) (.slice x9 O.length c9)) := Lib.hid ⟨I, O, s, m5, oI, oB, oS, hx5, HL4.out.w, HL4.out.r.bs_ hs5 HM.out, fun t => by have := HL4.out.tb t; push_cast; omega, HL4.out.ln, by have := HL4.out.il; omega⟩
            clear hx5 hs5 HL4 IN
            go_wp2_with fail
            go_meet
            exact HL5.out
          have hN : inN fl n s bX bn = s.num + 1 := by unfold inN; rw [if_pos hE]
          have hnm : s.num = (I.length : Int) := HL4.out.w.num
          rw [hN, hE, hnm] at IN
          have HE := Lib.hid hE
          clear hE hN hnm
          go_wp2_with fail
          go_at_call 6
          go_fit IN.out
          rintro e W5 ⟨rfl, ⟨m5, hx5⟩, hs5⟩
          have hr5 := HL4.out.r.bs_ hs5 HM.out
          have hp5 : Blk W5 N4 #[.int .i64 0, .int .i64 tn, .int .i64 vn, .slice ba bn bc] 44 := hs5.t _ _ _ HP4.out (by decide)
          have a3 : W5.cell? ⟨N4, 3, none⟩ = some (.slice ba bn bc) := cell_at hp5 3
          have al := hp5.lt
          have hB6 : Below W5.heap.size W5 (W5.alloc (.cells #[.slice ba bn bc] 42)) := alloc_b _ _
          have hr6 := hr5.step hB6
          obtain ⟨v7', o7, W7, hrun7, hi7, hf7, hB7, hs7⟩ := in_grow1 (ty := 28) hr6.i (blk_new W5 #[.slice ba bn bc] 42) (show ByIn W ba bn bc bb bo bX from by have h := HAT.out.ld k HLT.out.1; rw [HXX.out] at h; exact h) hr6.b.size (by have := HL4.out.il; have := HLT.out; omega)
          have HRUN7 := Lib.hid hrun7
          have ho7 : ∀ l : List TypeId, 42 ∉ l → OT _ oI.toList l := fun l h1 => by
            obtain ⟨vs, hr, _⟩ := hr6.i.ex
            exact ot_row hr h1
          have hbI : ∀ g, oB = some g → g ∉ oI.toList := fun g e hm => by
            cases oI with
            | none => simp at hm
            | some g' =>
              obtain rfl : g = g' := by simpa using hm
              exact hr6.ne _ rfl e
          have hlB : ∀ g, oB = some g → g < (W5.alloc (.cells #[.slice ba bn bc] 42)).heap.size := fun g e => by
            obtain ⟨vs, hr, _⟩ := hr6.bs.ex
            subst e
            exact hr.lt
          have hr7 : LwR W W7 tb s.tok (I ++ [(bn, bX)]) O v7' (.slice x8 O.length c8) (.slice x9 O.length c9) (some o7) oB oS :=
            ⟨hi7, hr6.bs.frN hf7 hbI (ho7 _ (by decide)), hr6.sn.fr hf7 (ho7 _ (by decide)), (blk_ot hr6.tk hf7 (l := [41]) (ho7 _ (by decide)) (by simp)).trans hr6.tk, fun g e e2 => by
              obtain rfl := Option.some.inj e
              rcases hs7 with h | h
              · exact hr6.ne _ h e2
              · have := hlB _ e2; omega, hr6.gt, hr6.b.trans hB7⟩
          have hx7 := (hx5.step hB6).ot hf7 (ho7 _ (by decide))
          have hS : inS fl n s bX bn = ⟨s.fs, upf s.q (inK fl n bX) (s.q (inK fl n bX) ++ [inP s bX bn]), s.tok, s.bud, s.num + 1⟩ := by unfold inS; rw [if_pos HE.out]
          have hw7 := HL4.out.w.in_ HBY.out.bd HE.out
          have HL7 : Hid (LwE W W7 M S tb fl n (k + 1) v7' (.slice x8 O.length c8) (.slice x9 O.length c9)) := Lib.hid ⟨I ++ [(bn, bX)], O, inS fl n s bX bn, m5, some o7, oB, oS, hx7, hw7, by rw [hS]; exact hr7, fun t => by rw [hS]; have := HL4.out.tb t; push_cast; show s.tok t ≤ _; omega, fun x hx => by
            rcases List.mem_append.1 hx with hx | hx
            · exact HL4.out.ln x hx
            · obtain rfl : x = (bn, bX) := by simpa using hx
              exact (parse_bd (inE_parts HE.out).1).1.2, by have := HL4.out.il; rw [List.length_append]; simp; omega⟩
          obtain ⟨y7, z7, rfl, _, _, e7⟩ : ∃ a c, _ := hi7.ex.choose_spec.1.shape
          have hlen : (I ++ [(bn, bX)]).length = I.length + 1 := by simp
          rw [hlen] at HRUN7 HL7
          clear e7 hlen hx5 hs5 hr5 hp5 hB6 hr6 hrun7 hi7 hf7 hB7 hs7 ho7 hbI hlB hr7 hx7 hS hw7 HL4 IN
          go_wp2_with (at_builtin; refine Lib.wpList_append_run _ rfl (.tmp 58) (.tmp 61) 28 28 rfl _ _ rfl rfl _ _ HRUN7.out ?_)
          go_meet
          exact HL7.out
        by_cases h1 : kd = 1
        · subst h1
          have FI := Lib.hid (fill_any W4 M S fl n k m s HL4.out.sh tn vn)
          by_cases hok : okFill tn vn
          rotate_left
          · have hE : fillE tn vn = 2 := by unfold fillE; rw [if_neg hok]
            have hS : fillS s tn vn = s := by unfold fillS; rw [if_neg hok]
            rw [hE, hS] at FI
            clear hok hE hS h0
            go_wp2_with fail
            go_at_call 9
            go_fit FI.out
            rintro e W5 ⟨rfl, hx5, hf5⟩
            have HL5 : Hid (LwE W W5 M S tb fl n (k + 1) (.slice x7 I.length c7) (.slice x8 O.length c8) (.slice x9 O.length c9)) := Lib.hid ⟨I, O, s, m, oI, oB, oS, hx5.cnt (Nat.le_succ _), HL4.out.w, HL4.out.r.ot hf5 (ot_one HL4.out.sh.blk (by decide)) (by simpa using HSM.out.1), fun t => by have := HL4.out.tb t; push_cast; omega, HL4.out.ln, by have := HL4.out.il; omega⟩
            clear hx5 hf5 HL4 FI
            go_wp2_with fail
            go_meet
            exact HL5.out
          have hE : fillE tn vn = 0 := by unfold fillE; rw [if_pos hok]
          have HFS : Hid (fillS s tn vn = ⟨s.fs, s.q, upf s.tok tn.toNat (min (s.tok tn.toNat + vn) 1099511627776), s.bud, s.num⟩) := Lib.hid (by unfold fillS; rw [if_pos hok])
          rw [hE] at FI
          obtain ⟨⟨t1, t2⟩, v1, v2⟩ := hok
          obtain ⟨T, rfl, T1, T16⟩ := tok_in ⟨t1, t2⟩
          have HTB := Lib.hid (show (0 ≤ s.tok T ∧ s.tok T ≤ 1000000 * (k : Int)) ∧ 0 ≤ vn ∧ vn ≤ 1000000 ∧ T ≤ 16 from ⟨⟨(HL4.out.sh.tk T).1, HL4.out.tb T⟩, v1, v2, T16⟩)
          have d1 : decide ((T : Int) < 1) = false := decide_eq_false (by omega)
          have d2 : decide ((16 : Int) < (T : Int)) = false := decide_eq_false (by omega)
          have d3 : decide (16 < T) = false := decide_eq_false (by omega)
          have d4 : decide (T < 1) = false := decide_eq_false (by omega)
          clear h0 t1 t2 v1 v2 hE
          go_wp2_with fail
          go_at_call 9
          go_fit FI.out
          rintro e W5 ⟨rfl, hx5, hf5⟩
          have hr5 := HL4.out.r.ot hf5 (ot_one HL4.out.sh.blk (by decide)) (by simpa using HSM.out.1)
          have hp5 : Blk W5 N4 #[.int .i64 1, .int .i64 (T : Nat), .int .i64 vn, .slice ba bn bc] 44 := (blk_ot HP4.out hf5 (l := [44]) (ot_one HL4.out.sh.blk (by decide)) (by simp)).trans HP4.out
          have a1 : W5.cell? ⟨N4, 1, none⟩ = some (.int .i64 (T : Nat)) := cell_at hp5 1
          have a2 : W5.cell? ⟨N4, 2, none⟩ = some (.int .i64 vn) := cell_at hp5 2
          have al := hp5.lt
          have tc : W5.cell? ⟨tb, T, none⟩ = some (.int .i64 (s.tok T)) := (cell_at hr5.tk T).trans (tokC_at _ T T16)
          have tl := hr5.tk.lt
          have tz : ∀ j, W5.frozen? ⟨tb, j, none⟩ = false := fun j => free_at hr5.tk j
          have t1 : (T < 17) = True := eq_true (by omega)
          have t2 : ((T : Int) < 17) = True := eq_true (by omega)
          have t0 : ((0 : Int) ≤ (T : Int)) = True := eq_true (by omega)
          have w1 : IntKind.i64.wrap (s.tok T + vn) = s.tok T + vn := IntWalk.i64_in _ (by have := HTB.out; have := HLT.out; omega)
          obtain ⟨W7, hW7⟩ : ∃ Y, Y = (W5.setCell ⟨tb, T, none⟩ (.int .i64 (s.tok T + vn))).drew := ⟨_, rfl⟩
          obtain ⟨hr6, hf6⟩ := hr5.put T16 (s.tok T + vn) rfl
          have hx6 := (hx5.ot hf6 (ot_one hr5.tk (by decide))).step ((Below.refl _ _).drew)
          have hr7 := hr6.step ((Below.refl _ _).drew)
          rw [← hW7] at hx6 hr7
          have hmin : min (s.tok T + vn) 1099511627776 = s.tok T + vn := by have := HTB.out; have := HLT.out; omega
          have HL7 : Hid (LwE W W7 M S tb fl n (k + 1) (.slice x7 I.length c7) (.slice x8 O.length c8) (.slice x9 O.length c9)) := Lib.hid ⟨I, O, fillS s (T : Int) vn, m, oI, oB, oS, hx6.cnt (Nat.le_succ _), HL4.out.w.same (by rw [HFS.out]) (by rw [HFS.out]), by rw [HFS.out, Int.toNat_natCast, hmin]; exact hr7, fun t => by
            rw [HFS.out, Int.toNat_natCast, hmin]
            show upf s.tok T (s.tok T + vn) t ≤ _
            have := HL4.out.tb t
            have := HTB.out
            push_cast
            by_cases e : t = T
            · subst e; rw [upf_at]; omega
            · rw [upf_ne _ _ e]; omega, HL4.out.ln, by have := HL4.out.il; omega⟩
          clear hx5 hf5 hr5 hp5 hr6 hf6 hx6 hr7 hmin HL4 FI T1 T16 p0 q0 q1 q2 pl
          go_upto_region 23 with fail
          go_region
          rw [← hW7]
          clear hW7 a1 a2 al tc tl tz w1
          go_wp2_with fail
          go_meet
          exact HL7.out
        by_cases h2 : kd = 2
        · subst h2
          have DR := Lib.hid (drop_any W4 M S fl n k m s HL4.out.sh tn)
          by_cases hok : 1 ≤ tn ∧ tn ≤ 16
          rotate_left
          · have hE : dropE tn = 2 := by unfold dropE; rw [if_neg hok]
            have hS : dropS s tn = s := by unfold dropS; rw [if_neg hok]
            have hV : tokV s tn = 0 := by unfold tokV; rw [if_neg hok]
            rw [hE, hS, hV] at DR
            clear hok hE hS hV h0 h1
            go_wp2_with fail
            go_at_call 7
            go_fit DR.out
            rintro e W5 ⟨rfl, hx5, hf5⟩
            have HL5 : Hid (LwE W W5 M S tb fl n (k + 1) (.slice x7 I.length c7) (.slice x8 O.length c8) (.slice x9 O.length c9)) := Lib.hid ⟨I, O, s, m, oI, oB, oS, hx5.cnt (Nat.le_succ _), HL4.out.w, HL4.out.r.ot hf5 (ot_one HL4.out.sh.blk (by decide)) (by simpa using HSM.out.1), fun t => by have := HL4.out.tb t; push_cast; omega, HL4.out.ln, by have := HL4.out.il; omega⟩
            clear hx5 hf5 HL4 DR
            go_wp2_with fail
            go_meet
            exact HL5.out
          have hE : dropE tn = 0 := by unfold dropE; rw [if_pos hok]
          have HFS : Hid (dropS s tn = ⟨s.fs, s.q, upf s.tok tn.toNat 0, s.bud, s.num⟩) := Lib.hid (by unfold dropS; rw [if_pos hok])
          have hV : tokV s tn = s.tok tn.toNat := by unfold tokV; rw [if_pos hok]
          rw [hE, hV] at DR
          obtain ⟨T, rfl, T1, T16⟩ := tok_in hok
          rw [Int.toNat_natCast] at DR
          have d1 : decide ((T : Int) < 1) = false := decide_eq_false (by omega)
          have d2 : decide ((16 : Int) < (T : Int)) = false := decide_eq_false (by omega)
          have d3 : decide (16 < T) = false := decide_eq_false (by omega)
          have d4 : decide (T < 1) = false := decide_eq_false (by omega)
          clear h0 h1 hok hE hV
          go_wp2_with fail
          go_at_call 7
          go_fit DR.out
          rintro e W5 ⟨rfl, hx5, hf5⟩
          have hr5 := HL4.out.r.ot hf5 (ot_one HL4.out.sh.blk (by decide)) (by simpa using HSM.out.1)
          have hp5 : Blk W5 N4 #[.int .i64 2, .int .i64 (T : Nat), .int .i64 vn, .slice ba bn bc] 44 := (blk_ot HP4.out hf5 (l := [44]) (ot_one HL4.out.sh.blk (by decide)) (by simp)).trans HP4.out
          have a1 : W5.cell? ⟨N4, 1, none⟩ = some (.int .i64 (T : Nat)) := cell_at hp5 1
          have al := hp5.lt
          have tc : W5.cell? ⟨tb, T, none⟩ = some (.int .i64 (s.tok T)) := (cell_at hr5.tk T).trans (tokC_at _ T T16)
          have tl := hr5.tk.lt
          have tz : ∀ j, W5.frozen? ⟨tb, j, none⟩ = false := fun j => free_at hr5.tk j
          have t1 : (T < 17) = True := eq_true (by omega)
          have t2 : ((T : Int) < 17) = True := eq_true (by omega)
          have t0 : ((0 : Int) ≤ (T : Int)) = True := eq_true (by omega)
          obtain ⟨W7, hW7⟩ : ∃ Y, Y = W5.setCell ⟨tb, T, none⟩ (.int .i64 0) := ⟨_, rfl⟩
          obtain ⟨hr7, hf7⟩ := hr5.put T16 0 hW7
          have hx7 := hx5.ot hf7 (ot_one hr5.tk (by decide))
          have HL7 : Hid (LwE W W7 M S tb fl n (k + 1) (.slice x7 I.length c7) (.slice x8 O.length c8) (.slice x9 O.length c9)) := Lib.hid ⟨I, O, dropS s (T : Int), m, oI, oB, oS, hx7.cnt (Nat.le_succ _), HL4.out.w.same (by rw [HFS.out]) (by rw [HFS.out]), by rw [HFS.out, Int.toNat_natCast]; exact hr7, fun t => by
            rw [HFS.out, Int.toNat_natCast]
            show upf s.tok T 0 t ≤ _
            have := HL4.out.tb t
            push_cast
            by_cases e : t = T
            · subst e; rw [upf_at]; omega
            · rw [upf_ne _ _ e]; omega, HL4.out.ln, by have := HL4.out.il; omega⟩
          clear hx5 hf5 hr5 hp5 hf7 hx7 hr7 HL4 DR T1 T16 p0 q0 q1 q2 pl
          go_wp2_with fail
          rw [← hW7]
          go_meet
          exact HL7.out
        by_cases h3 : kd = 3
        · subst h3
          have PU := Lib.hid (pump_any W4 M S fl n k m s HL4.out.sh HFO.out vn)
          have hwp := pumpS_wi HFO.out vn HL4.out.w HL4.out.sh.iv
          obtain ⟨s1, hs1⟩ : ∃ x, x = (pumpS fl n vn s).1 := ⟨_, rfl⟩
          obtain ⟨O1, hO1⟩ : ∃ x, x = (pumpS fl n vn s).2 := ⟨_, rfl⟩
          rw [← hs1, ← hO1] at PU hwp
          have HWP := Lib.hid hwp
          have HOL : Hid (O.length + O1.length ≤ 120) := Lib.hid (by have := hwp.1.cnt; rw [List.length_append] at this; have := HL4.out.il; have := HLT.out; omega)
          clear hs1 hO1 hwp h0 h1 h2
          go_wp2_with fail
          go_at_call 8
          go_fit PU.out
          rintro e W5 ⟨v17, v18, o17, o18, m5, rfl, hsn5, hby5, hx5, hs5⟩
          obtain ⟨z17, c17, rfl, _, _, e17⟩ := hsn5.row.shape
          obtain ⟨z18, c18, rfl, _, _, e18⟩ : ∃ a c, _ := hby5.ex.choose_spec.1.shape
          have HZ := Lib.hid e17
          have hr5 := HL4.out.r.bs_ hs5 HM.out
          have HR5 := Lib.hid (show LwR W W5 tb (tokAfter s.tok (O1.take 0)) I O (.slice x7 I.length c7) (.slice x8 O.length c8) (.slice x9 O.length c9) oI oB oS from hr5)
          have HX5 := Lib.hid (hx5.cnt (Nat.le_succ k))
          have HSN5 := Lib.hid hsn5
          have HBY5 := Lib.hid hby5
          have HW4 : Hid (W.heap.size ≤ W4.heap.size) := Lib.hid HL4.out.r.b.size
          have HTB := Lib.hid (show (∀ t, s.tok t ≤ 1000000 * (k : Int)) ∧ (∀ x ∈ I, x.1 ≤ 1500) ∧ I.length ≤ k from ⟨HL4.out.tb, HL4.out.ln, HL4.out.il⟩)
          clear e17 e18 hsn5 hby5 hx5 hs5 hr5 PU HL4 HP4 HBY p0 q0 q1 q2 pl
          go_wp2_with fail
          go_loopw [19, 133] (fun _ vi wr => ∃ i : Nat, i ≤ O1.length ∧ vi = .int .i64 i ∧ LwR W wr tb (tokAfter s.tok (O1.take i)) I O (.slice x7 I.length c7) (.slice x8 O.length c8) (.slice x9 O.length c9) oI oB oS ∧ SnO wr W4.heap.size (.slice z17 O1.length c17) o17 O1 ∧ BsO wr W4.heap.size (.slice z18 O1.length c18) o18 O1 ∧ ShAt wr M S fl n (k + 1) m5 s1) (fun _ vi _ => O1.length - (intOf vi).toNat)
          case atStart => exact ⟨0, Nat.zero_le _, rfl, HR5.out, HSN5.out, HBY5.out, HX5.out⟩
          case round =>
            clear HR5 HX5 HSN5 HBY5
            obtain ⟨i, hi, rfl, hr, hsn, hby, hx⟩ := hrel
            by_cases hli : i < O1.length
            rotate_left
            · obtain rfl : i = O1.length := by omega
              rw [List.take_length, HWP.out.2.2] at hr
              obtain ⟨v9', o9, W8, hrun8, hsn8, hf8, hB8⟩ := sn_app (ty := 27) hr.sn hsn hr.b.size (by have := HOL.out; omega)
              have HRUN8 := Lib.hid hrun8
              have ho8 : ∀ l : List TypeId, 46 ∉ l → OT wr oS.toList l := fun l h1 => ot_row hr.sn.row h1
              have hi8 := hr.i.fr hf8 (ho8 _ (by decide))
              have hb8 := hr.bs.fr hf8 (ho8 _ (by decide))
              have ht8 := (blk_ot hr.tk hf8 (l := [41]) (ho8 _ (by decide)) (by simp)).trans hr.tk
              have hx8 := hx.ot hf8 (ho8 _ (by decide))
              have hby8 := hby.fr hf8 (ho8 _ (by decide))
              have hbb8 := hr.b.trans hB8
              obtain ⟨v8', o8, W9, hrun9, hby9, hf9, hB9, hs9⟩ := bs_app (ty := 28) hb8 hby8 hbb8.size HW4.out (by have := HOL.out; omega)
              have HRUN9 := Lib.hid hrun9
              have ho9 : ∀ l : List TypeId, 42 ∉ l → OT W8 oB.toList l := fun l h1 => by
                obtain ⟨vs, hrw, _⟩ := hb8.ex
                exact ot_row hrw h1
              have hlI : ∀ g, oI = some g → g < W8.heap.size := fun g e => by
                obtain ⟨vs, hrw, _⟩ := hi8.ex
                subst e
                exact hrw.lt
              have hr9 : LwR W W9 tb s1.tok I (O ++ O1) (.slice x7 I.length c7) v8' v9' oI o8 o9 :=
                ⟨hi8.frN hf9 (fun g e hm => by
                  cases oB with
                  | none => simp at hm
                  | some g' =>
                    obtain rfl : g = g' := by simpa using hm
                    exact hr.ne _ e rfl), hby9, hsn8.fr hf9 (ho9 _ (by decide)), (blk_ot ht8 hf9 (l := [41]) (ho9 _ (by decide)) (by simp)).trans ht8, fun g e e2 => by
                  rcases hs9 g e2 with h | h
                  · exact hr.ne _ e h
                  · have := hlI _ e; omega, hr.gt, hbb8.trans hB9⟩
              obtain ⟨y8, z8, rfl, _, _, f8⟩ : ∃ a c, _ := hr9.bs.ex.choose_spec.1.shape
              obtain ⟨y9, z9, rfl, _, _, f9⟩ := hr9.sn.row.shape
              have hx9 := hx8.ot hf9 (ho9 _ (by decide))
              have HL9 : Hid (LwE W W9 M S tb fl n (k + 1) (.slice x7 I.length c7) (.slice y8 (O ++ O1).length z8) (.slice y9 (O ++ O1).length z9)) := Lib.hid ⟨I, O ++ O1, s1, m5, oI, o8, o9, hx9, HWP.out.1, hr9, fun t => by
                have h1 := HTB.out.1 t
                have h2 := tokAfter_le O1 s.tok t
                rw [HWP.out.2.2] at h2
                push_cast
                omega, HTB.out.2.1, by have := HTB.out.2.2; omega⟩
              rw [List.length_append] at HRUN8 HRUN9 HL9
              clear f8 f9 hrun8 hsn8 hf8 hB8 ho8 hi8 hb8 ht8 hx8 hby8 hbb8 hrun9 hby9 hf9 hB9 hs9 ho9 hlI hr9 hx9 hr hsn hby hx hli hi
              go_wp2_with (first
                | (at_builtin; refine Lib.wpList_append_run _ rfl (.tmp 180) (.tmp 181) 27 27 rfl _ _ rfl rfl _ _ HRUN8.out ?_)
                | (at_builtin; refine Lib.wpList_append_run _ rfl (.tmp 183) (.tmp 184) 28 28 rfl _ _ rfl rfl _ _ HRUN9.out ?_))
              go_meet
              exact HL9.out
            obtain ⟨x, hx1⟩ : ∃ x, O1[i]? = some x := ⟨O1[i], List.getElem?_eq_getElem hli⟩
            obtain ⟨hpt, hps, hpa⟩ := canPay_at HWP.out.2.1 hx1
            obtain ⟨T, hT, T1, T16⟩ := tok_in hpt
            rw [hT, Int.toNat_natCast] at hps hpa
            obtain ⟨tk, htk⟩ : ∃ f, f = tokAfter s.tok (O1.take i) := ⟨_, rfl⟩
            have htl : tk T ≤ 1000000 * (k : Int) := by rw [htk]; exact Int.le_trans (tokAfter_le _ _ _) (HTB.out.1 T)
            have hz8 := sz_pos x.2
            rw [← htk] at hps hpa hr
            have HPA := Lib.hid hpa
            obtain ⟨g17, eg, _⟩ := hsn.row.cell (i * 6) (by omega)
            subst eg
            obtain rfl : z17 = some ⟨g17, 0, none⟩ := HZ.out
            have hcc : ∀ j, j < 6 → wr.cell? ⟨g17, i * 6 + j, none⟩ = (sentV x.1 x.2)[j]? := fun j hj => by
              obtain ⟨g, e, hc, _⟩ := hsn.row.cell (i * 6 + j) (by omega)
              obtain rfl := Option.some.inj e
              exact hc.trans (snL_at O1 i j x hx1 hj)
            obtain ⟨z, hz⟩ : ∃ z, z = x.2.sz := ⟨_, rfl⟩
            have g2 : wr.cell? ⟨g17, i * 6 + 2, none⟩ = some (.int .i64 (T : Nat)) := by rw [hcc 2 (by omega), ← hT]; rfl
            have g4 : wr.cell? ⟨g17, i * 6 + 4, none⟩ = some (.int .i64 z) := by rw [hcc 4 (by omega), hz]; rfl
            have gl := hsn.row.lt
            rw [← hz] at hps HPA hz8
            have tc : wr.cell? ⟨tb, T, none⟩ = some (.int .i64 (tk T)) := (cell_at hr.tk T).trans (tokC_at _ T T16)
            have tl := hr.tk.lt
            have t1 : (T < 17) = True := eq_true (by omega)
            have t2 : ((T : Int) < 17) = True := eq_true (by omega)
            have t0 : ((0 : Int) ≤ (T : Int)) = True := eq_true (by omega)
            have i1 : (i < O1.length) = True := eq_true hli
            have i2 : ((i : Int) < (O1.length : Int)) = True := eq_true (by omega)
            have i0 : ((0 : Int) ≤ (i : Int)) = True := eq_true (by omega)
            have wi : IntKind.i64.wrap ((i : Int) + 1) = (i : Int) + 1 := IntWalk.i64_in _ (by have := HOL.out; omega)
            have w1 : IntKind.i64.wrap (tk T - z) = tk T - z := IntWalk.i64_in _ (by have := HLT.out; omega)
            have d1 : decide ((T : Int) < 1) = false := decide_eq_false (by omega)
            have d2 : decide ((16 : Int) < (T : Int)) = false := decide_eq_false (by omega)
            have d3 : decide (16 < T) = false := decide_eq_false (by omega)
            have d4 : decide (T < 1) = false := decide_eq_false (by omega)
            have d5 : decide (tk T < z) = false := decide_eq_false (by omega)
            have HLI := Lib.hid hli
            have HRX := Lib.hid hr
            have HSN := Lib.hid hsn
            have HBX := Lib.hid hby
            have HXX2 := Lib.hid hx
            have HT16 := Lib.hid T16
            clear hcc hz hx1 hpt hps hpa hT T1 T16 htk htl hz8 hr hsn hby hx hli hi
            go_upto_region 35 with fail
            (refine wp_region_quiet_lit (by kernel_rfl) (by kernel_rfl) ?_; (repeat (first | go_big_quiet_step (fail) | (refine BigFrame.wpQuiet_skip (by rfl) ?_; try simp only [Act.put, List.setIfInBounds_toArray, List.set_cons_zero, List.set_cons_succ]))); refine wpQuiet_nil ?_; intro _ hw9; obtain ⟨nq, hw8⟩ := hw9; subst hw8)
            obtain ⟨W6, hW6⟩ : ∃ Y, Y = wr.drewN nq := ⟨_, rfl⟩
            rw [← hW6]
            have hB6 : Below wr.heap.size wr W6 := by rw [hW6]; exact dN _ _
            have hr6 := HRX.out.step hB6
            have hsn6 := HSN.out.step hB6
            have hby6 := HBX.out.step hB6
            have hx6 := HXX2.out.step hB6
            have k2 : W6.cell? ⟨g17, i * 6 + 2, none⟩ = some (.int .i64 (T : Nat)) := by rw [hW6]; exact g2
            have k4 : W6.cell? ⟨g17, i * 6 + 4, none⟩ = some (.int .i64 z) := by rw [hW6]; exact g4
            have kl := hsn6.row.lt
            have tc6 : W6.cell? ⟨tb, T, none⟩ = some (.int .i64 (tk T)) := by rw [hW6]; exact tc
            have tl6 := hr6.tk.lt
            have tz : ∀ j, W6.frozen? ⟨tb, j, none⟩ = false := fun j => free_at hr6.tk j
            obtain ⟨W7, hW7⟩ : ∃ Y, Y = (W6.setCell ⟨tb, T, none⟩ (.int .i64 (tk T - z))).drew := ⟨_, rfl⟩
            obtain ⟨hr7, hf7⟩ := hr6.put HT16.out (tk T - z) rfl
            have hdr : ∀ V : World, Below V.heap.size V V.drew := fun V => (Below.refl _ _).drew
            have hsn7 := (hsn6.fr hf7 (ot_one hr6.tk (by decide))).step (hdr _)
            have hby7 := (hby6.fr hf7 (ot_one hr6.tk (by decide))).step (hdr _)
            have hx7 := (hx6.ot hf7 (ot_one hr6.tk (by decide))).step (hdr _)
            have hr8 := hr7.step (hdr _)
            rw [← hW7] at hsn7 hby7 hx7 hr8
            rw [← HPA.out] at hr8
            have HE := Lib.hid (show LwR W W7 tb (tokAfter s.tok (O1.take (i + 1))) I O (.slice x7 I.length c7) (.slice x8 O.length c8) (.slice x9 O.length c9) oI oB oS ∧ SnO W7 W4.heap.size (.slice (some ⟨g17, 0, none⟩) O1.length c17) (some g17) O1 ∧ BsO W7 W4.heap.size (.slice z18 O1.length c18) o18 O1 ∧ ShAt W7 M S fl n (k + 1) m5 s1 from ⟨hr8, hsn7, hby7, hx7⟩)
            clear hW6 hB6 hr6 hsn6 hby6 hx6 hr7 hf7 hdr hsn7 hby7 hx7 hr8 g2 g4 gl tc tl HRX HSN HBX HXX2
            go_upto_region 37 with fail
            go_region
            rw [← hW7]
            clear hW7 k2 k4 kl tc6 tl6 tz w1
            go_wp2_with fail
            go_roundw
            case rel => exact ⟨i + 1, HLI.out, by go_num, HE.out.1, HE.out.2.1, HE.out.2.2.1, HE.out.2.2.2⟩
            case measure => (have h8 := HLI.out; first | (simp [intOf]; done) | (simp [intOf]; omega))
        · have e0 : (kd == 0) = false := by simpa using h0
          have e1 : (kd == 1) = false := by simpa using h1
          have e2 : (kd == 2) = false := by simpa using h2
          have e3 : (kd == 3) = false := by simpa using h3
          have HL5 : Hid (LwE W W4 M S tb fl n (k + 1) (.slice x7 I.length c7) (.slice x8 O.length c8) (.slice x9 O.length c9)) := Lib.hid ⟨I, O, s, m, oI, oB, oS, HL4.out.sh.cnt (Nat.le_succ _), HL4.out.w, HL4.out.r, fun t => by have := HL4.out.tb t; push_cast; omega, HL4.out.ln, by have := HL4.out.il; omega⟩
          clear h0 h1 h2 h3 HL4
          go_wp2_with fail
          go_meet
          exact HL5.out
      case rest =>
        obtain ⟨I1, O1, s1, m5, o7, o8, o9, hls⟩ := hcut
        obtain ⟨y7, z7, rfl, _, _, f7⟩ : ∃ a c, _ := hls.r.i.ex.choose_spec.1.shape
        obtain ⟨y8, z8, rfl, _, _, f8⟩ : ∃ a c, _ := hls.r.bs.ex.choose_spec.1.shape
        obtain ⟨y9, z9, rfl, _, _, f9⟩ := hls.r.sn.row.shape
        have HLS := Lib.hid hls
        clear f7 f8 f9 hls HL4 HP4 HBY p0 pl
        go_wp2_with fail
        go_loopw [20] (fun v20 wq => ∃ j : Nat, 1 ≤ j ∧ j ≤ 17 ∧ v20 = .int .i64 j ∧ LwS W wq M S tb fl n (k + 1) (.slice y7 I1.length z7) (.slice y8 O1.length z8) (.slice y9 O1.length z9) I1 O1 s1 m5 o7 o8 o9) (fun v20 _ => 17 - (intOf v20).toNat)
        case atStart => exact ⟨1, Nat.le_refl _, by omega, rfl, HLS.out⟩
        case round =>
          clear HLS
          obtain ⟨j, hj1, hj, rfl, hls⟩ := hrel
          by_cases hlj : j ≤ 16
          rotate_left
          · have HL9 : Hid (LwE W wr M S tb fl n (k + 1) (.slice y7 I1.length z7) (.slice y8 O1.length z8) (.slice y9 O1.length z9)) := Lib.hid ⟨I1, O1, s1, m5, o7, o8, o9, hls⟩
            obtain rfl : j = 17 := by omega
            clear hls hlj hj hj1
            go_wp2_with fail
            go_roundw
            case rel => exact ⟨k + 1, HLT.out.1, by go_num, HL9.out⟩
            case measure => (have h8 := HLT.out.1; first | (simp [intOf]; done) | (simp [intOf]; omega))
          have TK := Lib.hid (tokens_any wr.drew M S fl n (k + 1) m5 s1 (hls.sh.step ((Below.refl _ _).drew)) (j : Nat))
          have hv : tokV s1 (j : Nat) = s1.tok j := by unfold tokV; rw [if_pos (by omega), Int.toNat_natCast]
          rw [hv] at TK
          have hS : wr.drew.cell? ⟨tb, j, none⟩ = some (.int .i64 (s1.tok j)) ∧ tb < wr.drew.heap.size := ⟨(cell_at hls.r.tk j).trans (tokC_at _ j hlj), hls.r.tk.lt⟩
          have HSS := Lib.hid hS
          have HL5 : Hid (LwS W wr.drew M S tb fl n (k + 1) (.slice y7 I1.length z7) (.slice y8 O1.length z8) (.slice y9 O1.length z9) I1 O1 s1 m5 o7 o8 o9) := Lib.hid ⟨hls.sh.step ((Below.refl _ _).drew), hls.w, hls.r.step ((Below.refl _ _).drew), hls.tb, hls.ln, hls.il⟩
          have t1 : (j < 17) = True := eq_true (by omega)
          have t2 : ((j : Int) < 17) = True := eq_true (by omega)
          have t0 : ((0 : Int) ≤ (j : Int)) = True := eq_true (by omega)
          have wj : IntKind.i64.wrap ((j : Int) + 1) = (j : Int) + 1 := IntWalk.i64_in _ (by omega)
          have d1 : decide ((j : Int) ≤ 16) = true := decide_eq_true (by omega)
          have d2 : decide (j ≤ 16) = true := decide_eq_true hlj
          have HLJ := Lib.hid (show 1 ≤ j ∧ j ≤ 16 from ⟨hj1, hlj⟩)
          clear hls hv hS hlj hj hj1
          go_upto_region 44 with fail
          refine wp_region_held_drew (S := fun Y => Y.cell? ⟨tb, j, none⟩ = some (.int .i64 (s1.tok j)) ∧ tb < Y.heap.size) (by kernel_rfl) HSS.out (fun hHeld => ?_)
          ((refine wpAnyH_take (i := 0) (v := ?_) (by (simp only [List.getElem?_toArray, List.getElem?_cons_succ, List.getElem?_cons_zero]); rfl) (by kernel_rfl) (by kernel_rfl) (by kernel_rfl) (by exact fun _ _ _ h => h) (Or.inl ⟨by rfl, ?_⟩) (by assumption) ?_); rotate_left; focus (intro wS hSw; (try dsimp only at hSw); go_simp; first | done | with_reducible rfl); try simp only [Act.put, List.setIfInBounds_toArray, List.set_cons_zero, List.set_cons_succ])
          ((refine wpAnyH_take (i := 1) (v := ?_) (by (simp only [List.getElem?_toArray, List.getElem?_cons_succ, List.getElem?_cons_zero]); rfl) (by kernel_rfl) (by kernel_rfl) (by kernel_rfl) (by exact fun _ _ _ h => h) (Or.inl ⟨by rfl, ?_⟩) (by assumption) ?_); rotate_left; focus (intro wS hSw; (try dsimp only at hSw); go_simp; first | done | with_reducible rfl); try simp only [Act.put, List.setIfInBounds_toArray, List.set_cons_zero, List.set_cons_succ])
          ((refine wpAnyH_take (i := 3) (v := ?_) (by (simp only [List.getElem?_toArray, List.getElem?_cons_succ, List.getElem?_cons_zero]); rfl) (by kernel_rfl) (by kernel_rfl) (by kernel_rfl) (by exact fun _ _ _ h => h) (Or.inl ⟨by rfl, ?_⟩) (by assumption) ?_); rotate_left; focus (intro wS hSw; (try dsimp only at hSw); go_simp; first | done | with_reducible rfl); try simp only [Act.put, List.setIfInBounds_toArray, List.set_cons_zero, List.set_cons_succ])
          ((refine wpAnyH_take (i := 4) (v := ?_) (by (simp only [List.getElem?_toArray, List.getElem?_cons_succ, List.getElem?_cons_zero]); rfl) (by kernel_rfl) (by kernel_rfl) (by kernel_rfl) (by exact fun _ _ _ h => h) (Or.inl ⟨by rfl, ?_⟩) (by assumption) ?_); rotate_left; focus (intro wS hSw; (try dsimp only at hSw); go_simp; first | done | with_reducible rfl); try simp only [Act.put, List.setIfInBounds_toArray, List.set_cons_zero, List.set_cons_succ])
          ((refine wpAnyH_take (i := 5) (v := ?_) (by (simp only [List.getElem?_toArray, List.getElem?_cons_succ, List.getElem?_cons_zero]); rfl) (by kernel_rfl) (by kernel_rfl) (by kernel_rfl) (by exact fun _ _ _ h => h) (Or.inl ⟨by rfl, ?_⟩) (by assumption) ?_); rotate_left; focus (intro wS hSw; (try dsimp only at hSw); go_simp; first | done | with_reducible rfl); try simp only [Act.put, List.setIfInBounds_toArray, List.set_cons_zero, List.set_cons_succ])
          refine wpAnyH_ready (rs := [2]) (by kernel_rfl) (by simp) ?_
          refine AllReadyH.cons (by (simp only [List.getElem?_toArray, List.getElem?_cons_succ, List.getElem?_cons_zero]); rfl) (fun K hK => ?_) AllReadyH.nil
          go_simp
          go_fit TK.out
          rintro e W5 ⟨rfl, rfl⟩
          go_wp2_with fail
          refine hK.out _ _ HSS.out (fun hHeld => ?_)
          clear hK K
          try simp only [Act.put, List.setIfInBounds_toArray, List.set_cons_zero, List.set_cons_succ]
          ((refine wpAnyH_take (i := 6) (v := ?_) (by (simp only [List.getElem?_toArray, List.getElem?_cons_succ, List.getElem?_cons_zero]); rfl) (by kernel_rfl) (by kernel_rfl) (by kernel_rfl) (by exact fun _ _ _ h => h) (Or.inl ⟨by rfl, ?_⟩) (by assumption) ?_); rotate_left; focus (intro wS hSw; (try dsimp only at hSw); go_simp; first | done | with_reducible rfl); try simp only [Act.put, List.setIfInBounds_toArray, List.set_cons_zero, List.set_cons_succ])
          refine wpAnyH_done (by kernel_rfl) ?_ _
          try simp only [Act.put, List.setIfInBounds_toArray, List.set_cons_zero, List.set_cons_succ]
          have dd : (s1.tok j != s1.tok j) = false := by simp
          go_wp2_with fail
          go_roundw
          case rel => exact ⟨j + 1, by omega, by have := HLJ.out; omega, by go_num, HL5.out⟩
          case measure => (have h8 := HLJ.out; first | (simp [intOf]; done) | (simp [intOf]; omega))
end Go.Proofs.Ytoodmocapagapaa
