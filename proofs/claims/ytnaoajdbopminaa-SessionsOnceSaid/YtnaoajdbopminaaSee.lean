/-
  The law SessionsOnce, walked.
-/
import Derived.Test.YtnaoajdbopminaaSed
namespace Go.Proofs.Ytnaoajdbopminaa
open Go.RowKit
set_option linter.unusedSimpArgs false
set_option linter.unusedVariables false

theorem zero_i (w : World) : (zeroValue 3).run Try.prog w = .ok (.int .i64 0) w := by
  have h : (Try.prog.info? 3).map (fun i => i.zero) = some (some (.int .i64 0)) := by kernel_rfl
  unfold zeroValue
  obtain ⟨i, hi, hz⟩ : ∃ i, Try.prog.info? 3 = some i ∧ i.zero = some (.int .i64 0) := by
    cases hi : Try.prog.info? 3 with
    | none => rw [hi] at h; cases h
    | some i => rw [hi] at h; exact ⟨i, rfl, by simpa using h⟩
  simp [typeInfo, hi, hz]

def encI : Int → Value := fun x => .int .i64 x
def encPr : Int × Int → Value := fun p => .agg #[.int .i64 p.1, .int .i64 p.2]

/-- what the law's loop keeps -/
structure OnceI (w : World) (D1 D2 : Nat) (a : Option Addr) (n cap b o : Nat) (S : Nat → SeE) (D : Int × Int → Option Int) (Lm : Int → Option Int) (W : World) : Prop where
  s : SeIn W a n cap b o S
  ck : chkS S n = true
  ne : 0 < n → b ≠ D1 ∧ b ≠ D2
  m1 : MapO W D1 encPr (fun p => (D p).map encI)
  m2 : MapO W D2 encI (fun c => (Lm c).map encI)
  nd : D1 ≠ D2
  i1 : ∀ c, (Lm c).getD 0 = (ofE S c n).number
  i2 : ∀ c k u, D (c, k) = some u → k ≤ (ofE S c n).number ∧ (k = (ofE S c n).number → u = (ofE S c n).size)
  i3 : ∀ c, 1 ≤ (ofE S c n).number → D (c, (ofE S c n).number) = some (ofE S c n).size
  lo : w.heap.size ≤ D1 ∧ w.heap.size ≤ D2
  bl : Below w.heap.size w W
theorem OnceI.step {w W W' : World} {D1 D2 : Nat} {a : Option Addr} {n cap b o : Nat} {S : Nat → SeE} {D : Int × Int → Option Int} {Lm : Int → Option Int} (h : OnceI w D1 D2 a n cap b o S D Lm W) (hB : Below W.heap.size W W') : OnceI w D1 D2 a n cap b o S D Lm W' :=
  ⟨h.s.below hB, h.ck, h.ne, h.m1.step hB, h.m2.step hB, h.nd, h.i1, h.i2, h.i3, h.lo, h.bl.trans (hB.mono h.bl.size)⟩

/-- behind a call that is new -/
theorem OnceI.put {w W W3 W4 W5 : World} {D1 D2 : Nat} {a a' : Option Addr} {n cap b o cap' b' : Nat} {S : Nat → SeE} {D : Int × Int → Option Int} {Lm : Int → Option Int} {x : SeE} (h : OnceI w D1 D2 a n cap b o S D Lm W)
    (h1 : 1 ≤ x.client) (h2 : x.client ≤ 16) (h3 : 1 ≤ x.number) (hnew : (ofE S x.client n).number < x.number)
    (hB3 : Below W.heap.size W W3) (hs : SeIn W3 a' (mK S n x.client) cap' b' 0 (TK S n x.client x)) (hb' : b' ≠ D1 ∧ b' ≠ D2)
    (hm4 : MapO W4 D1 encPr (fun y => if y = (x.client, x.number) then some (encI x.size) else (D y).map encI)) (hF4 : Fr [D1] W3 W4)
    (hm5 : MapO W5 D2 encI (fun y => if y = x.client then some (encI x.number) else (Lm y).map encI)) (hF5 : Fr [D2] W4 W5) :
    OnceI w D1 D2 a' (mK S n x.client) cap' b' 0 (TK S n x.client x) (fun y => if y = (x.client, x.number) then some x.size else D y) (fun y => if y = x.client then some x.number else Lm y) W5 := by
  have hl := hs.at_ (by unfold mK; omega)
  have hD1 := h.m1.lt
  have hD2 := h.m2.lt
  have s3 := hB3.size
  have s4 := hF4.size
  have s5 := hF5.size
  refine ⟨?_, tk_chk h.ck h1 h2 h3, fun _ => hb', ?_, ?_, h.nd, fun c => ?_, fun c k u hu => ?_, fun c hc => ?_, h.lo, ?_⟩
  · have hcong : W5.heap[b']? = W3.heap[b']? := (hF5.block b' (by omega) (by simp [hb'.2])).trans (hF4.block b' hl.2 (by simp [hb'.1]))
    refine ⟨hs.le, hs.max, fun hk => ⟨(hs.at_ hk).1, by omega⟩, fun k hk => ?_, hs.bd⟩
    obtain ⟨c0, c1, c2, c3, c4, c5, c6⟩ := hs.cell k hk
    have hc : ∀ j, W5.cell? ⟨b', j, none⟩ = W3.cell? ⟨b', j, none⟩ := fun j => World.cell?_of_block (a := ⟨b', j, none⟩) hcong
    exact ⟨(hc _).trans c0, (hc _).trans c1, (hc _).trans c2, (hc _).trans c3, (hc _).trans c4, (hc _).trans c5, (hc _).trans c6⟩
  · exact (hm4.congr (hF5.block D1 (by omega) (by simp [h.nd]))).fun_eq (fun y => by by_cases hy : y = (x.client, x.number) <;> simp [hy])
  · exact hm5.fun_eq (fun y => by by_cases hy : y = x.client <;> simp [hy])
  · by_cases hc : c = x.client
    · subst hc
      rw [tk_own h.ck h1 h2 h3]
      simp
    · rw [tk_other h.ck h1 h2 h3 hc]
      simp [hc, h.i1]
  · by_cases hc : c = x.client
    · subst hc
      rw [tk_own h.ck h1 h2 h3]
      by_cases hk : k = x.number
      · subst hk; simp at hu; exact ⟨Int.le_refl _, fun _ => hu.symm⟩
      · simp [hk] at hu
        have := h.i2 _ _ _ hu
        exact ⟨by omega, fun e => absurd e hk⟩
    · rw [tk_other h.ck h1 h2 h3 hc]
      simp [hc] at hu
      exact h.i2 _ _ _ hu
  · by_cases hc' : c = x.client
    · subst hc'
      rw [tk_own h.ck h1 h2 h3]
      simp
    · rw [tk_other h.ck h1 h2 h3 hc'] at hc ⊢
      simp [hc', h.i3 c hc]
  · exact ((h.bl.trans (hB3.mono h.bl.size)).trans (hF4.below (by have := h.bl.size; omega) (by simp; exact h.lo.1))).trans (hF5.below (by have := h.bl.size; omega) (by simp; exact h.lo.2))

theorem keep_good2 (x : SeE) (a : Option Addr) (n cap b o : Nat) (S : Nat → SeE) (w : World) (hs : SeIn w a n cap b o S) (hn : n ≤ 200) (h0 : keepE S n x.client x.number = 0) (hx : x.ok) :
    Calls Try.prog 55 #[.slice a n cap, .int .i64 x.client, .int .i64 x.number, .agg #[.int .i64 x.e, .int .i64 x.rate, .int .i64 x.burst, .int .i64 x.lease, .int .i64 x.size]] w fun e w' => ∃ a' cap' b', e = .returned (.tuple #[.slice a' (mK S n x.client) cap', .int .i64 0]) ∧ SeIn w' a' (mK S n x.client) cap' b' 0 (TK S n x.client x) ∧ w.heap.size ≤ b' ∧ Below w.heap.size w w' := by
  refine (keep_any x a n cap b o S w hs hn).mono ?_
  rintro e w' ⟨v, rfl, hk, hB⟩
  obtain ⟨a', c', b', rfl, h1, h2⟩ := keepP_in hk h0 hs.bd hx
  rw [h0]
  exact ⟨a', c', b', rfl, h1, h2, hB⟩

set_option maxRecDepth 100000 in
set_option maxHeartbeats 16000000 in
theorem sessionsOnce_in (a a' : Option Addr) (n c b o n' c' b' o' : Nat) (T U : Nat → Int) (w : World) (hs : IntsIn w a n c b o T) (hs' : IntsIn w a' n' c' b' o' U) (hn : n ≤ 200) (hnn : n ≤ n') :
    Calls Try.prog 12 #[.slice a n c, .slice a' n' c'] w fun e w' => e = .returned (.bool true) ∧ Below w.heap.size w w' := by
  have m1 := hs.le
  have m2 := hs.max
  have m3 := hs'.le
  have m4 := hs'.max
  unfold maxLen at m2 m4
  have HS := Lib.hid hs
  have HS' := Lib.hid hs'
  obtain ⟨D1, hD1⟩ : ∃ D1, D1 = w.heap.size := ⟨_, rfl⟩
  have HD1 := Lib.hid hD1
  have hmm := @run_makeMap Try.prog
  obtain ⟨W1, hW1⟩ : ∃ W1, W1 = (w.alloc (.map #[] 0)).alloc (.map #[] 0) := ⟨_, rfl⟩
  have hI0 : OnceI w D1 (D1 + 1) none 0 0 0 0 wS0 (fun _ => none) (fun _ => none) W1 := by
    refine ⟨se_none _ _, rfl, fun h => by omega, ?_, ?_, by omega, fun c => rfl, fun c k u hu => (by cases hu), fun c hc => (by have h9 : (ofE wS0 c 0).number = 0 := rfl; omega), ⟨by omega, by omega⟩, ?_⟩
    · rw [hW1, hD1]
      exact (MapO.new (κ := Int × Int) (enc := encPr) w).step ((Below.refl _ _).alloc (Nat.le_refl _) _)
    · rw [hW1, hD1]
      have := MapO.new (κ := Int) (enc := encI) (w.alloc (.map #[] 0))
      rw [World.size_alloc] at this
      exact this
    · rw [hW1]; exact ((Below.refl _ _).alloc (Nat.le_refl _) _).alloc (by simp) _
  have HI0 := Lib.hid hI0
  have hd1 : decide ((200 : Int) < (n : Int)) = false := by simp; omega
  have hd2 : decide (n' < n) = false := by simp; omega
  clear hs hs' hI0
  go_enter Try.func12, Try.ntmps12
  go_wp2_with fail
  rw [← hD1, ← hW1]
  clear hD1 hW1 hmm
  go_loopw [5, 33] (fun v i wr => ∃ (k : Nat) (la : Option Addr) (ln lc lb lo : Nat) (S : Nat → SeE) (D : Int × Int → Option Int) (Lm : Int → Option Int), k ≤ n ∧ i = .int .i64 k ∧ v = .slice la ln lc ∧ OnceI w D1 (D1 + 1) la ln lc lb lo S D Lm wr) (fun _ i _ => n - (intOf i).toNat)
  case atStart => exact ⟨0, _, _, _, _, _, _, _, _, Nat.zero_le _, rfl, rfl, HI0.out⟩
  case round =>
    obtain ⟨k, la, ln, lc, lb, lo, S, D, Lm, hk, rfl, rfl, hI⟩ := hrel
    have HI := Lib.hid hI
    by_cases hlt : k < n
    · obtain ⟨e0, e1⟩ := (HS.out.below HI.out.bl).at_ (by omega)
      obtain ⟨f0, f1⟩ := (HS'.out.below HI.out.bl).at_ (by omega)
      have t0 := (HS.out.below HI.out.bl).cell k hlt
      have u0 := (HS'.out.below HI.out.bl).cell k (by omega)
      subst e0 f0
      obtain ⟨t, ht⟩ : ∃ t, t = T k := ⟨_, rfl⟩
      obtain ⟨u, hu⟩ : ∃ u, u = U k := ⟨_, rfl⟩
      rw [← ht] at t0
      rw [← hu] at u0
      have hz := and_low t 3 (by omega)
      have hy := and_low u 7 (by omega)
      obtain ⟨z, hze⟩ : ∃ z, bits .and .i64 t 3 = z := ⟨_, rfl⟩
      obtain ⟨y0, hye⟩ : ∃ y0, bits .and .i64 u 7 = y0 := ⟨_, rfl⟩
      have hz : 0 ≤ z ∧ z ≤ 3 := by rw [← hze]; exact hz
      have hy : 0 ≤ y0 ∧ y0 ≤ 7 := by rw [← hye]; exact hy
      obtain ⟨c9, hc9⟩ : ∃ c9, c9 = 1 + z := ⟨_, rfl⟩
      obtain ⟨num, hnum⟩ : ∃ num, num = 1 + y0 := ⟨_, rfl⟩
      have hw1 : IntKind.i64.wrap (1 + z) = c9 := by rw [IntKind.wrap_i64]; omega
      have hw2 : IntKind.i64.wrap (1 + y0) = num := by rw [IntKind.wrap_i64]; omega
      have hcb : 1 ≤ c9 ∧ c9 ≤ 4 := by omega
      have hnb : 1 ≤ num ∧ num ≤ 8 := by omega
      have HCB := Lib.hid hcb
      have HNB := Lib.hid hnb
      clear hI ht hu hz hy hc9 hnum hcb hnb
      go_wp2_with fail
      (refine wp_region_quiet_lit (by kernel_rfl) (by kernel_rfl) ?_; (repeat (first | go_big_quiet_step (fail) | (refine BigFrame.wpQuiet_skip (by rfl) ?_; try simp only [Act.put, List.setIfInBounds_toArray, List.set_cons_zero, List.set_cons_succ]))); refine wpQuiet_nil ?_; intro _ hw9; obtain ⟨nq, hw8⟩ := hw9; subst hw8)
      obtain ⟨WA, hWA⟩ : ∃ WA, WA = wr.drewN nq := ⟨_, rfl⟩
      have HIA : Hid (OnceI w D1 (D1 + 1) la ln lc lb lo S D Lm WA) := Lib.hid (by rw [hWA]; exact HI.out.step (below_dN (Below.refl _ _) _))
      rw [← hWA]
      clear hWA t0 u0 e1 f1 hze hye hw1 hw2
      have hmay : mayB S ln c9 num = true := by unfold mayB; rw [HI.out.ck]; have := HCB.out; have := HNB.out; simp; omega
      obtain ⟨y, hy⟩ : ∃ y, y = ofE S c9 ln := ⟨_, rfl⟩
      have HY := Lib.hid hy
      have HAX : Hid (askX S ln c9 num = if num < y.number then (zeroE, false, 150) else if num = y.number then (y, false, 0) else (zeroE, true, 0)) := Lib.hid (by unfold askX; rw [hmay, ← hy]; rfl)
      have HA := Lib.hid (ask_any c9 num la ln lc lb lo S WA HIA.out.s)
      clear hmay hy
      go_wp2_with fail
      go_at_call 49
      refine Calls.mono HA.out ?_
      rintro e W2 ⟨rfl, hB2⟩
      have HI2 := Lib.hid (HIA.out.step hB2)
      clear hB2
      by_cases h1 : num < y.number
      · rw [HAX.out, if_pos h1]
        unfold askV SeE.ans zeroE
        simp only
        obtain ⟨M, hM⟩ : ∃ M, M = W2.heap.size := ⟨_, rfl⟩
        obtain ⟨W3, hW3⟩ : ∃ W3, W3 = W2.alloc (.cells #[.int .i64 (0), .int .i64 (0), .int .i64 (0), .int .i64 (0), .int .i64 (0)] 73) := ⟨_, rfl⟩
        have hB3 : Below W2.heap.size W2 W3 := by rw [hW3]; exact (Below.refl _ _).alloc (Nat.le_refl _) _
        have hm3 : Blk W3 M #[.int .i64 (0), .int .i64 (0), .int .i64 (0), .int .i64 (0), .int .i64 (0)] 73 := by rw [hW3, hM]; exact blk_new _ _ _
        have HI3 := Lib.hid (HI2.out.step hB3)
        have p4 : W3.cell? ⟨M, 4, none⟩ = some (.int .i64 (0)) := cell_at hm3 4
        have lp := hm3.lt
        have hl2 : (Instr.lookup 84 (.map (some (D1 + 1))) (.int .i64 c9) false).run Try.prog W3 = .ok (.int .i64 y.number) W3 := by
          have h9 := HI3.out.m2.look (key_int Try.underlying3) Try.underlying84 (zero_i W3) c9
          have h8 := HI3.out.i1 c9
          rw [← HY.out] at h8
          cases hlm : Lm c9 with
          | none => rw [hlm] at h8 h9; simp at h8; rw [← h8]; exact h9
          | some v => rw [hlm] at h8 h9; simp at h8; rw [← h8]; exact h9
        go_upto_region 11 with fail
        rw [← hW3, ← hM]
        clear hW3 hM hB3 hm3
        go_wp2_with fail
        go_roundw
        case rel => exact ⟨k + 1, la, ln, lc, lb, lo, S, D, Lm, by omega, by go_num, rfl, HI3.out⟩
        case measure => first | (simp [intOf]; done) | (simp [intOf]; omega)
      · cases h2 : num == y.number
        · have h3 : ¬ num = y.number := by simpa using h2
          rw [HAX.out, if_neg h1, if_neg h3]
          unfold askV SeE.ans zeroE
          try simp only
          have hnone : D (c9, num) = none := by
            cases hd : D (c9, num) with
            | none => rfl
            | some v => have := (HI2.out.i2 _ _ _ hd).1; rw [← HY.out] at this; omega
          have HNO := Lib.hid hnone
          obtain ⟨M, hM⟩ : ∃ M, M = W2.heap.size := ⟨_, rfl⟩
          obtain ⟨W3, hW3⟩ : ∃ W3, W3 = W2.alloc (.cells #[.int .i64 (0), .int .i64 (0), .int .i64 (0), .int .i64 (0), .int .i64 (0)] 73) := ⟨_, rfl⟩
          have hB3 : Below W2.heap.size W2 W3 := by rw [hW3]; exact (Below.refl _ _).alloc (Nat.le_refl _) _
          have hm3 : Blk W3 M #[.int .i64 (0), .int .i64 (0), .int .i64 (0), .int .i64 (0), .int .i64 (0)] 73 := by rw [hW3, hM]; exact blk_new _ _ _
          have HI3 := Lib.hid (HI2.out.step hB3)
          have p4 : W3.cell? ⟨M, 4, none⟩ = some (.int .i64 (0)) := cell_at hm3 4
          have lp := hm3.lt
          have hl2 : (Instr.lookup 84 (.map (some (D1 + 1))) (.int .i64 c9) false).run Try.prog W3 = .ok (.int .i64 y.number) W3 := by
            have h9 := HI3.out.m2.look (key_int Try.underlying3) Try.underlying84 (zero_i W3) c9
            have h8 := HI3.out.i1 c9
            rw [← HY.out] at h8
            cases hlm : Lm c9 with
            | none => rw [hlm] at h8 h9; simp at h8; rw [← h8]; exact h9
            | some v => rw [hlm] at h8 h9; simp at h8; rw [← h8]; exact h9
          go_upto_region 11 with fail
          rw [← hW3, ← hM]
          clear hW3 hM hB3 hm3
          have hl1 : (Instr.lookup 83 (.map (some D1)) (.agg #[.int .i64 c9, .int .i64 num]) true).run Try.prog W3 = .ok (.tuple #[.int .i64 0, .bool false]) W3 := by
            have h9 := HI3.out.m1.look_ok key_pair Try.underlying83 (zero_i W3) (c9, num)
            rw [HNO.out] at h9
            exact h9
          have hw3 : IntKind.i64.wrap ((k : Int) + 1) = (k : Int) + 1 := by rw [IntKind.wrap_i64]; omega
          have hke : keepE S ln c9 num = 0 := by
            unfold keepE
            have : mayB S ln c9 num = true := by unfold mayB; rw [HI.out.ck]; have := HCB.out; have := HNB.out; simp; omega
            rw [this, ← HY.out, if_pos rfl, if_neg (by omega)]
          have HKG := Lib.hid (keep_good2 ⟨c9, num, 0, 0, 0, 0, (k : Int) + 1⟩ la ln lc lb lo S W3 HI3.out.s (by have := chkS_n HI.out.ck; omega) hke (by unfold SeE.ok; simp only; have := HCB.out; have := HNB.out; omega))
          obtain ⟨m9, hm9⟩ : ∃ m9, m9 = mK S ln c9 := ⟨_, rfl⟩
          have HM9 := Lib.hid hm9
          try simp only at HKG
          rw [← hm9] at HKG
          have HH1 := Lib.hid h1
          have HH3 := Lib.hid h3
          clear hnone hke h3 hm9
          go_wp2_with fail
          go_at_call 55
          refine Calls.mono HKG.out ?_
          rintro e W4 ⟨a4, c4, b4, rfl, hs4, hb4, hB4⟩
          have hs4 : SeIn W4 a4 (mK S ln c9) c4 b4 0 (TK S ln c9 ⟨c9, num, 0, 0, 0, 0, (k : Int) + 1⟩) := by rw [← HM9.out]; exact hs4
          have HS4 := Lib.hid hs4
          have HB4 := Lib.hid hB4
          have hfr : b4 ≠ D1 ∧ b4 ≠ D1 + 1 := by have := HI3.out.m1.lt; have := HI3.out.m2.lt; omega
          have HFR := Lib.hid hfr
          have hck := tk_chk (x := ⟨c9, num, 0, 0, 0, 0, (k : Int) + 1⟩) HI.out.ck HCB.out.1 (by have := HCB.out.2; simp only; omega) HNB.out.1
          try simp only at hck
          have HCA := Lib.hid (check_any _ _ _ _ _ _ W4 hs4)
          rw [hck, ← HM9.out] at HCA
          clear hs4 hb4 hB4 hfr hck HKG
          go_wp2_with fail
          go_at_call 51
          refine Calls.mono HCA.out ?_
          rintro e W5 ⟨rfl, hB5⟩
          have hB35 : Below W3.heap.size W3 W5 := HB4.out.trans (hB5.mono HB4.out.size)
          obtain ⟨W6, hup6, hm6, hF6, hz6⟩ := (HI3.out.m1.step hB35).put key_pair Try.underlying83 (c9, num) (encI ((k : Int) + 1))
          obtain ⟨W7, hup7, hm7, hF7, hz7⟩ := ((HI3.out.m2.step hB35).congr (hF6.block (D1 + 1) (by have := HI3.out.m2.lt; have := hB35.size; omega) (by simp))).put (key_int Try.underlying3) Try.underlying84 c9 (encI num)
          have HI7 := Lib.hid (OnceI.put (x := ⟨c9, num, 0, 0, 0, 0, (k : Int) + 1⟩) HI3.out HCB.out.1 (by have := HCB.out.2; simp only; omega) HNB.out.1 (by simp only; rw [← HY.out]; have := HH1.out; have := HH3.out; omega) hB35 (HS4.out.below hB5) HFR.out hm6 hF6 hm7 hF7)
          simp only at HI7
          rw [← HM9.out] at HI7
          have hq6 : (Instr.mapUpdate 83 (.map (some D1)) (.agg #[.int .i64 c9, .int .i64 num]) (.int .i64 ((k : Int) + 1))).run Try.prog W5 = .ok () W6 := hup6
          have hq7 : (Instr.mapUpdate 84 (.map (some (D1 + 1))) (.int .i64 c9) (.int .i64 num)).run Try.prog W6 = .ok () W7 := hup7
          clear hup6 hup7
          clear hB5 hB35 hm6 hF6 hz6 hm7 hF7 hz7
          go_wp2_with fail
          go_roundw
          case rel => exact ⟨k + 1, a4, _, c4, b4, 0, _, _, _, by omega, by go_num, rfl, HI7.out⟩
          case measure => first | (simp [intOf]; done) | (simp [intOf]; omega)
        · have h3 : num = y.number := by simpa using h2
          rw [HAX.out, if_neg h1, if_pos h3]
          unfold askV SeE.ans
          try simp only
          have hsome : D (c9, num) = some y.size := by
            have h9 := HI2.out.i3 c9 (by rw [← HY.out, ← h3]; exact HNB.out.1)
            rw [← HY.out, ← h3] at h9
            exact h9
          have HSO := Lib.hid hsome
          obtain ⟨M, hM⟩ : ∃ M, M = W2.heap.size := ⟨_, rfl⟩
          obtain ⟨W3, hW3⟩ : ∃ W3, W3 = W2.alloc (.cells #[.int .i64 (y.e), .int .i64 (y.rate), .int .i64 (y.burst), .int .i64 (y.lease), .int .i64 (y.size)] 73) := ⟨_, rfl⟩
          have hB3 : Below W2.heap.size W2 W3 := by rw [hW3]; exact (Below.refl _ _).alloc (Nat.le_refl _) _
          have hm3 : Blk W3 M #[.int .i64 (y.e), .int .i64 (y.rate), .int .i64 (y.burst), .int .i64 (y.lease), .int .i64 (y.size)] 73 := by rw [hW3, hM]; exact blk_new _ _ _
          have HI3 := Lib.hid (HI2.out.step hB3)
          have p4 : W3.cell? ⟨M, 4, none⟩ = some (.int .i64 (y.size)) := cell_at hm3 4
          have lp := hm3.lt
          have hl2 : (Instr.lookup 84 (.map (some (D1 + 1))) (.int .i64 c9) false).run Try.prog W3 = .ok (.int .i64 y.number) W3 := by
            have h9 := HI3.out.m2.look (key_int Try.underlying3) Try.underlying84 (zero_i W3) c9
            have h8 := HI3.out.i1 c9
            rw [← HY.out] at h8
            cases hlm : Lm c9 with
            | none => rw [hlm] at h8 h9; simp at h8; rw [← h8]; exact h9
            | some v => rw [hlm] at h8 h9; simp at h8; rw [← h8]; exact h9
          go_upto_region 11 with fail
          rw [← hW3, ← hM]
          clear hW3 hM hB3 hm3
          have hl1 : (Instr.lookup 83 (.map (some D1)) (.agg #[.int .i64 c9, .int .i64 num]) true).run Try.prog W3 = .ok (.tuple #[.int .i64 y.size, .bool true]) W3 := by
            have h9 := HI3.out.m1.look_ok key_pair Try.underlying83 (zero_i W3) (c9, num)
            rw [HSO.out] at h9
            exact h9
          clear hsome h3
          go_wp2_with fail
          go_roundw
          case rel => exact ⟨k + 1, la, ln, lc, lb, lo, S, D, Lm, by omega, by go_num, rfl, HI3.out⟩
          case measure => first | (simp [intOf]; done) | (simp [intOf]; omega)
    · obtain rfl : k = n := by omega
      clear hI
      go_wp2_with (go_at_call 48; refine (wakes_any _).mono ?_; rintro e WK ⟨rfl, hWK⟩)
      go_ret
      exact ⟨rfl, HI.out.bl.trans (hWK.mono HI.out.bl.size)⟩

set_option maxRecDepth 100000 in
set_option maxHeartbeats 4000000 in
theorem sessionsOnce_out (a a' : Option Addr) (n c n' c' : Nat) (w : World) (hc : n ≤ c ∧ c ≤ maxLen) (hc' : n' ≤ c' ∧ c' ≤ maxLen) (h : 200 < n ∨ n' < n) :
    Calls Try.prog 12 #[.slice a n c, .slice a' n' c'] w fun e w' => e = .returned (.bool true) ∧ Below w.heap.size w w' := by
  unfold maxLen at hc hc'
  by_cases h2 : 200 < n
  · have hd1 : decide ((200 : Int) < (n : Int)) = true := by simp; omega
    go_enter Try.func12, Try.ntmps12
    go_wp2_with (go_at_call 48; refine (wakes_any _).mono ?_; rintro e WK ⟨rfl, hWK⟩)
    go_ret
    exact ⟨rfl, hWK⟩
  · have hd1 : decide ((200 : Int) < (n : Int)) = false := by simp; omega
    have hd2 : decide (n' < n) = true := by simp; omega
    go_enter Try.func12, Try.ntmps12
    go_wp2_with (go_at_call 48; refine (wakes_any _).mono ?_; rintro e WK ⟨rfl, hWK⟩)
    go_ret
    exact ⟨rfl, hWK⟩

theorem sessionsOnce_dt (a a' : Option Addr) (n c n' c' : Nat) (xs xs' : List Dt) (w : World) (h : SliceFits Try.prog w 3 a n c xs) (h' : SliceFits Try.prog w 3 a' n' c' xs') :
    Calls Try.prog 12 #[.slice a n c, .slice a' n' c'] w fun e w' => e = .returned (.bool true) ∧ Below w.heap.size w w' := by
  obtain ⟨b, o, T, hT⟩ := ints_cells w h
  obtain ⟨b', o', U, hU⟩ := ints_cells w h'
  by_cases k : 200 < n ∨ n' < n
  · exact sessionsOnce_out a a' n c n' c' w ⟨hT.le, hT.max⟩ ⟨hU.le, hU.max⟩ k
  · exact sessionsOnce_in a a' n c b o n' c' b' o' T U w hT hU (by omega) (by omega)
end Go.Proofs.Ytnaoajdbopminaa
