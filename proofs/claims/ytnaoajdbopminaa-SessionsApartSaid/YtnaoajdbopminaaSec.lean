/-
  The law SessionsApart, walked.
-/
import Derived.Test.YtnaoajdbopminaaSeb
namespace Go.Proofs.Ytnaoajdbopminaa
open Go.RowKit
set_option linter.unusedSimpArgs false
set_option linter.unusedVariables false

section
variable {S : Nat → SeE} {n : Nat} {x : SeE}
theorem apart_ask (h : keepE S n x.client x.number = 0) {c num : Int} (hc : c ≠ x.client) : askX (TK S n x.client x) (mK S n x.client) c num = askX S n c num := by
  obtain ⟨h0, h1, h2, h3, h4⟩ := keepE_may h
  unfold askX mayB
  rw [tk_other h0 h1 h2 h3 hc, tk_chk h0 h1 h2 h3, h0]
theorem apart_last (h : keepE S n x.client x.number = 0) {c : Int} (hc : c ≠ x.client) : lastN (TK S n x.client x) c (mK S n x.client) = lastN S c n := by
  obtain ⟨h0, h1, h2, h3, h4⟩ := keepE_may h
  unfold lastN
  rw [tk_other h0 h1 h2 h3 hc, tk_chk h0 h1 h2 h3, h0]
theorem own_ask (h : keepE S n x.client x.number = 0) : askX (TK S n x.client x) (mK S n x.client) x.client x.number = (x, false, 0) := by
  obtain ⟨h0, h1, h2, h3, h4⟩ := keepE_may h
  unfold askX mayB
  rw [tk_own h0 h1 h2 h3, tk_chk h0 h1 h2 h3]
  simp [h1, h2, h3]
end

set_option maxRecDepth 100000 in
set_option maxHeartbeats 16000000 in
theorem sessionsApart_any (x : SeE) (oc num : Int) (a : Option Addr) (n cap b o : Nat) (S : Nat → SeE) (w : World) (hs : SeIn w a n cap b o S) (hx : x.ok) :
    Calls Try.prog 13 #[.slice a n cap, .int .i64 x.client, .int .i64 x.number, .agg #[.int .i64 x.e, .int .i64 x.rate, .int .i64 x.burst, .int .i64 x.lease, .int .i64 x.size], .int .i64 oc, .int .i64 num] w fun e w' => e = .returned (.bool true) ∧ Below w.heap.size w w' := by
  have m1 := hs.le
  have m2 := hs.max
  unfold maxLen at m2
  obtain ⟨N, hN⟩ : ∃ N, N = w.heap.size := ⟨_, rfl⟩
  obtain ⟨W1, hW1⟩ : ∃ W1, W1 = w.alloc (.cells #[.int .i64 x.e, .int .i64 x.rate, .int .i64 x.burst, .int .i64 x.lease, .int .i64 x.size] 73) := ⟨_, rfl⟩
  have hB1 : Below w.heap.size w W1 := by rw [hW1]; exact (Below.refl _ _).alloc (Nat.le_refl _) _
  have hb1 : Blk W1 N #[.int .i64 x.e, .int .i64 x.rate, .int .i64 x.burst, .int .i64 x.lease, .int .i64 x.size] 73 := by rw [hW1, hN]; exact blk_new _ _ _
  have HS := Lib.hid hs
  have HB1 := Lib.hid hB1
  have HK1 := Lib.hid hb1
  by_cases hbig : 60 < n
  · clear hb1 hs
    go_enter Try.func13, Try.ntmps13
    go_upto_region 1 with fail
    rw [← hW1]
    clear hW1
    go_wp2_with (go_at_call 48; refine (wakes_any _).mono ?_; rintro e WK ⟨rfl, hWK⟩)
    go_ret
    exact ⟨rfl, HB1.out.trans (hWK.mono HB1.out.size)⟩
  · cases hoc : oc == x.client
    · have a0 : W1.cell? ⟨N, 0, none⟩ = some (.int .i64 x.e) := cell_at hb1 0
      have a1 : W1.cell? ⟨N, 1, none⟩ = some (.int .i64 x.rate) := cell_at hb1 1
      have a2 : W1.cell? ⟨N, 2, none⟩ = some (.int .i64 x.burst) := cell_at hb1 2
      have a3 : W1.cell? ⟨N, 3, none⟩ = some (.int .i64 x.lease) := cell_at hb1 3
      have a4 : W1.cell? ⟨N, 4, none⟩ = some (.int .i64 x.size) := cell_at hb1 4
      have hl := hb1.lt
      have hne : oc ≠ x.client := by simpa using hoc
      have HNE := Lib.hid hne
      have K1 := Lib.hid (keep_any x a n cap b o S W1 (hs.below hB1) (by omega))
      have A1 := Lib.hid (fun W (h : Below w.heap.size w W) => ask_any oc num a n cap b o S W (hs.below h))
      have L1 := Lib.hid (fun W (h : Below w.heap.size w W) => last_any oc a n cap b o S W (hs.below h))
      obtain ⟨R, hR⟩ : ∃ R, R = keepE S n x.client x.number := ⟨_, rfl⟩
      rw [← hR] at K1
      have HR := Lib.hid hR
      have HX := Lib.hid hx
      clear hB1 hb1 hs hR hx hne
      go_enter Try.func13, Try.ntmps13
      go_upto_region 1 with fail
      rw [← hN, ← hW1]
      clear hN hW1
      go_wp2_with fail
      go_at_call 55
      refine Calls.mono K1.out ?_
      rintro e W2 ⟨v, rfl, hk, hB2⟩
      have HM2 := Lib.hid (HK1.out.step hB2)
      have HB2 := Lib.hid (HB1.out.trans (hB2.mono HB1.out.size))
      have HKA := Lib.hid hk
      clear hB2 hk a0 a1 a2 a3 a4 hl
      by_cases hr : R = 0
      · obtain ⟨av, cv, bv, rfl, hs2, _⟩ := keepP_in HKA.out (by rw [← HR.out]; exact hr) HS.out.bd HX.out
        have hk0 : keepE S n x.client x.number = 0 := by rw [← HR.out]; exact hr
        obtain ⟨m, hm⟩ : ∃ m, m = mK S n x.client := ⟨_, rfl⟩
        have A2 := Lib.hid (fun W (h : Below W2.heap.size W2 W) => ask_any oc num av _ cv bv 0 _ W (hs2.below h))
        have A3 := Lib.hid (fun W (h : Below W2.heap.size W2 W) => ask_any x.client x.number av _ cv bv 0 _ W (hs2.below h))
        have L2 := Lib.hid (fun W (h : Below W2.heap.size W2 W) => last_any oc av _ cv bv 0 _ W (hs2.below h))
        rw [apart_ask hk0 HNE.out, ← hm] at A2
        rw [own_ask hk0, ← hm] at A3
        rw [apart_last hk0 HNE.out, ← hm] at L2
        obtain ⟨q, hq⟩ : ∃ q, q = askX S n oc num := ⟨_, rfl⟩
        rw [← hq] at A1 A2
        obtain ⟨L, hL⟩ : ∃ L, L = lastN S oc n := ⟨_, rfl⟩
        rw [← hL] at L1 L2
        obtain ⟨y, f, r⟩ := q
        unfold askV SeE.ans at A1 A2 A3
        simp only at A1 A2 A3
        have hae := ans_eql y.e y.rate y.burst y.lease y.size
        have hax := ans_eql x.e x.rate x.burst x.lease x.size
        have hbe : ∀ (u : Bool) W, (binOp .eql 4 (.bool u) (.bool u)).run Try.prog W = .ok (.bool true) W := fun u W => by cases u <;> rfl
        rw [← hm]
        have HRR := Lib.hid hr
        clear hs2 hk0 hm hq hL hr
        have hr : R = 0 := HRR.out
        subst hr
        have HQ2 : Hid (Below W2.heap.size W2 W2) := Lib.hid (Below.refl _ _)
        go_wp2_with fail
        go_at_call 49
        refine Calls.mono (A1.out _ HB2.out) ?_
        rintro e W3 ⟨rfl, hBa⟩
        obtain ⟨M1, hM⟩ : ∃ M1, M1 = W3.heap.size := ⟨_, rfl⟩
        obtain ⟨W4, hWb⟩ : ∃ W4, W4 = W3.alloc (.cells #[.int .i64 y.e, .int .i64 y.rate, .int .i64 y.burst, .int .i64 y.lease, .int .i64 y.size] 73) := ⟨_, rfl⟩
        have hBb : Below W3.heap.size W3 W4 := by rw [hWb]; exact (Below.refl _ _).alloc (Nat.le_refl _) _
        have HBLKM1 : Hid (Blk W4 M1 #[.int .i64 y.e, .int .i64 y.rate, .int .i64 y.burst, .int .i64 y.lease, .int .i64 y.size] 73) := Lib.hid (by rw [hWb, hM]; exact blk_new _ _ _)
        have hBab : Below W2.heap.size W2 W4 := hBa.trans (hBb.mono hBa.size)
        have HB4 := Lib.hid (HB2.out.trans (hBab.mono HB2.out.size))
        have HQ4 : Hid (Below W2.heap.size W2 W4) := Lib.hid (HQ2.out.trans (hBab.mono HQ2.out.size))
        have HN4 := Lib.hid (HM2.out.step hBab)
        go_upto_region 7 with fail
        rw [← hWb, ← hM]
        clear hWb hM hBa hBb hBab
        go_wp2_with fail
        go_at_call 49
        refine Calls.mono (A2.out _ HQ4.out) ?_
        rintro e W5 ⟨rfl, hBa⟩
        obtain ⟨M2, hM⟩ : ∃ M2, M2 = W5.heap.size := ⟨_, rfl⟩
        obtain ⟨W6, hWb⟩ : ∃ W6, W6 = W5.alloc (.cells #[.int .i64 y.e, .int .i64 y.rate, .int .i64 y.burst, .int .i64 y.lease, .int .i64 y.size] 73) := ⟨_, rfl⟩
        have hBb : Below W5.heap.size W5 W6 := by rw [hWb]; exact (Below.refl _ _).alloc (Nat.le_refl _) _
        have HBLKM2 : Hid (Blk W6 M2 #[.int .i64 y.e, .int .i64 y.rate, .int .i64 y.burst, .int .i64 y.lease, .int .i64 y.size] 73) := Lib.hid (by rw [hWb, hM]; exact blk_new _ _ _)
        have hBab : Below W4.heap.size W4 W6 := hBa.trans (hBb.mono hBa.size)
        have HB6 := Lib.hid (HB4.out.trans (hBab.mono HB4.out.size))
        have HQ6 : Hid (Below W2.heap.size W2 W6) := Lib.hid (HQ4.out.trans (hBab.mono HQ4.out.size))
        have HN6 := Lib.hid (HN4.out.step hBab)
        have HA6 := Lib.hid (HBLKM1.out.step hBab)
        go_upto_region 8 with fail
        rw [← hWb, ← hM]
        clear hWb hM hBa hBb hBab
        go_wp2_with fail
        go_at_call 49
        refine Calls.mono (A3.out _ HQ6.out) ?_
        rintro e W7 ⟨rfl, hBa⟩
        obtain ⟨M3, hM⟩ : ∃ M3, M3 = W7.heap.size := ⟨_, rfl⟩
        obtain ⟨W8, hWb⟩ : ∃ W8, W8 = W7.alloc (.cells #[.int .i64 x.e, .int .i64 x.rate, .int .i64 x.burst, .int .i64 x.lease, .int .i64 x.size] 73) := ⟨_, rfl⟩
        have hBb : Below W7.heap.size W7 W8 := by rw [hWb]; exact (Below.refl _ _).alloc (Nat.le_refl _) _
        have HBLKM3 : Hid (Blk W8 M3 #[.int .i64 x.e, .int .i64 x.rate, .int .i64 x.burst, .int .i64 x.lease, .int .i64 x.size] 73) := Lib.hid (by rw [hWb, hM]; exact blk_new _ _ _)
        have hBab : Below W6.heap.size W6 W8 := hBa.trans (hBb.mono hBa.size)
        have HB8 := Lib.hid (HB6.out.trans (hBab.mono HB6.out.size))
        have HQ8 : Hid (Below W2.heap.size W2 W8) := Lib.hid (HQ6.out.trans (hBab.mono HQ6.out.size))
        have HN8 := Lib.hid (HN6.out.step hBab)
        have HA8 := Lib.hid (HA6.out.step hBab)
        have HB28 := Lib.hid (HBLKM2.out.step hBab)
        go_upto_region 9 with fail
        rw [← hWb, ← hM]
        clear hWb hM hBa hBb hBab
        have p0 : W8.cell? ⟨M1, 0, none⟩ = some (.int .i64 y.e) := cell_at HA8.out 0
        have p1 : W8.cell? ⟨M1, 1, none⟩ = some (.int .i64 y.rate) := cell_at HA8.out 1
        have p2 : W8.cell? ⟨M1, 2, none⟩ = some (.int .i64 y.burst) := cell_at HA8.out 2
        have p3 : W8.cell? ⟨M1, 3, none⟩ = some (.int .i64 y.lease) := cell_at HA8.out 3
        have p4 : W8.cell? ⟨M1, 4, none⟩ = some (.int .i64 y.size) := cell_at HA8.out 4
        have q0 : W8.cell? ⟨M2, 0, none⟩ = some (.int .i64 y.e) := cell_at HB28.out 0
        have q1 : W8.cell? ⟨M2, 1, none⟩ = some (.int .i64 y.rate) := cell_at HB28.out 1
        have q2 : W8.cell? ⟨M2, 2, none⟩ = some (.int .i64 y.burst) := cell_at HB28.out 2
        have q3 : W8.cell? ⟨M2, 3, none⟩ = some (.int .i64 y.lease) := cell_at HB28.out 3
        have q4 : W8.cell? ⟨M2, 4, none⟩ = some (.int .i64 y.size) := cell_at HB28.out 4
        have lp := HA8.out.lt
        have lq := HB28.out.lt
        go_wp2_with fail
        go_at_call 53
        refine Calls.mono (L1.out _ HB8.out) ?_
        rintro e W9 ⟨rfl, hB9⟩
        have HB9 := Lib.hid (HB8.out.trans (hB9.mono HB8.out.size))
        have HQ9 := Lib.hid (HQ8.out.trans (hB9.mono HQ8.out.size))
        have HN9 := Lib.hid (HN8.out.step hB9)
        have HX9 := Lib.hid (HBLKM3.out.step hB9)
        clear hB9
        go_wp2_with fail
        go_at_call 53
        refine Calls.mono (L2.out _ HQ9.out) ?_
        rintro e W10 ⟨rfl, hB10⟩
        have HB10 := Lib.hid (HB9.out.trans (hB10.mono HB9.out.size))
        have HN10 := Lib.hid (HN9.out.step hB10)
        have HX10 := Lib.hid (HX9.out.step hB10)
        clear hB10
        have u0 : W10.cell? ⟨N, 0, none⟩ = some (.int .i64 x.e) := cell_at HN10.out 0
        have u1 : W10.cell? ⟨N, 1, none⟩ = some (.int .i64 x.rate) := cell_at HN10.out 1
        have u2 : W10.cell? ⟨N, 2, none⟩ = some (.int .i64 x.burst) := cell_at HN10.out 2
        have u3 : W10.cell? ⟨N, 3, none⟩ = some (.int .i64 x.lease) := cell_at HN10.out 3
        have u4 : W10.cell? ⟨N, 4, none⟩ = some (.int .i64 x.size) := cell_at HN10.out 4
        have v0 : W10.cell? ⟨M3, 0, none⟩ = some (.int .i64 x.e) := cell_at HX10.out 0
        have v1 : W10.cell? ⟨M3, 1, none⟩ = some (.int .i64 x.rate) := cell_at HX10.out 1
        have v2 : W10.cell? ⟨M3, 2, none⟩ = some (.int .i64 x.burst) := cell_at HX10.out 2
        have v3 : W10.cell? ⟨M3, 3, none⟩ = some (.int .i64 x.lease) := cell_at HX10.out 3
        have v4 : W10.cell? ⟨M3, 4, none⟩ = some (.int .i64 x.size) := cell_at HX10.out 4
        have lu := HN10.out.lt
        have lv := HX10.out.lt
        go_wp2_with (go_at_call 48; refine (wakes_any _).mono ?_; rintro e WK ⟨rfl, hWK⟩)
        go_ret
        exact ⟨rfl, HB10.out.trans (hWK.mono HB10.out.size)⟩
      · have hr2 : (R == 0) = false := by simpa using hr
        go_wp2_with (go_at_call 48; refine (wakes_any _).mono ?_; rintro e WK ⟨rfl, hWK⟩)
        go_ret
        exact ⟨rfl, HB2.out.trans (hWK.mono HB2.out.size)⟩
    · clear hb1 hs
      go_enter Try.func13, Try.ntmps13
      go_upto_region 1 with fail
      rw [← hW1]
      clear hW1
      go_wp2_with (go_at_call 48; refine (wakes_any _).mono ?_; rintro e WK ⟨rfl, hWK⟩)
      go_ret
      exact ⟨rfl, HB1.out.trans (hWK.mono HB1.out.size)⟩

theorem sessionsApart_dt (c num oc onum : Int) (hc : -9223372036854775808 ≤ c ∧ c ≤ 9223372036854775807) (hn : -9223372036854775808 ≤ num ∧ num ≤ 9223372036854775807) (a : Option Addr) (n cap : Nat) (xs : List Dt) (x : Dt) (w : World) (h : SliceFits Try.prog w 113 a n cap xs) (hx : Fits Try.prog w 73 x) :
    Calls Try.prog 13 #[.slice a n cap, .int .i64 c, .int .i64 num, .agg x.cells.toArray, .int .i64 oc, .int .i64 onum] w fun e w' => e = .returned (.bool true) ∧ Below w.heap.size w w' := by
  obtain ⟨b, o, S, hS⟩ := se_cells w h
  obtain ⟨v0, v1, v2, v3, v4, e, g0, g1, g2, g3, g4⟩ := ans_inv hx
  rw [e]
  exact sessionsApart_any ⟨c, num, v0, v1, v2, v3, v4⟩ oc onum a n cap b o S w hS ⟨hc, hn, g0, g1, g2, g3, g4⟩
end Go.Proofs.Ytnaoajdbopminaa
