/-
  Last and Ask, on both sides.
-/
import Derived.Test.YtnaoajdbopminaaSe2
namespace Go.Proofs.Ytnaoajdbopminaa
open Go.RowKit
set_option linter.unusedSimpArgs false
set_option linter.unusedVariables false

def findI (S : Nat → SeE) (c : Int) (n : Nat) : Int := match findS S c n with
  | some j => (j : Int)
  | none => -1
theorem findS_succ_hit {S : Nat → SeE} {c : Int} {k n : Nat} (hk : k < n) (h0 : findS S c k = none) (h1 : (S k).client = c) : findS S c n = some k := by
  induction n with
  | zero => omega
  | succ n ih =>
    by_cases hkn : k = n
    · subst hkn; simp [findS, h0, h1]
    · simp [findS, ih (by omega)]

set_option maxRecDepth 100000 in
set_option maxHeartbeats 4000000 in
theorem rfind_any (c : Int) (a : Option Addr) (n cap b o : Nat) (S : Nat → SeE) (w : World) (hs : SeIn w a n cap b o S) :
    Calls Try.prog 81 #[.slice a n cap, .int .i64 c] w fun e w' => e = .returned (.int .i64 (findI S c n)) ∧ w = w' := by
  have m1 := hs.le
  have m2 := hs.max
  unfold maxLen at m2
  have HS := Lib.hid hs
  obtain ⟨C, hC⟩ : ∃ C, C = findI S c n := ⟨_, rfl⟩
  rw [← hC]
  have HC := Lib.hid hC
  clear hs hC
  go_enter Try.func81, Try.ntmps81
  go_wp2_with fail
  go_loopw [5] (fun i wr => ∃ k : Nat, k ≤ n ∧ i = .int .i64 k ∧ findS S c k = none ∧ w = wr) (fun i _ => n - (intOf i).toNat)
  case atStart => exact ⟨0, Nat.zero_le _, rfl, rfl, by first | rfl | trivial⟩
  case round =>
    obtain ⟨k, hk, rfl, hc, rfl⟩ := hrel
    have HCK := Lib.hid hc
    clear hc
    by_cases hlt : k < n
    · obtain ⟨e0, e1⟩ := HS.out.at_ (by omega)
      subst e0
      obtain ⟨c0, _⟩ := HS.out.cell k hlt
      obtain ⟨x, hx⟩ : ∃ x, x = (S k).client := ⟨_, rfl⟩
      rw [← hx] at c0
      have HX := Lib.hid hx
      clear hx
      cases h1 : x == c
      · go_wp2_with fail
        go_roundw
        case rel => exact ⟨k + 1, by omega, by go_num, by rw [findS, HCK.out]; simp only; rw [if_neg (by rw [← HX.out]; simpa using h1)], by first | rfl | trivial⟩
        case measure => first | (simp [intOf]; done) | (simp [intOf]; omega)
      · have HE : Hid (C = (k : Int)) := Lib.hid (by rw [HC.out]; unfold findI; rw [findS_succ_hit hlt HCK.out (by rw [← HX.out]; simpa using h1)])
        go_wp2_with fail
        go_ret
        exact ⟨(by rw [HE.out]; rfl), by first | rfl | trivial⟩
    · obtain rfl : k = n := by omega
      have HE : Hid (C = -1) := Lib.hid (by rw [HC.out]; unfold findI; rw [HCK.out])
      go_wp2_with fail
      go_ret
      exact ⟨(by rw [HE.out]; rfl), by first | rfl | trivial⟩

theorem field_num (y : SeE) (W : World) : (Instr.field 113 (.agg #[.int .i64 y.client, .int .i64 y.number, .int .i64 y.e, .int .i64 y.rate, .int .i64 y.burst, .int .i64 y.lease, .int .i64 y.size]) 1).run Try.prog W = .ok (.int .i64 y.number) W := by
  have hu : Try.prog.underlying 113 = some (.struct #[⟨"Client", 3, 0, false, "", "", 0⟩, ⟨"Number", 3, 1, false, "", "", 8⟩, ⟨"Answer", 73, 2, false, "", "", 16⟩]) := by kernel_rfl
  simp [Instr.field, part, asAgg, Sem.run_bind, run_underlying hu, Result.andThen, go_sem]
def mayB (S : Nat → SeE) (n : Nat) (c num : Int) : Bool := chkS S n && (decide (1 ≤ c) && (decide (c ≤ 16) && decide (1 ≤ num)))
def lastN (S : Nat → SeE) (c : Int) (n : Nat) : Int := if chkS S n then (ofE S c n).number else 0

set_option maxRecDepth 100000 in
set_option maxHeartbeats 4000000 in
theorem last_any (c : Int) (a : Option Addr) (n cap b o : Nat) (S : Nat → SeE) (w : World) (hs : SeIn w a n cap b o S) :
    Calls Try.prog 53 #[.slice a n cap, .int .i64 c] w fun e w' => e = .returned (.int .i64 (lastN S c n)) ∧ Below w.heap.size w w' := by
  have H1 := Lib.hid (check_any a n cap b o S w hs)
  have H2 := Lib.hid (fun W (h : Below w.heap.size w W) => of_any c a n cap b o S W (hs.below h))
  obtain ⟨y, hy⟩ : ∃ y, y = ofE S c n := ⟨_, rfl⟩
  unfold lastN
  rw [← hy] at H2 ⊢
  obtain ⟨C, hC⟩ : ∃ C, C = chkS S n := ⟨_, rfl⟩
  rw [← hC] at H1 ⊢
  unfold SeE.agg at H2
  have hfd := field_num y
  clear hs hy hC
  go_enter Try.func53, Try.ntmps53
  go_wp2_with fail
  go_at_call 51
  refine Calls.mono H1.out ?_
  rintro e W1 ⟨rfl, hB1⟩
  have HB1 := Lib.hid hB1
  clear hB1
  cases C
  · go_wp2_with fail
    go_ret
    exact ⟨rfl, HB1.out⟩
  · go_wp2_with fail
    go_at_call 79
    refine Calls.mono (H2.out _ HB1.out) ?_
    rintro e W2 ⟨rfl, hB2⟩
    have HB2 := Lib.hid (HB1.out.trans (hB2.mono HB1.out.size))
    clear hB2
    go_wp2_with fail
    go_ret
    exact ⟨rfl, HB2.out⟩

set_option maxRecDepth 100000 in
set_option maxHeartbeats 4000000 in
theorem rlast_any (c : Int) (a : Option Addr) (n cap b o : Nat) (S : Nat → SeE) (w : World) (hs : SeIn w a n cap b o S) :
    Calls Try.prog 54 #[.slice a n cap, .int .i64 c] w fun e w' => e = .returned (.int .i64 (lastN S c n)) ∧ Below w.heap.size w w' := by
  have m1 := hs.le
  have m2 := hs.max
  unfold maxLen at m2
  have H1 := Lib.hid (rfind_any c a n cap b o S w hs)
  have H2 := Lib.hid (rcheck_any a n cap b o S w hs)
  have HS := Lib.hid hs
  obtain ⟨L, hL⟩ : ∃ L, L = lastN S c n := ⟨_, rfl⟩
  rw [← hL]
  have HL := Lib.hid hL
  clear hs hL
  go_enter Try.func54, Try.ntmps54
  go_wp2_with fail
  go_at_call 81
  refine Calls.mono H1.out ?_
  rintro e W1 ⟨rfl, rfl⟩
  go_wp2_with fail
  go_at_call 52
  refine Calls.mono H2.out ?_
  rintro e W1 ⟨rfl, hB1⟩
  have HB1 := Lib.hid hB1
  clear hB1
  cases hC : chkS S n
  · have HLZ : Hid (L = 0) := Lib.hid (by rw [HL.out]; unfold lastN; rw [hC]; rfl)
    go_wp2_with fail
    go_ret
    exact ⟨(by rw [HLZ.out]; rfl), HB1.out⟩
  · have hfl := find_last (c := c) hC
    have HLE : Hid (L = (ofE S c n).number) := Lib.hid (by rw [HL.out]; unfold lastN; rw [hC]; rfl)
    cases hf : findS S c n with
    | none =>
      have HLZ : Hid (L = 0) := Lib.hid (by rw [HLE.out]; unfold ofE; rw [← hfl, hf]; rfl)
      have hi : findI S c n = -1 := by unfold findI; rw [hf]
      rw [hi]
      clear hfl hf hi hC
      go_wp2_with fail
      go_ret
      exact ⟨(by rw [HLZ.out]; rfl), HB1.out⟩
    | some j =>
      have HLZ : Hid (L = (S j).number) := Lib.hid (by rw [HLE.out]; unfold ofE; rw [← hfl, hf]; rfl)
      have hi : findI S c n = (j : Int) := by unfold findI; rw [hf]
      have hj := (findS_some hf).1
      rw [hi]
      have hsr := HS.out.below HB1.out
      obtain ⟨e0, e1⟩ := hsr.at_ (by omega)
      subst e0
      obtain ⟨_, c1, _⟩ := hsr.cell j hj
      obtain ⟨x, hx⟩ : ∃ x, x = (S j).number := ⟨_, rfl⟩
      rw [← hx] at c1 HLZ
      clear hfl hf hi hC hsr hx
      go_wp2_with fail
      go_ret
      exact ⟨(by rw [HLZ.out]; rfl), HB1.out⟩

set_option maxRecDepth 100000 in
set_option maxHeartbeats 4000000 in
theorem may_any (c num : Int) (a : Option Addr) (n cap b o : Nat) (S : Nat → SeE) (w : World) (hs : SeIn w a n cap b o S) :
    Calls Try.prog 78 #[.slice a n cap, .int .i64 c, .int .i64 num] w fun e w' => e = .returned (.bool (mayB S n c num)) ∧ Below w.heap.size w w' := by
  have H1 := Lib.hid (check_any a n cap b o S w hs)
  unfold mayB
  obtain ⟨C, hC⟩ : ∃ C, C = chkS S n := ⟨_, rfl⟩
  rw [← hC] at H1 ⊢
  clear hs hC
  go_enter Try.func78, Try.ntmps78
  go_wp2_with fail
  go_at_call 51
  refine Calls.mono H1.out ?_
  rintro e W1 ⟨rfl, hB1⟩
  have HB1 := Lib.hid hB1
  clear hB1
  cases C
  · go_wp2_with fail
    go_ret
    exact ⟨rfl, HB1.out⟩
  · cases d1 : decide (1 ≤ c)
    · go_wp2_with fail
      go_ret
      exact ⟨(by rw [d1]; rfl), HB1.out⟩
    · cases d2 : decide (c ≤ 16)
      · go_wp2_with fail
        go_ret
        exact ⟨(by rw [d1, d2]; rfl), HB1.out⟩
      · cases d3 : decide (1 ≤ num)
        · go_wp2_with fail
          go_ret
          exact ⟨(by rw [d1, d2, d3]; rfl), HB1.out⟩
        · go_wp2_with fail
          go_ret
          exact ⟨(by rw [d1, d2, d3]; rfl), HB1.out⟩

set_option maxRecDepth 100000 in
set_option maxHeartbeats 4000000 in
theorem rmay_any (c num : Int) (a : Option Addr) (n cap b o : Nat) (S : Nat → SeE) (w : World) (hs : SeIn w a n cap b o S) :
    Calls Try.prog 80 #[.slice a n cap, .int .i64 c, .int .i64 num] w fun e w' => e = .returned (.bool (mayB S n c num)) ∧ Below w.heap.size w w' := by
  have H1 := Lib.hid (rcheck_any a n cap b o S w hs)
  unfold mayB
  obtain ⟨C, hC⟩ : ∃ C, C = chkS S n := ⟨_, rfl⟩
  rw [← hC] at H1 ⊢
  clear hs hC
  go_enter Try.func80, Try.ntmps80
  go_wp2_with fail
  go_at_call 52
  refine Calls.mono H1.out ?_
  rintro e W1 ⟨rfl, hB1⟩
  have HB1 := Lib.hid hB1
  clear hB1
  cases C
  · go_wp2_with fail
    go_ret
    exact ⟨rfl, HB1.out⟩
  · cases d1 : decide (1 ≤ c)
    · go_wp2_with fail
      go_ret
      exact ⟨(by rw [d1]; rfl), HB1.out⟩
    · cases d2 : decide (c ≤ 16)
      · go_wp2_with fail
        go_ret
        exact ⟨(by rw [d1, d2]; rfl), HB1.out⟩
      · cases d3 : decide (1 ≤ num)
        · go_wp2_with fail
          go_ret
          exact ⟨(by rw [d1, d2, d3]; rfl), HB1.out⟩
        · go_wp2_with fail
          go_ret
          exact ⟨(by rw [d1, d2, d3]; rfl), HB1.out⟩
end Go.Proofs.Ytnaoajdbopminaa
