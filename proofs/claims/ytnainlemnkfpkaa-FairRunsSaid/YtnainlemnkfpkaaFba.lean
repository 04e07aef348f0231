/-
  A run is the document's: the law.
-/
import Derived.Test.YtnainlemnkfpkaaFaf
import Derived.Test.YtnainlemnkfpkaaFb7
namespace Go.Proofs.Ytnainlemnkfpkaa
open Go.RowKit
set_option linter.unusedSimpArgs false
set_option linter.unusedVariables false

set_option maxRecDepth 100000 in
set_option maxHeartbeats 40000000 in
theorem fairRuns_walk (va : Value) (L : List Int) (a : Option Addr) (n cap b o : Nat) (vs : Nat → Value) (Q : Nat → List Int) (w : World) (hv : InV w va L) (hq : QIn w a n cap b o vs Q) :
    Calls Try.prog 4 #[va, .slice a n cap] w fun e w' => e = .returned (.bool true) ∧ Below w.heap.size w w' := by
  have m1 := hq.le
  have m2 := hq.max
  unfold maxLen at m2
  obtain ⟨xa, xn, xc, rfl, HXN, x1, x2⟩ := hv.sh
  have HV := Lib.hid hv
  have HQ := Lib.hid hq
  have WK := Lib.hid (fun W => fwakes_any W)
  clear hv hq
  by_cases hbig : 20 < xn ∨ 20 < n
  · have hb2 : (decide ((20 : Int) < (xn : Int)) = true) ∨ (decide ((20 : Int) < (xn : Int)) = false ∧ decide ((20 : Int) < (n : Int)) = true) := by
      by_cases h : 20 < xn
      · exact .inl (decide_eq_true (by omega))
      · exact .inr ⟨decide_eq_false (by omega), decide_eq_true (by omega)⟩
    clear hbig
    rcases hb2 with d1 | ⟨d1, d2⟩
    all_goals
      go_enter Try.func4, Try.ntmps4
      go_wp2_with fail
      go_at_call 7
      go_fit (WK.out _)
      rintro e W1 ⟨rfl, hB⟩
      have HB := Lib.hid hB
      clear hB
      go_wp2_with fail
      try rw [Exit.noGoto_ret]
      go_ret
      exact ⟨rfl, HB.out⟩
  have d1 : decide ((20 : Int) < (xn : Int)) = false := decide_eq_false (by omega)
  have d2 : decide ((20 : Int) < (n : Int)) = false := decide_eq_false (by omega)
  have HN20 : Hid (xn ≤ 20 ∧ n ≤ 20) := Lib.hid (by omega)
  clear hbig
  go_enter Try.func4, Try.ntmps4
  go_wp2_with fail
  go_loopw [5] (fun i wr => ∃ k : Nat, k ≤ n ∧ i = .int .i64 k ∧ (∀ j, j < k → (Q j).length ≤ 200) ∧ wr = w) (fun i _ => n - (intOf i).toNat)
  case atStart => exact ⟨0, Nat.zero_le _, rfl, (fun j h => by omega), rfl⟩
  case round =>
    obtain ⟨k, hk, rfl, hql, rfl⟩ := hrel
    have HQL := Lib.hid hql
    by_cases hlt : k < n
    · obtain ⟨ea, hbl⟩ := HQ.out.at_ (by omega)
      subst ea
      have c0 := HQ.out.cell k hlt
      have hvk := HQ.out.inv k hlt
      obtain ⟨ya, yn, yc, ev, HYN, y1, y2⟩ := hvk.sh
      rw [ev] at c0
      have hyl : yn = (Q k).length := HYN.out
      have ww5 : IntKind.i64.wrap ((k : Int) + 1) = (k : Int) + 1 := IntWalk.i64_in _ (by omega)
      have b9 : ((k : Int) < (n : Int)) = True := eq_true (by omega)
      have bk1 : (k < n) = True := eq_true hlt
      have HLT := Lib.hid hlt
      by_cases h200 : 200 < yn
      · have d3 : decide ((200 : Int) < (yn : Int)) = true := decide_eq_true (by omega)
        clear hql hbl hvk ev hyl hlt h200
        go_wp2_with fail
        go_at_call 7
        go_fit (WK.out _)
        rintro e W1 ⟨rfl, hB⟩
        have HB := Lib.hid hB
        clear hB
        go_wp2_with fail
        try rw [Exit.noGoto_ret]
        go_ret
        exact ⟨rfl, HB.out⟩
      have d3 : decide ((200 : Int) < (yn : Int)) = false := decide_eq_false (by omega)
      have HY2 : Hid ((Q k).length ≤ 200) := Lib.hid (by rw [← hyl]; omega)
      clear hql hbl hvk ev hyl hlt h200
      go_wp2_with fail
      go_roundw
      case rel => exact ⟨k + 1, by have := HLT.out; omega, by go_num, (fun j hj => by
        by_cases hjk : j = k
        · subst hjk; exact HY2.out
        · exact HQL.out j (by omega)), by first | rfl | trivial⟩
      case measure => (have h8 := HLT.out; first | (simp [intOf]; done) | (simp [intOf]; omega))
    obtain rfl : k = n := by omega
    have RN := Lib.hid (frun_any _ L a k cap b o vs Q wr HV.out HQ.out (by have := HN20.out; omega) (fun j hj => by have := HQL.out j hj; omega))
    clear hql
    go_wp2_with fail
    go_at_call 16
    go_fit (RN.out)
    rintro e W1 ⟨v, rfl, hp1⟩
    have hp1' := hp1
    obtain ⟨⟨ob, R, hi, hR⟩, hB1⟩ := hp1
    obtain ⟨ra, rn, rc, rfl, HRN, r1, r2⟩ := hi.v.sh
    have HI := Lib.hid hi
    have HB1 := Lib.hid hB1
    have HR := Lib.hid hR
    have RF := Lib.hid (rfrun_any _ L a k cap b o vs Q W1 (HV.out.below hB1) (HQ.out.below hB1) (by have := HN20.out; omega) (fun j hj => by have := HQL.out j hj; omega))
    clear hp1' hi hR hB1 RN
    go_wp2_with fail
    go_at_call 17
    go_fit (RF.out)
    rintro e W2 ⟨v, rfl, ⟨ob2, R2, hi2, hR2⟩, hB2⟩
    have hRR : R2 = R := by
      rcases hR2 with ⟨h1, h2⟩ | ⟨h1, h2⟩
      · rcases HR.out with ⟨g1, g2⟩ | ⟨g1, g2⟩
        · rw [h2, g2]
        · exact absurd h1 g1
      · rcases HR.out with ⟨g1, g2⟩ | ⟨g1, g2⟩
        · exact absurd g1 h1
        · rw [h2, g2]
    rw [hRR] at hi2
    obtain ⟨sa, sn, sc, rfl, HSN, s1, s2⟩ := hi2.v.sh
    have RW := Lib.hid (frow_any _ _ R W2 (HI.out.v.below hB2) hi2.v)
    have HB2 := Lib.hid (HB1.out.trans (hB2.mono HB1.out.size))
    clear hi2 hRR hR2 hB2 RF HI HR
    go_wp2_with fail
    go_at_call 15
    go_fit (RW.out)
    rintro e W3 ⟨rfl, hB3⟩
    have HB3 := Lib.hid (HB2.out.trans (hB3.mono HB2.out.size))
    clear hB3 RW
    go_wp2_with fail
    go_at_call 7
    go_fit (WK.out _)
    rintro e W4 ⟨rfl, hB4⟩
    have HB4 := Lib.hid (HB3.out.trans (hB4.mono HB3.out.size))
    clear hB4
    go_wp2_with fail
    try rw [Exit.noGoto_ret]
    go_ret
    exact ⟨rfl, HB4.out⟩
theorem fairRuns_dt (a : Option Addr) (n c : Nat) (xs : List Dt) (a2 : Option Addr) (n2 c2 : Nat) (xs2 : List Dt) (w : World) (h : SliceFits Try.prog w 3 a n c xs) (h2 : SliceFits Try.prog w 22 a2 n2 c2 xs2) : Calls Try.prog 4 #[.slice a n c, .slice a2 n2 c2] w fun e w' => e = .returned (.bool true) ∧ Below w.heap.size w w' := by
  obtain ⟨L, _, hL⟩ := inv_cells w h
  obtain ⟨b, o, vs, Q, hQ⟩ := q_cells w h2
  exact fairRuns_walk _ L a2 n2 c2 b o vs Q w hL hQ
end Go.Proofs.Ytnainlemnkfpkaa
