/-
  What the document says of two runs.
-/
import Derived.Test.YtnainlemnkfpkaaFad
namespace Go.Proofs.Ytnainlemnkfpkaa
open Go.RowKit
set_option linter.unusedSimpArgs false
set_option linter.unusedVariables false

set_option maxRecDepth 100000 in
set_option maxHeartbeats 2000000 in
theorem frow_any (va vb : Value) (L : List Int) (w : World) (ha : InV w va L) (hb : InV w vb L) :
    Calls Try.prog 15 #[va, vb] w fun e w' => e = .returned (.bool true) ∧ Below w.heap.size w w' := by
  obtain ⟨xa, n, xc, rfl, HN, m1, m2⟩ := ha.sh
  obtain ⟨ya, n', yc, rfl, HN', m3, m4⟩ := hb.sh
  obtain rfl : n = n' := HN.out.trans HN'.out.symm
  have HA := Lib.hid ha
  have HB := Lib.hid hb
  clear ha hb HN'
  go_enter Try.func15, Try.ntmps15
  go_wp2_with fail
  go_loopw [5] (fun i wr => ∃ k : Nat, k ≤ n ∧ i = .int .i64 k ∧ Below w.heap.size w wr) (fun i _ => n - (intOf i).toNat)
  case atStart => exact ⟨0, Nat.zero_le _, rfl, Below.refl _ _⟩
  case round =>
    obtain ⟨k, hk, rfl, hB⟩ := hrel
    have HW := Lib.hid hB
    by_cases hlt : k < n
    · obtain ⟨g1, o1, y1, ea1, l1, hy1, c1⟩ := (HA.out.below hB).at k hlt
      obtain ⟨g2, o2, y2, ea2, l2, hy2, c2⟩ := (HB.out.below hB).at k hlt
      obtain rfl := Option.some.inj (hy1.symm.trans hy2)
      subst ea1 ea2
      replace c1 := c1.1
      replace c2 := c2.1
      have ww5 : IntKind.i64.wrap ((k : Int) + 1) = (k : Int) + 1 := IntWalk.i64_in _ (by omega)
      have b9 : ((k : Int) < (n : Int)) = True := eq_true (by omega)
      have bk1 : (k < n) = True := eq_true hlt
      have b0 : (0 ≤ (k : Int)) = True := eq_true (by omega)
      have HLT := Lib.hid hlt
      clear hy1 hy2 hlt hB
      go_wp2_with fail
      (refine wp_region_quiet_lit (by kernel_rfl) (by kernel_rfl) ?_; (repeat (first | go_big_quiet_step (fail) | (refine BigFrame.wpQuiet_skip (by rfl) ?_; try simp only [Act.put, List.setIfInBounds_toArray, List.set_cons_zero, List.set_cons_succ]))); refine wpQuiet_nil ?_; intro _ hw9; obtain ⟨nq, hw8⟩ := hw9; subst hw8)
      obtain ⟨W4, hW4⟩ : ∃ X, X = wr.drewN nq := ⟨_, rfl⟩
      rw [← hW4]
      have hB4 : Below wr.heap.size wr W4 := by rw [hW4]; exact dN _ _
      have HW4 := Lib.hid (HW.out.trans (hB4.mono HW.out.size))
      clear hW4 hB4 c1 c2
      go_wp2_with fail
      go_roundw
      case rel => exact ⟨k + 1, by have := HLT.out; omega, by go_num, HW4.out⟩
      case measure => (have h8 := HLT.out; first | (simp [intOf]; done) | (simp [intOf]; omega))
    · obtain rfl : k = n := by omega
      clear hB
      go_wp2_with fail
      try rw [Exit.noGoto_ret]
      go_ret
      exact ⟨rfl, HW.out⟩
end Go.Proofs.Ytnainlemnkfpkaa
