/-
  GrantSurely: every input.
-/
import Derived.Test.YtlgjdiadohhleaaGs5
namespace Go.Proofs.Ytlgjdiadohhleaa
open Go.RowKit
set_option linter.unusedSimpArgs false
set_option linter.unusedVariables false

set_option maxRecDepth 100000 in
set_option maxHeartbeats 4000000 in
theorem surely_any (ticks rho ask made : Int) (own : Bool) (a : Option Addr) (len cap gb o : Nat) (E : Nat → SuE) (w : World) (hs : SuIn w a len cap gb o E) (mlo : -9223372036854775808 ≤ made) :
    Calls Try.prog 8 #[.int .i64 ticks, .int .i64 rho, .slice a len cap, .int .i64 ask, .int .i64 made, .bool own] w fun e w' => e = .returned (.bool true) ∧ Below w.heap.size w w' := by
  have m1 := hs.le
  have m2 := hs.max
  unfold maxLen at m2
  by_cases hr : 0 ≤ rho ∧ rho ≤ 200
  · obtain ⟨r0, r1⟩ := hr
    by_cases hc : len ≤ 100 ∧ 1 ≤ ticks ∧ ticks ≤ 1099511627776 ∧ ask ≤ made
    · exact surely_walk ticks rho ask made own a len cap gb o E w hs r0 r1 hc.1 hc.2.1 hc.2.2.1 hc.2.2.2 mlo
    · have hcs : 100 < len ∨ (len ≤ 100 ∧ ticks < 1) ∨ (len ≤ 100 ∧ 1 ≤ ticks ∧ 1099511627776 < ticks) ∨ (len ≤ 100 ∧ 1 ≤ ticks ∧ ticks ≤ 1099511627776 ∧ made < ask) := by omega
      clear hs hc
      rcases hcs with h1 | ⟨h1, h2⟩ | ⟨h1, h2, h3⟩ | ⟨h1, h2, h3, h4⟩
      all_goals
        go_enter Try.func8, Try.ntmps8
        go_wp2_with (first
          | (go_at_call 36; refine (new_ok _ r0 r1 _).mono ?_; rintro e w' ⟨rfl, rfl⟩)
          | (go_at_call 26; refine (gwakes_any _).mono ?_; rintro e WK ⟨rfl, hWK⟩))
        go_ret
        exact ⟨rfl, (((Below.refl _ _).alloc (Nat.le_refl _) _).alloc (by simp) _).trans (hWK.mono (by simp; omega))⟩
  · have hrc : rho < 0 ∨ 200 < rho := by omega
    have HR := Lib.hid hrc
    clear hs hr hrc
    go_enter Try.func8, Try.ntmps8
    go_wp2_with (first
      | (go_at_call 36; refine (new_bad _ HR.out _).mono ?_; rintro e w' ⟨rfl, rfl⟩)
      | (go_at_call 26; refine (gwakes_any _).mono ?_; rintro e WK ⟨rfl, hWK⟩))
    go_ret
    exact ⟨rfl, hWK⟩
theorem grantSurely_dt (ticks rho ask made : Int) (own : Bool) (a : Option Addr) (len cap : Nat) (xs : List Dt) (w : World) (hs : SliceFits Try.prog w 81 a len cap xs) (mlo : -9223372036854775808 ≤ made) :
    Calls Try.prog 8 #[.int .i64 ticks, .int .i64 rho, .slice a len cap, .int .i64 ask, .int .i64 made, .bool own] w fun e w' => e = .returned (.bool true) ∧ Below w.heap.size w w' := by
  obtain ⟨b, o, E, hE⟩ := su_cells w hs
  exact surely_any ticks rho ask made own a len cap b o E w hE mlo
end Go.Proofs.Ytlgjdiadohhleaa
