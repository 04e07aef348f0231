/-
  AgentInTime: every input.
-/
import Derived.Test.YtlgjdiadohhleaaAgh
namespace Go.Proofs.Ytlgjdiadohhleaa
open Go.RowKit
set_option linter.unusedSimpArgs false
set_option linter.unusedVariables false

set_option maxRecDepth 100000 in
set_option maxHeartbeats 4000000 in
theorem inTime_any (a0 a1 a2 a3 : Int) (p1 : Option Addr) (len cap b1 o1 : Nat) (S : Nat → Int) (p2 : Option Addr) (len2 cap2 b2 o2 : Nat) (T : Nat → Int) (w : World) (hs : IntsIn w p1 len cap b1 o1 S) (ht : IntsIn w p2 len2 cap2 b2 o2 T) :
    Calls Try.prog 4 #[.int .i64 a0, .int .i64 a1, .int .i64 a2, .int .i64 a3, .slice p1 len cap, .slice p2 len2 cap2] w fun e w' => e = .returned (.bool true) ∧ Below w.heap.size w w' := by
  have m1 := hs.le
  have m2 := hs.max
  have m3 := ht.le
  have m4 := ht.max
  unfold maxLen at m2 m4
  by_cases h1 : 60 < len
  · clear hs ht
    go_enter Try.func4, Try.ntmps4
    go_wp2_with (go_at_call 23; refine (agwakes_any _).mono ?_; rintro e WK ⟨rfl, hWK⟩)
    go_ret
    exact ⟨rfl, hWK⟩
  · by_cases h2 : len2 < len
    · have h3 : len ≤ 60 := by omega
      clear hs ht h1
      go_enter Try.func4, Try.ntmps4
      go_wp2_with (go_at_call 23; refine (agwakes_any _).mono ?_; rintro e WK ⟨rfl, hWK⟩)
      go_ret
      exact ⟨rfl, hWK⟩
    · exact inTime_walk a0 a1 a2 a3 p1 len cap b1 o1 S p2 len2 cap2 b2 o2 T w hs ht (by omega) (by omega)
theorem agentInTime_dt (a0 a1 a2 a3 : Int) (p1 : Option Addr) (len cap : Nat) (xs : List Dt) (p2 : Option Addr) (len2 cap2 : Nat) (ys : List Dt) (w : World) (hs : SliceFits Try.prog w 3 p1 len cap xs) (ht : SliceFits Try.prog w 3 p2 len2 cap2 ys) :
    Calls Try.prog 4 #[.int .i64 a0, .int .i64 a1, .int .i64 a2, .int .i64 a3, .slice p1 len cap, .slice p2 len2 cap2] w fun e w' => e = .returned (.bool true) ∧ Below w.heap.size w w' := by
  obtain ⟨b1, o1, S, hS⟩ := ints_cells w hs
  obtain ⟨b2, o2, T, hT⟩ := ints_cells w ht
  exact inTime_any a0 a1 a2 a3 p1 len cap b1 o1 S p2 len2 cap2 b2 o2 T w hS hT
end Go.Proofs.Ytlgjdiadohhleaa
