/-
  PolicyNever at any plain data.
-/
import Derived.Test.YtpgpcgpecpimlaaPou
import Derived.Test.YtpgpcgpecpimlaaPo2
import Derived.Deep.RegionLaw
namespace Go.Proofs.Ytpgpcgpecpimlaa
open Go.RowKit
set_option linter.unusedSimpArgs false
set_option linter.unusedVariables false

theorem policyNever_dt (a : Option Addr) (len cap : Nat) (xs : List Dt) (id rate burst out other : Int) (w : World) (h : SliceFits Try.prog w 72 a len cap xs) (hid : -9223372036854775808 ≤ id ∧ id ≤ 9223372036854775807) (ho : out ≤ 9223372036854775807) :
    Calls Try.prog 13 #[.slice a len cap, .int .i64 id, .int .i64 rate, .int .i64 burst, .int .i64 out, .int .i64 other] w fun e w' => e = .returned (.bool true) ∧ Below w.heap.size w w' := by
  obtain ⟨L, _, hL⟩ := tv_cells w h
  exact policyNever_walk _ L id rate burst out other w hL hid ho
end Go.Proofs.Ytpgpcgpecpimlaa
