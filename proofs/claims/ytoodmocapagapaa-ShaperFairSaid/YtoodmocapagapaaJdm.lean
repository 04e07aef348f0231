/-
  judge.Fair, walked.
-/
import Derived.Test.YtoodmocapagapaaJdl
namespace Go.Proofs.Ytoodmocapagapaa
open Go.RowKit
set_option linter.unusedSimpArgs false
set_option linter.unusedVariables false

theorem grace_parts {le mo w al : Int} (hw : 0 ≤ w ∧ w ≤ 16) (ha : 0 ≤ al ∧ al ≤ 960) : (0 ≤ 2 * clip le * al ∧ 2 * clip le * al ≤ 2880000) ∧ -48000 ≤ (clip mo - 2 * clip le) * w ∧ (clip mo - 2 * clip le) * w ≤ 24000 := by
  have c1 := clip_bd le
  have c2 := clip_bd mo
  have p1 := prod_le (a := 2 * clip le) (A := 3000) (by omega) (by omega) ha.1 ha.2
  have p2 := prod_le (a := clip mo) (A := 1500) (by omega) (by omega) hw.1 hw.2
  have p3 := prod_le (a := 2 * clip le) (A := 3000) (by omega) (by omega) hw.1 hw.2
  rw [Int.sub_mul]
  omega

end Go.Proofs.Ytoodmocapagapaa
