/-
  Entries put behind a place: the document.
-/
import Derived.Test.YtcadinoijclfnaaRogA
import Derived.Test.YtcadinoijclfnaaRogB
import Derived.Test.YtcadinoijclfnaaRogC
import Derived.Deep.DeepFit
import Derived.Lib.AppendZeros
namespace Go.Proofs.Ytcadinoijclfnaa
open Go.RowKit
set_option linter.unusedSimpArgs false
set_option linter.unusedVariables false

theorem rput_any (base term idx first : Int) (v v2 : Value) (L l : List EnD) (w : World) (h : RV w v L) (h2 : RV w v2 l) (hl5 : l.length ≤ 5000) (hx : -9223372036854775808 ≤ idx ∧ idx ≤ 9223372036854775807) :
    Calls Try.prog 20 #[.agg #[.int .i64 base, .int .i64 term, v], .int .i64 idx, .int .i64 first, v2] w fun e w' => RwOut (putF base term L idx first l) e w' ∧ Below w.heap.size w w' := by
  by_cases hk : okE base term L = 0 ∧ l.length ≤ 16 ∧ okE idx first l = 0 ∧ (fitF base term L idx first l).ok = true
  · obtain ⟨q1, q2, q3, q4⟩ := hk
    unfold fitF at q4
    by_cases k1 : base + L.length < idx
    · rw [if_pos k1] at q4; cases q4
    · rw [if_neg k1] at q4
      by_cases k2 : (l.length : Int) < base - idx
      · rw [if_pos k2] at q4; cases q4
      · rw [if_neg k2] at q4
        by_cases k3 : 0 < base - idx
        · exact rput_lo base term idx first v v2 L l w h h2 hl5 hx ⟨q1, q2, q3, by omega, by omega, by omega⟩
        · rw [if_neg k3] at q4
          by_cases k4 : termL base term L idx ≠ first
          · rw [if_pos k4] at q4; cases q4
          · exact rput_hi base term idx first v v2 L l w h h2 hl5 hx ⟨q1, q2, q3, by omega, by omega, by simpa using k4⟩
  · exact rput_no base term idx first v v2 L l w h h2 hl5 hx (fun q1 q2 q3 q4 => hk ⟨q1, q2, q3, q4⟩)
end Go.Proofs.Ytcadinoijclfnaa
