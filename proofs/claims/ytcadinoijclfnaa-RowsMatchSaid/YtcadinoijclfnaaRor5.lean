/-
  The law RowsMatch, walked.
-/
import Derived.Test.YtcadinoijclfnaaRor3
import Derived.Test.YtcadinoijclfnaaRor4
import Derived.Deep.DeepFit
namespace Go.Proofs.Ytcadinoijclfnaa
open Go.RowKit
set_option linter.unusedSimpArgs false
set_option linter.unusedVariables false

theorem rowsMatch_any (base term idx first : Int) (v v2 : Value) (L l : List EnD) (w : World) (h : RV w v L) (h2 : RV w v2 l) (hb : bigB L) (hb2 : bigB l) (hx : -9223372036854775808 ≤ idx ∧ idx ≤ 9223372036854775807) :
    Calls Try.prog 5 #[.agg #[.int .i64 base, .int .i64 term, v], .int .i64 idx, .int .i64 first, v2] w fun e w' => e = .returned (.bool true) ∧ Below w.heap.size w w' := by
  rcases okE_two base term L with hk | hk
  · by_cases he : (putF base term L idx first l).e = 0
    · obtain ⟨a1, a2⟩ := putF_arg hk he
      obtain ⟨c0, c1, _, _⟩ := okE_head a2
      rcases match_p hk he with ⟨s, e1, e2, e3, e4⟩ | ⟨i, d, e1, e2, e3, e4, e5, e6, e7, e8⟩
      · exact match_no base term idx first v v2 L l w h h2 hb hb2 hx hk s e1 e2 e3 e4
      · exact match_yes base term idx first v v2 L l w h h2 hb hb2 hx hk i d e1 e2 e3 e4 e5 e6 e7 e8 ⟨c0, by omega⟩ a1
    · exact match_err base term idx first v v2 L l w h h2 hb hb2 hx hk he
  · exact match_bad base term idx first v v2 L l w h h2 hb hb2 hx hk
theorem rowsMatch_dt (x : Dt) (idx first : Int) (a : Option Addr) (n c : Nat) (xs : List Dt) (w : World) (hx : Fits Try.prog w 24 x) (h : SliceFits Try.prog w 47 a n c xs) (hi : -9223372036854775808 ≤ idx ∧ idx ≤ 9223372036854775807) :
    Calls Try.prog 5 #[.agg x.cells.toArray, .int .i64 idx, .int .i64 first, .slice a n c] w fun e w' => e = .returned (.bool true) ∧ Below w.heap.size w w' := by
  obtain ⟨base, term, a', m, cc, es, e1, _, _, hS⟩ := rowsD_inv hx
  obtain ⟨L, hL, hb⟩ := rv_fits w hS
  obtain ⟨l, hl, hb2⟩ := rv_fits w h
  rw [e1]
  exact rowsMatch_any base term idx first _ _ L l w hL hl hb hb2 hi
end Go.Proofs.Ytcadinoijclfnaa
