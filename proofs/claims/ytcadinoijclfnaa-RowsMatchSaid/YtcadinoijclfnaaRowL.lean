/-
  How long rows are.
-/
import Derived.Test.YtcadinoijclfnaaRo8
import Derived.Test.YtcadinoijclfnaaRob
import Derived.Deep.DeepFit
namespace Go.Proofs.Ytcadinoijclfnaa
open Go.RowKit
set_option linter.unusedSimpArgs false
set_option linter.unusedVariables false

theorem zl_len (j : Int) (L : List EnD) : (zl j L).length ≤ L.length := by unfold zl; split <;> simp
theorem fitF_len (base term : Int) (L : List EnD) (idx first : Int) (l : List EnD) : (fitF base term L idx first l).l.length ≤ l.length := by
  unfold fitF
  split
  · simp
  · split
    · simp
    · split
      · simp only [List.length_drop]; omega
      · split
        · simp
        · exact Nat.le_refl _
theorem layY_len (base : Int) (L : List EnD) (f : FitP) : (layY base L f).length ≤ L.length + f.l.length := by
  unfold layY
  have hq : (layP L f.l (f.i - base).toNat).2.length ≤ f.l.length := by
    unfold layP
    split
    · simp
    · simp only [List.length_drop]; omega
  split
  · rw [List.length_append]
    have := List.length_take_le (layP L f.l (f.i - base).toNat).1 L
    have h3 : (L.take (layP L f.l (f.i - base).toNat).1).length ≤ L.length := by rw [List.length_take]; omega
    omega
  · simp
theorem putF_len (base term : Int) (L : List EnD) (idx first : Int) (l : List EnD) : (putF base term L idx first l).l.length ≤ L.length + l.length := by
  unfold putF
  split
  · simp
  · split
    · simp
    · split
      · simp
      · unfold endF
        have h1 := zl_len (layJ base term L (fitF base term L idx first l)) (layY base L (fitF base term L idx first l))
        have h2 := layY_len base L (fitF base term L idx first l)
        have h3 := fitF_len base term L idx first l
        simp only
        omega
theorem addF_len (base term : Int) (L l : List EnD) : (addF base term L l).l.length ≤ L.length + l.length := by
  unfold addF
  split
  · simp
  · have h1 := zl_len (joinE base term L.length L l) (L.take L.length ++ l)
    simp only [List.take_length, List.length_append] at h1 ⊢
    omega
theorem cutF_len (base term : Int) (L : List EnD) (idx : Int) : (cutF base term L idx).l.length ≤ L.length := by
  unfold cutF
  split
  · simp
  · split
    · simp
    · split
      · simp
      · simp only [List.length_drop]; omega
theorem fromF_len (base term : Int) (L : List EnD) (idx most : Int) : (fromF base term L idx most).l.length ≤ L.length := by
  unfold fromF
  split
  · simp
  · split
    · simp
    · split
      · simp
      · simp only [List.length_take, List.length_drop]; omega
set_option maxRecDepth 100000 in
theorem bool_eq (b : Bool) (W : World) : (binOp .eql 4 (.bool b) (.bool b)).run Try.prog W = .ok (.bool true) W := by cases b <;> rfl
end Go.Proofs.Ytcadinoijclfnaa
