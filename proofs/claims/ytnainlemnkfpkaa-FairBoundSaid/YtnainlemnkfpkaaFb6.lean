/-
  A new one, the document: a wrong number of weights.
-/
import Derived.Test.YtnainlemnkfpkaaFb5
namespace Go.Proofs.Ytnainlemnkfpkaa
open Go.RowKit
set_option linter.unusedSimpArgs false
set_option linter.unusedVariables false

set_option maxRecDepth 100000 in
set_option maxHeartbeats 4000000 in
theorem rfnew_len (va : Value) (L : List Int) (w : World) (hv : InV w va L) (hl : L.length < 1 ∨ 8 < L.length) :
    Calls Try.prog 9 #[va] w fun e w' => e = .returned (.tuple #[.pointer none, .int .i64 2]) ∧ Below w.heap.size w w' := by
  obtain ⟨xa, n, xc, rfl, HN, m1, m2⟩ := hv.sh
  have hn : n = L.length := HN.out
  rw [← hn] at hl
  clear hn hv
  rcases hl with h | h
  · have d0 : decide ((n : Int) < 1) = true := decide_eq_true (by omega)
    clear h
    go_enter Try.func9, Try.ntmps9
    go_wp2_with fail
    try rw [Exit.noGoto_ret]
    exact bodyPost_ret (v := .tuple #[.pointer none, .int .i64 2]) (by simp [results, Try.results9, go_sem]) rfl ⟨rfl, Below.refl _ _⟩
  · have d0 : decide ((n : Int) < 1) = false := decide_eq_false (by omega)
    have d9 : decide (8 < (n : Int)) = true := decide_eq_true (by omega)
    clear h
    go_enter Try.func9, Try.ntmps9
    go_wp2_with fail
    try rw [Exit.noGoto_ret]
    exact bodyPost_ret (v := .tuple #[.pointer none, .int .i64 2]) (by simp [results, Try.results9, go_sem]) rfl ⟨rfl, Below.refl _ _⟩
end Go.Proofs.Ytnainlemnkfpkaa
