/-
  Package fifo: what the document says of a queue of two.
-/
import Derived.Lib.SlBytesConst
import Derived.Test.YtninhjeiialbjaaFf7
namespace Go.Proofs.Ytninhjeiialbjaa
open Go.RowKit
set_option linter.unusedSimpArgs false
set_option linter.unusedVariables false

def nilP : PkE := ⟨0, 0, 0, none, 0, 0, 0, 0, fun _ => 0⟩
theorem by_nil (w : World) : ByIn w none 0 0 0 0 (fun _ => 0) := ⟨Nat.le_refl _, by unfold maxLen; omega, fun h => by omega, fun k hk => by omega, fun _ => by decide⟩

set_option maxRecDepth 100000 in
set_option maxHeartbeats 8000000 in
theorem fwakes_any (w : World) : Calls Try.prog 34 #[] w fun e w' => e = .returned (.bool true) ∧ Below w.heap.size w w' := by
  obtain ⟨D, hD⟩ : ∃ D, D = w.heap.size + 1 := ⟨_, rfl⟩
  obtain ⟨R, hR⟩ : ∃ R, R = w.heap.size := ⟨_, rfl⟩
  have HD := Lib.hid hD
  have HR := Lib.hid hR
  have HNW := Lib.hid (fnew_any 2 (fun _ => nilP) w (by omega) (by omega))
  clear hD hR
  have kc := fun (w : World) (C : Array Value) (n c : Nat) => Lib.run_convert_bytes_const (P := Try.prog) w 55 5 C n c Try.underlying55 Try.underlying5
  have hp : ∀ W, (binOp .eql 60 (.pointer (some ⟨D, 0, none⟩)) (.pointer none)).run Try.prog W = .ok (.bool false) W := fun _ => rfl
  go_enter Try.func34, Try.ntmps34
  go_wp2_with fail
  go_at_call 35
  refine Calls.mono HNW.out ?_
  rintro e W1 ⟨rfl, hq1, hB1⟩
  rw [← HD.out, ← HR.out] at hq1
  rw [← HD.out]
  have HQ1 := Lib.hid hq1
  have HB1 := Lib.hid hB1
  clear hq1 hB1
  go_wp2_with fail
  go_at_call 47
  refine Calls.mono (fpush_any D R 0 2 0 0 0 0 (fun _ => nilP) 1 0 0 none 0 0 _ HQ1.out (by omega) 0 0 (fun _ => 0) (by_nil _) (by omega) (by omega)) ?_
  rintro e W2 ⟨rfl, ⟨a1, c1, b1, hq2⟩, hF2⟩
  have HQ2 := Lib.hid hq2
  have HF2 := Lib.hid hF2
  clear hq2 hF2
  have HB2 : Hid (Below W2.heap.size W2 (W2.alloc (.cells #[.int .u8 120] 5 (1, 2)))) := Lib.hid ((Below.refl _ _).alloc (Nat.le_refl _) _)
  have HX : Hid (ByIn (W2.alloc (.cells #[.int .u8 120] 5 (1, 2))) (some ⟨W2.heap.size, 0, none⟩) 1 1 W2.heap.size 0 (fun _ => 120)) := Lib.hid ⟨Nat.le_refl _, by unfold maxLen; omega, fun _ => ⟨rfl, by simp⟩, fun k hk => by
    obtain rfl : k = 0 := by omega
    exact cell_of_row _ _ 0 #[.int .u8 120] 5 (1, 2) (heap_alloc_new _ _), fun _ => by decide⟩
  have HQ2b := Lib.hid (HQ2.out.below HB2.out)
  go_wp2_with fail
  go_at_call 47
  refine Calls.mono (fpush_any D R 0 2 0 1 _ 0 _ 2 0 0 _ 1 1 _ HQ2b.out (by omega) _ 0 (fun _ => 120) HX.out (by omega) (by omega)) ?_
  rintro e W3 ⟨rfl, ⟨a2, c2, b2, hq3⟩, hF3⟩
  have HQ3 := Lib.hid hq3
  have HF3 := Lib.hid hF3
  clear hq3 hF3
  go_wp2_with fail
  go_at_call 47
  refine Calls.mono (fpush_full D R 0 2 0 2 _ 0 _ 3 0 0 none 0 0 _ HQ3.out (by omega) 0 0 (fun _ => 0) (by_nil _) (by omega) (by omega)) ?_
  rintro e W4 ⟨rfl, hq4, hF4⟩
  have HQ4 := Lib.hid hq4
  have HF4 := Lib.hid hF4
  clear hq4 hF4
  go_wp2_with fail
  go_at_call 43
  refine Calls.mono (fpop_any D R 0 2 0 2 _ _ _ _ HQ4.out (by omega) (by omega)) ?_
  rintro e W5 ⟨a5, c5, b5, rfl, hby5, hfr5, hq5, hF5⟩
  have HQ5 := Lib.hid hq5
  have HF5 := Lib.hid hF5
  have hc0 : (putE (putE (fun _ => nilP) 0 ⟨1, 0, 0, a1, 0, c1, b1, 0, fun _ => 0⟩) 1 ⟨2, 0, 0, a2, 1, c2, b2, 0, fun _ => 120⟩ 0) = ⟨1, 0, 0, a1, 0, c1, b1, 0, fun _ => 0⟩ := rfl
  have hb : ∀ x ∈ [D, R], w.heap.size ≤ x := by have := HD.out; have := HR.out; simp; omega
  have HC2 := Lib.hid (HB1.out.trans (HF2.out.below HB1.out.size hb))
  have HC2b := Lib.hid (HC2.out.trans (HB2.out.mono HC2.out.size))
  have HC3 := Lib.hid (HC2b.out.trans (HF3.out.below HC2b.out.size hb))
  have HC4 := Lib.hid (HC3.out.trans (HF4.out.below HC3.out.size hb))
  have HC5 := Lib.hid (HC4.out.trans (HF5.out.below HC4.out.size hb))
  clear hq5 hF5 hby5 hfr5 hb
  go_wp2_with fail
  obtain ⟨W6, hW6⟩ : ∃ W6, W6 = W5.alloc (.cells #[.int .i64 1, .int .i64 0, .int .i64 0, .slice a5 0 c5] 57) := ⟨_, rfl⟩
  have hB6 : Below W5.heap.size W5 W6 := by rw [hW6]; exact (Below.refl _ _).alloc (Nat.le_refl _) _
  have hQ6 : ∃ E, QIn W6 D R 0 2 1 1 9 1 E := ⟨_, HQ5.out.below hB6⟩
  obtain ⟨E, hQ6⟩ := hQ6
  have HQ6 := Lib.hid hQ6
  have HC6 := Lib.hid (HC5.out.trans (hB6.mono HC5.out.size))
  have h60 : W6.cell? ⟨W5.heap.size, 0, none⟩ = some (.int .i64 1) := by rw [hW6]; exact cell_at (heap_alloc_new _ _) 0
  rw [← hW6]
  clear hQ6 hB6 hW6
  go_at_call 38
  refine (flen_any _ _ _ _ _ _ _ _ _ _ HQ6.out).mono ?_
  rintro e W ⟨rfl, rfl⟩
  go_wp2_with (first
    | (go_at_call 39; refine (fbytes_any _ _ _ _ _ _ _ _ _ _ HQ6.out).mono ?_; rintro e W ⟨rfl, rfl⟩)
    | (go_at_call 41; refine (fdrops_any _ _ _ _ _ _ _ _ _ _ HQ6.out).mono ?_; rintro e W ⟨rfl, rfl⟩))
  go_ret
  exact ⟨rfl, HC6.out⟩
end Go.Proofs.Ytninhjeiialbjaa
