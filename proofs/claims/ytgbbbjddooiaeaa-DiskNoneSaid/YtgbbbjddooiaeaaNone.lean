/-
  DiskNone: no disk does nothing.
-/
import Derived.Test.YtgbbbjddooiaeaaNil
import Derived.ProofKit
namespace Go.Proofs.Ytgbbbjddooiaeaa
open Go.RowKit

set_option maxHeartbeats 2000000 in
set_option maxRecDepth 100000 in
theorem does_nil (k : Nat) (hk : k ≤ 8) (s : ByteArray) (hs : s.size ≤ maxLen) (n : Int) (w : World) :
    Calls Try.prog 14 #[.pointer none, .agg #[.int .i64 (k : Nat), .string s, .string s, .slice none 0 0, .int .i64 n, .slice none 0 0]] w fun r w' => r = .returned (.int .i64 1) ∧ Below w.heap.size w w' := by
  rcases (show k = 0 ∨ k = 1 ∨ k = 2 ∨ k = 3 ∨ k = 4 ∨ k = 5 ∨ k = 6 ∨ k = 7 ∨ k = 8 by omega) with rfl | rfl | rfl | rfl | rfl | rfl | rfl | rfl | rfl
  all_goals
    go_enter Try.func14, Try.ntmps14
    go_wp2_with (first
      | (go_at_call 23; refine (make_nil _ _ hs).mono ?_; rintro e w1 ⟨rfl, hB⟩)
      | (go_at_call 26; refine (append_nil _ 0 _ _ _ (by omega)).mono ?_; rintro e w1 ⟨rfl, hB⟩)
      | (go_at_call 27; refine (sync_nil _ _).mono ?_; rintro e w1 ⟨rfl, hB⟩)
      | (go_at_call 32; refine (cut_nil _ _ _).mono ?_; rintro e w1 ⟨rfl, hB⟩)
      | (go_at_call 33; refine (remove_nil _ _).mono ?_; rintro e w1 ⟨rfl, hB⟩)
      | (go_at_call 28; refine (rename_nil _ _ _ hs).mono ?_; rintro e w1 ⟨rfl, hB⟩)
      | (go_at_call 22; refine (crash_nil _ _).mono ?_; rintro e w1 ⟨rfl, hB⟩)
      | (go_at_call 17; refine (open_nil _).mono ?_; rintro e w1 ⟨rfl, hB⟩)
      | (go_at_call 24; refine (arm_nil _ _ _).mono ?_; rintro e w1 ⟨rfl, hB⟩))
    go_ret
    exact ⟨rfl, ((Below.refl _ _).alloc (Nat.le_refl _) _).trans (hB.mono (by simp))⟩

set_option maxHeartbeats 4000000 in
set_option maxRecDepth 100000 in
theorem none_walk (s : ByteArray) (hs : s.size ≤ maxLen) (n : Int) (w : World) :
    Calls Try.prog 8 #[.string s, .int .i64 n] w fun r w' => r = .returned (.bool true) ∧ Below w.heap.size w w' := by
  go_enter Try.func8, Try.ntmps8
  go_wp2_with fail
  go_loopw [6] (fun i wr => ∃ k : Nat, k ≤ 9 ∧ i = .int .i64 k ∧ Below w.heap.size w wr) (fun i _ => 9 - (intOf i).toNat)
  case atStart => exact ⟨0, by omega, rfl, Below.refl _ _⟩
  case round =>
    obtain ⟨k, hk, rfl, hB⟩ := hrel
    by_cases hlt : k ≤ 8
    · go_wp2_with (go_at_call 14; refine (does_nil k hlt s hs n _).mono ?_; rintro e w1 ⟨rfl, hB1⟩)
      go_roundw
      case rel => exact ⟨k + 1, by omega, by go_num, hB.trans (hB1.mono hB.size)⟩
      case measure => simp [intOf]; omega
    · go_wp2_with (first
        | (go_at_call 19; refine (read_nil _ _).mono ?_; rintro e w1 ⟨rfl, hB1⟩)
        | (go_at_call 20; refine (sure_nil _ _).mono ?_; rintro e w2 ⟨rfl, hB2⟩)
        | (go_at_call 18; refine (names_nil _).mono ?_; rintro e w3 ⟨rfl, hB3⟩)
        | (go_at_call 12; refine (copy_nil _).mono ?_; rintro e w4 ⟨rfl, hB4⟩)
        | (go_at_call 10; refine (wakes_any _).mono ?_; rintro e w5 ⟨rfl, hB5⟩))
      go_ret
      have h1 := hB.trans (hB1.mono hB.size)
      have h2 := h1.trans (hB2.mono h1.size)
      have h3 := h2.trans (hB3.mono h2.size)
      have h4 := h3.trans (hB4.mono h3.size)
      exact ⟨rfl, h4.trans (hB5.mono h4.size)⟩

end Go.Proofs.Ytgbbbjddooiaeaa
