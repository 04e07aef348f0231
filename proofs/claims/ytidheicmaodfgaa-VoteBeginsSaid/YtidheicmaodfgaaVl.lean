/-
  Two messages that are the same: those that an ask is answered.
-/
import Derived.Test.YtidheicmaodfgaaVg
namespace Go.Proofs.Ytidheicmaodfgaa
open Go.RowKit

theorem str_nil (w : World) : (convert 36 9 (.slice none 0 0)).run Try.prog w = .ok (.string ByteArray.empty) w := by
  rw [run_convert_bytes_string w 36 9 5 none _ 0 Try.underlying36 Try.underlying5 Try.underlying9]
  rfl
set_option maxHeartbeats 1000000 in
theorem sameEnts_nil (w : World) : Calls Try.prog 40 #[.slice none 0 0, .slice none 0 0] w fun e w' => e = .returned (.bool true) ∧ w = w' := by
  go_enter Try.func40, Try.ntmps40
  go_wp2_with fail
  go_loop [5] (fun i => i = .int .i64 0) (fun _ => 0)
  case atStart => rfl
  case round =>
    subst hrel
    go_wp2_with fail
    go_ret
    exact ⟨rfl, rfl⟩
set_option maxRecDepth 100000 in
set_option maxHeartbeats 2000000 in
theorem sameSnap_nil (w : World) : Calls Try.prog 41 #[.agg #[.int .i64 0, .int .i64 0, .int .u8 0, .slice none 0 0], .agg #[.int .i64 0, .int .i64 0, .int .u8 0, .slice none 0 0]] w fun e w' => e = .returned (.bool true) ∧ (w.alloc (.cells #[.int .i64 0, .int .i64 0, .int .u8 0, .slice none 0 0] 38)).alloc (.cells #[.int .i64 0, .int .i64 0, .int .u8 0, .slice none 0 0] 38) = w' := by
  have s1 := fun w => str_nil w
  go_enter Try.func41, Try.ntmps41
  go_wp2_with fail
  go_ret
  exact ⟨rfl, rfl⟩
set_option maxRecDepth 100000 in
set_option maxHeartbeats 4000000 in
theorem same_tell (k f tt t : Int) (ok : Bool) (w : World) : Calls Try.prog 17 #[.agg #[.int .i8 k, .int .i64 f, .int .i64 tt, .int .i64 t, .int .i64 0, .int .i64 0, .int .i64 0, .bool ok, .slice none 0 0, .int .i64 0, .int .i64 0, .int .u8 0, .slice none 0 0, .slice none 0 0], .agg #[.int .i8 k, .int .i64 f, .int .i64 tt, .int .i64 t, .int .i64 0, .int .i64 0, .int .i64 0, .bool ok, .slice none 0 0, .int .i64 0, .int .i64 0, .int .u8 0, .slice none 0 0, .slice none 0 0]] w fun e w' => e = .returned (.bool true) ∧ Below w.heap.size w w' := by
  have s1 := fun w => str_nil w
  go_enter Try.func17, Try.ntmps17
  go_wp2_with (first
    | (go_at_call 40; refine (sameEnts_nil _).mono ?_; rintro e w' ⟨rfl, rfl⟩)
    | (go_at_call 41; refine (sameSnap_nil _).mono ?_; rintro e w' ⟨rfl, rfl⟩))
  go_ret
  refine ⟨rfl, ?_⟩
  exact ((((Below.refl _ _).alloc (Nat.le_refl _) _).alloc (by simp) _).alloc (by simp; omega) _).alloc (by simp; omega) _
end Go.Proofs.Ytidheicmaodfgaa
