/-
  Package sums and the document's answer: a sum as a signed number, and as bytes; what the document says of 123456789.
-/
import Derived.Test.YtiednacpmlilbaaDoorSm3
import Derived.Stop.BytesEq
import Derived.Laws.Rows
namespace Go.Proofs.YtiednacpmlilbaaDoor
open Go.RowKit
set_option linter.unusedSimpArgs false
set_option linter.unusedVariables false

theorem sum_any (a : Option Addr) (len cap b o : Nat) (X : Nat → Nat) (w : World) (ht : Tab w) (hb : SyIn w a len cap b o X) :
    Calls Tryd.prog 73 #[.slice a len cap] w fun e w' => e = .returned (.int .u32 (moreN 0 X len : Nat)) ∧ w = w' := by
  have C1 : Hid (Calls Tryd.prog 109 #[.int .u32 0, .slice a len cap] w fun e w' => e = .returned (.int .u32 (moreN 0 X len : Nat)) ∧ w = w') := Lib.hid (more_any 0 (by omega) a len cap b o X w ht hb)
  obtain ⟨M, hM⟩ : ∃ M, M = moreN 0 X len := ⟨_, rfl⟩
  rw [← hM] at C1 ⊢
  clear hM ht hb
  go_enter Tryd.func73, Tryd.ntmps73
  go_wp2_with (go_at_call 109; refine C1.out.mono ?_; rintro e w' ⟨rfl, rfl⟩)
  go_ret
  exact ⟨rfl, rfl⟩
theorem rsum_any (a : Option Addr) (len cap b o : Nat) (X : Nat → Nat) (w : World) (hb : SyIn w a len cap b o X) :
    Calls Tryd.prog 76 #[.slice a len cap] w fun e w' => e = .returned (.int .u32 (moreN 0 X len : Nat)) ∧ w = w' := by
  have C1 : Hid (Calls Tryd.prog 111 #[.int .u32 0, .slice a len cap] w fun e w' => e = .returned (.int .u32 (moreN 0 X len : Nat)) ∧ w = w') := Lib.hid (rmore_any 0 (by omega) a len cap b o X w hb)
  obtain ⟨M, hM⟩ : ∃ M, M = moreN 0 X len := ⟨_, rfl⟩
  rw [← hM] at C1 ⊢
  clear hM hb
  go_enter Tryd.func76, Tryd.ntmps76
  go_wp2_with (go_at_call 111; refine C1.out.mono ?_; rintro e w' ⟨rfl, rfl⟩)
  go_ret
  exact ⟨rfl, rfl⟩
def bytesV (x : Int) : Value := .agg #[.int .u8 (x / 16777216), .int .u8 (x / 65536 % 256), .int .u8 (x / 256 % 256), .int .u8 (x % 256)]
theorem bytes_any (x : Int) (h0 : 0 ≤ x) (h1 : x < 4294967296) (w : World) :
    Calls Tryd.prog 72 #[.int .u32 x] w fun e w' => e = .returned (bytesV x) ∧ Below w.heap.size w w' := by
  go_enter Tryd.func72, Tryd.ntmps72
  go_wp2_with fail
  exact bodyPost_ret (v := bytesV x) (results_cell_row rfl _ _ w.heap.size _ _ (0, 0) (.array 4 5) rfl (heap_alloc_new w _) Tryd.underlying135 rfl (by kernel_rfl)) rfl ⟨rfl, (Below.refl _ _).alloc (Nat.le_refl _) _⟩
end Go.Proofs.YtiednacpmlilbaaDoor
