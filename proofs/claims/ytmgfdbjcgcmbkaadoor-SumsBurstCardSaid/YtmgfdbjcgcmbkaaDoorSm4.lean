/-
  Package sums and the document's answer: a sum as a signed number, and as bytes; what the document says of 123456789.
-/
import Derived.Test.YtmgfdbjcgcmbkaaDoorSm3
import Derived.Stop.BytesEq
import Derived.Laws.Rows
namespace Go.Proofs.YtmgfdbjcgcmbkaaDoor
open Go.RowKit
set_option linter.unusedSimpArgs false
set_option linter.unusedVariables false

theorem sum_any (a : Option Addr) (len cap b o : Nat) (X : Nat → Nat) (w : World) (ht : Tab w) (hb : ByIn w a len cap b o X) :
    Calls Tryd.prog 8 #[.slice a len cap] w fun e w' => e = .returned (.int .u32 (moreN 0 X len : Nat)) ∧ w = w' := by
  have C1 : Hid (Calls Tryd.prog 10 #[.int .u32 0, .slice a len cap] w fun e w' => e = .returned (.int .u32 (moreN 0 X len : Nat)) ∧ w = w') := Lib.hid (more_any 0 (by omega) a len cap b o X w ht hb)
  obtain ⟨M, hM⟩ : ∃ M, M = moreN 0 X len := ⟨_, rfl⟩
  rw [← hM] at C1 ⊢
  clear hM ht hb
  go_enter Tryd.func8, Tryd.ntmps8
  go_wp2_with (go_at_call 10; refine C1.out.mono ?_; rintro e w' ⟨rfl, rfl⟩)
  go_ret
  exact ⟨rfl, rfl⟩
theorem rsum_any (a : Option Addr) (len cap b o : Nat) (X : Nat → Nat) (w : World) (hb : ByIn w a len cap b o X) :
    Calls Tryd.prog 9 #[.slice a len cap] w fun e w' => e = .returned (.int .u32 (moreN 0 X len : Nat)) ∧ w = w' := by
  have C1 : Hid (Calls Tryd.prog 11 #[.int .u32 0, .slice a len cap] w fun e w' => e = .returned (.int .u32 (moreN 0 X len : Nat)) ∧ w = w') := Lib.hid (rmore_any 0 (by omega) a len cap b o X w hb)
  obtain ⟨M, hM⟩ : ∃ M, M = moreN 0 X len := ⟨_, rfl⟩
  rw [← hM] at C1 ⊢
  clear hM hb
  go_enter Tryd.func9, Tryd.ntmps9
  go_wp2_with (go_at_call 11; refine C1.out.mono ?_; rintro e w' ⟨rfl, rfl⟩)
  go_ret
  exact ⟨rfl, rfl⟩
theorem signed_any (a : Option Addr) (len cap b o : Nat) (X : Nat → Nat) (w : World) (ht : Tab w) (hb : ByIn w a len cap b o X) :
    Calls Tryd.prog 12 #[.slice a len cap] w fun e w' => e = .returned (.int .i32 (wrap32 (moreN 0 X len : Nat))) ∧ w = w' := by
  have C1 : Hid (Calls Tryd.prog 8 #[.slice a len cap] w fun e w' => e = .returned (.int .u32 (moreN 0 X len : Nat)) ∧ w = w') := Lib.hid (sum_any a len cap b o X w ht hb)
  obtain ⟨M, hM⟩ : ∃ M, M = moreN 0 X len := ⟨_, rfl⟩
  rw [← hM] at C1 ⊢
  clear hM ht hb
  go_enter Tryd.func12, Tryd.ntmps12
  go_wp2_with (go_at_call 8; refine C1.out.mono ?_; rintro e w' ⟨rfl, rfl⟩)
  go_ret
  exact ⟨rfl, rfl⟩
theorem rsigned_any (a : Option Addr) (len cap b o : Nat) (X : Nat → Nat) (w : World) (hb : ByIn w a len cap b o X) :
    Calls Tryd.prog 13 #[.slice a len cap] w fun e w' => e = .returned (.int .i32 (wrap32 (moreN 0 X len : Nat))) ∧ w = w' := by
  have C1 : Hid (Calls Tryd.prog 9 #[.slice a len cap] w fun e w' => e = .returned (.int .u32 (moreN 0 X len : Nat)) ∧ w = w') := Lib.hid (rsum_any a len cap b o X w hb)
  obtain ⟨M, hM⟩ : ∃ M, M = moreN 0 X len := ⟨_, rfl⟩
  rw [← hM] at C1 ⊢
  clear hM hb
  go_enter Tryd.func13, Tryd.ntmps13
  go_wp2_with (go_at_call 9; refine C1.out.mono ?_; rintro e w' ⟨rfl, rfl⟩)
  go_ret
  exact ⟨rfl, rfl⟩
def bytesV (x : Int) : Value := .agg #[.int .u8 (x / 16777216), .int .u8 (x / 65536 % 256), .int .u8 (x / 256 % 256), .int .u8 (x % 256)]
theorem bytes_any (x : Int) (h0 : 0 ≤ x) (h1 : x < 4294967296) (w : World) :
    Calls Tryd.prog 14 #[.int .u32 x] w fun e w' => e = .returned (bytesV x) ∧ Below w.heap.size w w' := by
  go_enter Tryd.func14, Tryd.ntmps14
  go_wp2_with fail
  exact bodyPost_ret (v := bytesV x) (results_cell_row rfl _ _ w.heap.size _ _ (0, 0) (.array 4 5) rfl (heap_alloc_new w _) Tryd.underlying29 rfl (by kernel_rfl)) rfl ⟨rfl, (Below.refl _ _).alloc (Nat.le_refl _) _⟩
theorem rbytes_any (x : Int) (h0 : 0 ≤ x) (h1 : x < 4294967296) (w : World) :
    Calls Tryd.prog 15 #[.int .u32 x] w fun e w' => e = .returned (bytesV x) ∧ Below w.heap.size w w' := by
  go_enter Tryd.func15, Tryd.ntmps15
  go_wp2_with fail
  exact bodyPost_ret (v := bytesV x) (results_cell_row rfl _ _ w.heap.size _ _ (0, 0) (.array 4 5) rfl (heap_alloc_new w _) Tryd.underlying29 rfl (by kernel_rfl)) rfl ⟨rfl, (Below.refl _ _).alloc (Nat.le_refl _) _⟩
end Go.Proofs.YtmgfdbjcgcmbkaaDoor
