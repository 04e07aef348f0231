/-
  The laws SumsTell and SumsSigned, walked.
-/
import Derived.Test.YtmgfdbjcgcmbkaaDoorSm4
import Derived.Lib.SlBytesConst
namespace Go.Proofs.YtmgfdbjcgcmbkaaDoor
open Go.RowKit
set_option linter.unusedSimpArgs false
set_option linter.unusedVariables false

theorem eq4_any (p q r s : Int) (hp : 0 ≤ p ∧ p < 256) (hq : 0 ≤ q ∧ q < 256) (hr : 0 ≤ r ∧ r < 256) (hs : 0 ≤ s ∧ s < 256) (w : World) :
    (binOp .eql 29 (.agg #[.int .u8 p, .int .u8 q, .int .u8 r, .int .u8 s]) (.agg #[.int .u8 p, .int .u8 q, .int .u8 r, .int .u8 s])).run Tryd.prog w = .ok (.bool true) w := by
  have h := run_eql_bytes (P := Tryd.prog) w 29 5 4 Tryd.underlying29 Tryd.underlying5 (fun _ => by kernel_rfl) [UInt8.ofNat p.toNat, UInt8.ofNat q.toNat, UInt8.ofNat r.toNat, UInt8.ofNat s.toNat] [UInt8.ofNat p.toNat, UInt8.ofNat q.toNat, UInt8.ofNat r.toNat, UInt8.ofNat s.toNat] rfl rfl
  have e : ∀ x : Int, 0 ≤ x ∧ x < 256 → Extern.Stop.cell (UInt8.ofNat x.toNat) = .int .u8 x := fun x hx => by
    unfold Extern.Stop.cell
    congr 1
    simp
    omega
  simp only [List.map_cons, List.map_nil, e p hp, e q hq, e r hr, e s hs, beq_self_eq_true] at h
  exact h
def wakeX (j : Nat) : Nat := [49, 50, 51, 52, 53, 54, 55, 56, 57].getD j 0
theorem wakeX_sum : moreN 0 wakeX 9 = 3421780262 := by
  unfold moreN cpl
  rw [ones_is]
  decide +kernel
theorem nil_sum (X : Nat → Nat) : moreN 0 X 0 = 0 := by
  show cpl (cpl 0) = 0
  exact cpl_cpl 0
theorem wakeX_in (w : World) : ByIn (w.alloc (.cells #[.int .u8 49, .int .u8 50, .int .u8 51, .int .u8 52, .int .u8 53, .int .u8 54, .int .u8 55, .int .u8 56, .int .u8 57] 5 (9, 10))) (some ⟨w.heap.size, 0, none⟩) 9 9 w.heap.size 0 wakeX := by
  have h1 := heap_alloc_new w (.cells #[.int .u8 49, .int .u8 50, .int .u8 51, .int .u8 52, .int .u8 53, .int .u8 54, .int .u8 55, .int .u8 56, .int .u8 57] 5 (9, 10))
  refine ⟨by omega, by unfold maxLen; omega, fun _ => ⟨rfl, by simp⟩, fun k hk => ?_, fun k => ?_⟩
  · rw [Nat.zero_add]
    have h2 := cell_of_row _ _ k _ _ _ h1
    rw [h2]
    rcases (show k = 0 ∨ k = 1 ∨ k = 2 ∨ k = 3 ∨ k = 4 ∨ k = 5 ∨ k = 6 ∨ k = 7 ∨ k = 8 by omega) with rfl | rfl | rfl | rfl | rfl | rfl | rfl | rfl | rfl <;> rfl
  · unfold wakeX
    by_cases hk : k < 9
    · rcases (show k = 0 ∨ k = 1 ∨ k = 2 ∨ k = 3 ∨ k = 4 ∨ k = 5 ∨ k = 6 ∨ k = 7 ∨ k = 8 by omega) with rfl | rfl | rfl | rfl | rfl | rfl | rfl | rfl | rfl <;> decide
    · rw [List.getD, List.getElem?_eq_none (by simp; omega)]; decide

set_option maxRecDepth 100000 in
set_option maxHeartbeats 4000000 in
theorem mwakes_any (w : World) (ht : Tab w) : Calls Tryd.prog 7 #[] w fun e w' => e = .returned (.bool true) ∧ Below w.heap.size w w' := by
  have hx := wakeX_in w
  have hB : Below w.heap.size w (w.alloc (.cells #[.int .u8 49, .int .u8 50, .int .u8 51, .int .u8 52, .int .u8 53, .int .u8 54, .int .u8 55, .int .u8 56, .int .u8 57] 5 (9, 10))) := (Below.refl _ _).alloc (Nat.le_refl _) _
  have ht2 := ht.below hB
  have S1 := sum_any _ 9 9 w.heap.size 0 wakeX _ ht2 hx
  have S2 := signed_any _ 9 9 w.heap.size 0 wakeX _ ht2 hx
  rw [wakeX_sum] at S1 S2
  rw [show wrap32 ((3421780262 : Nat) : Int) = -873187034 by simp only [wrap32, IntKind.wrap_i32]; omega] at S2
  have S3 := fun W (h : Tab W) => sum_any none 0 0 0 0 wakeX W h ⟨by omega, by unfold maxLen; omega, fun h => by omega, fun k h => by omega, wakeX_in w |>.bd⟩
  rw [nil_sum] at S3
  have HB := Lib.hid hB
  have HT := Lib.hid ht2
  have HS1 := Lib.hid S1
  have HS2 := Lib.hid S2
  have HS3 := Lib.hid S3
  have kc := fun (w : World) (C : Array Value) (n c : Nat) => Lib.run_convert_bytes_const (P := Tryd.prog) w 22 5 C n c Tryd.underlying22 Tryd.underlying5
  have q1 := fun W => eq4_any 203 244 57 38 (by omega) (by omega) (by omega) (by omega) W
  clear hx hB ht2 S1 S2 S3 ht
  go_enter Tryd.func7, Tryd.ntmps7
  go_wp2_with fail
  go_at_call 8
  refine HS1.out.mono ?_
  rintro e w' ⟨rfl, rfl⟩
  go_wp2_with fail
  go_at_call 12
  refine HS2.out.mono ?_
  rintro e w' ⟨rfl, rfl⟩
  go_wp2_with fail
  go_at_call 14
  refine (bytes_any 3421780262 (by omega) (by omega) _).mono ?_
  rintro e W2 ⟨rfl, hW2⟩
  have HW2 := Lib.hid hW2
  have HT2 := Lib.hid (HT.out.below hW2)
  clear hW2
  rw [show bytesV 3421780262 = .agg #[.int .u8 203, .int .u8 244, .int .u8 57, .int .u8 38] by unfold bytesV; rfl]
  go_wp2_with fail
  go_at_call 8
  refine (HS3.out _ HT2.out).mono ?_
  rintro e w' ⟨rfl, rfl⟩
  go_wp2_with fail
  go_ret
  exact ⟨rfl, HB.out.trans (HW2.out.mono (by simp))⟩

set_option maxRecDepth 100000 in
set_option maxHeartbeats 4000000 in
theorem sumsTell_any (s : Int) (h0 : 0 ≤ s) (h1 : s ≤ 4294967295) (a : Option Addr) (len cap b o : Nat) (X : Nat → Nat) (w : World) (ht : Tab w) (hb : ByIn w a len cap b o X) :
    Calls Tryd.prog 3 #[.slice a len cap, .int .u32 s] w fun e w' => e = .returned (.bool true) ∧ Below w.heap.size w w' := by
  obtain ⟨n, rfl⟩ := Int.eq_ofNat_of_zero_le h0
  have hl := hb.le
  have hm := hb.max
  unfold maxLen at hm
  have HT := Lib.hid ht
  obtain ⟨M, hM⟩ : ∃ M, M = moreN 0 X len := ⟨_, rfl⟩
  obtain ⟨R, hR⟩ : ∃ R, R = moreN n X len := ⟨_, rfl⟩
  have C1 : Hid (Calls Tryd.prog 8 #[.slice a len cap] w fun e w' => e = .returned (.int .u32 (M : Nat)) ∧ w = w') := Lib.hid (by rw [hM]; exact sum_any a len cap b o X w ht hb)
  have C2 : Hid (Calls Tryd.prog 9 #[.slice a len cap] w fun e w' => e = .returned (.int .u32 (M : Nat)) ∧ w = w') := Lib.hid (by rw [hM]; exact rsum_any a len cap b o X w hb)
  have C3 : Hid (Calls Tryd.prog 10 #[.int .u32 (n : Nat), .slice a len cap] w fun e w' => e = .returned (.int .u32 (R : Nat)) ∧ w = w') := Lib.hid (by rw [hR]; exact more_any n (by omega) a len cap b o X w ht hb)
  have C4 : Hid (Calls Tryd.prog 11 #[.int .u32 (n : Nat), .slice a len cap] w fun e w' => e = .returned (.int .u32 (R : Nat)) ∧ w = w') := Lib.hid (by rw [hR]; exact rmore_any n (by omega) a len cap b o X w hb)
  clear ht hb hM hR
  by_cases hbig : 20000 < len
  · go_enter Tryd.func3, Tryd.ntmps3
    go_wp2_with (go_at_call 7; refine (mwakes_any _ HT.out).mono ?_; rintro e WK ⟨rfl, hWK⟩)
    go_ret
    exact ⟨rfl, hWK⟩
  · go_enter Tryd.func3, Tryd.ntmps3
    go_wp2_with (first
      | (go_at_call 8; refine C1.out.mono ?_; rintro e w' ⟨rfl, rfl⟩)
      | (go_at_call 9; refine C2.out.mono ?_; rintro e w' ⟨rfl, rfl⟩)
      | (go_at_call 10; refine C3.out.mono ?_; rintro e w' ⟨rfl, rfl⟩)
      | (go_at_call 11; refine C4.out.mono ?_; rintro e w' ⟨rfl, rfl⟩)
      | (go_at_call 7; refine (mwakes_any _ HT.out).mono ?_; rintro e WK ⟨rfl, hWK⟩))
    go_ret
    exact ⟨rfl, hWK⟩

set_option maxRecDepth 100000 in
set_option maxHeartbeats 4000000 in
theorem sumsSigned_any (s : Int) (h0 : 0 ≤ s) (h1 : s ≤ 4294967295) (a : Option Addr) (len cap b o : Nat) (X : Nat → Nat) (w : World) (ht : Tab w) (hb : ByIn w a len cap b o X) :
    Calls Tryd.prog 4 #[.slice a len cap, .int .u32 s] w fun e w' => e = .returned (.bool true) ∧ Below w.heap.size w w' := by
  have hl := hb.le
  have hm := hb.max
  unfold maxLen at hm
  have HT := Lib.hid ht
  obtain ⟨G, hG⟩ : ∃ G, G = wrap32 (moreN 0 X len : Nat) := ⟨_, rfl⟩
  have C1 : Hid (Calls Tryd.prog 12 #[.slice a len cap] w fun e w' => e = .returned (.int .i32 G) ∧ w = w') := Lib.hid (by rw [hG]; exact signed_any a len cap b o X w ht hb)
  have C2 : Hid (Calls Tryd.prog 13 #[.slice a len cap] w fun e w' => e = .returned (.int .i32 G) ∧ w = w') := Lib.hid (by rw [hG]; exact rsigned_any a len cap b o X w hb)
  have C3 : Hid (∀ W, Calls Tryd.prog 14 #[.int .u32 s] W fun e w' => e = .returned (bytesV s) ∧ Below W.heap.size W w') := Lib.hid (fun W => bytes_any s h0 (by omega) W)
  have C4 : Hid (∀ W, Calls Tryd.prog 15 #[.int .u32 s] W fun e w' => e = .returned (bytesV s) ∧ Below W.heap.size W w') := Lib.hid (fun W => rbytes_any s h0 (by omega) W)
  have q1 : ∀ w, (binOp .eql 29 (bytesV s) (bytesV s)).run Tryd.prog w = .ok (.bool true) w := fun W => eq4_any _ _ _ _ (by omega) (by omega) (by omega) (by omega) W
  unfold bytesV at C3 C4 q1
  obtain ⟨p1, hp1⟩ : ∃ p, p = s / 16777216 := ⟨_, rfl⟩
  obtain ⟨p2, hp2⟩ : ∃ p, p = s / 65536 % 256 := ⟨_, rfl⟩
  obtain ⟨p3, hp3⟩ : ∃ p, p = s / 256 % 256 := ⟨_, rfl⟩
  obtain ⟨p4, hp4⟩ : ∃ p, p = s % 256 := ⟨_, rfl⟩
  rw [← hp1, ← hp2, ← hp3, ← hp4] at C3 C4
  rw [← hp1, ← hp2, ← hp3, ← hp4] at q1
  clear ht hb hG hp1 hp2 hp3 hp4
  by_cases hbig : 20000 < len
  · go_enter Tryd.func4, Tryd.ntmps4
    go_wp2_with (go_at_call 7; refine (mwakes_any _ HT.out).mono ?_; rintro e WK ⟨rfl, hWK⟩)
    go_ret
    exact ⟨rfl, hWK⟩
  · go_enter Tryd.func4, Tryd.ntmps4
    go_wp2_with (first
      | (go_at_call 12; refine C1.out.mono ?_; rintro e w' ⟨rfl, rfl⟩)
      | (go_at_call 13; refine C2.out.mono ?_; rintro e w' ⟨rfl, rfl⟩)
      | (go_at_call 14; refine (C3.out _).mono ?_; rintro e W1 ⟨rfl, hW1⟩; have HW1 := Lib.hid hW1; have HT1 := Lib.hid (HT.out.below hW1); clear hW1)
      | (go_at_call 15; refine (C4.out _).mono ?_; rintro e W2 ⟨rfl, hW2⟩; have HW2 := Lib.hid hW2; have HT2 := Lib.hid (HT1.out.below hW2); clear hW2)
      | (go_at_call 7; refine (mwakes_any _ HT2.out).mono ?_; rintro e WK ⟨rfl, hWK⟩))
    go_ret
    exact ⟨rfl, HW1.out.trans ((HW2.out.mono HW1.out.size).trans (hWK.mono (by have := HW1.out.size; have := HW2.out.size; omega)))⟩
end Go.Proofs.YtmgfdbjcgcmbkaaDoor
