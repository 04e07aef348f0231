/-
  DiskFull's walk.
-/
import Derived.Test.YtgbbbjddooiaeaaFullA
namespace Go.Proofs.Ytgbbbjddooiaeaa
open Go.RowKit

theorem full_num (n : Int) : ∃ m : Nat, (wrap64 (n.tmod 1048576 + 1048576)).tmod 1048576 = (m : Int) ∧ m < 1048576 := by
  have h1 := Int.tmod_lt_of_pos n (show (0 : Int) < 1048576 by decide)
  have h2 := Int.lt_tmod_of_pos n (show (0 : Int) < 1048576 by decide)
  have h3 : wrap64 (n.tmod 1048576 + 1048576) = n.tmod 1048576 + 1048576 := by unfold wrap64; omega
  rw [h3, Int.tmod_eq_emod_of_nonneg (by omega)]
  exact ⟨((n.tmod 1048576 + 1048576) % 1048576).toNat, by omega, by omega⟩

set_option maxHeartbeats 4000000 in
set_option maxRecDepth 100000 in
theorem full_walk (n : Int) (w : World) :
    Calls Try.prog 7 #[.int .i64 n] w fun r w' => r = .returned (.bool true) ∧ Below w.heap.size w w' := by
  go_enter Try.func7, Try.ntmps7
  go_wp2_with (go_at_call 11; refine (One.make (w := _)).mono ?_; rintro e w1 ⟨rfl, T⟩)
  obtain ⟨m, hm, hm1⟩ := full_num n
  rw [hm]
  clear hm
  obtain ⟨D, hD⟩ : ∃ D, D = w.heap.size := ⟨_, rfl⟩
  rw [← hD] at T ⊢
  clear hD
  go_loopw [4] (fun i wr => ∃ k : Nat, k ≤ 64 ∧ i = .int .i64 k ∧ ∃ l, One w wr D l (fullD k)) (fun i _ => 64 - (intOf i).toNat)
  case atStart => exact ⟨0, by omega, rfl, _, T⟩
  case round =>
    obtain ⟨k, hk, rfl, l, T⟩ := hrel
    by_cases hlt : k < 64
    · have hcv := byte_string wr k hlt
      have T1 := T.quiet ((Below.refl wr.heap.size wr).alloc (Nat.le_refl _) (.cells #[.int .u8 (65 + (k : Int))] 5))
      go_wp2_with (go_at_call 23; refine Calls.mono (make_O T1 (nmF k) (by simp [nmF, ByteArray.size]; unfold maxLen; omega) (full_make k hlt)) ?_; rintro e w2 ⟨rfl, l2, T2⟩)
      clear T T1 hcv
      go_roundw
      case rel => exact ⟨k + 1, by omega, by go_num, _, T2⟩
      case measure => simp [intOf]; omega
    · obtain rfl : k = 64 := by omega
      rw [full64] at T
      clear hk hlt
      go_wp2_with fail
      refine Calls.mono (make_O T sLong (by decide) full_long) ?_
      clear T
      rintro e w2 ⟨rfl, l2, T⟩
      go_wp2_with fail
      refine Calls.mono (make_O T sCapA (by decide) full_twice) ?_
      clear T
      rintro e w3 ⟨rfl, l3, T⟩
      obtain ⟨w4, hmk, hB, hlt, hz⟩ := make_zeros w3 m (by omega)
      have T1 := T.quiet hB
      have hout : w3.heap.size ∉ l3 := fun hm => by have := T.one.lt _ hm; omega
      go_wp2_with fail
      refine Calls.mono (append_O T1 sCapA w3.heap.size 0 m m _ (zeros m) (zeros_len m).symm (by rw [zeros_len]; omega) (by rw [zeros_len]; omega) (fun _ => ⟨rfl, hlt, hout⟩) hz (full_app [] (zeros m) (by simp [zeros_len]; omega))) ?_
      rw [List.nil_append]
      clear T T1 hmk hB hlt hz hout
      rintro e w5 ⟨rfl, l5, T⟩
      obtain ⟨w6, hmk, hB, hlt, hz⟩ := make_zeros w5 (1048577 - m) (by omega)
      rw [show ((1048577 - m : Nat) : Int) = 1048576 - (m : Int) + 1 by omega] at hmk
      have T1 := T.quiet hB
      have hout : w5.heap.size ∉ l5 := fun hm => by have := T.one.lt _ hm; omega
      go_wp2_with fail
      refine Calls.mono (append_O T1 sCapA w5.heap.size 0 (1048577 - m) (1048577 - m) _ (zeros (1048577 - m)) (zeros_len _).symm (by rw [zeros_len]; omega) (by rw [zeros_len]; omega) (fun _ => ⟨rfl, hlt, hout⟩) hz (full_over (zeros m) (zeros (1048577 - m)) (by simp [zeros_len]; omega))) ?_
      clear T T1 hmk hB hlt hz hout
      rintro e w7 ⟨rfl, l7, T⟩
      go_wp2_with fail
      have hr := readM_any T.one sCapA
      rw [full_read] at hr
      refine Calls.mono hr ?_
      clear hr
      rintro e w8 ⟨v, rfl, hv, hB⟩
      have T := T.quiet hB
      obtain ⟨a8, c8, rfl⟩ := hv.shape
      rw [zeros_len]
      clear hv hB
      go_wp2_with fail
      have hr := names_any T.one
      rw [full_names] at hr
      refine Calls.mono hr ?_
      clear hr
      rintro e w9 ⟨v, rfl, hv, hB⟩
      have T := T.quiet hB
      obtain ⟨a9, c9, rfl⟩ := names_shape hv
      clear hv hB
      obtain ⟨w10, hmk, hB, hlt, hz⟩ := make_zeros w9 (1048576 - m) (by omega)
      rw [show ((1048576 - m : Nat) : Int) = 1048576 - (m : Int) by omega] at hmk
      have T1 := T.quiet hB
      have hout : w9.heap.size ∉ l7 := fun hm => by have := T.one.lt _ hm; omega
      go_wp2_with fail
      refine Calls.mono (append_O T1 sCapA w9.heap.size 0 (1048576 - m) (1048576 - m) _ (zeros (1048576 - m)) (zeros_len _).symm (by rw [zeros_len]; omega) (by rw [zeros_len]; omega) (fun _ => ⟨rfl, hlt, hout⟩) hz (full_app (zeros m) (zeros (1048576 - m)) (by simp [zeros_len]; omega))) ?_
      clear T T1 hmk hB hlt hz hout
      rintro e w11 ⟨rfl, l11, T⟩
      go_wp2_with fail
      refine Calls.mono (wakes_any w11) ?_
      rintro e w12 ⟨rfl, hB⟩
      have HB := Lib.hid (T.quiet hB).below
      clear T hB
      go_wp2_with fail
      go_ret
      exact ⟨rfl, HB.out⟩

end Go.Proofs.Ytgbbbjddooiaeaa
