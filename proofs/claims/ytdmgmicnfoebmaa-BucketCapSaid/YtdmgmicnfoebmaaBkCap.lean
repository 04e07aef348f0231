/-
  The law BucketCap, walked.
-/
import Derived.Test.YtdmgmicnfoebmaaBkRet
namespace Go.Proofs.Ytdmgmicnfoebmaa
open Go.RowKit

set_option maxRecDepth 100000 in
set_option maxHeartbeats 2000000 in
theorem cap_out (b rate burst out t u size : Int) (ho : out ≤ 9223372036854775807) (w : World)
    (hg : mayB rate burst = false ∨ (mayB rate burst = true ∧ (out < 0 ∨ (0 ≤ out ∧ (t < 0 ∨ (0 ≤ t ∧ (1099511627776 < t ∨ (t ≤ 1099511627776 ∧ (u < 0 ∨ (0 ≤ u ∧ (1099511627776 - t < u ∨ (u ≤ 1099511627776 - t ∧ (b < 0 ∨ (0 ≤ b ∧ 1000000000 < b)))))))))))))) :
    Calls Try.prog 12 #[.int .i64 b, .int .i64 rate, .int .i64 burst, .int .i64 out, .int .i64 t, .int .i64 u, .int .i64 size] w fun e w' => e = .returned (.bool true) ∧ Below w.heap.size w w' := by
  rcases hg with h1 | ⟨h1, h2 | ⟨h2, h3 | ⟨h3, h4 | ⟨h4, h5 | ⟨h5, h6 | ⟨h6, h7 | ⟨h7, h8⟩⟩⟩⟩⟩⟩⟩
  all_goals
    go_enter Try.func12, Try.ntmps12
    go_wp2_with (first
      | (go_at_call 37; refine (may_any _ _ _).mono ?_; rintro e w' ⟨rfl, rfl⟩)
      | (go_at_call 45; refine (wakes_any _).mono ?_; rintro e w1 ⟨rfl, hB1⟩))
    go_ret
    exact ⟨rfl, hB1⟩

theorem credit_bd (b rate burst out ticks : Int) : 0 ≤ creditS b rate burst out ticks ∧ creditS b rate burst out ticks ≤ room burst out := by
  have := room_bd burst out
  rw [creditS_eq]; unfold within; omega
theorem cut_bd (b burst out : Int) : 0 ≤ cut b burst out ∧ cut b burst out ≤ room burst out := by
  have := room_bd burst out
  unfold cut within; omega
/-- what of a bucket is above nothing is within the burst, with what is out -/
theorem cap_fine {y burst out : Int} (h0 : 0 ≤ y) (h1 : y ≤ room burst out) (hb : 0 ≤ burst) (hb2 : burst ≤ 1000000) (ho : 0 ≤ out) : y ≤ 0 ∨ (0 < y ∧ out ≤ burst ∧ y + 1000 * out ≤ 1000 * burst) := by
  unfold room within at h1
  omega

set_option maxRecDepth 100000 in
set_option maxHeartbeats 2000000 in
theorem cap_in (b rate burst out t u size : Int) (ho : out ≤ 9223372036854775807) (w : World)
    (h1 : mayB rate burst = true) (h2 : 0 ≤ out) (h3 : 0 ≤ t) (h4 : t ≤ 1099511627776) (h5 : 0 ≤ u) (h6 : u ≤ 1099511627776 - t) (h7 : 0 ≤ b) (h8 : b ≤ 1000000000) :
    Calls Try.prog 12 #[.int .i64 b, .int .i64 rate, .int .i64 burst, .int .i64 out, .int .i64 t, .int .i64 u, .int .i64 size] w fun e w' => e = .returned (.bool true) ∧ Below w.heap.size w w' := by
  obtain ⟨m1, m2, m3, m4⟩ := mayB_of h1
  obtain ⟨x, hx⟩ : ∃ x, x = creditS b rate burst out t := ⟨_, rfl⟩
  have x1 := credit_bd b rate burst out t
  rw [← hx] at x1
  have c1 := cut_bd b burst out
  have s1 : 0 ≤ backS b burst out size ∧ backS b burst out size ≤ room burst out := cut_bd _ _ _
  have hr := room_bd burst out
  have Hx := Lib.hid hx
  clear hx
  go_enter Try.func12, Try.ntmps12
  go_wp2_with (first
    | (go_at_call 37; refine (may_any _ _ _).mono ?_; rintro e w' ⟨rfl, rfl⟩))
  refine (credit_any _ _ _ _ _ (by omega) ho _).mono ?_
  rintro e w1 ⟨rfl, hB1⟩
  rw [← Hx.out]
  go_wp2_with (go_at_call 41; refine (cut_any _ _ _ ho _).mono ?_; rintro e w' ⟨rfl, rfl⟩)
  refine (back_any _ _ _ _ (by omega) ho _).mono ?_
  rintro e w2 ⟨rfl, hB2⟩
  go_wp2_with fail
  go_loop [70] (fun i => ∃ k : Nat, k ≤ 3 ∧ i = .int .i64 k) (fun i => 3 - (intOf i).toNat)
  case atStart => exact ⟨0, by omega, rfl⟩
  case round =>
    obtain ⟨k, hk, rfl⟩ := hrel
    have fin3 : ∀ y, 0 ≤ y → y ≤ room burst out → y ≤ 0 ∨ (0 < y ∧ out ≤ burst ∧ y + 1000 * out ≤ 1000 * burst) := fun y a c => cap_fine a c m3 m4 h2
    have hp := prod_in rate t m1 m2 h3 h4
    rcases (show k = 0 ∨ k = 1 ∨ k = 2 ∨ k = 3 by omega) with rfl | rfl | rfl | rfl
    · have i0 : ∀ w, (Instr.index 70 (.agg #[.int .i64 x, .int .i64 (cut b burst out), .int .i64 (backS b burst out size)]) (.int .i64 0)).run Try.prog w = .ok (.int .i64 x) w := fun _ => by kernel_rfl
      have f := fin3 x x1.1 x1.2
      clear fin3 hp
      rcases f with f | ⟨f1, f2, f3⟩
      all_goals
        go_wp2_with fail
        go_round
        case rel => exact ⟨1, by omega, rfl⟩
        case measure => simp [intOf]
    · have i0 : ∀ w, (Instr.index 70 (.agg #[.int .i64 x, .int .i64 (cut b burst out), .int .i64 (backS b burst out size)]) (.int .i64 1)).run Try.prog w = .ok (.int .i64 (cut b burst out)) w := fun _ => by kernel_rfl
      have f := fin3 (cut b burst out) c1.1 c1.2
      clear fin3 hp
      rcases f with f | ⟨f1, f2, f3⟩
      all_goals
        go_wp2_with fail
        go_round
        case rel => exact ⟨2, by omega, rfl⟩
        case measure => simp [intOf]
    · have i0 : ∀ w, (Instr.index 70 (.agg #[.int .i64 x, .int .i64 (cut b burst out), .int .i64 (backS b burst out size)]) (.int .i64 2)).run Try.prog w = .ok (.int .i64 (backS b burst out size)) w := fun _ => by kernel_rfl
      have f := fin3 (backS b burst out size) s1.1 s1.2
      clear fin3 hp
      rcases f with f | ⟨f1, f2, f3⟩
      all_goals
        go_wp2_with fail
        go_round
        case rel => exact ⟨3, by omega, rfl⟩
        case measure => simp [intOf]
    · clear fin3
      obtain ⟨p1, p2⟩ := hp
      have e1 : x ≤ b + rate * t := by
        rw [Hx.out, creditS_eq]
        have ew : within rate 1000000 = rate := by unfold within; omega
        have et : within t 1099511627776 = t := by unfold within; omega
        rw [ew, et]
        unfold within; omega
      have e2 : creditS x rate burst out u = creditS b rate burst out (t + u) := by
        rw [Hx.out, creditS_eq, creditS_eq, creditS_eq]
        have ew : within rate 1000000 = rate := by unfold within; omega
        have et : within t 1099511627776 = t := by unfold within; omega
        have eu : within u 1099511627776 = u := by unfold within; omega
        have es : within (t + u) 1099511627776 = t + u := by unfold within; omega
        have hq := Int.mul_nonneg m1 h5
        rw [ew, et, eu, es, Int.mul_add]
        unfold within; omega
      have E2 := Lib.hid e2
      clear e2
      go_wp2_with fail
      refine (credit_any _ _ _ _ _ (by omega) ho _).mono ?_
      rintro e w3 ⟨rfl, hB3⟩
      rw [E2.out]
      go_wp2_with fail
      refine (credit_any _ _ _ _ _ (by omega) ho _).mono ?_
      rintro e w4 ⟨rfl, hB4⟩
      go_wp2_with (go_at_call 45; refine (wakes_any _).mono ?_; rintro e w5 ⟨rfl, hB5⟩)
      go_ret
      have b2 := hB1.trans (hB2.mono hB1.size)
      have b3 := b2.trans (hB3.mono b2.size)
      have b4 := b3.trans (hB4.mono b3.size)
      exact ⟨rfl, b4.trans (hB5.mono b4.size)⟩

theorem bucketCap_walk (b rate burst out t u size : Int) (ho : out ≤ 9223372036854775807) (w : World) :
    Calls Try.prog 12 #[.int .i64 b, .int .i64 rate, .int .i64 burst, .int .i64 out, .int .i64 t, .int .i64 u, .int .i64 size] w fun e w' => e = .returned (.bool true) ∧ Below w.heap.size w w' := by
  by_cases hg : mayB rate burst = true ∧ 0 ≤ out ∧ 0 ≤ t ∧ t ≤ 1099511627776 ∧ 0 ≤ u ∧ u ≤ 1099511627776 - t ∧ 0 ≤ b ∧ b ≤ 1000000000
  · obtain ⟨h1, h2, h3, h4, h5, h6, h7, h8⟩ := hg
    exact cap_in b rate burst out t u size ho w h1 h2 h3 h4 h5 h6 h7 h8
  · refine cap_out b rate burst out t u size ho w ?_
    cases h1 : mayB rate burst
    · exact .inl rfl
    · refine .inr ⟨rfl, ?_⟩
      rw [h1] at hg
      simp only [true_and] at hg
      omega
end Go.Proofs.Ytdmgmicnfoebmaa
