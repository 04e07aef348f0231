/-
  Package bucket: the document's answers of credits; the example that the document names.
-/
import Derived.Test.YtdmgmicnfoebmaaBk3
namespace Go.Proofs.Ytdmgmicnfoebmaa
open Go.RowKit

theorem fin_room {b R T D : Int} (hb : 0 ≤ b) (hR : 0 ≤ R) (hT : 0 ≤ T) (hD : 0 ≤ D) (h : D ≤ b ∨ (0 < R ∧ (D - b) / R < T)) : within (b + R * T) D = D := by
  have hp : 0 ≤ R * T := Int.mul_nonneg hR hT
  rcases h with h | ⟨h1, h2⟩
  · unfold within; omega
  · have h3 : D - b < T * R := Int.lt_mul_of_ediv_lt h1 h2
    rw [Int.mul_comm] at h3
    unfold within; omega
theorem fin_sum {b R T D : Int} (hb : 0 ≤ b) (hR : 0 ≤ R) (hT : 0 ≤ T) (h0 : b < D) (h : R = 0 ∨ (0 < R ∧ T ≤ (D - b) / R)) : within (b + R * T) D = b + R * T := by
  have hp : 0 ≤ R * T := Int.mul_nonneg hR hT
  rcases h with rfl | ⟨h1, h2⟩
  · unfold within; omega
  · have h3 : T * R ≤ D - b := (Int.le_ediv_iff_mul_le h1).1 h2
    rw [Int.mul_comm] at h3
    unfold within; omega

theorem creditS_eq (b rate burst out ticks : Int) : creditS b rate burst out ticks = within (max b 0 + within rate 1000000 * within ticks 1099511627776) (room burst out) := rfl

theorem fin_room' {b rate burst out ticks : Int} (B R T : Int) (eB : max b 0 = B) (eR : within rate 1000000 = R) (eT : within ticks 1099511627776 = T) (h : room burst out ≤ B ∨ (0 < R ∧ (room burst out - B) / R < T)) : room burst out = creditS b rate burst out ticks := by
  have h1 := within_bd rate 1000000 (by omega)
  have h2 := within_bd ticks 1099511627776 (by omega)
  have h4 := room_bd burst out
  rw [creditS_eq, eB, eR, eT]
  exact (fin_room (by omega) (eR ▸ h1.1) (eT ▸ h2.1) h4.1 h).symm
theorem fin_sum' {b rate burst out ticks : Int} {x : Int} (B R T : Int) (hx : x = B + R * T) (eB : max b 0 = B) (eR : within rate 1000000 = R) (eT : within ticks 1099511627776 = T) (h0 : B < room burst out) (h : R = 0 ∨ (0 < R ∧ T ≤ (room burst out - B) / R)) : x = creditS b rate burst out ticks := by
  have h1 := within_bd rate 1000000 (by omega)
  have h2 := within_bd ticks 1099511627776 (by omega)
  rw [hx, creditS_eq, eB, eR, eT]
  exact (fin_sum (by omega) (eR ▸ h1.1) (eT ▸ h2.1) h0 h).symm

theorem prod_in (rate ticks : Int) (r1 : 0 ≤ rate) (r2 : rate ≤ 1000000) (t1 : 0 ≤ ticks) (t2 : ticks ≤ 1099511627776) : 0 ≤ rate * ticks ∧ rate * ticks ≤ 1099511627776000000 :=
  ⟨Int.mul_nonneg r1 t1, Int.le_trans (Int.mul_le_mul r2 t2 t1 (by omega)) (by omega)⟩
theorem clamp_cases (n most : Int) (h : 0 ≤ most) : (n < 0 ∧ Hid (within n most = 0)) ∨ (0 ≤ n ∧ n ≤ most ∧ Hid (within n most = n)) ∨ (0 ≤ n ∧ most < n ∧ Hid (within n most = most)) := by
  rcases (show n < 0 ∨ (0 ≤ n ∧ n ≤ most) ∨ (0 ≤ n ∧ most < n) by omega) with h1 | ⟨h1, h2⟩ | ⟨h1, h2⟩
  · exact .inl ⟨h1, Lib.hid (by unfold within; omega)⟩
  · exact .inr (.inl ⟨h1, h2, Lib.hid (by unfold within; omega)⟩)
  · exact .inr (.inr ⟨h1, h2, Lib.hid (by unfold within; omega)⟩)
theorem sign_cases (n : Int) : (n < 0 ∧ Hid (max n 0 = 0)) ∨ (0 ≤ n ∧ Hid (max n 0 = n)) := by
  rcases (show n < 0 ∨ 0 ≤ n by omega) with h1 | h1
  · exact .inl ⟨h1, Lib.hid (by omega)⟩
  · exact .inr ⟨h1, Lib.hid (by omega)⟩

set_option maxRecDepth 100000 in
set_option maxHeartbeats 8000000 in
theorem rcredit_any (b rate burst out ticks : Int) (hb : b ≤ 9223372036854775807) (ho : out ≤ 9223372036854775807) (w : World) : Calls Try.prog 49 #[.int .i64 b, .int .i64 rate, .int .i64 burst, .int .i64 out, .int .i64 ticks] w fun e w' => e = .returned (.int .i64 (creditS b rate burst out ticks)) ∧ w = w' := by
  have h4 := room_bd burst out
  rcases sign_cases b with ⟨b1, eB⟩ | ⟨b1, eB⟩
  all_goals
    rcases clamp_cases rate 1000000 (by omega) with ⟨r1, eR⟩ | ⟨r1, r2, eR⟩ | ⟨r1, r2, eR⟩
    all_goals
      rcases clamp_cases ticks 1099511627776 (by omega) with ⟨t1, eT⟩ | ⟨t1, t2, eT⟩ | ⟨t1, t2, eT⟩
      all_goals
        have hp := prod_in rate ticks
        try replace hp := hp (by assumption) (by assumption) (by assumption) (by assumption)
        try (obtain ⟨hp1, hp2⟩ := hp)
        try clear hp
        go_enter Try.func49, Try.ntmps49
        go_wp2_with (refine (rroom_any _ _ ho _).mono ?_; rintro e w' ⟨rfl, rfl⟩)
        any_goals (go_ret; refine ⟨ret_int ?_, rfl⟩)
        all_goals first
          | exact fin_room' _ _ _ eB.out eR.out eT.out (.inl (by omega))
          | exact fin_room' _ _ _ eB.out eR.out eT.out (.inr (by first | omega | (simp only [Int.sub_zero] at *; omega)))
          | exact fin_sum' _ _ _ (by omega) eB.out eR.out eT.out (by omega) (by first | omega | (simp only [Int.sub_zero] at *; omega))
end Go.Proofs.Ytdmgmicnfoebmaa
