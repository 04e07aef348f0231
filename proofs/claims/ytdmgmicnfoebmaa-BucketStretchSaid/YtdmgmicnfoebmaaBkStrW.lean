/-
  The law BucketStretch, walked.
-/
import Derived.Test.YtdmgmicnfoebmaaBkStr
namespace Go.Proofs.Ytdmgmicnfoebmaa
open Go.RowKit

set_option maxRecDepth 100000 in
set_option maxHeartbeats 4000000 in
theorem stretch_in (a : Option Addr) (len cap : Nat) (gb go : Nat) (T S U : Nat → Int) (b rate burst frm : Int) (hb : b ≤ 9223372036854775807) (w : World)
    (h1 : mayB rate burst = true) (hl : len ≤ 100) (hcap : len ≤ cap) (ha : 0 < len → a = some ⟨gb, go, none⟩ ∧ gb < w.heap.size)
    (hc : ∀ k, k < len → w.cell? ⟨gb, go + k * 3, none⟩ = some (.int .i64 (T k)) ∧ w.cell? ⟨gb, go + k * 3 + 1, none⟩ = some (.int .i64 (S k)) ∧ w.cell? ⟨gb, go + k * 3 + 2, none⟩ = some (.int .i64 (U k))) :
    Calls Try.prog 13 #[.int .i64 b, .int .i64 rate, .int .i64 burst, .slice a len cap, .int .i64 frm] w fun e w' => e = .returned (.bool true) ∧ Below w.heap.size w w' := by
  obtain ⟨m1, m2, m3, m4⟩ := mayB_of h1
  have c1 := cut_bd b burst 0
  have hr : room burst 0 = 1000 * burst := by unfold room within; omega
  rw [hr] at c1
  have HC := Lib.hid hc
  have HA := Lib.hid ha
  clear hc ha hr
  go_enter Try.func13, Try.ntmps13
  go_wp2_with (first
    | (go_at_call 37; refine (may_any _ _ _).mono ?_; rintro e w' ⟨rfl, rfl⟩)
    | (go_at_call 41; refine (cut_any _ _ _ (by omega) _).mono ?_; rintro e w' ⟨rfl, rfl⟩))
  go_loopw [0, 11, 12, 13, 14, 35] (fun vb vo vt vy vc vi wr => ∃ (k : Nat) (b out ticks taken : Int) (c : Bool), k ≤ len ∧ vi = .int .i64 k ∧ vb = .int .i64 b ∧ vo = .int .i64 out ∧ vt = .int .i64 ticks ∧ vy = .int .i64 taken ∧ vc = .bool c ∧ SI rate burst k b out ticks taken c ∧ Below w.heap.size w wr) (fun _ _ _ _ _ vi _ => len - (intOf vi).toNat)
  case atStart => exact ⟨0, _, _, _, _, _, Nat.zero_le _, rfl, rfl, rfl, rfl, rfl, rfl, ⟨c1.1, by omega, by omega, by omega, by omega, by omega, by omega, by omega, by omega, fun _ => ⟨rfl, rfl⟩⟩, Below.refl _ _⟩
  case round =>
    obtain ⟨k, b, out, ticks, taken, c, hk, rfl, rfl, rfl, rfl, rfl, rfl, hI, hB⟩ := hrel
    by_cases hlt : k < len
    · obtain ⟨e0, e1⟩ := HA.out (by omega)
      obtain ⟨k0, k1, k2⟩ := HC.out k hlt
      have hcl := hB.cell (p := ⟨gb, go + k * 3, none⟩) e1
      have hcl1 := hB.cell (p := ⟨gb, go + k * 3 + 1, none⟩) e1
      have hcl2 := hB.cell (p := ⟨gb, go + k * 3 + 2, none⟩) e1
      rw [k0] at hcl
      rw [k1] at hcl1
      rw [k2] at hcl2
      subst e0
      obtain ⟨i1, i2, i3, i4, i5, i6, i7, i8, i9, i10⟩ := id hI
      clear k0 k1 k2
      go_upto_region 9 with fail
      go_cut [17] (fun s17 wy => ∃ t : Int, s17 = .int .i64 t ∧ 0 ≤ t ∧ t ≤ 1073741824 ∧ wy = wr.alloc (.cells #[.int .i64 (T k), .int .i64 (S k), .int .i64 (U k)] 74))
      case first =>
        go_wp2_with fail
        all_goals
          go_meet
          exact ⟨_, rfl, by omega, by omega, rfl⟩
      case rest =>
        obtain ⟨t, rfl, t0, t1, rfl⟩ := hcut
        obtain ⟨j1, j2, j3, j4, j5, j6, j7, j8⟩ := hI.round (by omega) m1 m2 m3 m4 t0 t1
        obtain ⟨B1, hB1⟩ : ∃ B1, B1 = creditS b rate burst out t := ⟨_, rfl⟩
        rw [← hB1] at j1 j2 j3
        have HB1 := Lib.hid hB1
        have J8 := Lib.hid j8
        clear hB1 j8
        have q9 : rate * (ticks + t) ≤ 108448000000000000 := by rw [J8.out]; omega
        have q10 : 0 ≤ rate * (ticks + t) := by rw [J8.out]; omega
        have wh : wholeS B1 = max B1 0 / 1000 := rfl
        cases hp : poorB B1 (S k)
        · obtain ⟨e1, e2⟩ := ret_rich hp
          obtain ⟨s1, s2⟩ := rich_of hp
          have s4 : 1000 * S k ≤ B1 := by omega
          have s3 : S k ≤ burst := by omega
          have s5 : 1000 * (taken + S k) ≤ 1000 * burst + rate * (ticks + t) := by rw [J8.out]; omega
          clear hp wh s2
          cases c
          · obtain ⟨n1, n2⟩ := i10 rfl
            clear i10
            by_cases hf : frm ≤ k
            · go_wp2_with fail
              refine (credit_any _ _ _ _ _ (by omega) (by omega) _).mono ?_
              rintro e w1 ⟨rfl, hB1⟩
              rw [← HB1.out]
              obtain ⟨g1, g2⟩ := bcell hB1
              have hz : wr.heap.size < w1.heap.size := by have := hB1.size; simp at this; omega
              go_wp2_with (go_at_call 46; refine (take_any _ _ (by omega) (by omega) _).mono ?_; rintro e w' ⟨rfl, rfl⟩)
              all_goals
                go_roundw
                case rel =>
                  refine ⟨k + 1, B1 - 1000 * S k, _, 0, S k, true, by omega, by go_num, rfl, rfl, rfl, rfl, by rfl, ?_, hB.trans ((((Below.refl _ _).alloc (Nat.le_refl _) _).trans (hB1.mono (by simp))).mono hB.size)⟩
                  have q := J8.out
                  have n3 : rate * ticks = 0 := by rw [n1]; exact Int.mul_zero _
                  exact ⟨by omega, by omega, by omega, by omega, by omega, by omega, by omega, by omega, by first | omega | (rw [Int.mul_zero]; omega), fun h => by first | exact ⟨rfl, rfl⟩ | cases h⟩
                case measure => simp [intOf]; omega
            · go_wp2_with fail
              refine (credit_any _ _ _ _ _ (by omega) (by omega) _).mono ?_
              rintro e w1 ⟨rfl, hB1⟩
              rw [← HB1.out]
              obtain ⟨g1, g2⟩ := bcell hB1
              have hz : wr.heap.size < w1.heap.size := by have := hB1.size; simp at this; omega
              go_wp2_with (go_at_call 46; refine (take_any _ _ (by omega) (by omega) _).mono ?_; rintro e w' ⟨rfl, rfl⟩)
              all_goals
                go_roundw
                case rel =>
                  refine ⟨k + 1, B1 - 1000 * S k, _, 0, 0, false, by omega, by go_num, rfl, rfl, rfl, rfl, by rfl, ?_, hB.trans ((((Below.refl _ _).alloc (Nat.le_refl _) _).trans (hB1.mono (by simp))).mono hB.size)⟩
                  have q := J8.out
                  have n3 : rate * ticks = 0 := by rw [n1]; exact Int.mul_zero _
                  exact ⟨by omega, by omega, by omega, by omega, by omega, by omega, by omega, by omega, by first | omega | (rw [Int.mul_zero]; omega), fun h => by first | exact ⟨rfl, rfl⟩ | cases h⟩
                case measure => simp [intOf]; omega
          · clear i10
            go_wp2_with fail
            refine (credit_any _ _ _ _ _ (by omega) (by omega) _).mono ?_
            rintro e w1 ⟨rfl, hB1⟩
            rw [← HB1.out]
            obtain ⟨g1, g2⟩ := bcell hB1
            have hz : wr.heap.size < w1.heap.size := by have := hB1.size; simp at this; omega
            go_wp2_with (go_at_call 46; refine (take_any _ _ (by omega) (by omega) _).mono ?_; rintro e w' ⟨rfl, rfl⟩)
            all_goals
              go_roundw
              case rel =>
                refine ⟨k + 1, B1 - 1000 * S k, _, ticks + t, taken + S k, true, by omega, by go_num, rfl, rfl, rfl, rfl, by rfl, ?_, hB.trans ((((Below.refl _ _).alloc (Nat.le_refl _) _).trans (hB1.mono (by simp))).mono hB.size)⟩
                have q := J8.out
                exact ⟨by omega, by omega, by omega, by omega, by omega, by omega, by omega, by omega, by first | omega | (rw [Int.mul_zero]; omega), fun h => by first | exact ⟨rfl, rfl⟩ | cases h⟩
              case measure => simp [intOf]; omega
        · obtain ⟨e1, e2⟩ := ret_poor hp
          have s5 : 1000 * taken ≤ 1000 * burst + rate * (ticks + t) := by rw [J8.out]; omega
          clear hp wh
          cases c
          · obtain ⟨n1, n2⟩ := i10 rfl
            clear i10
            by_cases hf : frm ≤ k
            · go_wp2_with fail
              refine (credit_any _ _ _ _ _ (by omega) (by omega) _).mono ?_
              rintro e w1 ⟨rfl, hB1⟩
              rw [← HB1.out]
              obtain ⟨g1, g2⟩ := bcell hB1
              have hz : wr.heap.size < w1.heap.size := by have := hB1.size; simp at this; omega
              go_wp2_with (go_at_call 46; refine (take_any _ _ (by omega) (by omega) _).mono ?_; rintro e w' ⟨rfl, rfl⟩)
              all_goals
                go_roundw
                case rel =>
                  refine ⟨k + 1, B1, _, 0, 0, true, by omega, by go_num, rfl, rfl, rfl, rfl, by rfl, ?_, hB.trans ((((Below.refl _ _).alloc (Nat.le_refl _) _).trans (hB1.mono (by simp))).mono hB.size)⟩
                  have q := J8.out
                  have n3 : rate * ticks = 0 := by rw [n1]; exact Int.mul_zero _
                  exact ⟨by omega, by omega, by omega, by omega, by omega, by omega, by omega, by omega, by first | omega | (rw [Int.mul_zero]; omega), fun h => by first | exact ⟨rfl, rfl⟩ | cases h⟩
                case measure => simp [intOf]; omega
            · go_wp2_with fail
              refine (credit_any _ _ _ _ _ (by omega) (by omega) _).mono ?_
              rintro e w1 ⟨rfl, hB1⟩
              rw [← HB1.out]
              obtain ⟨g1, g2⟩ := bcell hB1
              have hz : wr.heap.size < w1.heap.size := by have := hB1.size; simp at this; omega
              go_wp2_with (go_at_call 46; refine (take_any _ _ (by omega) (by omega) _).mono ?_; rintro e w' ⟨rfl, rfl⟩)
              all_goals
                go_roundw
                case rel =>
                  refine ⟨k + 1, B1, _, 0, 0, false, by omega, by go_num, rfl, rfl, rfl, rfl, by rfl, ?_, hB.trans ((((Below.refl _ _).alloc (Nat.le_refl _) _).trans (hB1.mono (by simp))).mono hB.size)⟩
                  have q := J8.out
                  have n3 : rate * ticks = 0 := by rw [n1]; exact Int.mul_zero _
                  exact ⟨by omega, by omega, by omega, by omega, by omega, by omega, by omega, by omega, by first | omega | (rw [Int.mul_zero]; omega), fun h => by first | exact ⟨rfl, rfl⟩ | cases h⟩
                case measure => simp [intOf]; omega
          · clear i10
            go_wp2_with fail
            refine (credit_any _ _ _ _ _ (by omega) (by omega) _).mono ?_
            rintro e w1 ⟨rfl, hB1⟩
            rw [← HB1.out]
            obtain ⟨g1, g2⟩ := bcell hB1
            have hz : wr.heap.size < w1.heap.size := by have := hB1.size; simp at this; omega
            go_wp2_with (go_at_call 46; refine (take_any _ _ (by omega) (by omega) _).mono ?_; rintro e w' ⟨rfl, rfl⟩)
            all_goals
              go_roundw
              case rel =>
                refine ⟨k + 1, B1, _, ticks + t, taken, true, by omega, by go_num, rfl, rfl, rfl, rfl, by rfl, ?_, hB.trans ((((Below.refl _ _).alloc (Nat.le_refl _) _).trans (hB1.mono (by simp))).mono hB.size)⟩
                have q := J8.out
                exact ⟨by omega, by omega, by omega, by omega, by omega, by omega, by omega, by omega, by first | omega | (rw [Int.mul_zero]; omega), fun h => by first | exact ⟨rfl, rfl⟩ | cases h⟩
              case measure => simp [intOf]; omega
    · have : k = len := by omega
      subst this
      go_wp2_with (go_at_call 45; refine (wakes_any _).mono ?_; rintro e w1 ⟨rfl, hB1⟩)
      go_ret
      exact ⟨rfl, hB.trans (hB1.mono hB.size)⟩
end Go.Proofs.Ytdmgmicnfoebmaa
