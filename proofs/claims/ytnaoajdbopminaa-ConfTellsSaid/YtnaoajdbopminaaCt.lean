/-
  weirref12.Meets: the document's search for majorities that don't meet.
-/
import Derived.Test.YtnaoajdbopminaaCm
namespace Go.Proofs.Ytnaoajdbopminaa
open Go.RowKit
set_option linter.unusedSimpArgs false
set_option linter.unusedVariables false

def NoBad (a b : Int) (x k : Nat) : Prop := ∀ y, y < k → badI a b x y = false
def NoBads (a b : Int) (k : Nat) : Prop := ∀ x, x < k → NoBad a b x 128
theorem NoBad.succ {a b : Int} {x k : Nat} (h : NoBad a b x k) (hk : badI a b x k = false) : NoBad a b x (k + 1) := fun y hy => by
  by_cases e : y = k
  · rw [e]; exact hk
  · exact h y (by omega)
theorem NoBads.succ {a b : Int} {k : Nat} (h : NoBads a b k) (hk : NoBad a b k 128) : NoBads a b (k + 1) := fun x hx => by
  by_cases e : x = k
  · rw [e]; exact hk
  · exact h x (by omega)

set_option maxRecDepth 100000 in
set_option maxHeartbeats 4000000 in
theorem rmeets_any (a b : Int) (w : World) (h0 : 0 ≤ a) (h1 : a ≤ 255) (k0 : 0 ≤ b) (k1 : b ≤ 255) : Calls Try.prog 37 #[.int .u8 a, .int .u8 b] w fun e w' => e = .returned (.bool (meetsI a b)) ∧ w = w' := by
  cases ha : mayI a with
  | false =>
    have C1 : Hid (∀ w, Calls Try.prog 31 #[.int .u8 a] w fun e w' => e = .returned (.bool false) ∧ w = w') := Lib.hid (fun w => by rw [← ha]; exact rmay_any a w h0 h1)
    rw [show meetsI a b = false by unfold meetsI; rw [ha]; rfl]
    clear ha
    go_enter Try.func37, Try.ntmps37
    go_wp2_with (go_at_call 31; with_reducible refine Calls.mono (C1.out _) ?_; rintro e w' ⟨rfl, rfl⟩)
    go_ret
    exact ⟨rfl, rfl⟩
  | true =>
    have C1 : Hid (∀ w, Calls Try.prog 31 #[.int .u8 a] w fun e w' => e = .returned (.bool true) ∧ w = w') := Lib.hid (fun w => by rw [← ha]; exact rmay_any a w h0 h1)
    cases hb : mayI b with
    | false =>
      have C2 : Hid (∀ w, Calls Try.prog 31 #[.int .u8 b] w fun e w' => e = .returned (.bool false) ∧ w = w') := Lib.hid (fun w => by rw [← hb]; exact rmay_any b w k0 k1)
      rw [show meetsI a b = false by unfold meetsI; rw [ha, hb]; rfl]
      clear ha hb
      go_enter Try.func37, Try.ntmps37
      go_wp2_with fail
      go_at_call 31; with_reducible refine Calls.mono (C1.out _) ?_; rintro e w' ⟨rfl, rfl⟩
      go_wp2_with fail
      go_at_call 31; with_reducible refine Calls.mono (C2.out _) ?_; rintro e w' ⟨rfl, rfl⟩
      go_wp2_with fail
      go_ret
      exact ⟨rfl, rfl⟩
    | true =>
      have C2 : Hid (∀ w, Calls Try.prog 31 #[.int .u8 b] w fun e w' => e = .returned (.bool true) ∧ w = w') := Lib.hid (fun w => by rw [← hb]; exact rmay_any b w k0 k1)
      have HA := Lib.hid (bad_none a b h0 h1 k0 k1 ha hb)
      have HZ := Lib.hid (bad_some a b h0 h1 k0 k1 ha hb)
      obtain ⟨M, hM⟩ : ∃ M, M = meetsI a b := ⟨_, rfl⟩
      rw [← hM] at HA HZ ⊢
      clear ha hb hM
      go_enter Try.func37, Try.ntmps37
      go_wp2_with fail
      go_at_call 31; with_reducible refine Calls.mono (C1.out _) ?_; rintro e w' ⟨rfl, rfl⟩
      go_wp2_with fail
      go_at_call 31; with_reducible refine Calls.mono (C2.out _) ?_; rintro e w' ⟨rfl, rfl⟩
      go_wp2_with fail
      go_loop [5] (fun i => ∃ x : Nat, x ≤ 128 ∧ i = .int .i64 x ∧ NoBads a b x) (fun i => 128 - (intOf i).toNat)
      case atStart => exact ⟨0, by omega, rfl, fun x hx => by omega⟩
      case round =>
        obtain ⟨x, hx, rfl, hnb⟩ := hrel
        by_cases hxl : x < 128
        · have d1 : decide ((x : Int) < 128) = true := by simp; omega
          go_wp2_with fail
          go_loop [6] (fun i => ∃ y : Nat, y ≤ 128 ∧ i = .int .i64 y ∧ NoBad a b x y) (fun i => 128 - (intOf i).toNat)
          case atStart => exact ⟨0, by omega, rfl, fun y hy => by omega⟩
          case round =>
            obtain ⟨y, hy, rfl, hny⟩ := hrel
            by_cases hyl : y < 128
            · have d2 : decide ((y : Int) < 128) = true := by simp; omega
              have hbd : badI a b x y = true → M = false := fun h => by
                cases M with
                | false => rfl
                | true => rw [HA.out rfl x y hxl hyl] at h; cases h
              unfold badI at hbd
              obtain ⟨p0, p1⟩ := and_bd x a
              obtain ⟨q0, q1⟩ := and_bd y b
              obtain ⟨r0, r1⟩ := and_bd (andI x a) (andI y b)
              have HSC := Lib.hid (hny.succ (k := y))
              unfold badI at HSC
              obtain ⟨p, hp⟩ : ∃ p, andI x a = p := ⟨_, rfl⟩
              obtain ⟨q, hq⟩ : ∃ q, andI y b = q := ⟨_, rfl⟩
              rw [hp, hq] at hbd HSC r0 r1
              rw [hp] at p0 p1
              rw [hq] at q0 q1
              obtain ⟨r, hr⟩ : ∃ r, andI p q = r := ⟨_, rfl⟩
              rw [hr] at hbd HSC r0 r1
              have hp2 : bits .and .u8 x a = p := hp
              have hq2 : bits .and .u8 y b = q := hq
              have hr2 : bits .and .u8 p q = r := hr
              obtain ⟨m1, hm1⟩ : ∃ m, m = mostI a p := ⟨_, rfl⟩
              obtain ⟨m2, hm2⟩ : ∃ m, m = mostI b q := ⟨_, rfl⟩
              have D1 : Hid (∀ w, Calls Try.prog 35 #[.int .u8 a, .int .u8 p] w fun e w' => e = .returned (.bool m1) ∧ w = w') := Lib.hid (fun w => by rw [hm1]; exact rmost_any a p w h0 h1 p0 p1)
              have D2 : Hid (∀ w, Calls Try.prog 35 #[.int .u8 b, .int .u8 q] w fun e w' => e = .returned (.bool m2) ∧ w = w') := Lib.hid (fun w => by rw [hm2]; exact rmost_any b q w k0 k1 q0 q1)
              rw [← hm1, ← hm2] at hbd HSC
              clear hp hq hr hm1 hm2
              have HBD := Lib.hid hbd
              clear hbd
              cases m1
              · have HN := Lib.hid (HSC.out rfl)
                go_wp2_with fail
                go_at_call 35; with_reducible refine Calls.mono (D1.out _) ?_; rintro e w' ⟨rfl, rfl⟩
                go_wp2_with fail
                go_round
                case rel => exact ⟨y + 1, by omega, by go_num, HN.out⟩
                case measure => first | (simp [intOf]; done) | (simp [intOf]; omega)
              · cases m2
                · have HN := Lib.hid (HSC.out rfl)
                  go_wp2_with fail
                  go_at_call 35; with_reducible refine Calls.mono (D1.out _) ?_; rintro e w' ⟨rfl, rfl⟩
                  go_wp2_with fail
                  go_at_call 35; with_reducible refine Calls.mono (D2.out _) ?_; rintro e w' ⟨rfl, rfl⟩
                  go_wp2_with fail
                  go_round
                  case rel => exact ⟨y + 1, by omega, by go_num, HN.out⟩
                  case measure => first | (simp [intOf]; done) | (simp [intOf]; omega)
                · by_cases hz : r = 0
                  · have dz : (r == 0) = true := by simpa using hz
                    have HM := Lib.hid (HBD.out (by rw [dz]; rfl))
                    clear hz
                    go_wp2_with fail
                    go_at_call 35; with_reducible refine Calls.mono (D1.out _) ?_; rintro e w' ⟨rfl, rfl⟩
                    go_wp2_with fail
                    go_at_call 35; with_reducible refine Calls.mono (D2.out _) ?_; rintro e w' ⟨rfl, rfl⟩
                    go_wp2_with fail
                    go_ret
                    exact ⟨by rw [HM.out]; rfl, rfl⟩
                  · have dz : (r == 0) = false := by simpa using hz
                    have HN := Lib.hid (HSC.out (by rw [dz]; rfl))
                    clear hz
                    go_wp2_with fail
                    go_at_call 35; with_reducible refine Calls.mono (D1.out _) ?_; rintro e w' ⟨rfl, rfl⟩
                    go_wp2_with fail
                    go_at_call 35; with_reducible refine Calls.mono (D2.out _) ?_; rintro e w' ⟨rfl, rfl⟩
                    go_wp2_with fail
                    go_round
                    case rel => exact ⟨y + 1, by omega, by go_num, HN.out⟩
                    case measure => first | (simp [intOf]; done) | (simp [intOf]; omega)
            · obtain rfl : y = 128 := by omega
              have HNB := Lib.hid (hnb.succ hny)
              go_wp2_with fail
              go_round
              case rel => exact ⟨x + 1, by omega, by go_num, HNB.out⟩
              case measure => first | (simp [intOf]; done) | (simp [intOf]; omega)
        · obtain rfl : x = 128 := by omega
          have hM : M = true := by
            cases M with
            | true => rfl
            | false =>
              obtain ⟨x, y, g1, g2, g3⟩ := HZ.out rfl
              rw [hnb x g1 y g2] at g3
              cases g3
          have HM := Lib.hid hM
          clear hM
          go_wp2_with fail
          go_ret
          exact ⟨by rw [HM.out]; rfl, rfl⟩
end Go.Proofs.Ytnaoajdbopminaa
