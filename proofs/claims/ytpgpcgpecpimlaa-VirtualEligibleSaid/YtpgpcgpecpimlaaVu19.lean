/-
  VirtualEligible, walked.
-/
import Derived.Test.YtpgpcgpecpimlaaVu17
namespace Go.Proofs.Ytpgpcgpecpimlaa
open Go.RowKit
set_option linter.unusedSimpArgs false
set_option linter.unusedVariables false

theorem div_scale {w : Int} (h1 : 1 ≤ w) (h2 : w ≤ 16) : 720720 / w * w = 720720 := by
  rcases (show w = 1 ∨ w = 2 ∨ w = 3 ∨ w = 4 ∨ w = 5 ∨ w = 6 ∨ w = 7 ∨ w = 8 ∨ w = 9 ∨ w = 10 ∨ w = 11 ∨ w = 12 ∨ w = 13 ∨ w = 14 ∨ w = 15 ∨ w = 16 by omega) with rfl | rfl | rfl | rfl | rfl | rfl | rfl | rfl | rfl | rfl | rfl | rfl | rfl | rfl | rfl | rfl <;> rfl
/-- a cost goes by the weight -/
structure CostOk (s wt al C : Int) : Prop where
  w1 : IntKind.i64.wrap (C * wt) = C * wt
  w2 : IntKind.i64.wrap (s * al) = s * al
  w3 : IntKind.i64.wrap (s * al * 720720) = s * al * 720720
  ne : (C != 0) = true
  eq : (C * wt != s * al * 720720) = false
theorem cost_cases (s wt al : Int) : costS s wt al = 0 ∨ CostOk s wt al (costS s wt al) := by
  unfold costS
  rcases costB_cases s wt al with ⟨h, _⟩ | ⟨h, h1, h2, h3, h4, h5, h6⟩
  · exact .inl (by rw [if_neg (by rw [h]; simp)])
  · rw [if_pos h]
    have hb := cost_bd h1 h2 h3 h5 h6
    have hd := div_scale h3 h4
    have e1 : s * al * (720720 / wt) * wt = s * al * 720720 := by rw [Int.mul_assoc, hd]
    have e2 : s * al * 720720 ≤ 192000 * 720720 := Int.mul_le_mul_of_nonneg_right hb.2.1 (by omega)
    have e3 : 0 ≤ s * al * 720720 := Int.mul_nonneg (by omega) (by omega)
    have e4 : s * al * (720720 / wt) ≠ 0 := fun h0 => by rw [h0] at e1; omega
    refine .inr ⟨IntWalk.i64_in _ (by omega), IntWalk.i64_in _ (by omega), IntWalk.i64_in _ (by omega), ?_, ?_⟩
    · rw [bne_iff_ne]; exact e4
    · rw [e1]; simp

set_option maxRecDepth 100000 in
set_option maxHeartbeats 8000000 in
theorem elig_head (V : Int) (a : Option Addr) (n c b o : Nat) (T : Nat → TagsE) (ra : Option Addr) (rn rc : Nat) (s wt al : Int) (w : World) (hs : TagsIn w a n c b o T) (hh : decide (50 < n) = true ∨ (decide (50 < n) = false ∧ vokB V n T = false)) :
    Calls Try.prog 6 #[.agg #[.int .i64 V, .slice a n c], .slice ra rn rc, .int .i64 s, .int .i64 wt, .int .i64 al] w fun e w' => e = .returned (.bool true) ∧ Below w.heap.size w w' := by
  have HS := Lib.hid hs
  have HH0 := Lib.hid (tw1 (n := w.heap.size) (Below.refl _ (w.alloc (.cells #[.int .i64 V, .slice a n c] 24))) rfl)
  have HB0 : Hid (Below w.heap.size w ((w.alloc (.cells #[.int .i64 V, .slice a n c] 24)).alloc (.cells #[.int .i64 V, .slice a n c] 24))) := Lib.hid (((Below.refl _ _).alloc (Nat.le_refl _) _).alloc (by simp) _)
  have C1 : Hid (vokB V n T = false → ∀ W, TagsIn W a n c b o T → Calls Try.prog 19 #[.agg #[.int .i64 V, .slice a n c]] W fun e w' => e = .returned (.bool false) ∧ Below W.heap.size W w') := Lib.hid (fun hv W h => by rw [← hv]; exact check_any V a n c b o T W h)
  clear hs
  rcases hh with G0 | ⟨G0, hv⟩
  · have G1 := Lib.hid G0
    clear G0
    go_enter Try.func6, Try.ntmps6
    go_wp2_with (first
      | (go_at_call 14; refine (vgreat_any _ _ _ _ _).mono ?_; rw [G1.out]; rintro e W ⟨rfl, rfl⟩)
      | (go_at_call 15; refine (vwakes_any _).mono ?_; rintro e WK ⟨rfl, hWK⟩))
    go_ret
    exact ⟨rfl, HB0.out.trans (hWK.mono HB0.out.size)⟩
  · have G1 := Lib.hid G0
    have C2 := Lib.hid (C1.out hv)
    clear G0 hv
    go_enter Try.func6, Try.ntmps6
    go_wp2_with (first
      | (go_at_call 14; refine (vgreat_any _ _ _ _ _).mono ?_; rw [G1.out]; rintro e W ⟨rfl, rfl⟩)
      | (go_at_call 19; refine Calls.mono (C2.out _ (HS.out.below HB0.out)) ?_; rintro e W1 ⟨rfl, hW1⟩; have HB1 := Lib.hid (HB0.out.trans (hW1.mono HB0.out.size)))
      | (go_at_call 15; refine (vwakes_any _).mono ?_; rintro e WK ⟨rfl, hWK⟩))
    go_ret
    exact ⟨rfl, HB1.out.trans (hWK.mono HB1.out.size)⟩

set_option maxRecDepth 100000 in
set_option maxHeartbeats 8000000 in
theorem elig_no (V : Int) (a : Option Addr) (n c b o : Nat) (T : Nat → TagsE) (ra : Option Addr) (rn rc rb ro : Nat) (R : Nat → Bool) (s wt al : Int) (w : World) (hs : TagsIn w a n c b o T) (hr : BoolsIn w ra rn rc rb ro R) (G0 : decide (50 < n) = false) (hv : vokB V n T = true) (hno : ∀ i, i < rn → R i = true → rn ≠ n) (hp : ∀ W, TagsIn W a n c b o T → BoolsIn W ra rn rc rb ro R → Calls Try.prog 29 #[.agg #[.int .i64 V, .slice a n c], .slice ra rn rc] W (PickOut W 0 0 zeroT 0 false)) :
    Calls Try.prog 6 #[.agg #[.int .i64 V, .slice a n c], .slice ra rn rc, .int .i64 s, .int .i64 wt, .int .i64 al] w fun e w' => e = .returned (.bool true) ∧ Below w.heap.size w w' := by
  have hm := hs.max
  have hl := hs.le
  unfold maxLen at hm
  have hrl := hr.le
  have hrm := hr.max
  unfold maxLen at hrm
  have HS := Lib.hid hs
  have HR := Lib.hid hr
  have G1 := Lib.hid G0
  have HV := Lib.hid hv
  have HH0 := Lib.hid (tw1 (n := w.heap.size) (Below.refl _ (w.alloc (.cells #[.int .i64 V, .slice a n c] 24))) rfl)
  have hy : Below (w.alloc (.cells #[.int .i64 V, .slice a n c] 24)).heap.size (w.alloc (.cells #[.int .i64 V, .slice a n c] 24)) ((w.alloc (.cells #[.int .i64 V, .slice a n c] 24)).alloc (.cells #[.int .i64 V, .slice a n c] 24)) := (Below.refl _ _).alloc (Nat.le_refl _) _
  have HB0 : Hid (Below w.heap.size w ((w.alloc (.cells #[.int .i64 V, .slice a n c] 24)).alloc (.cells #[.int .i64 V, .slice a n c] 24))) := Lib.hid (((Below.refl _ _).alloc (Nat.le_refl _) _).alloc (by simp) _)
  have HH1 := Lib.hid (Holds.step HH0.out hy)
  have C1 : Hid (∀ W, TagsIn W a n c b o T → Calls Try.prog 19 #[.agg #[.int .i64 V, .slice a n c]] W fun e w' => e = .returned (.bool true) ∧ Below W.heap.size W w') := Lib.hid (fun W h => by rw [← hv]; exact check_any V a n c b o T W h)
  have hcc := cost_cases s wt al
  obtain ⟨C, hC⟩ : ∃ C, C = costS s wt al := ⟨_, rfl⟩
  have C2 : Hid (∀ W, Calls Try.prog 21 #[.int .i64 s, .int .i64 wt, .int .i64 al] W fun e w' => e = .returned (.int .i64 C) ∧ W = w') := Lib.hid (fun W => by rw [hC]; exact cost_any s wt al W)
  rw [← hC] at hcc
  clear hs hr hC hy G0 hv
  have HP := Lib.hid hp
  have HNO := Lib.hid hno
  clear hp hno
  rcases hcc with rfl | ⟨w1, w2, w3, cne, ceq⟩
  all_goals
    go_enter Try.func6, Try.ntmps6
    go_wp2_with (first
      | (go_at_call 14; refine (vgreat_any _ _ _ _ _).mono ?_; rw [G1.out]; rintro e W ⟨rfl, rfl⟩)
      | (go_at_call 19; refine Calls.mono (C1.out _ (HS.out.below HB0.out)) ?_; rintro e W1 ⟨rfl, hW1⟩; have HB1 := Lib.hid (HB0.out.trans (hW1.mono HB0.out.size)); have HZ1 := Lib.hid (Holds.step HH1.out hW1); have r0 : W1.cell? ⟨w.heap.size, 0, none⟩ = some (.int .i64 V) := HZ1.out.1 0; have r1 : W1.cell? ⟨w.heap.size, 1, none⟩ = some (.slice a n c) := HZ1.out.1 1; have z0 := HZ1.out.2.2)
      | (go_at_call 21; refine Calls.mono (C2.out _) ?_; rintro e W ⟨rfl, rfl⟩))
    go_at_call 29
    refine Calls.mono (HP.out _ (HS.out.below HB1.out) (HR.out.below HB1.out)) ?_
    rintro e W2 ⟨v2, rfl, hV2⟩
    have hV2 := hV2.tags (fun k _ => zero_ok k)
    obtain ⟨a2, c2, b2, rfl, hT2, _, hb2⟩ := hV2
    have HB2 := Lib.hid (HB1.out.trans (hb2.mono HB1.out.size))
    have HZ2 := Lib.hid (Holds.step HZ1.out hb2)
    have HT2 := Lib.hid hT2
    clear hT2 hb2 r0 r1 z0
    have r0 : W2.cell? ⟨w.heap.size, 0, none⟩ = some (.int .i64 V) := HZ2.out.1 0
    have r1 : W2.cell? ⟨w.heap.size, 1, none⟩ = some (.slice a n c) := HZ2.out.1 1
    have z0 := HZ2.out.2.2
    go_wp2_with fail
    go_loop [52] (fun i => ∃ k : Nat, k ≤ rn ∧ i = .int .i64 k) (fun i => rn - (intOf i).toNat)
    case atStart => exact ⟨0, Nat.zero_le _, rfl⟩
    case round =>
      obtain ⟨k, hk, rfl⟩ := hrel
      by_cases hlt : k < rn
      · obtain ⟨e0, e1⟩ := HR.out.at_ (by omega)
        subst e0
        have k2 := (HR.out.below HB2.out).cell k hlt
        have hzr : rb < W2.heap.size := Nat.lt_of_lt_of_le e1 HB2.out.size
        have hn2 := HNO.out k hlt
        obtain ⟨r, hr⟩ : ∃ r, r = R k := ⟨_, rfl⟩
        rw [← hr] at k2 hn2
        clear hr
        cases r
        · clear hn2
          go_wp2_with fail
          go_round
          case rel => exact ⟨k + 1, by omega, by go_num⟩
          case measure => simp [intOf]; omega
        · have hne := hn2 rfl
          have b1 : ((rn : Int) == (n : Int)) = false := by simp; omega
          have b2 : decide ((rn : Nat) = n) = false := by simpa using hne
          clear hn2 hne
          go_wp2_with fail
          go_round
          case rel => exact ⟨k + 1, by omega, by go_num⟩
          case measure => simp [intOf]; omega
      · obtain rfl : k = rn := by omega
        have HY := Lib.hid (HB2.out.alloc HB2.out.size (.cells #[.int .i64 0, .slice a2 0 c2] 24))
        go_wp2_with (go_at_call 15; refine (vwakes_any _).mono ?_; rintro e WK ⟨rfl, hWK⟩)
        go_ret
        exact ⟨rfl, HY.out.trans (hWK.mono HY.out.size)⟩
end Go.Proofs.Ytpgpcgpecpimlaa
