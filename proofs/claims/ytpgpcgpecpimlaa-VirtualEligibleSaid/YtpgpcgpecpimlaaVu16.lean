/-
  VirtualTags and VirtualPicks, walked.
-/
import Derived.Test.YtpgpcgpecpimlaaVu15
namespace Go.Proofs.Ytpgpcgpecpimlaa
open Go.RowKit
set_option linter.unusedSimpArgs false
set_option linter.unusedVariables false

theorem TagP.two {w : World} {V : Int} {n : Nat} {T : Nat → TagsE} {k cost at_ : Int} {e : Ending} {w' : World} (h : TagP w V n T k cost at_ e w') (hT : ∀ j, j < n → (T j).ok) (h0 : 0 ≤ cost) (h1 : cost ≤ 138378240000) (ha : goodTag V n T k cost at_ = true → 0 ≤ at_) :
    ∃ V' n' T' er, VRes w V' n' T' er e w' ∧ (∀ j, j < n' → (T' j).ok) ∧ (n' ≤ n ∨ n' = 0) ∧ (∀ w3 e2 w2, TagP w3 V n T k cost at_ e2 w2 → VRes w3 V' n' T' er e2 w2) := by
  unfold TagP at h ⊢
  cases hG : goodTag V n T k cost at_
  · rw [hG] at h
    exact ⟨0, 0, zeroT, 2, h, fun j _ => zero_ok j, .inr rfl, fun _ _ _ h => h⟩
  · rw [hG] at h
    have h2 := ha hG
    have h3 : at_ ≤ 1152921504606846976 - cost := by
      rcases goodTag_cases V n T k cost at_ with ⟨hn, _⟩ | ⟨hn, _⟩ | ⟨_, _, _, _, _, h⟩
      · rw [hG] at hn; cases hn
      · rw [hG] at hn; cases hn
      · exact h
    refine ⟨V, n, _, 0, h, fun j hj => ?_, .inl (Nat.le_refl _), fun _ _ _ h => h⟩
    unfold updT
    split
    · unfold TagsE.ok
      simp only
      omega
    · exact hT j hj
theorem good_at {V : Int} {n : Nat} {T : Nat → TagsE} {k cost at_ : Int} (h : goodTag V n T k cost at_ = true) : 0 ≤ headF T k ∧ 0 ≤ V := by
  rcases goodTag_cases V n T k cost at_ with ⟨hn, _⟩ | ⟨hn, _⟩ | ⟨_, hv, h0, h1, _, _⟩
  · rw [h] at hn; cases hn
  · rw [h] at hn; cases hn
  · have := vok_at hv (k := k.toNat) (by omega)
    unfold headF
    omega

set_option maxHeartbeats 400000 in
theorem vgreat_any (V : Int) (a : Option Addr) (n c : Nat) (w : World) : Calls Try.prog 14 #[.agg #[.int .i64 V, .slice a n c]] w fun e w' => e = .returned (.bool (decide (50 < n))) ∧ w.alloc (.cells #[.int .i64 V, .slice a n c] 24) = w' := by
  go_enter Try.func14, Try.ntmps14
  go_wp2_with fail
  go_ret
  exact ⟨congrArg (fun b => Ending.returned (.bool b)) (by rw [Bool.eq_iff_iff]; simp; omega), rfl⟩

set_option maxRecDepth 100000 in
set_option maxHeartbeats 8000000 in
theorem virtualTags_any (V : Int) (a : Option Addr) (n c b o : Nat) (T : Nat → TagsE) (k s wt al : Int) (w : World) (hs : TagsIn w a n c b o T) :
    Calls Try.prog 4 #[.agg #[.int .i64 V, .slice a n c], .int .i64 k, .int .i64 s, .int .i64 wt, .int .i64 al] w fun e w' => e = .returned (.bool true) ∧ Below w.heap.size w w' := by
  by_cases hg : 50 < n
  · have G1 : Hid (decide (50 < n) = true) := Lib.hid (by simpa using hg)
    clear hg hs
    go_enter Try.func4, Try.ntmps4
    go_wp2_with (first
      | (go_at_call 14; refine (vgreat_any _ _ _ _ _).mono ?_; rw [G1.out]; rintro e W ⟨rfl, rfl⟩)
      | (go_at_call 15; refine (vwakes_any _).mono ?_; rintro e WK ⟨rfl, hWK⟩))
    go_ret
    exact ⟨rfl, (((Below.refl _ _).alloc (Nat.le_refl _) _).alloc (by simp) _).trans (hWK.mono (by simp; omega))⟩
  · have G1 : Hid (decide (50 < n) = false) := Lib.hid (by simpa using hg)
    have hn : n * 16 ≤ 140737488351232 := by omega
    have hcr := cost_range s wt al
    have HS := Lib.hid hs
    have HH0 := Lib.hid (tw1 (n := w.heap.size) (Below.refl _ (w.alloc (.cells #[.int .i64 V, .slice a n c] 24))) rfl)
    have HB0 : Hid (Below w.heap.size w (w.alloc (.cells #[.int .i64 V, .slice a n c] 24))) := Lib.hid ((Below.refl _ _).alloc (Nat.le_refl _) _)
    clear hs hg
    go_enter Try.func4, Try.ntmps4
    go_wp2_with (go_at_call 14; refine (vgreat_any _ _ _ _ _).mono ?_; rw [G1.out]; rintro e W ⟨rfl, rfl⟩)
    have HB1 := Lib.hid (HB0.out.alloc HB0.out.size (.cells #[.int .i64 V, .slice a n c] 24))
    have HH1 := Lib.hid (Holds.step HH0.out ((Below.refl _ _).alloc (Nat.le_refl _) (.cells #[.int .i64 V, .slice a n c] 24)))
    go_at_call 25
    refine Calls.mono (wake_any V a n c b o T k s wt al _ (HS.out.below HB1.out) hn) ?_
    rintro e W1 hP
    have hP := hP.two HS.out.bd hcr.1 hcr.2 (fun h => by have := good_at h; omega)
    obtain ⟨V1, n1, T1, er1, ⟨v1, rfl, hV1⟩, hk1, _, hP1⟩ := hP
    have HK1 := Lib.hid hk1
    have HP1 := Lib.hid hP1
    clear hk1 hP1
    have hV1 := hV1.tags HK1.out
    obtain ⟨a1, c1, b1, rfl, hT1, _, hb1⟩ := hV1
    have HC1 := Lib.hid (HB1.out.trans (hb1.mono HB1.out.size))
    have HZ1 := Lib.hid (Holds.step HH1.out hb1)
    have HT1_1 := Lib.hid hT1
    clear hT1 hb1
    have r0 : W1.cell? ⟨w.heap.size, 0, none⟩ = some (.int .i64 V) := HZ1.out.1 0
    have r1 : W1.cell? ⟨w.heap.size, 1, none⟩ = some (.slice a n c) := HZ1.out.1 1
    have z0 := HZ1.out.2.2
    go_wp2_with fail
    go_at_call 26
    refine Calls.mono (rwake_any V a n c b o T k s wt al _ (HS.out.below (HC1.out.alloc HC1.out.size _)) hn) ?_
    rintro e W2 hP
    have hP := HP1.out _ _ _ hP
    obtain ⟨v2, rfl, hV2⟩ := hP
    have hV2 := hV2.tags HK1.out
    obtain ⟨a2, c2, b2, rfl, hT2, _, hb2⟩ := hV2
    have hY2 : Below W1.heap.size W1 W2 := ((Below.refl _ _).alloc (Nat.le_refl _) _).trans (hb2.mono (by simp))
    have HC2 := Lib.hid (HC1.out.trans (hY2.mono HC1.out.size))
    have HZ2 := Lib.hid (Holds.step HZ1.out hY2)
    have HX1_2 := Lib.hid (tw1 (n := W1.heap.size) hb2 rfl)
    have HT1_2 := Lib.hid (HT1_1.out.below hY2)
    have HT2_2 := Lib.hid hT2
    clear hT2 hb2 hY2 r0 r1 z0
    have r0 : W2.cell? ⟨w.heap.size, 0, none⟩ = some (.int .i64 V) := HZ2.out.1 0
    have r1 : W2.cell? ⟨w.heap.size, 1, none⟩ = some (.slice a n c) := HZ2.out.1 1
    have z0 := HZ2.out.2.2
    go_wp2_with fail
    go_at_call 27
    refine Calls.mono (next_any V a n c b o T k s wt al _ (HS.out.below (HC2.out.alloc HC2.out.size _)) hn) ?_
    rintro e W3 hP
    have hP := hP.two HS.out.bd hcr.1 hcr.2 (fun h => by have := good_at h; omega)
    obtain ⟨V3, n3, T3, er3, ⟨v3, rfl, hV3⟩, hk3, _, hP3⟩ := hP
    have HK3 := Lib.hid hk3
    have HP3 := Lib.hid hP3
    clear hk3 hP3
    have hV3 := hV3.tags HK3.out
    obtain ⟨a3, c3, b3, rfl, hT3, _, hb3⟩ := hV3
    have hY3 : Below W2.heap.size W2 W3 := ((Below.refl _ _).alloc (Nat.le_refl _) _).trans (hb3.mono (by simp))
    have HC3 := Lib.hid (HC2.out.trans (hY3.mono HC2.out.size))
    have HZ3 := Lib.hid (Holds.step HZ2.out hY3)
    have HX2_3 := Lib.hid (tw1 (n := W2.heap.size) hb3 rfl)
    have HX1_3 := Lib.hid (Holds.step HX1_2.out hY3)
    have HT1_3 := Lib.hid (HT1_2.out.below hY3)
    have HT2_3 := Lib.hid (HT2_2.out.below hY3)
    have HT3_3 := Lib.hid hT3
    clear hT3 hb3 hY3 r0 r1 z0
    have r0 : W3.cell? ⟨w.heap.size, 0, none⟩ = some (.int .i64 V) := HZ3.out.1 0
    have r1 : W3.cell? ⟨w.heap.size, 1, none⟩ = some (.slice a n c) := HZ3.out.1 1
    have z0 := HZ3.out.2.2
    go_wp2_with fail
    go_at_call 28
    refine Calls.mono (rnext_any V a n c b o T k s wt al _ (HS.out.below (HC3.out.alloc HC3.out.size _)) hn) ?_
    rintro e W4 hP
    have hP := HP3.out _ _ _ hP
    obtain ⟨v4, rfl, hV4⟩ := hP
    have hV4 := hV4.tags HK3.out
    obtain ⟨a4, c4, b4, rfl, hT4, _, hb4⟩ := hV4
    have hY4 : Below W3.heap.size W3 W4 := ((Below.refl _ _).alloc (Nat.le_refl _) _).trans (hb4.mono (by simp))
    have HC4 := Lib.hid (HC3.out.trans (hY4.mono HC3.out.size))
    have HZ4 := Lib.hid (Holds.step HZ3.out hY4)
    have HX3_4 := Lib.hid (tw1 (n := W3.heap.size) hb4 rfl)
    have HX1_4 := Lib.hid (Holds.step HX1_3.out hY4)
    have HX2_4 := Lib.hid (Holds.step HX2_3.out hY4)
    have HT1_4 := Lib.hid (HT1_3.out.below hY4)
    have HT2_4 := Lib.hid (HT2_3.out.below hY4)
    have HT3_4 := Lib.hid (HT3_3.out.below hY4)
    have HT4_4 := Lib.hid hT4
    clear hT4 hb4 hY4 r0 r1 z0
    have xa1 : W4.cell? ⟨W1.heap.size, 0, none⟩ = some (.int .i64 V1) := HX1_4.out.1 0
    have xb1 : W4.cell? ⟨W1.heap.size, 1, none⟩ = some (.slice a1 n1 c1) := HX1_4.out.1 1
    have xc1 := HX1_4.out.2.2
    have xa2 : W4.cell? ⟨W2.heap.size, 0, none⟩ = some (.int .i64 V1) := HX2_4.out.1 0
    have xb2 : W4.cell? ⟨W2.heap.size, 1, none⟩ = some (.slice a2 n1 c2) := HX2_4.out.1 1
    have xc2 := HX2_4.out.2.2
    have xa3 : W4.cell? ⟨W3.heap.size, 0, none⟩ = some (.int .i64 V3) := HX3_4.out.1 0
    have xb3 : W4.cell? ⟨W3.heap.size, 1, none⟩ = some (.slice a3 n3 c3) := HX3_4.out.1 1
    have xc3 := HX3_4.out.2.2
    have HY := Lib.hid (HC4.out.alloc HC4.out.size (.cells #[.int .i64 V3, .slice a4 n3 c4] 24))
    have hyb : Below W4.heap.size W4 (W4.alloc (.cells #[.int .i64 V3, .slice a4 n3 c4] 24)) := (Below.refl _ _).alloc (Nat.le_refl _) _
    have HU1 := Lib.hid (HT1_4.out.below hyb)
    have HU2 := Lib.hid (HT2_4.out.below hyb)
    have HU3 := Lib.hid (HT3_4.out.below hyb)
    have HU4 := Lib.hid (HT4_4.out.below hyb)
    clear hyb
    go_wp2_with fail
    go_at_call 18
    refine Calls.mono (vsame_any V1 a1 n1 c1 b1 0 T1 a2 c2 b2 0 T1 _ HU1.out HU2.out (fun _ _ => rfl)) ?_
    rintro e X5 ⟨rfl, hX5⟩
    have hz5 : Below W4.heap.size W4 X5 := ((Below.refl _ _).alloc (Nat.le_refl _) _).trans (hX5.mono (by simp))
    have HX4_5x := Lib.hid (tw1 (n := W4.heap.size) hX5 rfl)
    clear xa1 xb1 xc1 xa2 xb2 xc2 xa3 xb3 xc3
    have HX3_5x := Lib.hid (Holds.step HX3_4.out hz5)
    have xa3 : X5.cell? ⟨W3.heap.size, 0, none⟩ = some (.int .i64 V3) := HX3_5x.out.1 0
    have xb3 : X5.cell? ⟨W3.heap.size, 1, none⟩ = some (.slice a3 n3 c3) := HX3_5x.out.1 1
    have xc3 := HX3_5x.out.2.2
    have xa4 : X5.cell? ⟨W4.heap.size, 0, none⟩ = some (.int .i64 V3) := HX4_5x.out.1 0
    have xb4 : X5.cell? ⟨W4.heap.size, 1, none⟩ = some (.slice a4 n3 c4) := HX4_5x.out.1 1
    have xc4 := HX4_5x.out.2.2
    have HU5 := Lib.hid (HY.out.trans (hX5.mono HY.out.size))
    have HV3 := Lib.hid (HU3.out.below hX5)
    have HV4 := Lib.hid (HU4.out.below hX5)
    clear hX5 hz5
    go_wp2_with fail
    go_at_call 18
    refine Calls.mono (vsame_any V3 a3 n3 c3 b3 0 T3 a4 c4 b4 0 T3 _ HV3.out HV4.out (fun _ _ => rfl)) ?_
    rintro e X6 ⟨rfl, hX6⟩
    have HU6 := Lib.hid (HU5.out.trans (hX6.mono HU5.out.size))
    clear hX6
    go_wp2_with (go_at_call 15; refine (vwakes_any _).mono ?_; rintro e WK ⟨rfl, hWK⟩)
    go_ret
    exact ⟨rfl, HU6.out.trans (hWK.mono HU6.out.size)⟩
end Go.Proofs.Ytpgpcgpecpimlaa
