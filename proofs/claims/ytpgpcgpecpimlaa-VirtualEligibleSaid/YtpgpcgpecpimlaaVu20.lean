/-
  VirtualEligible, walked.
-/
import Derived.Test.YtpgpcgpecpimlaaVu19
namespace Go.Proofs.Ytpgpcgpecpimlaa
open Go.RowKit
set_option linter.unusedSimpArgs false
set_option linter.unusedVariables false

set_option maxRecDepth 100000 in
set_option maxHeartbeats 100000000 in
theorem elig_yes0 (V : Int) (a : Option Addr) (n c b o : Nat) (T : Nat → TagsE) (ra : Option Addr) (rn rc rb ro : Nat) (R : Nat → Bool) (s wt al : Int) (w : World) (hs : TagsIn w a n c b o T) (hr : BoolsIn w ra rn rc rb ro R) (G0 : decide (50 < n) = false) (hv : vokB V n T = true) (k1 m : Nat) (now : Int) (hrn : rn = n) (hk1 : firstS R (ltS T) n = some k1) (hnow : now = max V (T k1).s) (hm2 : firstS (tkN T R now) (ltF T) n = some m) (hcost : costS s wt al = 0) (hp : ∀ W, TagsIn W a n c b o T → BoolsIn W ra rn rc rb ro R → Calls Try.prog 29 #[.agg #[.int .i64 V, .slice a n c], .slice ra rn rc] W (PickOut W now n T m true)) :
    Calls Try.prog 6 #[.agg #[.int .i64 V, .slice a n c], .slice ra rn rc, .int .i64 s, .int .i64 wt, .int .i64 al] w fun e w' => e = .returned (.bool true) ∧ Below w.heap.size w w' := by
  have hm := hs.max
  have hl := hs.le
  unfold maxLen at hm
  have hrl := hr.le
  have hrm := hr.max
  unfold maxLen at hrm
  have HS := Lib.hid hs
  have HR := Lib.hid hr
  have G1 := Lib.hid G0
  have HV := Lib.hid hv
  have HH0 := Lib.hid (tw1 (n := w.heap.size) (Below.refl _ (w.alloc (.cells #[.int .i64 V, .slice a n c] 24))) rfl)
  have hy : Below (w.alloc (.cells #[.int .i64 V, .slice a n c] 24)).heap.size (w.alloc (.cells #[.int .i64 V, .slice a n c] 24)) ((w.alloc (.cells #[.int .i64 V, .slice a n c] 24)).alloc (.cells #[.int .i64 V, .slice a n c] 24)) := (Below.refl _ _).alloc (Nat.le_refl _) _
  have HB0 : Hid (Below w.heap.size w ((w.alloc (.cells #[.int .i64 V, .slice a n c] 24)).alloc (.cells #[.int .i64 V, .slice a n c] 24))) := Lib.hid (((Below.refl _ _).alloc (Nat.le_refl _) _).alloc (by simp) _)
  have HH1 := Lib.hid (Holds.step HH0.out hy)
  have C1 : Hid (∀ W, TagsIn W a n c b o T → Calls Try.prog 19 #[.agg #[.int .i64 V, .slice a n c]] W fun e w' => e = .returned (.bool true) ∧ Below W.heap.size W w') := Lib.hid (fun W h => by rw [← hv]; exact check_any V a n c b o T W h)
  have hcc := hcost
  obtain ⟨C, hC⟩ : ∃ C, C = costS s wt al := ⟨_, rfl⟩
  have C2 : Hid (∀ W, Calls Try.prog 21 #[.int .i64 s, .int .i64 wt, .int .i64 al] W fun e w' => e = .returned (.int .i64 C) ∧ W = w') := Lib.hid (fun W => by rw [hC]; exact cost_any s wt al W)
  rw [← hC] at hcc
  clear hs hr hC hy G0 hv
  obtain rfl := hrn.symm
  have HP := Lib.hid hp
  obtain ⟨hml, hmt⟩ := firstS_some hm2
  have hleast := firstS_least (key := fun j => (T j).f) hm2
  have hstart := firstS_least (key := fun j => (T j).s) hk1
  have hmt2 : R m = true ∧ (T m).s ≤ now := by unfold tkN at hmt; simpa using hmt
  have hround : ∀ i, i < n → R i = true → ((T i).s ≤ now → (T m).f ≤ (T i).f) ∧ (V < now → now ≤ (T i).s) := fun i hi hri => by
    refine ⟨fun h => hleast i hi (by unfold tkN; rw [hri]; simpa using h), fun h => ?_⟩
    have h9 : (T k1).s ≤ (T i).s := hstart i hi hri
    omega
  have HRD := Lib.hid hround
  have hVn : V ≤ now := by omega
  obtain ⟨sm, hsm⟩ : ∃ sm, sm = (T m).s := ⟨_, rfl⟩
  obtain ⟨fm, hfm⟩ : ∃ fm, fm = (T m).f := ⟨_, rfl⟩
  have HMT := Lib.hid hmt2.1
  have hsn := hmt2.2
  rw [← hsm] at hsn
  have HSM := Lib.hid hsm
  have HFM := Lib.hid hfm
  clear hp hk1 hnow hm2 hmt hmt2 hleast hstart hround hsm hfm
  subst hcc
  clear hcost
  go_enter Try.func6, Try.ntmps6
  go_wp2_with (first
    | (go_at_call 14; refine (vgreat_any _ _ _ _ _).mono ?_; rw [G1.out]; rintro e W ⟨rfl, rfl⟩)
    | (go_at_call 19; refine Calls.mono (C1.out _ (HS.out.below HB0.out)) ?_; rintro e W1 ⟨rfl, hW1⟩; have HB1 := Lib.hid (HB0.out.trans (hW1.mono HB0.out.size)); have HZ1 := Lib.hid (Holds.step HH1.out hW1); have r0 : W1.cell? ⟨w.heap.size, 0, none⟩ = some (.int .i64 V) := HZ1.out.1 0; have r1 : W1.cell? ⟨w.heap.size, 1, none⟩ = some (.slice a n c) := HZ1.out.1 1; have z0 := HZ1.out.2.2)
    | (go_at_call 21; refine Calls.mono (C2.out _) ?_; rintro e W ⟨rfl, rfl⟩))
  go_at_call 29
  refine Calls.mono (HP.out _ (HS.out.below HB1.out) (HR.out.below HB1.out)) ?_
  rintro e W2 ⟨v2, rfl, hV2⟩
  have hV2 := hV2.tags HS.out.bd
  obtain ⟨a2, c2, b2, rfl, hT2, _, hb2⟩ := hV2
  have HB2 := Lib.hid (HB1.out.trans (hb2.mono HB1.out.size))
  have HZ2 := Lib.hid (Holds.step HZ1.out hb2)
  have HT2 := Lib.hid hT2
  clear hT2 hb2 r0 r1 z0
  have r0 : W2.cell? ⟨w.heap.size, 0, none⟩ = some (.int .i64 V) := HZ2.out.1 0
  have r1 : W2.cell? ⟨w.heap.size, 1, none⟩ = some (.slice a n c) := HZ2.out.1 1
  have z0 := HZ2.out.2.2
  go_wp2_with fail
  obtain ⟨X, hX⟩ : ∃ X, X = W2.alloc (.cells #[.int .i64 now, .slice a2 n c2] 24) := ⟨_, rfl⟩
  have hBX : Below W2.heap.size W2 X := by rw [hX]; exact (Below.refl _ _).alloc (Nat.le_refl _) _
  have hOX : Holds X W2.heap.size #[.int .i64 now, .slice a2 n c2] := by rw [hX]; exact tw1 (n := W2.heap.size) (Below.refl _ _) rfl
  rw [← hX]
  have HBX := Lib.hid (HB2.out.trans (hBX.mono HB2.out.size))
  have HVX := Lib.hid (Holds.step HZ2.out hBX)
  have HOX := Lib.hid hOX
  have HTX := Lib.hid (HT2.out.below hBX)
  clear r0 r1 z0 hX hBX hOX
  obtain ⟨e0, e1⟩ := HTX.out.at_ (by omega)
  obtain ⟨e2, e3⟩ := HR.out.at_ (by omega)
  obtain ⟨e4, e5⟩ := HS.out.at_ (by omega)
  subst e0 e2 e4
  have r0 : X.cell? ⟨w.heap.size, 0, none⟩ = some (.int .i64 V) := HVX.out.1 0
  have r1 : X.cell? ⟨w.heap.size, 1, none⟩ = some (.slice (some ⟨b, o, none⟩) n c) := HVX.out.1 1
  have o0 : X.cell? ⟨W2.heap.size, 0, none⟩ = some (.int .i64 now) := HOX.out.1 0
  have o1 : X.cell? ⟨W2.heap.size, 1, none⟩ = some (.slice (some ⟨b2, 0, none⟩) n c2) := HOX.out.1 1
  have k2 := (HR.out.below HBX.out).cell m hml
  rw [HMT.out] at k2
  have k0 := (HTX.out.cell m hml).1
  rw [← HSM.out, Nat.zero_add] at k0
  have bm : decide ((m : Int) < 0) = false := by simp
  have bm2 : decide (n ≤ m) = false := by simp; omega
  have i1 : (0 : Int) ≤ (m : Int) := by omega
  have i2 : (m : Int) < (n : Int) := by omega
  have bv : decide (now < V) = false := by simp; omega
  have bs : decide (now < sm) = false := by simp; omega
  go_quiet (fail)
  go_wp2_with fail
  go_loopw [121] (fun i wr => ∃ k : Nat, k ≤ n ∧ i = .int .i64 k ∧ Below X.heap.size X wr) (fun i _ => n - (intOf i).toNat)
  case atStart => exact ⟨0, Nat.zero_le _, rfl, below_drewN (Below.refl _ _) _⟩
  case round =>
    clear r0 r1 o0 o1 k2 k0
    obtain ⟨k, hk, rfl, hbel⟩ := hrel
    have HVk := Lib.hid (Holds.step HVX.out hbel)
    have HOk := Lib.hid (Holds.step HOX.out hbel)
    have HTk := Lib.hid (HTX.out.below hbel)
    have HBk := Lib.hid (HBX.out.trans (hbel.mono HBX.out.size))
    have HBL := Lib.hid hbel
    clear hbel
    by_cases hlt : k < n
    · have r0 : wr.cell? ⟨w.heap.size, 0, none⟩ = some (.int .i64 V) := HVk.out.1 0
      have r1 : wr.cell? ⟨w.heap.size, 1, none⟩ = some (.slice (some ⟨b, o, none⟩) n c) := HVk.out.1 1
      have o0 : wr.cell? ⟨W2.heap.size, 0, none⟩ = some (.int .i64 now) := HOk.out.1 0
      have o1 : wr.cell? ⟨W2.heap.size, 1, none⟩ = some (.slice (some ⟨b2, 0, none⟩) n c2) := HOk.out.1 1
      have k2 := (HR.out.below HBk.out).cell k hlt
      obtain ⟨k0, k1⟩ := HTk.out.cell k hlt
      obtain ⟨l0, l1⟩ := (HS.out.below HBk.out).cell k hlt
      have kf := (HTk.out.cell m hml).2
      rw [Nat.zero_add] at k0 k1 kf
      rw [← HFM.out] at kf
      have hrd := HRD.out k hlt
      obtain ⟨s2, hs2⟩ : ∃ s2, s2 = (T k).s := ⟨_, rfl⟩
      obtain ⟨f2, hf2⟩ : ∃ f2, f2 = (T k).f := ⟨_, rfl⟩
      obtain ⟨r, hr⟩ : ∃ r, r = R k := ⟨_, rfl⟩
      rw [← hs2] at k0 l0 hrd
      rw [← hf2] at k1 l1 hrd
      rw [← hr] at k2 hrd
      rw [← HFM.out] at hrd
      clear hs2 hf2 hr
      have hcs : r = false ∨ (r = true ∧ (decide (s2 ≤ now) = false ∨ (decide (s2 ≤ now) = true ∧ decide (f2 < fm) = false)) ∧ (decide (V < now) = false ∨ (decide (V < now) = true ∧ decide (s2 < now) = false))) := by
        cases r
        · exact .inl rfl
        · obtain ⟨h1, h2⟩ := hrd rfl
          refine .inr ⟨rfl, ?_, ?_⟩
          · by_cases h : s2 ≤ now
            · exact .inr ⟨by simpa using h, by have := h1 h; simp; omega⟩
            · exact .inl (by simpa using h)
          · by_cases h : V < now
            · exact .inr ⟨by simpa using h, by have := h2 h; simp; omega⟩
            · exact .inl (by simpa using h)
      clear hrd
      have j1 : (0 : Int) ≤ (k : Int) := by omega
      have j2 : (k : Int) < (n : Int) := by omega
      rcases hcs with rfl | ⟨rfl, h1 | ⟨h1, h2⟩, h3 | ⟨h3, h4⟩⟩
      all_goals
        go_wp2_with fail
        (refine wp_region_quiet_lit (by kernel_rfl) (by kernel_rfl) ?_; simp only [List.append]; (repeat (first | go_big_quiet_step (fail) | (refine BigFrame.wpQuiet_skip (by rfl) ?_; try simp only [Act.put, List.setIfInBounds_toArray, List.set_cons_zero, List.set_cons_succ]))); refine wpQuiet_nil ?_; intro _ hw9; obtain ⟨nq, hw8⟩ := hw9; subst hw8)
        go_wp2_with fail
        go_roundw
        case rel => exact ⟨k + 1, by omega, by go_num, below_drewN HBL.out _⟩
        case measure => simp [intOf]; omega
    · obtain rfl : k = n := by omega
      go_wp2_with (go_at_call 15; refine (vwakes_any _).mono ?_; rintro e WK ⟨rfl, hWK⟩)
      go_ret
      exact ⟨rfl, HBk.out.trans (hWK.mono HBk.out.size)⟩
end Go.Proofs.Ytpgpcgpecpimlaa
