/-
  WireFrame: the walk.
-/
import Derived.Test.YtiednacpmlilbaaDoorWk7
namespace Go.Proofs.YtiednacpmlilbaaDoor
open Go.RowKit
set_option linter.unusedSimpArgs false
set_option linter.unusedVariables false

def frR (l : List Nat) : List Nat × Int := if 65536 < l.length then ([], 3) else (frameL l, 0)
def unR (l : List Nat) : List Nat × Int × Int := match unfL l with
  | none => ([], 0, 50)
  | some (x, u) => (x, (u : Nat), 0)
theorem frameU (w : World) (v : Value) (l : List Nat) (ht : Tab w) (hv : BV w v l) (hl : l.length ≤ 900000) :
    Calls Tryd.prog 36 #[v] w fun e w' => ∃ v', e = .returned (.tuple #[v', .int .i64 (frR l).2]) ∧ BV w' v' (frR l).1 ∧ Below w.heap.size w w' := by
  refine Calls.mono (frame_any w v l ht hv hl) ?_
  rintro e w' ⟨hB, h1, h2⟩
  unfold frR
  by_cases h : 65536 < l.length
  · rw [if_pos h]
    exact ⟨_, h1 h, bv_nil _, hB⟩
  · rw [if_neg h]
    obtain ⟨v', h3, h4⟩ := h2 h
    exact ⟨v', h3, h4, hB⟩
theorem rframeU (w : World) (v : Value) (l : List Nat) (hv : BV w v l) (hl : l.length ≤ 900000) :
    Calls Tryd.prog 37 #[v] w fun e w' => ∃ v', e = .returned (.tuple #[v', .int .i64 (frR l).2]) ∧ BV w' v' (frR l).1 ∧ Below w.heap.size w w' := by
  refine Calls.mono (rframe_any w v l hv hl) ?_
  rintro e w' ⟨hB, h1, h2⟩
  unfold frR
  by_cases h : 65536 < l.length
  · rw [if_pos h]
    exact ⟨_, h1 h, bv_nil _, hB⟩
  · rw [if_neg h]
    obtain ⟨v', h3, h4⟩ := h2 h
    exact ⟨v', h3, h4, hB⟩
theorem unframeU (w : World) (v : Value) (l : List Nat) (ht : Tab w) (hv : BV w v l) (hl : l.length ≤ 900000) :
    Calls Tryd.prog 38 #[v] w fun e w' => ∃ v', e = .returned (.tuple #[v', .int .i64 (unR l).2.1, .int .i64 (unR l).2.2]) ∧ BV w' v' (unR l).1 ∧ Below w.heap.size w w' := by
  refine Calls.mono (unframe_any w v l ht hv hl) ?_
  rintro e w' ⟨hB, h1⟩
  unfold unR
  rcases h : unfL l with _ | ⟨x, u⟩
  · rw [h] at h1
    exact ⟨_, h1, bv_nil _, hB⟩
  · rw [h] at h1
    obtain ⟨v', h3, h4⟩ := h1
    exact ⟨v', h3, h4, hB⟩
theorem runframeU (w : World) (v : Value) (l : List Nat) (hv : BV w v l) (hl : l.length ≤ 900000) :
    Calls Tryd.prog 39 #[v] w fun e w' => ∃ v', e = .returned (.tuple #[v', .int .i64 (unR l).2.1, .int .i64 (unR l).2.2]) ∧ BV w' v' (unR l).1 ∧ Below w.heap.size w w' := by
  refine Calls.mono (runframe_any w v l hv hl) ?_
  rintro e w' ⟨hB, h1⟩
  unfold unR
  rcases h : unfL l with _ | ⟨x, u⟩
  · rw [h] at h1
    exact ⟨_, h1, bv_nil _, hB⟩
  · rw [h] at h1
    obtain ⟨v', h3, h4⟩ := h1
    exact ⟨v', h3, h4, hB⟩
set_option maxRecDepth 100000 in
set_option maxHeartbeats 8000000 in
theorem law_frame (w : World) (v : Value) (l : List Nat) (ht : Tab w) (hv : BV w v l) :
    Calls Tryd.prog 7 #[v] w fun e w' => e = .returned (.bool true) ∧ Below w.heap.size w w' := by
  have hv0 := hv
  obtain ⟨a, n, c, rfl, hn, h1, h2⟩ := hv.sh
  have HN := Lib.hid hn.out
  have HV := Lib.hid hv0
  have HT := Lib.hid ht
  clear hn hv hv0 ht
  by_cases hbig : (4000 < n ∧ n ≤ 65536) ∨ 131072 < n
  · have HW := Lib.hid (wakes_any w HT.out)
    go_enter Tryd.func7, Tryd.ntmps7
    by_cases h4 : 4000 < n
    · have d1 : ((4000 : Int) < (n : Int)) = True := eq_true (by omega)
      have d2 : (4000 < n) = True := eq_true h4
      by_cases h5 : n ≤ 65536
      · have d3 : ((n : Int) ≤ 65536) = True := eq_true (by omega)
        have d4 : (n ≤ 65536) = True := eq_true h5
        go_wp2_with (refine Calls.mono HW.out ?_; rintro e W1 ⟨rfl, hB⟩; have HB := Lib.hid hB; clear hB)
        try go_wp2_with fail
        go_ret
        exact ⟨rfl, HB.out⟩
      · have d3 : ((n : Int) ≤ 65536) = False := eq_false (by omega)
        have d4 : (n ≤ 65536) = False := eq_false h5
        have d5 : ((131072 : Int) < (n : Int)) = True := eq_true (by omega)
        have d6 : (131072 < n) = True := eq_true (by omega)
        go_wp2_with (refine Calls.mono HW.out ?_; rintro e W1 ⟨rfl, hB⟩; have HB := Lib.hid hB; clear hB)
        try go_wp2_with fail
        go_ret
        exact ⟨rfl, HB.out⟩
    · exfalso
      omega
  · have hn6 : n ≤ 131072 := by omega
    have HF1 := Lib.hid (fun W (hB : Below w.heap.size w W) => frameU W _ l (HT.out.below hB) (HV.out.below hB) (by rw [← HN.out]; omega))
    have HF2 := Lib.hid (fun W (hB : Below w.heap.size w W) => rframeU W _ l (HV.out.below hB) (by rw [← HN.out]; omega))
    have HU1 := Lib.hid (fun W (hB : Below w.heap.size w W) => unframeU W _ l (HT.out.below hB) (HV.out.below hB) (by rw [← HN.out]; omega))
    have HU2 := Lib.hid (fun W (hB : Below w.heap.size w W) => runframeU W _ l (HV.out.below hB) (by rw [← HN.out]; omega))
    obtain ⟨A, hA⟩ : ∃ A, A = (frR l).1 := ⟨_, rfl⟩
    obtain ⟨er, her⟩ : ∃ A, A = (frR l).2 := ⟨_, rfl⟩
    obtain ⟨B, hB⟩ : ∃ A, A = (unR l).1 := ⟨_, rfl⟩
    obtain ⟨ur, hur⟩ : ∃ A, A = (unR l).2.1 := ⟨_, rfl⟩
    obtain ⟨ue, hue⟩ : ∃ A, A = (unR l).2.2 := ⟨_, rfl⟩
    rw [← hA, ← her] at HF1 HF2
    rw [← hB, ← hur, ← hue] at HU1 HU2
    have HW := Lib.hid (fun W (hB : Below w.heap.size w W) => wakes_any W (HT.out.below hB))
    have HCV := Lib.hid (fun W v L (h : BV W v L) => bv_string h)
    obtain ⟨sA, hsA⟩ : ∃ x, x = (bytesU A).toArray := ⟨_, rfl⟩
    obtain ⟨sB, hsB⟩ : ∃ x, x = (bytesU B).toArray := ⟨_, rfl⟩
    have HCA := Lib.hid (fun W v (h : BV W v A) => show (convert 23 9 v).run Tryd.prog W = .ok (.string ⟨sA⟩) W by rw [hsA]; exact bv_string h)
    have HCB := Lib.hid (fun W v (h : BV W v B) => show (convert 23 9 v).run Tryd.prog W = .ok (.string ⟨sB⟩) W by rw [hsB]; exact bv_string h)
    clear hA her hB hur hue hsA hsB HCV
    have d1 : (4000 < n ∧ n ≤ 65536) = False := eq_false (fun h => hbig (.inl h))
    go_enter Tryd.func7, Tryd.ntmps7
    have e1 : ((131072 : Int) < (n : Int)) = False := eq_false (by omega)
    have e2 : (131072 < n) = False := eq_false (by omega)
    by_cases h4 : 4000 < n
    · have d1 : ((4000 : Int) < (n : Int)) = True := eq_true (by omega)
      have d2 : (4000 < n) = True := eq_true h4
      have d3 : ((n : Int) ≤ 65536) = False := eq_false (by omega)
      have d4 : (n ≤ 65536) = False := eq_false (by omega)
      go_upto_region 3 with fail
      go_wp2_with (refine Calls.mono (HF1.out _ (Below.refl _ _)) ?_; rintro e W1 ⟨v1, rfl, b1, k1⟩; have HB1 := Lib.hid k1; have HV1 := Lib.hid b1; have HF2' := Lib.hid (HF2.out W1 k1); clear k1 b1 HF1 HF2)
      go_wp2_with (refine Calls.mono HF2'.out ?_; rintro e W2 ⟨v2, rfl, b2, k2⟩; have HB2 := Lib.hid (HB1.out.trans (k2.mono HB1.out.size)); have HV2 := Lib.hid b2; replace HV1 := Lib.hid (HV1.out.below k2); have HU1' := Lib.hid (HU1.out W2 HB2.out); clear k2 b2 HF2' HU1)
      go_wp2_with (refine Calls.mono HU1'.out ?_; rintro e W3 ⟨v3, rfl, b3, k3⟩; have HB3 := Lib.hid (HB2.out.trans (k3.mono HB2.out.size)); have HV3 := Lib.hid b3; replace HV1 := Lib.hid (HV1.out.below k3); replace HV2 := Lib.hid (HV2.out.below k3); have HU2' := Lib.hid (HU2.out W3 HB3.out); clear k3 b3 HU1' HU2)
      go_wp2_with (refine Calls.mono HU2'.out ?_; rintro e W4 ⟨v4, rfl, b4, k4⟩; have HB4 := Lib.hid (HB3.out.trans (k4.mono HB3.out.size)); have q1 := HCA.out W4 v1 (HV1.out.below k4); have q2 := HCA.out W4 v2 (HV2.out.below k4); have q3 := HCB.out W4 v3 (HV3.out.below k4); have q4 := HCB.out W4 v4 b4; have HW4 := Lib.hid (HW.out W4 HB4.out); clear k4 b4 HU2' HW)
      go_wp2_with (refine Calls.mono HW4.out ?_; rintro e W5 ⟨rfl, k5⟩; have HB5 := Lib.hid (HB4.out.trans (k5.mono HB4.out.size)); clear k5 HW4)
      try go_wp2_with fail
      go_ret
      exact ⟨rfl, HB5.out⟩
    · have d1 : ((4000 : Int) < (n : Int)) = False := eq_false (by omega)
      have d2 : (4000 < n) = False := eq_false h4
      go_upto_region 3 with fail
      go_wp2_with (refine Calls.mono (HF1.out _ (Below.refl _ _)) ?_; rintro e W1 ⟨v1, rfl, b1, k1⟩; have HB1 := Lib.hid k1; have HV1 := Lib.hid b1; have HF2' := Lib.hid (HF2.out W1 k1); clear k1 b1 HF1 HF2)
      go_wp2_with (refine Calls.mono HF2'.out ?_; rintro e W2 ⟨v2, rfl, b2, k2⟩; have HB2 := Lib.hid (HB1.out.trans (k2.mono HB1.out.size)); have HV2 := Lib.hid b2; replace HV1 := Lib.hid (HV1.out.below k2); have HU1' := Lib.hid (HU1.out W2 HB2.out); clear k2 b2 HF2' HU1)
      go_wp2_with (refine Calls.mono HU1'.out ?_; rintro e W3 ⟨v3, rfl, b3, k3⟩; have HB3 := Lib.hid (HB2.out.trans (k3.mono HB2.out.size)); have HV3 := Lib.hid b3; replace HV1 := Lib.hid (HV1.out.below k3); replace HV2 := Lib.hid (HV2.out.below k3); have HU2' := Lib.hid (HU2.out W3 HB3.out); clear k3 b3 HU1' HU2)
      go_wp2_with (refine Calls.mono HU2'.out ?_; rintro e W4 ⟨v4, rfl, b4, k4⟩; have HB4 := Lib.hid (HB3.out.trans (k4.mono HB3.out.size)); have q1 := HCA.out W4 v1 (HV1.out.below k4); have q2 := HCA.out W4 v2 (HV2.out.below k4); have q3 := HCB.out W4 v3 (HV3.out.below k4); have q4 := HCB.out W4 v4 b4; have HW4 := Lib.hid (HW.out W4 HB4.out); clear k4 b4 HU2' HW)
      go_wp2_with (refine Calls.mono HW4.out ?_; rintro e W5 ⟨rfl, k5⟩; have HB5 := Lib.hid (HB4.out.trans (k5.mono HB4.out.size)); clear k5 HW4)
      try go_wp2_with fail
      go_ret
      exact ⟨rfl, HB5.out⟩
end Go.Proofs.YtiednacpmlilbaaDoor
