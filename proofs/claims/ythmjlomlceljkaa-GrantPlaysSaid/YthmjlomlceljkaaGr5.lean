/- The wakes of chapter 21. -/
import Derived.Test.YthmjlomlceljkaaGr4
namespace Go.Proofs.Ythmjlomlceljkaa
open Go.RowKit
set_option linter.unusedSimpArgs false
set_option linter.unusedVariables false

def wkF (k : Nat) : LeE := ⟨(k : Int) + 1, 0, 0, 0, 0, 0, 0⟩
def wkM : Int → Option Int := madeM (fun _ => none) 2 500
theorem wk_fit (now : Int) (h0 : 0 ≤ now) (h1 : now ≤ 100000) : fitD 0 now wkM := by
  intro id
  unfold wkM madeM
  by_cases h : id = 2
  · simp [h]; omega
  · simp [h]; omega
theorem wk_le {W : World} {B : Nat} (h : Blk W B #[.int .i64 1, .int .i64 0, .int .i64 0, .int .i64 0, .int .i64 0, .int .i64 0, .int .i64 0, .int .i64 2, .int .i64 0, .int .i64 0, .int .i64 0, .int .i64 0, .int .i64 0, .int .i64 0] 36) : LeIn W (some ⟨B, 0, none⟩) 2 2 B 0 wkF := by
  refine ⟨Nat.le_refl _, by unfold maxLen; omega, fun _ => ⟨rfl, h.lt⟩, fun k hk => ?_, fun k hk => ?_⟩
  · have : k = 0 ∨ k = 1 := by omega
    rcases this with rfl | rfl
    · exact ⟨cell_at h 0, cell_at h 1, cell_at h 2, cell_at h 3, cell_at h 4, cell_at h 5, cell_at h 6⟩
    · exact ⟨cell_at h 7, cell_at h 8, cell_at h 9, cell_at h 10, cell_at h 11, cell_at h 12, cell_at h 13⟩
  · have : k = 0 ∨ k = 1 := by omega
    rcases this with rfl | rfl <;> simp [LeE.ok, wkF]
theorem wk_ov1 : ovL (overB 0 12222 12223 wkM) wkF 2 = [] := by decide
theorem wk_ov2 : ovL (overB 0 12223 12223 wkM) wkF 2 = [1] := by decide
theorem wk_ov3 : ovL (overB 0 12723 12223 wkM) wkF 2 = [1, 2] := by decide
theorem wk_s1 : shareS 10000 50 1 1 100 = 5 := by decide
theorem wk_s2 : shareS 3000 50 0 10 100 = 0 := by decide

set_option maxRecDepth 100000 in
set_option maxHeartbeats 4000000 in
theorem wover_any (t now2 : Int) (now : Int) (l : List Int) (hm : max now t = now2) (h0 : 0 ≤ now2) (h1 : now2 ≤ 100000) (hl : ovL (overB 0 now2 12223 wkM) wkF 2 = l) (B g b : Nat) (w : World) (hle : LeIn w (some ⟨B, 0, none⟩) 2 2 B 0 wkF) (hg : B ≠ g) (hd : DkIn w g b 0 now 12223 wkM) :
    Calls Try.prog 14 #[.pointer (some ⟨g, 0, none⟩), .agg #[.int .i64 0, .int .i64 0, .int .i64 0, .slice none 0 0, .slice (some ⟨B, 0, none⟩) 2 2, .slice none 0 0, .slice none 0 0], .int .i64 t] w fun e w' => ∃ v, e = .returned v ∧ OverP l w w' v ∧ DkIn w' g b 0 now2 12223 wkM ∧ Fr [g] w w' := by
  have := gover_any t 0 0 0 (some ⟨B, 0, none⟩) 2 2 B 0 wkF g b 0 now 12223 wkM w hle (by omega) hg hd (by rw [hm]; exact wk_fit now2 h0 h1)
  rw [hm, hl] at this
  exact this

set_option maxRecDepth 100000 in
set_option maxHeartbeats 4000000 in
theorem gwakes_any (w : World) : Calls Try.prog 9 #[] w fun e w' => e = .returned (.bool true) ∧ Below w.heap.size w w' := by
  have a2 : overS 10 100 = 12223 := by decide
  have NW := Lib.hid (gnew_ok 10 100 0 (by omega) (by omega) (by omega) (by omega) (by omega) w)
  rw [a2] at NW
  clear a2
  go_enter Try.func9, Try.ntmps9
  go_wp2_with fail
  go_at_call 10
  refine Calls.mono NW.out ?_
  rintro e W1 ⟨g, b, rfl, hd1, hg1, hb1, hB1⟩
  obtain ⟨N, hN⟩ : ∃ N, N = W1.heap.size := ⟨_, rfl⟩
  obtain ⟨W2, hW2⟩ : ∃ W2, W2 = (W1.alloc (.cells #[.int .i64 1, .int .i64 0, .int .i64 0, .int .i64 0, .int .i64 0, .int .i64 0, .int .i64 0, .int .i64 2, .int .i64 0, .int .i64 0, .int .i64 0, .int .i64 0, .int .i64 0, .int .i64 0] 36)).alloc (.cells #[.int .i64 0, .int .i64 0, .int .i64 0, .slice none 0 0, .slice (some ⟨N, 0, none⟩) 2 2, .slice none 0 0, .slice none 0 0] 42) := ⟨_, rfl⟩
  have hBx : Below W1.heap.size W1 W2 := by rw [hW2]; exact ((Below.refl _ _).alloc (Nat.le_refl _) _).alloc (by simp) _
  have p2 : Blk W2 N #[.int .i64 1, .int .i64 0, .int .i64 0, .int .i64 0, .int .i64 0, .int .i64 0, .int .i64 0, .int .i64 2, .int .i64 0, .int .i64 0, .int .i64 0, .int .i64 0, .int .i64 0, .int .i64 0] 36 := by rw [hW2, hN]; exact (blk_new _ _ _).alloc _
  have q2 : Blk W2 (N + 1) #[.int .i64 0, .int .i64 0, .int .i64 0, .slice none 0 0, .slice (some ⟨N, 0, none⟩) 2 2, .slice none 0 0, .slice none 0 0] 42 := by
    rw [hW2, hN]
    have := blk_new (W1.alloc (.cells #[.int .i64 1, .int .i64 0, .int .i64 0, .int .i64 0, .int .i64 0, .int .i64 0, .int .i64 0, .int .i64 2, .int .i64 0, .int .i64 0, .int .i64 0, .int .i64 0, .int .i64 0, .int .i64 0] 36)) #[.int .i64 0, .int .i64 0, .int .i64 0, .slice none 0 0, .slice (some ⟨W1.heap.size, 0, none⟩) 2 2, .slice none 0 0, .slice none 0 0] 42
    rw [World.size_alloc] at this
    exact this
  have d2 := hd1.below hBx
  have D2 := Lib.hid d2
  have P2 := Lib.hid p2
  have Q2 := Lib.hid q2
  have hB2 := hB1.trans (hBx.mono hB1.size)
  have HB2 := Lib.hid hB2
  have HLT : Hid (g < N ∧ b < N ∧ w.heap.size ≤ g ∧ w.heap.size ≤ b ∧ w.heap.size ≤ N) := Lib.hid ⟨by rw [hN]; exact hd1.blk.lt, by rw [hN]; exact hd1.map.lt, hg1, hb1, by rw [hN]; exact hB1.size⟩
  clear hd1 hB1 hBx p2 q2 d2 hB2
  go_upto_region 5 with fail
  rw [← hN, ← hW2]
  clear hW2 hN
  go_wp2_with fail
  go_at_call 12
  refine Calls.mono (made_ok 2 500 g b 0 0 12223 (fun _ => none) W2 D2.out (by omega) (by omega)) ?_
  rintro e W3 ⟨rfl, hd3, hf3⟩
  have P3 : Hid (Blk W3 N #[.int .i64 1, .int .i64 0, .int .i64 0, .int .i64 0, .int .i64 0, .int .i64 0, .int .i64 0, .int .i64 2, .int .i64 0, .int .i64 0, .int .i64 0, .int .i64 0, .int .i64 0, .int .i64 0] 36) := Lib.hid ((hf3.block N P2.out.lt (by have := HLT.out; simp; omega)).trans P2.out)
  have Q3 : Hid (Blk W3 (N + 1) #[.int .i64 0, .int .i64 0, .int .i64 0, .slice none 0 0, .slice (some ⟨N, 0, none⟩) 2 2, .slice none 0 0, .slice none 0 0] 42) := Lib.hid ((hf3.block (N + 1) Q2.out.lt (by have := HLT.out; simp; omega)).trans Q2.out)
  have HB3 := Lib.hid (HB2.out.trans (hf3.below HB2.out.size (by have := HLT.out; simp; omega)))
  have D3 : Hid (DkIn W3 g b 0 500 12223 wkM) := Lib.hid hd3
  clear hd3 hf3 D2 P2 Q2 HB2
  go_upto_region 6 with fail
  refine wp_region_held_drew (S := fun X => X.cell? ⟨N + 1, 0, none⟩ = some (.int .i64 0) ∧ X.cell? ⟨N + 1, 1, none⟩ = some (.int .i64 0) ∧ X.cell? ⟨N + 1, 2, none⟩ = some (.int .i64 0) ∧ X.cell? ⟨N + 1, 3, none⟩ = some (.slice none 0 0) ∧ X.cell? ⟨N + 1, 4, none⟩ = some (.slice (some ⟨N, 0, none⟩) 2 2) ∧ X.cell? ⟨N + 1, 5, none⟩ = some (.slice none 0 0) ∧ X.cell? ⟨N + 1, 6, none⟩ = some (.slice none 0 0)) (by kernel_rfl) ⟨cell_at Q3.out 0, cell_at Q3.out 1, cell_at Q3.out 2, cell_at Q3.out 3, cell_at Q3.out 4, cell_at Q3.out 5, cell_at Q3.out 6⟩ (fun hHeld => ?_)
  try simp only [Act.put, List.setIfInBounds_toArray, List.set_cons_zero, List.set_cons_succ]
  have Bz := belowN (Below.refl W3.heap.size W3) 1
  have D3' : Hid (DkIn W3.drew g b 0 500 12223 wkM) := Lib.hid (D3.out.below Bz)
  have P3' := Lib.hid (P3.out.step Bz)
  have Q3' := Lib.hid (Q3.out.step Bz)
  have HB3' := Lib.hid (HB3.out.trans (Bz.mono HB3.out.size))
  clear Bz D3 P3 Q3 HB3
  ((refine wpAnyH_take (i := 0) (v := ?_) (by (simp only [List.getElem?_toArray, List.getElem?_cons_succ, List.getElem?_cons_zero]); rfl) (by kernel_rfl) (by kernel_rfl) (by kernel_rfl) (by exact fun _ _ _ h => h) (Or.inl ⟨by rfl, ?_⟩) (by assumption) ?_); rotate_left; focus (intro wS hSw; (try dsimp only at hSw); go_simp; first | done | with_reducible rfl); try simp only [Act.put, List.setIfInBounds_toArray, List.set_cons_zero, List.set_cons_succ])
  ((refine wpAnyH_take (i := 1) (v := ?_) (by (simp only [List.getElem?_toArray, List.getElem?_cons_succ, List.getElem?_cons_zero]); rfl) (by kernel_rfl) (by kernel_rfl) (by kernel_rfl) (by exact fun _ _ _ h => h) (Or.inl ⟨by rfl, ?_⟩) (by assumption) ?_); rotate_left; focus (intro wS hSw; (try dsimp only at hSw); go_simp; first | done | with_reducible rfl); try simp only [Act.put, List.setIfInBounds_toArray, List.set_cons_zero, List.set_cons_succ])
  ((refine wpAnyH_take (i := 3) (v := ?_) (by (simp only [List.getElem?_toArray, List.getElem?_cons_succ, List.getElem?_cons_zero]); rfl) (by kernel_rfl) (by kernel_rfl) (by kernel_rfl) (by exact fun _ _ _ h => h) (Or.inl ⟨by rfl, ?_⟩) (by assumption) ?_); rotate_left; focus (intro wS hSw; (try dsimp only at hSw); go_simp; first | done | with_reducible rfl); try simp only [Act.put, List.setIfInBounds_toArray, List.set_cons_zero, List.set_cons_succ])
  ((refine wpAnyH_take (i := 4) (v := ?_) (by (simp only [List.getElem?_toArray, List.getElem?_cons_succ, List.getElem?_cons_zero]); rfl) (by kernel_rfl) (by kernel_rfl) (by kernel_rfl) (by exact fun _ _ _ h => h) (Or.inl ⟨by rfl, ?_⟩) (by assumption) ?_); rotate_left; focus (intro wS hSw; (try dsimp only at hSw); go_simp; first | done | with_reducible rfl); try simp only [Act.put, List.setIfInBounds_toArray, List.set_cons_zero, List.set_cons_succ])
  have HNG : Hid (N ≠ g) := Lib.hid (by have := HLT.out; omega)
  have OV1 := Lib.hid (wover_any 12222 12222 500 [] (by decide) (by omega) (by omega) wk_ov1 N g b _ (wk_le P3'.out) HNG.out D3'.out)
  ((refine wpAnyH_ready (rs := [2]) (by kernel_rfl) (by simp) ?_); (refine AllReadyH.cons (by (simp only [List.getElem?_toArray, List.getElem?_cons_succ, List.getElem?_cons_zero]); rfl) (fun K hK => ?_) AllReadyH.nil); go_simp; refine Calls.mono OV1.out ?_)
  rintro e W4 ⟨v1, rfl, hv1, hd4, hf4⟩
  have P4 : Hid (Blk W4 N #[.int .i64 1, .int .i64 0, .int .i64 0, .int .i64 0, .int .i64 0, .int .i64 0, .int .i64 0, .int .i64 2, .int .i64 0, .int .i64 0, .int .i64 0, .int .i64 0, .int .i64 0, .int .i64 0] 36) := Lib.hid ((hf4.block N P3'.out.lt (by simpa using HNG.out)).trans P3'.out)
  have Q4 : Hid (Blk W4 (N + 1) #[.int .i64 0, .int .i64 0, .int .i64 0, .slice none 0 0, .slice (some ⟨N, 0, none⟩) 2 2, .slice none 0 0, .slice none 0 0] 42) := Lib.hid ((hf4.block (N + 1) Q3'.out.lt (by have := HLT.out; simp; omega)).trans Q3'.out)
  have HB4 := Lib.hid (HB3'.out.trans (hf4.below HB3'.out.size (by have := HLT.out; simp; omega)))
  have D4 := Lib.hid hd4
  have V1 := Lib.hid hv1
  clear hd4 hf4 hv1 OV1 D3' P3' Q3' HB3'
  go_wp2_with fail
  refine hK.out _ _ ⟨cell_at Q4.out 0, cell_at Q4.out 1, cell_at Q4.out 2, cell_at Q4.out 3, cell_at Q4.out 4, cell_at Q4.out 5, cell_at Q4.out 6⟩ (fun hHeld => ?_)
  clear hK K
  try simp only [Act.put, List.setIfInBounds_toArray, List.set_cons_zero, List.set_cons_succ]
  have OV2 := Lib.hid (wover_any 12223 12223 12222 [1] (by decide) (by omega) (by omega) wk_ov2 N g b _ (wk_le P4.out) HNG.out D4.out)
  ((refine wpAnyH_ready (rs := [5]) (by kernel_rfl) (by simp) ?_); (refine AllReadyH.cons (by (simp only [List.getElem?_toArray, List.getElem?_cons_succ, List.getElem?_cons_zero]); rfl) (fun K hK => ?_) AllReadyH.nil); go_simp; refine Calls.mono OV2.out ?_)
  rintro e W5 ⟨v2, rfl, hv2, hd5, hf5⟩
  have P5 : Hid (Blk W5 N #[.int .i64 1, .int .i64 0, .int .i64 0, .int .i64 0, .int .i64 0, .int .i64 0, .int .i64 0, .int .i64 2, .int .i64 0, .int .i64 0, .int .i64 0, .int .i64 0, .int .i64 0, .int .i64 0] 36) := Lib.hid ((hf5.block N P4.out.lt (by simpa using HNG.out)).trans P4.out)
  have Q5 : Hid (Blk W5 (N + 1) #[.int .i64 0, .int .i64 0, .int .i64 0, .slice none 0 0, .slice (some ⟨N, 0, none⟩) 2 2, .slice none 0 0, .slice none 0 0] 42) := Lib.hid ((hf5.block (N + 1) Q4.out.lt (by have := HLT.out; simp; omega)).trans Q4.out)
  have HB5 := Lib.hid (HB4.out.trans (hf5.below HB4.out.size (by have := HLT.out; simp; omega)))
  have D5 := Lib.hid hd5
  have V2 := Lib.hid hv2
  clear hd5 hf5 hv2 OV2 D4 P4 Q4 HB4
  go_wp2_with fail
  refine hK.out _ _ ⟨cell_at Q5.out 0, cell_at Q5.out 1, cell_at Q5.out 2, cell_at Q5.out 3, cell_at Q5.out 4, cell_at Q5.out 5, cell_at Q5.out 6⟩ (fun hHeld => ?_)
  clear hK K
  try simp only [Act.put, List.setIfInBounds_toArray, List.set_cons_zero, List.set_cons_succ]
  ((refine wpAnyH_take (i := 6) (v := ?_) (by (simp only [List.getElem?_toArray, List.getElem?_cons_succ, List.getElem?_cons_zero]); rfl) (by kernel_rfl) (by kernel_rfl) (by kernel_rfl) (by exact fun _ _ _ h => h) (Or.inl ⟨by rfl, ?_⟩) (by assumption) ?_); rotate_left; focus (intro wS hSw; (try dsimp only at hSw); go_simp; first | done | with_reducible rfl); try simp only [Act.put, List.setIfInBounds_toArray, List.set_cons_zero, List.set_cons_succ])
  ((refine wpAnyH_take (i := 7) (v := ?_) (by (simp only [List.getElem?_toArray, List.getElem?_cons_succ, List.getElem?_cons_zero]); rfl) (by kernel_rfl) (by kernel_rfl) (by kernel_rfl) (by exact fun _ _ _ h => h) (Or.inl ⟨by rfl, ?_⟩) (by assumption) ?_); rotate_left; focus (intro wS hSw; (try dsimp only at hSw); go_simp; first | done | with_reducible rfl); try simp only [Act.put, List.setIfInBounds_toArray, List.set_cons_zero, List.set_cons_succ])
  refine wpAnyH_done (by kernel_rfl) ?_ _
  obtain ⟨ob1, hr1, _⟩ := V1.out
  obtain ⟨a1, c1, ev1, _, _, _⟩ := hr1.shape
  obtain rfl : v1 = .slice a1 0 c1 := ev1
  obtain ⟨ob2, hr2, _⟩ := V2.out
  obtain ⟨a2, c2, ev2, _, _, ha2⟩ := hr2.shape
  obtain rfl : v2 = .slice a2 1 c2 := ev2
  obtain ⟨r2, e2, hc2, _⟩ := hr2.cell 0 (by decide)
  subst e2
  obtain rfl : a2 = some ⟨r2, 0, none⟩ := ha2
  have hv : (valsI (sortedI [1]))[0]? = some (.int .i64 1) := by simp [sortedI, valsI]
  rw [hv] at hc2
  have x0 := cell_at Q5.out 0
  have x1 := cell_at Q5.out 1
  have x2 := cell_at Q5.out 2
  have x3 := cell_at Q5.out 3
  have x4 := cell_at Q5.out 4
  have x5 := cell_at Q5.out 5
  have x6 := cell_at Q5.out 6
  simp only [List.getElem?_toArray, List.getElem?_cons_zero, List.getElem?_cons_succ] at x0 x1 x2 x3 x4 x5 x6
  have l5 := Q5.out.lt
  have OV3 := Lib.hid (wover_any 12723 12723 12223 [1, 2] (by decide) (by omega) (by omega) wk_ov3 N g b _ (wk_le P5.out) HNG.out D5.out)
  have SH1 := Lib.hid (fun W => share_any 10000 50 1 1 100 (by omega) (by omega) W)
  have SH2 := Lib.hid (fun W => share_any 3000 50 0 10 100 (by omega) (by omega) W)
  rw [wk_s1] at SH1
  rw [wk_s2] at SH2
  clear V1 V2 hr1 hr2 hv
  go_wp2_with fail
  go_at_call 14
  refine Calls.mono OV3.out ?_
  rintro e W6 ⟨v3, rfl, hv3, hd6, hf6⟩
  obtain ⟨ob3, hr3, _⟩ := hv3
  obtain ⟨a3, c3, ev3, _, _, _⟩ := hr3.shape
  obtain rfl : v3 = .slice a3 2 c3 := ev3
  have HB6 := Lib.hid (HB5.out.trans (hf6.below HB5.out.size (by have := HLT.out; simp; omega)))
  clear hr3 hd6 hf6 OV3
  go_wp2_with fail
  go_at_call 29
  refine Calls.mono (SH1.out _) ?_
  rintro e w7 ⟨rfl, rfl⟩
  go_wp2_with fail
  go_at_call 29
  refine Calls.mono (SH2.out _) ?_
  rintro e w8 ⟨rfl, rfl⟩
  go_wp2_with fail
  go_ret
  exact ⟨rfl, HB6.out⟩

end Go.Proofs.Ythmjlomlceljkaa
