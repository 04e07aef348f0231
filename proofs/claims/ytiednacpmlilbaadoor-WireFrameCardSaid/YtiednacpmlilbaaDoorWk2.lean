/-
  Frames: what package wire frames.
-/
import Derived.Test.YtiednacpmlilbaaDoorWk
namespace Go.Proofs.YtiednacpmlilbaaDoor
open Go.RowKit
set_option linter.unusedSimpArgs false
set_option linter.unusedVariables false

theorem f4_bd {n : Nat} (h : n < 4294967296) : okB (f4 n) := by
  intro x hx
  simp only [f4, List.mem_cons, List.not_mem_nil, or_false] at hx
  rcases hx with rfl | rfl | rfl | rfl <;> omega
theorem bv_f4 {W : World} {b : Nat} {n : Nat} {ty : TypeId} (h : Blk W b #[.int .u8 (n / 16777216 : Nat), .int .u8 (n / 65536 % 256 : Nat), .int .u8 (n / 256 % 256 : Nat), .int .u8 (n % 256 : Nat)] ty) (hn : n < 4294967296) : BV W (.slice (some ⟨b, 0, none⟩) 4 4) (f4 n) := by
  refine ⟨some ⟨b, 0, none⟩, b, 0, 4, rfl, Nat.le_refl _, by unfold maxLen; simp [f4], fun _ => ⟨rfl, h.lt⟩, fun k hk => ?_, fun k hk => ?_⟩
  · have hk : k < 4 := hk
    rw [cell_at h]
    match k, hk with
    | 0, _ => rfl
    | 1, _ => rfl
    | 2, _ => rfl
    | 3, _ => rfl
  · exact f4_bd hn _ (List.mem_of_getElem? (gB_lt hk))
def frameL (l : List Nat) : List Nat := f4 l.length ++ f4 (sumL l) ++ l
set_option maxRecDepth 100000 in
set_option maxHeartbeats 8000000 in
theorem frame_any (w : World) (v : Value) (l : List Nat) (ht : Tab w) (hv : BV w v l) (hl : l.length ≤ 900000) :
    Calls Tryd.prog 36 #[v] w fun e w' => Below w.heap.size w w' ∧ (65536 < l.length → e = .returned (.tuple #[.slice none 0 0, .int .i64 3])) ∧ (¬ 65536 < l.length → ∃ v', e = .returned (.tuple #[v', .int .i64 0]) ∧ BV w' v' (frameL l)) := by
  have hv0 := hv
  have hok := hv.ok
  obtain ⟨a, n, c, rfl, hn, h1, h2⟩ := hv.sh
  have HN := Lib.hid hn.out
  have hnl : n ≤ 900000 := by rw [hn.out]; exact hl
  by_cases hlong : 65536 < n
  · have d1 : ((65536 : Int) < (n : Int)) = True := eq_true (by omega)
    have d2 : (65536 < n) = True := eq_true hlong
    clear ht hv hv0 hn
    go_enter Tryd.func36, Tryd.ntmps36
    go_wp2_with fail
    exact bodyPost_ret (v := .tuple #[.slice none 0 0, .int .i64 3]) (by simp [results, Tryd.results36, go_sem]) rfl ⟨Below.refl _ _, fun _ => rfl, fun h => absurd (by rw [← HN.out]; exact hlong) h⟩
  · have d1 : ((65536 : Int) < (n : Int)) = False := eq_false (by omega)
    have d2 : (65536 < n) = False := eq_false hlong
    have cv : IntKind.u32.wrap (n : Int) = (n : Int) := wraps_u32 _ (by omega) (by omega)
    have hs := sumL_lt hok
    have HCS := Lib.hid (fun W (hB : Below w.heap.size w W) => sumL_any (.slice a n c) l W (ht.below hB) (hv0.below hB))
    obtain ⟨s, hse⟩ : ∃ s, s = sumL l := ⟨_, rfl⟩
    rw [← hse] at hs HCS
    have HB1 := Lib.hid (fun W => bytesN_any n (by omega) W)
    have HB2 := Lib.hid (fun W => bytesN_any s hs W)
    have HV := Lib.hid hv0
    have HSE := Lib.hid (And.intro hse hs)
    clear ht hv hv0 hn hse hs hok
    go_enter Tryd.func36, Tryd.ntmps36
    go_wp2_with (refine Calls.mono (HB1.out _) ?_; rintro e W1 ⟨rfl, hB1⟩; have HW1 := Lib.hid hB1; have HC1 := Lib.hid (HCS.out W1 hB1); clear hB1)
    go_wp2_with (refine Calls.mono HC1.out ?_; rintro e W1' ⟨rfl, rfl⟩; clear HC1)
    go_wp2_with (refine Calls.mono (HB2.out _) ?_; rintro e W2 ⟨rfl, hB2⟩; have HW2 := Lib.hid (HW1.out.trans (hB2.mono HW1.out.size)); clear hB2)
    obtain ⟨G, hG⟩ : ∃ G, G = W2.heap.size := ⟨_, rfl⟩
    obtain ⟨W3, hW3⟩ : ∃ X, X = W2.alloc (.cells #[.int .u8 ((n : Int) / 16777216), .int .u8 ((n : Int) / 65536 % 256), .int .u8 ((n : Int) / 256 % 256), .int .u8 ((n : Int) % 256)] 135) := ⟨_, rfl⟩
    obtain ⟨W4, hW4⟩ : ∃ X, X = W3.alloc (.cells #[.int .u8 ((s : Int) / 16777216), .int .u8 ((s : Int) / 65536 % 256), .int .u8 ((s : Int) / 256 % 256), .int .u8 ((s : Int) % 256)] 135) := ⟨_, rfl⟩
    rw [← hW3, ← hW4, ← hG]
    have b3 : Below W2.heap.size W2 W3 := by rw [hW3]; exact alloc_b _ _
    have b4 : Below W3.heap.size W3 W4 := by rw [hW4]; exact alloc_b _ _
    have s3 : W3.heap.size = G + 1 := by rw [hW3, hG]; simp
    have k3 : Blk W3 G #[.int .u8 (n / 16777216 : Nat), .int .u8 (n / 65536 % 256 : Nat), .int .u8 (n / 256 % 256 : Nat), .int .u8 (n % 256 : Nat)] 135 := by rw [hW3, hG]; exact blk_new _ _ _
    have k4 : Blk W4 (G + 1) #[.int .u8 (s / 16777216 : Nat), .int .u8 (s / 65536 % 256 : Nat), .int .u8 (s / 256 % 256 : Nat), .int .u8 (s % 256 : Nat)] 135 := by rw [hW4, ← s3]; exact blk_new _ _ _
    have B4 : Below w.heap.size w W4 := HW2.out.trans ((b3.mono HW2.out.size).trans (b4.mono (Nat.le_trans HW2.out.size b3.size)))
    have v3 : BV W4 (.slice (some ⟨G, 0, none⟩) 4 4) (f4 n) := bv_f4 (k3.step b4) (by omega)
    have v4 : BV W4 (.slice (some ⟨G + 1, 0, none⟩) 4 4) (f4 s) := bv_f4 k4 HSE.out.2
    have v5 : BV W4 (.slice a n c) l := HV.out.below B4
    have HVS := Lib.hid (And.intro v3 (And.intro v4 v5))
    have HB4 := Lib.hid B4
    clear b3 b4 s3 k3 k4 B4 v3 v4 v5 hW3 hW4 hG
    refine wp_region_held_drew (S := fun _ => True) (by kernel_rfl) trivial (fun hHeld => ?_)
    ((refine wpAnyH_take (i := 0) (v := ?_) (by (simp only [List.getElem?_toArray, List.getElem?_cons_succ, List.getElem?_cons_zero]); rfl) (by kernel_rfl) (by kernel_rfl) (by kernel_rfl) (by exact fun _ _ _ h => h) (Or.inl ⟨by rfl, ?_⟩) (by assumption) ?_); rotate_left; focus (intro wS hSw; (try dsimp only at hSw); go_simp; first | done | with_reducible rfl); try simp only [Act.put, List.setIfInBounds_toArray, List.set_cons_zero, List.set_cons_succ])
    ((refine wpAnyH_take (i := 1) (v := ?_) (by (simp only [List.getElem?_toArray, List.getElem?_cons_succ, List.getElem?_cons_zero]); rfl) (by kernel_rfl) (by kernel_rfl) (by kernel_rfl) (by exact fun _ _ _ h => h) (Or.inl ⟨by rfl, ?_⟩) (by assumption) ?_); rotate_left; focus (intro wS hSw; (try dsimp only at hSw); go_simp; first | done | with_reducible rfl); try simp only [Act.put, List.setIfInBounds_toArray, List.set_cons_zero, List.set_cons_succ])
    ((refine wpAnyH_take (i := 2) (v := ?_) (by (simp only [List.getElem?_toArray, List.getElem?_cons_succ, List.getElem?_cons_zero]); rfl) (by kernel_rfl) (by kernel_rfl) (by kernel_rfl) (by exact fun _ _ _ h => h) (Or.inl ⟨by rfl, ?_⟩) (by assumption) ?_); rotate_left; focus (intro wS hSw; (try dsimp only at hSw); go_simp; first | done | with_reducible rfl); try simp only [Act.put, List.setIfInBounds_toArray, List.set_cons_zero, List.set_cons_succ])
    obtain ⟨W5, hW5⟩ : ∃ X, X = (W4.alloc (.cells #[.slice (some ⟨G, 0, none⟩) 4 4, .slice (some ⟨G + 1, 0, none⟩) 4 4, .slice a n c] 23)).drew := ⟨_, rfl⟩
    obtain ⟨N, hN⟩ : ∃ N, N = W4.heap.size := ⟨_, rfl⟩
    have b5 : Below W4.heap.size W4 W5 := by rw [hW5]; exact (alloc_b W4 _).trans ((drew_b _).mono (alloc_b W4 _).size)
    have k5 : Blk W5 N #[.slice (some ⟨G, 0, none⟩) 4 4, .slice (some ⟨G + 1, 0, none⟩) 4 4, .slice a n c] 23 := by rw [hW5, hN]; exact blk_new W4 _ _
    have hcc := concat_b N 3 3 (fun k => match k with | 0 => f4 n | 1 => f4 s | _ => l) W5 k5.lt (by omega) (by omega) (fun k hk => by
      match k, hk with
      | 0, _ => exact ⟨_, cell_at k5 0, HVS.out.1.below b5⟩
      | 1, _ => exact ⟨_, cell_at k5 1, HVS.out.2.1.below b5⟩
      | 2, _ => exact ⟨_, cell_at k5 2, HVS.out.2.2.below b5⟩) (by simp [flB, f4]) (by simp [flB, f4]; rw [← HN.out]; omega)
    rw [show flB (fun k => match k with | 0 => f4 n | 1 => f4 s | _ => l) 3 = frameL l by simp [flB, frameL, HN.out, HSE.out.1]] at hcc
    have HCC := Lib.hid hcc
    have HB5 := Lib.hid (HB4.out.trans (b5.mono HB4.out.size))
    clear b5 k5 hcc
    refine wpAnyH_ready (rs := [3]) (by kernel_rfl) (by simp) ?_
    refine AllReadyH.cons (by (simp only [List.getElem?_toArray, List.getElem?_cons_succ, List.getElem?_cons_zero]); rfl) (fun K hK => ?_) AllReadyH.nil
    go_simp
    first | rw [← hN, ← hW5] | (rw [← hW5]; try rw [← hN])
    clear hN hW5
    refine hK.out _ _ trivial (fun hHeld => ?_)
    clear hK K
    try simp only [Act.put, List.setIfInBounds_toArray, List.set_cons_zero, List.set_cons_succ]
    refine wpAnyH_ready (rs := [4]) (by kernel_rfl) (by simp) ?_
    refine AllReadyH.cons (by (simp only [List.getElem?_toArray, List.getElem?_cons_succ, List.getElem?_cons_zero]); rfl) (fun K hK => ?_) AllReadyH.nil
    go_simp
    refine Calls.mono HCC.out ?_
    rintro e W6 ⟨v6, ob, rfl, hbo, hB6⟩
    have HEND := Lib.hid (And.intro (HB5.out.trans (hB6.mono HB5.out.size)) hbo.v)
    clear hbo hB6 HCC
    try go_simp
    refine hK.out _ _ trivial (fun hHeld => ?_)
    clear hK K
    try simp only [Act.put, List.setIfInBounds_toArray, List.set_cons_zero, List.set_cons_succ]
    ((refine wpAnyH_take (i := 5) (v := ?_) (by (simp only [List.getElem?_toArray, List.getElem?_cons_succ, List.getElem?_cons_zero]); rfl) (by kernel_rfl) (by kernel_rfl) (by kernel_rfl) (by exact fun _ _ _ h => h) (Or.inl ⟨by rfl, ?_⟩) (by assumption) ?_); rotate_left; focus (intro wS hSw; (try dsimp only at hSw); go_simp; first | done | with_reducible rfl); try simp only [Act.put, List.setIfInBounds_toArray, List.set_cons_zero, List.set_cons_succ])
    ((refine wpAnyH_take (i := 6) (v := ?_) (by (simp only [List.getElem?_toArray, List.getElem?_cons_succ, List.getElem?_cons_zero]); rfl) (by kernel_rfl) (by kernel_rfl) (by kernel_rfl) (by exact fun _ _ _ h => h) (Or.inl ⟨by rfl, ?_⟩) (by assumption) ?_); rotate_left; focus (intro wS hSw; (try dsimp only at hSw); go_simp; first | done | with_reducible rfl); try simp only [Act.put, List.setIfInBounds_toArray, List.set_cons_zero, List.set_cons_succ])
    refine wpAnyH_done (by kernel_rfl) ?_ _
    try simp only [Act.put, List.setIfInBounds_toArray, List.set_cons_zero, List.set_cons_succ]
    try go_wp2_with fail
    exact bodyPost_ret (v := .tuple #[v6, .int .i64 0]) (by simp [results, Tryd.results36, go_sem]) rfl ⟨HEND.out.1, fun h => absurd (by rw [HN.out]; exact h) hlong, fun _ => ⟨v6, rfl, HEND.out.2⟩⟩
end Go.Proofs.YtiednacpmlilbaaDoor
