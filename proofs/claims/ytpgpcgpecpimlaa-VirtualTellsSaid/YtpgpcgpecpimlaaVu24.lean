/-
  VirtualTells, walked.
-/
import Derived.Test.YtpgpcgpecpimlaaVu23
import Derived.Test.YtpgpcgpecpimlaaVu17
namespace Go.Proofs.Ytpgpcgpecpimlaa
open Go.RowKit

theorem rebase_any (V : Int) (a : Option Addr) (n c b o : Nat) (T : Nat → TagsE) (w : World) (hs : TagsIn w a n c b o T) (hn : n * 16 ≤ 140737488351232) : Calls Try.prog 23 #[.agg #[.int .i64 V, .slice a n c]] w (RebP w V n T) := by
  by_cases hc : vokB V n T = true ∧ 1125899906842624 < V
  · have hL : lateB V n T = true := by unfold lateB; rw [hc.1]; simpa using hc.2
    exact (rebase_down V a n c b o T w hs hn hc.1 hc.2).mono fun e w' ⟨v, h1, h2⟩ => ⟨v, h1, by rw [hL]; exact h2⟩
  · have hL : lateB V n T = false := by unfold lateB; simpa using hc
    refine (rebase_keep V a n c b o T w hs hn ?_).mono fun e w' ⟨v, h1, h2⟩ => ⟨v, h1, by rw [hL]; exact h2⟩
    cases hv : vokB V n T
    · exact .inl rfl
    · exact .inr ⟨rfl, by have : ¬ 1125899906842624 < V := fun h => hc ⟨hv, h⟩; omega⟩
theorem rrebase_any (V : Int) (a : Option Addr) (n c b o : Nat) (T : Nat → TagsE) (w : World) (hs : TagsIn w a n c b o T) (hn : n * 16 ≤ 140737488351232) : Calls Try.prog 24 #[.agg #[.int .i64 V, .slice a n c]] w (RebP w V n T) := by
  by_cases hc : vokB V n T = true ∧ 1125899906842624 < V
  · have hL : lateB V n T = true := by unfold lateB; rw [hc.1]; simpa using hc.2
    exact (rrebase_down V a n c b o T w hs hn hc.1 hc.2).mono fun e w' ⟨v, h1, h2⟩ => ⟨v, h1, by rw [hL]; exact h2⟩
  · have hL : lateB V n T = false := by unfold lateB; simpa using hc
    refine (rrebase_keep V a n c b o T w hs hn ?_).mono fun e w' ⟨v, h1, h2⟩ => ⟨v, h1, by rw [hL]; exact h2⟩
    cases hv : vokB V n T
    · exact .inl rfl
    · exact .inr ⟨rfl, by have : ¬ 1125899906842624 < V := fun h => hc ⟨hv, h⟩; omega⟩
theorem RebP.two {w : World} {V : Int} {n : Nat} {T : Nat → TagsE} {e : Ending} {w' : World} (h : RebP w V n T e w') (hT : ∀ j, j < n → (T j).ok) :
    ∃ V' T', (∃ v, e = .returned v ∧ VOut w w' v V' n T') ∧ (∀ j, j < n → (T' j).ok) ∧ (∀ w3 e2 w2, RebP w3 V n T e2 w2 → ∃ v, e2 = .returned v ∧ VOut w3 w2 v V' n T') := by
  unfold RebP at h ⊢
  cases hL : lateB V n T
  · rw [hL] at h
    exact ⟨V, T, h, hT, fun _ _ _ h => h⟩
  · rw [hL] at h
    unfold lateB at hL
    simp at hL
    have := vok_V hL.1
    exact ⟨_, _, h, fun j hj => reb_ok (by omega) (by omega) hT j hj, fun _ _ _ h => h⟩
theorem new_both (m : Int) : ∃ k er, (∀ W, Calls Try.prog 16 #[.int .i64 m] W (VRes W 0 k zeroT er)) ∧ (∀ W, Calls Try.prog 17 #[.int .i64 m] W (VRes W 0 k zeroT er)) := by
  by_cases h : m < 1 ∨ (1 ≤ m ∧ 8 < m)
  · exact ⟨0, 2, fun W => new_bad m W h, fun W => rnew_bad m W h⟩
  · obtain ⟨k, rfl⟩ : ∃ k : Nat, m = k := ⟨m.toNat, by omega⟩
    exact ⟨k, 0, fun W => new_good k W (by omega) (by omega), fun W => rnew_good k W (by omega) (by omega)⟩
/-- three blocks of the call's own -/
def F3 (w : World) (n1 n2 : Nat) (c0 c1 c2 : Array Value) (X : World) : Prop := Holds X w.heap.size c0 ∧ Holds X n1 c1 ∧ Holds X n2 c2 ∧ Below w.heap.size w X
theorem F3.step {w A B : World} {n1 n2 : Nat} {c0 c1 c2 : Array Value} (h : F3 w n1 n2 c0 c1 c2 A) (hB : Below A.heap.size A B) : F3 w n1 n2 c0 c1 c2 B := ⟨Holds.step h.1 hB, Holds.step h.2.1 hB, Holds.step h.2.2.1 hB, h.2.2.2.trans (hB.mono h.2.2.2.size)⟩

set_option maxRecDepth 100000 in
set_option maxHeartbeats 20000000 in
theorem virtualTells_any (V : Int) (a : Option Addr) (n c b o : Nat) (T : Nat → TagsE) (m s wt al : Int) (w : World) (hs : TagsIn w a n c b o T) :
    Calls Try.prog 3 #[.agg #[.int .i64 V, .slice a n c], .int .i64 m, .int .i64 s, .int .i64 wt, .int .i64 al] w fun e w' => e = .returned (.bool true) ∧ Below w.heap.size w w' := by
  by_cases hg : 50 < n
  · have G1 : Hid (decide (50 < n) = true) := Lib.hid (by simpa using hg)
    clear hg hs
    go_enter Try.func3, Try.ntmps3
    go_wp2_with (first
      | (go_at_call 14; refine (vgreat_any _ _ _ _ _).mono ?_; rw [G1.out]; rintro e W ⟨rfl, rfl⟩)
      | (go_at_call 15; refine (vwakes_any _).mono ?_; rintro e WK ⟨rfl, hWK⟩))
    go_ret
    exact ⟨rfl, (((Below.refl _ _).alloc (Nat.le_refl _) _).alloc (by simp) _).trans (hWK.mono (by simp; omega))⟩
  · have G1 : Hid (decide (50 < n) = false) := Lib.hid (by simpa using hg)
    have hn : n * 16 ≤ 140737488351232 := by omega
    obtain ⟨nk, er, hN1, hN2⟩ := new_both m
    have HN1 := Lib.hid hN1
    have HN2 := Lib.hid hN2
    have HS := Lib.hid hs
    obtain ⟨C, hC⟩ : ∃ C, C = costS s wt al := ⟨_, rfl⟩
    have HC1 : Hid (∀ W, Calls Try.prog 21 #[.int .i64 s, .int .i64 wt, .int .i64 al] W fun e w' => e = .returned (.int .i64 C) ∧ W = w') := Lib.hid (fun W => by rw [hC]; exact cost_any s wt al W)
    have HC2 : Hid (∀ W, Calls Try.prog 22 #[.int .i64 s, .int .i64 wt, .int .i64 al] W fun e w' => e = .returned (.int .i64 C) ∧ W = w') := Lib.hid (fun W => by rw [hC]; exact rcost_any s wt al W)
    obtain ⟨K, hK0⟩ : ∃ K, K = vokB V n T := ⟨_, rfl⟩
    have HV1 : Hid (∀ W, Below w.heap.size w W → Calls Try.prog 19 #[.agg #[.int .i64 V, .slice a n c]] W fun e w' => e = .returned (.bool K) ∧ Below W.heap.size W w') := Lib.hid (fun W h => by rw [hK0]; exact check_any V a n c b o T W (hs.below h))
    have HV2 : Hid (∀ W, Below w.heap.size w W → Calls Try.prog 20 #[.agg #[.int .i64 V, .slice a n c]] W fun e w' => e = .returned (.bool K) ∧ Below W.heap.size W w') := Lib.hid (fun W h => by rw [hK0]; exact rcheck_any V a n c b o T W (hs.below h))
    have HR1 : Hid (∀ W, Below w.heap.size w W → Calls Try.prog 23 #[.agg #[.int .i64 V, .slice a n c]] W (RebP W V n T)) := Lib.hid (fun W h => rebase_any V a n c b o T W (hs.below h) hn)
    have HR2 : Hid (∀ W, Below w.heap.size w W → Calls Try.prog 24 #[.agg #[.int .i64 V, .slice a n c]] W (RebP W V n T)) := Lib.hid (fun W h => rrebase_any V a n c b o T W (hs.below h) hn)
    have HH0 := Lib.hid (tw1 (n := w.heap.size) (Below.refl _ (w.alloc (.cells #[.int .i64 V, .slice a n c] 24))) rfl)
    have hy : Below (w.alloc (.cells #[.int .i64 V, .slice a n c] 24)).heap.size (w.alloc (.cells #[.int .i64 V, .slice a n c] 24)) ((w.alloc (.cells #[.int .i64 V, .slice a n c] 24)).alloc (.cells #[.int .i64 V, .slice a n c] 24)) := (Below.refl _ _).alloc (Nat.le_refl _) _
    have HB0 : Hid (Below w.heap.size w ((w.alloc (.cells #[.int .i64 V, .slice a n c] 24)).alloc (.cells #[.int .i64 V, .slice a n c] 24))) := Lib.hid (((Below.refl _ _).alloc (Nat.le_refl _) _).alloc (by simp) _)
    have HH1 := Lib.hid (Holds.step HH0.out hy)
    clear hs hg hN1 hN2 hC hK0 hy
    go_enter Try.func3, Try.ntmps3
    go_wp2_with (go_at_call 14; refine (vgreat_any _ _ _ _ _).mono ?_; rw [G1.out]; rintro e W ⟨rfl, rfl⟩)
    go_at_call 16
    refine Calls.mono (HN1.out _) ?_
    rintro e W1 ⟨v1, rfl, hV1⟩
    have hV1 := hV1.tags (fun k _ => zero_ok k)
    obtain ⟨a1, c1, b1, rfl, hT1, _, hb1⟩ := hV1
    have HB1 := Lib.hid (HB0.out.trans (hb1.mono HB0.out.size))
    have HZ1 := Lib.hid (Holds.step HH1.out hb1)
    have HT1 := Lib.hid hT1
    clear hT1 hb1
    go_wp2_with fail
    go_at_call 17
    refine Calls.mono (HN2.out _) ?_
    rintro e W2 ⟨v2, rfl, hV2⟩
    have hV2 := hV2.tags (fun k _ => zero_ok k)
    obtain ⟨a2, c2, b2, rfl, hT2, _, hb2⟩ := hV2
    have hx := tw1 (n := W1.heap.size) hb2 rfl
    have hY2 : Below W1.heap.size W1 W2 := ((Below.refl _ _).alloc (Nat.le_refl _) _).trans (hb2.mono (by simp))
    obtain ⟨X, hX⟩ : ∃ X, X = W2.alloc (.cells #[.int .i64 0, .slice a2 nk c2] 24) := ⟨_, rfl⟩
    have hBX : Below W2.heap.size W2 X := by rw [hX]; exact (Below.refl _ _).alloc (Nat.le_refl _) _
    have hOX : Holds X W2.heap.size #[.int .i64 0, .slice a2 nk c2] := by rw [hX]; exact tw1 (n := W2.heap.size) (Below.refl _ _) rfl
    have HQ := Lib.hid (show F3 w W1.heap.size W2.heap.size #[.int .i64 V, .slice a n c] #[.int .i64 0, .slice a1 nk c1] #[.int .i64 0, .slice a2 nk c2] X from ⟨Holds.step (Holds.step HZ1.out hY2) hBX, Holds.step hx hBX, hOX, (HB1.out.trans (hY2.mono HB1.out.size)).trans (hBX.mono (HB1.out.trans (hY2.mono HB1.out.size)).size)⟩)
    have HU1 := Lib.hid ((HT1.out.below hY2).below hBX)
    have HU2 := Lib.hid (hT2.below hBX)
    go_upto_region 5 with fail
    rw [← hX]
    clear hT2 hb2 hx hY2 hBX hOX hX
    have HQ0 := Lib.hid (HQ.out.step ((Below.refl _ _).drew : Below X.heap.size X X.drew))
    have HD1 := Lib.hid (HU1.out.below ((Below.refl _ _).drew : Below X.heap.size X X.drew))
    have HD2 := Lib.hid (HU2.out.below ((Below.refl _ _).drew : Below X.heap.size X X.drew))
    refine wp_region_held_drew (S := fun X => X.cell? ⟨w.heap.size, 0, none⟩ = some (.int .i64 V) ∧ X.cell? ⟨w.heap.size, 1, none⟩ = some (.slice a n c) ∧ X.cell? ⟨W1.heap.size, 0, none⟩ = some (.int .i64 0) ∧ X.cell? ⟨W1.heap.size, 1, none⟩ = some (.slice a1 nk c1) ∧ X.cell? ⟨W2.heap.size, 0, none⟩ = some (.int .i64 0) ∧ X.cell? ⟨W2.heap.size, 1, none⟩ = some (.slice a2 nk c2)) (by kernel_rfl) ⟨HQ0.out.1.1 0, HQ0.out.1.1 1, HQ0.out.2.1.1 0, HQ0.out.2.1.1 1, HQ0.out.2.2.1.1 0, HQ0.out.2.2.1.1 1⟩ (fun hHeld => ?_)
    ((refine wpAnyH_take (i := 0) (v := ?_) (by (simp only [List.getElem?_toArray, List.getElem?_cons_succ, List.getElem?_cons_zero]); rfl) (by kernel_rfl) (by kernel_rfl) (by kernel_rfl) (by exact fun _ _ _ h => h) (Or.inl ⟨by rfl, ?_⟩) (by assumption) ?_); rotate_left; focus (intro wS hSw; (try dsimp only at hSw); go_simp; first | done | with_reducible rfl); try simp only [Act.put, List.setIfInBounds_toArray, List.set_cons_zero, List.set_cons_succ])
    ((refine wpAnyH_take (i := 1) (v := ?_) (by (simp only [List.getElem?_toArray, List.getElem?_cons_succ, List.getElem?_cons_zero]); rfl) (by kernel_rfl) (by kernel_rfl) (by kernel_rfl) (by exact fun _ _ _ h => h) (Or.inl ⟨by rfl, ?_⟩) (by assumption) ?_); rotate_left; focus (intro wS hSw; (try dsimp only at hSw); go_simp; first | done | with_reducible rfl); try simp only [Act.put, List.setIfInBounds_toArray, List.set_cons_zero, List.set_cons_succ])
    ((refine wpAnyH_take (i := 2) (v := ?_) (by (simp only [List.getElem?_toArray, List.getElem?_cons_succ, List.getElem?_cons_zero]); rfl) (by kernel_rfl) (by kernel_rfl) (by kernel_rfl) (by exact fun _ _ _ h => h) (Or.inl ⟨by rfl, ?_⟩) (by assumption) ?_); rotate_left; focus (intro wS hSw; (try dsimp only at hSw); go_simp; first | done | with_reducible rfl); try simp only [Act.put, List.setIfInBounds_toArray, List.set_cons_zero, List.set_cons_succ])
    ((refine wpAnyH_take (i := 3) (v := ?_) (by (simp only [List.getElem?_toArray, List.getElem?_cons_succ, List.getElem?_cons_zero]); rfl) (by kernel_rfl) (by kernel_rfl) (by kernel_rfl) (by exact fun _ _ _ h => h) (Or.inl ⟨by rfl, ?_⟩) (by assumption) ?_); rotate_left; focus (intro wS hSw; (try dsimp only at hSw); go_simp; first | done | with_reducible rfl); try simp only [Act.put, List.setIfInBounds_toArray, List.set_cons_zero, List.set_cons_succ])
    ((refine wpAnyH_take (i := 4) (v := ?_) (by (simp only [List.getElem?_toArray, List.getElem?_cons_succ, List.getElem?_cons_zero]); rfl) (by kernel_rfl) (by kernel_rfl) (by kernel_rfl) (by exact fun _ _ _ h => h) (Or.inl ⟨by (go_simp; try rfl), ?_⟩) (by assumption) ?_); rotate_left; focus (intro wS hSw; (try dsimp only at hSw); go_simp; first | done | with_reducible rfl); try simp only [Act.put, List.setIfInBounds_toArray, List.set_cons_zero, List.set_cons_succ])
    ((refine wpAnyH_take (i := 5) (v := ?_) (by (simp only [List.getElem?_toArray, List.getElem?_cons_succ, List.getElem?_cons_zero]); rfl) (by kernel_rfl) (by kernel_rfl) (by kernel_rfl) (by exact fun _ _ _ h => h) (Or.inl ⟨by (go_simp; try rfl), ?_⟩) (by assumption) ?_); rotate_left; focus (intro wS hSw; (try dsimp only at hSw); go_simp; first | done | with_reducible rfl); try simp only [Act.put, List.setIfInBounds_toArray, List.set_cons_zero, List.set_cons_succ])
    ((refine wpAnyH_ready (rs := [6]) (by kernel_rfl) (by simp) ?_); (refine AllReadyH.cons (by (simp only [List.getElem?_toArray, List.getElem?_cons_succ, List.getElem?_cons_zero]); rfl) (fun K hK => ?_) AllReadyH.nil); go_simp; refine Calls.mono (vsame_any 0 a1 nk c1 b1 0 zeroT a2 c2 b2 0 zeroT _ HD1.out HD2.out (fun _ _ => rfl)) ?_)
    rintro e X1 ⟨rfl, hX1⟩
    have HQ1 := Lib.hid (HQ0.out.step hX1)
    go_wp2_with fail
    refine hK.out _ _ ⟨HQ1.out.1.1 0, HQ1.out.1.1 1, HQ1.out.2.1.1 0, HQ1.out.2.1.1 1, HQ1.out.2.2.1.1 0, HQ1.out.2.2.1.1 1⟩ (fun hHeld => ?_)
    clear hK K
    try simp only [Act.put, List.setIfInBounds_toArray, List.set_cons_zero, List.set_cons_succ]
    ((refine wpAnyH_take (i := 7) (v := ?_) (by (simp only [List.getElem?_toArray, List.getElem?_cons_succ, List.getElem?_cons_zero]); rfl) (by kernel_rfl) (by kernel_rfl) (by kernel_rfl) (by exact fun _ _ _ h => h) (Or.inl ⟨by rfl, ?_⟩) (by assumption) ?_); rotate_left; focus (intro wS hSw; (try dsimp only at hSw); go_simp; first | done | with_reducible rfl); try simp only [Act.put, List.setIfInBounds_toArray, List.set_cons_zero, List.set_cons_succ])
    ((refine wpAnyH_take (i := 8) (v := ?_) (by (simp only [List.getElem?_toArray, List.getElem?_cons_succ, List.getElem?_cons_zero]); rfl) (by kernel_rfl) (by kernel_rfl) (by kernel_rfl) (by exact fun _ _ _ h => h) (Or.inl ⟨by rfl, ?_⟩) (by assumption) ?_); rotate_left; focus (intro wS hSw; (try dsimp only at hSw); go_simp; first | done | with_reducible rfl); try simp only [Act.put, List.setIfInBounds_toArray, List.set_cons_zero, List.set_cons_succ])
    ((refine wpAnyH_take (i := 9) (v := ?_) (by (simp only [List.getElem?_toArray, List.getElem?_cons_succ, List.getElem?_cons_zero]); rfl) (by kernel_rfl) (by kernel_rfl) (by kernel_rfl) (by exact fun _ _ _ h => h) (Or.inl ⟨by (go_simp; try rfl), ?_⟩) (by assumption) ?_); rotate_left; focus (intro wS hSw; (try dsimp only at hSw); go_simp; first | done | with_reducible rfl); try simp only [Act.put, List.setIfInBounds_toArray, List.set_cons_zero, List.set_cons_succ])
    ((refine wpAnyH_take (i := 11) (v := ?_) (by (simp only [List.getElem?_toArray, List.getElem?_cons_succ, List.getElem?_cons_zero]); rfl) (by kernel_rfl) (by kernel_rfl) (by kernel_rfl) (by exact fun _ _ _ h => h) (Or.inl ⟨by (go_simp; try rfl), ?_⟩) (by assumption) ?_); rotate_left; focus (intro wS hSw; (try dsimp only at hSw); go_simp; first | done | with_reducible rfl); try simp only [Act.put, List.setIfInBounds_toArray, List.set_cons_zero, List.set_cons_succ])
    ((refine wpAnyH_ready (rs := [10]) (by kernel_rfl) (by simp) ?_); (refine AllReadyH.cons (by (simp only [List.getElem?_toArray, List.getElem?_cons_succ, List.getElem?_cons_zero]); rfl) (fun K hK => ?_) AllReadyH.nil); go_simp; refine Calls.mono (HV1.out _ HQ1.out.2.2.2) ?_)
    rintro e X2 ⟨rfl, hX2⟩
    have HQ2 := Lib.hid (HQ1.out.step hX2)
    go_wp2_with fail
    refine hK.out _ _ ⟨HQ2.out.1.1 0, HQ2.out.1.1 1, HQ2.out.2.1.1 0, HQ2.out.2.1.1 1, HQ2.out.2.2.1.1 0, HQ2.out.2.2.1.1 1⟩ (fun hHeld => ?_)
    clear hK K
    try simp only [Act.put, List.setIfInBounds_toArray, List.set_cons_zero, List.set_cons_succ]
    ((refine wpAnyH_ready (rs := [12]) (by kernel_rfl) (by simp) ?_); (refine AllReadyH.cons (by (simp only [List.getElem?_toArray, List.getElem?_cons_succ, List.getElem?_cons_zero]); rfl) (fun K hK => ?_) AllReadyH.nil); go_simp; refine Calls.mono (HV2.out _ HQ2.out.2.2.2) ?_)
    rintro e X3 ⟨rfl, hX3⟩
    have HQ3 := Lib.hid (HQ2.out.step hX3)
    go_wp2_with fail
    refine hK.out _ _ ⟨HQ3.out.1.1 0, HQ3.out.1.1 1, HQ3.out.2.1.1 0, HQ3.out.2.1.1 1, HQ3.out.2.2.1.1 0, HQ3.out.2.2.1.1 1⟩ (fun hHeld => ?_)
    clear hK K
    try simp only [Act.put, List.setIfInBounds_toArray, List.set_cons_zero, List.set_cons_succ]
    ((refine wpAnyH_take (i := 13) (v := ?_) (by (simp only [List.getElem?_toArray, List.getElem?_cons_succ, List.getElem?_cons_zero]); rfl) (by kernel_rfl) (by kernel_rfl) (by kernel_rfl) (by exact fun _ _ _ h => h) (Or.inl ⟨by (go_simp; try rfl), ?_⟩) (by assumption) ?_); rotate_left; focus (intro wS hSw; (try dsimp only at hSw); go_simp; first | done | with_reducible rfl); try simp only [Act.put, List.setIfInBounds_toArray, List.set_cons_zero, List.set_cons_succ])
    ((refine wpAnyH_take (i := 14) (v := ?_) (by (simp only [List.getElem?_toArray, List.getElem?_cons_succ, List.getElem?_cons_zero]); rfl) (by kernel_rfl) (by kernel_rfl) (by kernel_rfl) (by exact fun _ _ _ h => h) (Or.inl ⟨by rfl, ?_⟩) (by assumption) ?_); rotate_left; focus (intro wS hSw; (try dsimp only at hSw); go_simp; first | done | with_reducible rfl); try simp only [Act.put, List.setIfInBounds_toArray, List.set_cons_zero, List.set_cons_succ])
    ((refine wpAnyH_take (i := 15) (v := ?_) (by (simp only [List.getElem?_toArray, List.getElem?_cons_succ, List.getElem?_cons_zero]); rfl) (by kernel_rfl) (by kernel_rfl) (by kernel_rfl) (by exact fun _ _ _ h => h) (Or.inl ⟨by rfl, ?_⟩) (by assumption) ?_); rotate_left; focus (intro wS hSw; (try dsimp only at hSw); go_simp; first | done | with_reducible rfl); try simp only [Act.put, List.setIfInBounds_toArray, List.set_cons_zero, List.set_cons_succ])
    ((refine wpAnyH_take (i := 16) (v := ?_) (by (simp only [List.getElem?_toArray, List.getElem?_cons_succ, List.getElem?_cons_zero]); rfl) (by kernel_rfl) (by kernel_rfl) (by kernel_rfl) (by exact fun _ _ _ h => h) (Or.inl ⟨by (go_simp; try rfl), ?_⟩) (by assumption) ?_); rotate_left; focus (intro wS hSw; (try dsimp only at hSw); go_simp; first | done | with_reducible rfl); try simp only [Act.put, List.setIfInBounds_toArray, List.set_cons_zero, List.set_cons_succ])
    ((refine wpAnyH_take (i := 17) (v := ?_) (by (simp only [List.getElem?_toArray, List.getElem?_cons_succ, List.getElem?_cons_zero]); rfl) (by kernel_rfl) (by kernel_rfl) (by kernel_rfl) (by exact fun _ _ _ h => h) (Or.inl ⟨by (go_simp; try rfl), ?_⟩) (by assumption) ?_); rotate_left; focus (intro wS hSw; (try dsimp only at hSw); go_simp; first | done | with_reducible rfl); try simp only [Act.put, List.setIfInBounds_toArray, List.set_cons_zero, List.set_cons_succ])
    ((refine wpAnyH_take (i := 18) (v := ?_) (by (simp only [List.getElem?_toArray, List.getElem?_cons_succ, List.getElem?_cons_zero]); rfl) (by kernel_rfl) (by kernel_rfl) (by kernel_rfl) (by exact fun _ _ _ h => h) (Or.inl ⟨by (go_simp; try rfl), ?_⟩) (by assumption) ?_); rotate_left; focus (intro wS hSw; (try dsimp only at hSw); go_simp; first | done | with_reducible rfl); try simp only [Act.put, List.setIfInBounds_toArray, List.set_cons_zero, List.set_cons_succ])
    ((refine wpAnyH_take (i := 20) (v := ?_) (by (simp only [List.getElem?_toArray, List.getElem?_cons_succ, List.getElem?_cons_zero]); rfl) (by kernel_rfl) (by kernel_rfl) (by kernel_rfl) (by exact fun _ _ _ h => h) (Or.inl ⟨by (go_simp; try rfl), ?_⟩) (by assumption) ?_); rotate_left; focus (intro wS hSw; (try dsimp only at hSw); go_simp; first | done | with_reducible rfl); try simp only [Act.put, List.setIfInBounds_toArray, List.set_cons_zero, List.set_cons_succ])
    ((refine wpAnyH_take (i := 21) (v := ?_) (by (simp only [List.getElem?_toArray, List.getElem?_cons_succ, List.getElem?_cons_zero]); rfl) (by kernel_rfl) (by kernel_rfl) (by kernel_rfl) (by exact fun _ _ _ h => h) (Or.inl ⟨by (go_simp; try rfl), ?_⟩) (by assumption) ?_); rotate_left; focus (intro wS hSw; (try dsimp only at hSw); go_simp; first | done | with_reducible rfl); try simp only [Act.put, List.setIfInBounds_toArray, List.set_cons_zero, List.set_cons_succ])
    ((refine wpAnyH_take (i := 22) (v := ?_) (by (simp only [List.getElem?_toArray, List.getElem?_cons_succ, List.getElem?_cons_zero]); rfl) (by kernel_rfl) (by kernel_rfl) (by kernel_rfl) (by exact fun _ _ _ h => h) (Or.inl ⟨by (go_simp; try rfl), ?_⟩) (by assumption) ?_); rotate_left; focus (intro wS hSw; (try dsimp only at hSw); go_simp; first | done | with_reducible rfl); try simp only [Act.put, List.setIfInBounds_toArray, List.set_cons_zero, List.set_cons_succ])
    ((refine wpAnyH_ready (rs := [19]) (by kernel_rfl) (by simp) ?_); (refine AllReadyH.cons (by (simp only [List.getElem?_toArray, List.getElem?_cons_succ, List.getElem?_cons_zero]); rfl) (fun K hK => ?_) AllReadyH.nil); go_simp; refine Calls.mono (HC1.out _) ?_)
    rintro e W ⟨rfl, rfl⟩
    go_wp2_with fail
    refine hK.out _ _ ⟨HQ3.out.1.1 0, HQ3.out.1.1 1, HQ3.out.2.1.1 0, HQ3.out.2.1.1 1, HQ3.out.2.2.1.1 0, HQ3.out.2.2.1.1 1⟩ (fun hHeld => ?_)
    clear hK K
    try simp only [Act.put, List.setIfInBounds_toArray, List.set_cons_zero, List.set_cons_succ]
    ((refine wpAnyH_ready (rs := [23]) (by kernel_rfl) (by simp) ?_); (refine AllReadyH.cons (by (simp only [List.getElem?_toArray, List.getElem?_cons_succ, List.getElem?_cons_zero]); rfl) (fun K hK => ?_) AllReadyH.nil); go_simp; refine Calls.mono (HC2.out _) ?_)
    rintro e W ⟨rfl, rfl⟩
    go_wp2_with fail
    refine hK.out _ _ ⟨HQ3.out.1.1 0, HQ3.out.1.1 1, HQ3.out.2.1.1 0, HQ3.out.2.1.1 1, HQ3.out.2.2.1.1 0, HQ3.out.2.2.1.1 1⟩ (fun hHeld => ?_)
    clear hK K
    try simp only [Act.put, List.setIfInBounds_toArray, List.set_cons_zero, List.set_cons_succ]
    ((refine wpAnyH_take (i := 24) (v := ?_) (by (simp only [List.getElem?_toArray, List.getElem?_cons_succ, List.getElem?_cons_zero]); rfl) (by kernel_rfl) (by kernel_rfl) (by kernel_rfl) (by exact fun _ _ _ h => h) (Or.inl ⟨by (go_simp; try rfl), ?_⟩) (by assumption) ?_); rotate_left; focus (intro wS hSw; (try dsimp only at hSw); go_simp; first | done | with_reducible rfl); try simp only [Act.put, List.setIfInBounds_toArray, List.set_cons_zero, List.set_cons_succ])
    ((refine wpAnyH_take (i := 25) (v := ?_) (by (simp only [List.getElem?_toArray, List.getElem?_cons_succ, List.getElem?_cons_zero]); rfl) (by kernel_rfl) (by kernel_rfl) (by kernel_rfl) (by exact fun _ _ _ h => h) (Or.inl ⟨by rfl, ?_⟩) (by assumption) ?_); rotate_left; focus (intro wS hSw; (try dsimp only at hSw); go_simp; first | done | with_reducible rfl); try simp only [Act.put, List.setIfInBounds_toArray, List.set_cons_zero, List.set_cons_succ])
    ((refine wpAnyH_take (i := 26) (v := ?_) (by (simp only [List.getElem?_toArray, List.getElem?_cons_succ, List.getElem?_cons_zero]); rfl) (by kernel_rfl) (by kernel_rfl) (by kernel_rfl) (by exact fun _ _ _ h => h) (Or.inl ⟨by rfl, ?_⟩) (by assumption) ?_); rotate_left; focus (intro wS hSw; (try dsimp only at hSw); go_simp; first | done | with_reducible rfl); try simp only [Act.put, List.setIfInBounds_toArray, List.set_cons_zero, List.set_cons_succ])
    ((refine wpAnyH_take (i := 27) (v := ?_) (by (simp only [List.getElem?_toArray, List.getElem?_cons_succ, List.getElem?_cons_zero]); rfl) (by kernel_rfl) (by kernel_rfl) (by kernel_rfl) (by exact fun _ _ _ h => h) (Or.inl ⟨by (go_simp; try rfl), ?_⟩) (by assumption) ?_); rotate_left; focus (intro wS hSw; (try dsimp only at hSw); go_simp; first | done | with_reducible rfl); try simp only [Act.put, List.setIfInBounds_toArray, List.set_cons_zero, List.set_cons_succ])
    ((refine wpAnyH_take (i := 29) (v := ?_) (by (simp only [List.getElem?_toArray, List.getElem?_cons_succ, List.getElem?_cons_zero]); rfl) (by kernel_rfl) (by kernel_rfl) (by kernel_rfl) (by exact fun _ _ _ h => h) (Or.inl ⟨by (go_simp; try rfl), ?_⟩) (by assumption) ?_); rotate_left; focus (intro wS hSw; (try dsimp only at hSw); go_simp; first | done | with_reducible rfl); try simp only [Act.put, List.setIfInBounds_toArray, List.set_cons_zero, List.set_cons_succ])
    ((refine wpAnyH_ready (rs := [28]) (by kernel_rfl) (by simp) ?_); (refine AllReadyH.cons (by (simp only [List.getElem?_toArray, List.getElem?_cons_succ, List.getElem?_cons_zero]); rfl) (fun K hK => ?_) AllReadyH.nil); go_simp; refine Calls.mono (HR1.out _ HQ3.out.2.2.2) ?_)
    rintro e X4 hP
    have hP := hP.two HS.out.bd
    obtain ⟨V5, T5, ⟨v5, rfl, hV5⟩, hk5, hP5⟩ := hP
    have HK5 := Lib.hid hk5
    have HP5 := Lib.hid hP5
    have hV5 := hV5.tags hk5
    obtain ⟨a5, c5, b5, rfl, hT5, _, hX4⟩ := hV5
    have HT5 := Lib.hid hT5
    clear hk5 hP5 hT5
    have HQ4 := Lib.hid (HQ3.out.step hX4)
    go_wp2_with fail
    refine hK.out _ _ ⟨HQ4.out.1.1 0, HQ4.out.1.1 1, HQ4.out.2.1.1 0, HQ4.out.2.1.1 1, HQ4.out.2.2.1.1 0, HQ4.out.2.2.1.1 1⟩ (fun hHeld => ?_)
    clear hK K
    try simp only [Act.put, List.setIfInBounds_toArray, List.set_cons_zero, List.set_cons_succ]
    ((refine wpAnyH_ready (rs := [30]) (by kernel_rfl) (by simp) ?_); (refine AllReadyH.cons (by (simp only [List.getElem?_toArray, List.getElem?_cons_succ, List.getElem?_cons_zero]); rfl) (fun K hK => ?_) AllReadyH.nil); go_simp; refine Calls.mono (HR2.out _ HQ4.out.2.2.2) ?_)
    rintro e X5 hP
    have hP := HP5.out _ _ _ hP
    obtain ⟨v6, rfl, hV6⟩ := hP
    have hV6 := hV6.tags HK5.out
    obtain ⟨a6, c6, b6, rfl, hT6, _, hX5⟩ := hV6
    have HT6 := Lib.hid hT6
    have HT7 := Lib.hid (HT5.out.below hX5)
    clear hT6
    have HQ5 := Lib.hid (HQ4.out.step hX5)
    go_wp2_with fail
    refine hK.out _ _ ⟨HQ5.out.1.1 0, HQ5.out.1.1 1, HQ5.out.2.1.1 0, HQ5.out.2.1.1 1, HQ5.out.2.2.1.1 0, HQ5.out.2.2.1.1 1⟩ (fun hHeld => ?_)
    clear hK K
    try simp only [Act.put, List.setIfInBounds_toArray, List.set_cons_zero, List.set_cons_succ]
    ((refine wpAnyH_ready (rs := [31]) (by kernel_rfl) (by simp) ?_); (refine AllReadyH.cons (by (simp only [List.getElem?_toArray, List.getElem?_cons_succ, List.getElem?_cons_zero]); rfl) (fun K hK => ?_) AllReadyH.nil); go_simp; refine Calls.mono (vsame_any V5 a5 n c5 b5 0 T5 a6 c6 b6 0 T5 _ HT7.out HT6.out (fun _ _ => rfl)) ?_)
    rintro e X6 ⟨rfl, hX6⟩
    have HQ6 := Lib.hid (HQ5.out.step hX6)
    go_wp2_with fail
    refine hK.out _ _ ⟨HQ6.out.1.1 0, HQ6.out.1.1 1, HQ6.out.2.1.1 0, HQ6.out.2.1.1 1, HQ6.out.2.2.1.1 0, HQ6.out.2.2.1.1 1⟩ (fun hHeld => ?_)
    clear hK K
    try simp only [Act.put, List.setIfInBounds_toArray, List.set_cons_zero, List.set_cons_succ]
    ((refine wpAnyH_take (i := 32) (v := ?_) (by (simp only [List.getElem?_toArray, List.getElem?_cons_succ, List.getElem?_cons_zero]); rfl) (by kernel_rfl) (by kernel_rfl) (by kernel_rfl) (by exact fun _ _ _ h => h) (Or.inl ⟨by rfl, ?_⟩) (by assumption) ?_); rotate_left; focus (intro wS hSw; (try dsimp only at hSw); go_simp; first | done | with_reducible rfl); try simp only [Act.put, List.setIfInBounds_toArray, List.set_cons_zero, List.set_cons_succ])
    ((refine wpAnyH_take (i := 33) (v := ?_) (by (simp only [List.getElem?_toArray, List.getElem?_cons_succ, List.getElem?_cons_zero]); rfl) (by kernel_rfl) (by kernel_rfl) (by kernel_rfl) (by exact fun _ _ _ h => h) (Or.inl ⟨by rfl, ?_⟩) (by assumption) ?_); rotate_left; focus (intro wS hSw; (try dsimp only at hSw); go_simp; first | done | with_reducible rfl); try simp only [Act.put, List.setIfInBounds_toArray, List.set_cons_zero, List.set_cons_succ])
    ((refine wpAnyH_ready (rs := [34]) (by kernel_rfl) (by simp) ?_); (refine AllReadyH.cons (by (simp only [List.getElem?_toArray, List.getElem?_cons_succ, List.getElem?_cons_zero]); rfl) (fun K hK => ?_) AllReadyH.nil); go_simp; refine Calls.mono (vwakes_any _) ?_)
    rintro e X7 ⟨rfl, hX7⟩
    have HQ7 := Lib.hid (HQ6.out.step hX7)
    go_wp2_with fail
    refine hK.out _ _ ⟨HQ7.out.1.1 0, HQ7.out.1.1 1, HQ7.out.2.1.1 0, HQ7.out.2.1.1 1, HQ7.out.2.2.1.1 0, HQ7.out.2.2.1.1 1⟩ (fun hHeld => ?_)
    clear hK K
    try simp only [Act.put, List.setIfInBounds_toArray, List.set_cons_zero, List.set_cons_succ]
    ((refine wpAnyH_take (i := 35) (v := ?_) (by (simp only [List.getElem?_toArray, List.getElem?_cons_succ, List.getElem?_cons_zero]); rfl) (by kernel_rfl) (by kernel_rfl) (by kernel_rfl) (by exact fun _ _ _ h => h) (Or.inl ⟨by rfl, ?_⟩) (by assumption) ?_); rotate_left; focus (intro wS hSw; (try dsimp only at hSw); go_simp; first | done | with_reducible rfl); try simp only [Act.put, List.setIfInBounds_toArray, List.set_cons_zero, List.set_cons_succ])
    ((refine wpAnyH_take (i := 36) (v := ?_) (by (simp only [List.getElem?_toArray, List.getElem?_cons_succ, List.getElem?_cons_zero]); rfl) (by kernel_rfl) (by kernel_rfl) (by kernel_rfl) (by exact fun _ _ _ h => h) (Or.inl ⟨by rfl, ?_⟩) (by assumption) ?_); rotate_left; focus (intro wS hSw; (try dsimp only at hSw); go_simp; first | done | with_reducible rfl); try simp only [Act.put, List.setIfInBounds_toArray, List.set_cons_zero, List.set_cons_succ])
    refine wpAnyH_done (by kernel_rfl) ?_ _
    go_wp2_with fail
    go_ret
    exact ⟨rfl, HQ7.out.2.2.2⟩
end Go.Proofs.Ytpgpcgpecpimlaa
