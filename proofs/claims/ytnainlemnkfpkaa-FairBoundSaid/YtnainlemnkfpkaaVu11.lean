/-
  Package virtual: the flow that no other one goes ahead of.
-/
import Derived.Test.YtnainlemnkfpkaaVu7
namespace Go.Proofs.Ytnainlemnkfpkaa
open Go.RowKit
set_option linter.unusedSimpArgs false
set_option linter.unusedVariables false

theorem firstI_none {tk : Nat → Bool} {lt : Nat → Nat → Bool} {k : Nat} (h : firstS tk lt k = none) : firstI tk lt k = -1 := by unfold firstI; rw [h]
theorem firstI_some {tk : Nat → Bool} {lt : Nat → Nat → Bool} {k b : Nat} (h : firstS tk lt k = some b) : firstI tk lt k = b := by unfold firstI; rw [h]
theorem firstS_n0 {tk : Nat → Bool} {lt : Nat → Nat → Bool} {k : Nat} (h : firstS tk lt k = none) (h1 : tk k = false) : firstS tk lt (k + 1) = none := by unfold firstS; rw [h]; simp [h1]
theorem firstS_n1 {tk : Nat → Bool} {lt : Nat → Nat → Bool} {k : Nat} (h : firstS tk lt k = none) (h1 : tk k = true) : firstS tk lt (k + 1) = some k := by unfold firstS; rw [h]; simp [h1]
theorem firstS_s0 {tk : Nat → Bool} {lt : Nat → Nat → Bool} {k b : Nat} (h : firstS tk lt k = some b) (h1 : (tk k && lt k b) = false) : firstS tk lt (k + 1) = some b := by unfold firstS; rw [h]; simp only [h1]; rfl
theorem firstS_s1 {tk : Nat → Bool} {lt : Nat → Nat → Bool} {k b : Nat} (h : firstS tk lt k = some b) (h1 : (tk k && lt k b) = true) : firstS tk lt (k + 1) = some k := by unfold firstS; rw [h]; simp only [h1]; rfl

/-- two blocks of the call's own -/
def FQ (w : World) (n1 n2 : Nat) (c1 c2 : Array Value) (X : World) : Prop := Holds X n1 c1 ∧ Holds X n2 c2 ∧ Below w.heap.size w X
theorem FQ.step {w A B : World} {n1 n2 : Nat} {c1 c2 : Array Value} (h : FQ w n1 n2 c1 c2 A) (hB : Below A.heap.size A B) : FQ w n1 n2 c1 c2 B := ⟨Holds.step h.1 hB, Holds.step h.2.1 hB, h.2.2.trans (hB.mono h.2.2.size)⟩

set_option maxRecDepth 100000 in
set_option maxHeartbeats 8000000 in
theorem first_any (a : Option Addr) (n c b o : Nat) (T : Nat → TagsE) (fT fA : Nat) (capT : Array Value) (tk : Nat → Bool) (lt : Nat → Nat → Bool) (w : World) (hs : TagsIn w a n c b o T)
    (hcT : ∀ args w, (callFunc fT args).run Try.prog w = .ok (.enter fT args) w) (hcA : ∀ args w, (callFunc fA args).run Try.prog w = .ok (.enter fA args) w)
    (HT0 : ∀ W (k : Nat), Below w.heap.size w W → k < n → Calls Try.prog fT (#[.int .i64 k] ++ capT) W fun e w' => e = .returned (.bool (tk k)) ∧ Below W.heap.size W w')
    (HA0 : ∀ W i j, i < n → j < n → Calls Try.prog fA (#[.agg #[.int .i64 (T i).s, .int .i64 (T i).f], .agg #[.int .i64 (T j).s, .int .i64 (T j).f]] ++ #[]) W fun e w' => e = .returned (.bool (lt i j)) ∧ Below W.heap.size W w') :
    Calls Try.prog 43 #[.slice a n c, .agg #[.func (.func fT) #[] capT, .func (.func fA) #[] #[]]] w fun e w' => e = .returned (.int .i64 (firstI tk lt n)) ∧ Below w.heap.size w w' := by
  have hm := hs.max
  have hl := hs.le
  unfold maxLen at hm
  have HS := Lib.hid hs
  have HT := Lib.hid HT0
  have HA := Lib.hid HA0
  have hb0 : Below w.heap.size w (w.alloc (.cells #[.func (.func fT) #[] capT, .func (.func fA) #[] #[]] 91)) := (Below.refl _ _).alloc (Nat.le_refl _) _
  have hh0 := tw1 (n := w.heap.size) (Below.refl _ (w.alloc (.cells #[.func (.func fT) #[] capT, .func (.func fA) #[] #[]] 91))) rfl
  have HB0 := Lib.hid hb0
  have HH0 := Lib.hid hh0
  clear hs HT0 HA0 hb0 hh0
  go_enter Try.func43, Try.ntmps43
  go_wp2_with fail
  go_loopw [5, 10] (fun q i wr => ∃ k : Nat, k ≤ n ∧ i = .int .i64 k ∧ q = .int .i64 (firstI tk lt k) ∧ Below w.heap.size w wr ∧ Holds wr w.heap.size #[.func (.func fT) #[] capT, .func (.func fA) #[] #[]]) (fun _ i _ => n - (intOf i).toNat)
  case atStart => exact ⟨0, Nat.zero_le _, rfl, rfl, HB0.out, HH0.out⟩
  case round =>
    obtain ⟨k, hk, rfl, rfl, hbel, hh⟩ := hrel
    by_cases hlt : k < n
    · obtain ⟨e0, e1⟩ := HS.out.at_ (by omega)
      subst e0
      obtain ⟨k0, k1⟩ := (HS.out.below hbel).cell k hlt
      obtain ⟨s, hs⟩ : ∃ s, s = (T k).s := ⟨_, rfl⟩
      obtain ⟨f, hf⟩ : ∃ f, f = (T k).f := ⟨_, rfl⟩
      rw [← hs] at k0
      rw [← hf] at k1
      have hw0 : w.heap.size < wr.heap.size := hh.2.2
      have HQ : Hid (FQ w w.heap.size wr.heap.size #[.func (.func fT) #[] capT, .func (.func fA) #[] #[]] #[.int .i64 s, .int .i64 f] (wr.alloc (.cells #[.int .i64 s, .int .i64 f] 80)).drew) := Lib.hid
        ⟨Holds.step hh (((Below.refl _ _).alloc (Nat.le_refl _) _).drew), tw1 (n := wr.heap.size) (Below.refl _ (wr.alloc (.cells #[.int .i64 s, .int .i64 f] 80))).drew rfl, (hbel.alloc hbel.size _).drew⟩
      have q0 : wr.cell? ⟨w.heap.size, 0, none⟩ = some (.func (.func fT) #[] capT) := hh.1 0
      have q1 : wr.cell? ⟨w.heap.size, 1, none⟩ = some (.func (.func fA) #[] #[]) := hh.1 1
      have CT : Hid (∀ W, Below w.heap.size w W → Calls Try.prog fT (#[.int .i64 k] ++ capT) W fun e w' => e = .returned (.bool (tk k)) ∧ Below W.heap.size W w') := Lib.hid (fun W h => HT.out W k h hlt)
      clear hh
      cases hbst : firstS tk lt k with
      | none =>
        rw [firstI_none hbst]
        cases htk : tk k
        · have HF : Hid (firstI tk lt (k + 1) = -1) := Lib.hid (firstI_none (firstS_n0 hbst htk))
          rw [htk] at CT
          clear hbst htk hs hf
          go_wp2_with fail
          refine wp_region_held_drew (S := fun X => X.cell? ⟨w.heap.size, 0, none⟩ = some (.func (.func fT) #[] capT)) (by kernel_rfl) (HQ.out.1.1 0) (fun hHeld => ?_)
          ((refine wpAnyH_take (i := 0) (v := ?_) (by (simp only [List.getElem?_toArray, List.getElem?_cons_succ, List.getElem?_cons_zero]); rfl) (by kernel_rfl) (by kernel_rfl) (by kernel_rfl) (by exact fun _ _ _ h => h) (Or.inl ⟨by rfl, ?_⟩) (by assumption) ?_); rotate_left; focus (intro wS hSw; (try dsimp only at hSw); go_simp; first | done | with_reducible rfl); try simp only [Act.put, List.setIfInBounds_toArray, List.set_cons_zero, List.set_cons_succ])
          ((refine wpAnyH_take (i := 1) (v := ?_) (by (simp only [List.getElem?_toArray, List.getElem?_cons_succ, List.getElem?_cons_zero]); rfl) (by kernel_rfl) (by kernel_rfl) (by kernel_rfl) (by exact fun _ _ _ h => h) (Or.inl ⟨by rfl, ?_⟩) (by assumption) ?_); rotate_left; focus (intro wS hSw; (try dsimp only at hSw); go_simp; first | done | with_reducible rfl); try simp only [Act.put, List.setIfInBounds_toArray, List.set_cons_zero, List.set_cons_succ])
          ((refine wpAnyH_take (i := 2) (v := ?_) (by (simp only [List.getElem?_toArray, List.getElem?_cons_succ, List.getElem?_cons_zero]); rfl) (by kernel_rfl) (by kernel_rfl) (by kernel_rfl) (by exact fun _ _ _ h => h) (Or.inl ⟨by rfl, ?_⟩) (by assumption) ?_); rotate_left; focus (intro wS hSw; (try dsimp only at hSw); go_simp; first | done | with_reducible rfl); try simp only [Act.put, List.setIfInBounds_toArray, List.set_cons_zero, List.set_cons_succ])
          ((refine wpAnyH_ready (rs := [3]) (by kernel_rfl) (by simp) ?_); (refine AllReadyH.cons (by (simp only [List.getElem?_toArray, List.getElem?_cons_succ, List.getElem?_cons_zero]); rfl) (fun K hK => ?_) AllReadyH.nil); go_simp; refine Calls.mono (CT.out _ HQ.out.2.2) ?_)
          rintro e W1 ⟨rfl, hW1⟩
          have HQ1 := Lib.hid (HQ.out.step hW1)
          have p0 : W1.cell? ⟨w.heap.size, 0, none⟩ = some (.func (.func fT) #[] capT) := HQ1.out.1.1 0
          clear hW1
          go_wp2_with fail
          refine hK.out _ _ p0 (fun hHeld2 => ?_)
          try simp only [Act.put, List.setIfInBounds_toArray, List.set_cons_zero, List.set_cons_succ]
          ((refine wpAnyH_take (i := 4) (v := ?_) (by (simp only [List.getElem?_toArray, List.getElem?_cons_succ, List.getElem?_cons_zero]); rfl) (by kernel_rfl) (by kernel_rfl) (by kernel_rfl) (by exact fun _ _ _ h => h) (Or.inl ⟨by rfl, ?_⟩) (by assumption) ?_); rotate_left; focus (intro wS hSw; (try dsimp only at hSw); go_simp; first | done | with_reducible rfl); try simp only [Act.put, List.setIfInBounds_toArray, List.set_cons_zero, List.set_cons_succ])
          ((refine wpAnyH_take (i := 5) (v := undef) (by (simp only [List.getElem?_toArray, List.getElem?_cons_succ, List.getElem?_cons_zero]); rfl) (by kernel_rfl) (by kernel_rfl) (by kernel_rfl) (by exact fun _ _ _ h => h) (Or.inr ⟨by (go_simp; try (intro hh; cases hh)), rfl⟩) (by assumption) ?_); try simp only [Act.put, List.setIfInBounds_toArray, List.set_cons_zero, List.set_cons_succ])
          ((refine wpAnyH_take (i := 6) (v := undef) (by (simp only [List.getElem?_toArray, List.getElem?_cons_succ, List.getElem?_cons_zero]); rfl) (by kernel_rfl) (by kernel_rfl) (by kernel_rfl) (by exact fun _ _ _ h => h) (Or.inr ⟨by (go_simp; try (intro hh; cases hh)), rfl⟩) (by assumption) ?_); try simp only [Act.put, List.setIfInBounds_toArray, List.set_cons_zero, List.set_cons_succ])
          ((refine wpAnyH_take (i := 7) (v := undef) (by (simp only [List.getElem?_toArray, List.getElem?_cons_succ, List.getElem?_cons_zero]); rfl) (by kernel_rfl) (by kernel_rfl) (by kernel_rfl) (by exact fun _ _ _ h => h) (Or.inr ⟨by (go_simp; try (intro hh; cases hh)), rfl⟩) (by assumption) ?_); try simp only [Act.put, List.setIfInBounds_toArray, List.set_cons_zero, List.set_cons_succ])

          ((refine wpAnyH_take (i := 8) (v := undef) (by (simp only [List.getElem?_toArray, List.getElem?_cons_succ, List.getElem?_cons_zero]); rfl) (by kernel_rfl) (by kernel_rfl) (by kernel_rfl) (by exact fun _ _ _ h => h) (Or.inr ⟨by (go_simp; try (intro hh; cases hh)), rfl⟩) (by assumption) ?_); try simp only [Act.put, List.setIfInBounds_toArray, List.set_cons_zero, List.set_cons_succ])
          ((refine wpAnyH_take (i := 9) (v := undef) (by (simp only [List.getElem?_toArray, List.getElem?_cons_succ, List.getElem?_cons_zero]); rfl) (by kernel_rfl) (by kernel_rfl) (by kernel_rfl) (by exact fun _ _ _ h => h) (Or.inr ⟨by (go_simp; try (intro hh; cases hh)), rfl⟩) (by assumption) ?_); try simp only [Act.put, List.setIfInBounds_toArray, List.set_cons_zero, List.set_cons_succ])
          ((refine wpAnyH_take (i := 10) (v := undef) (by (simp only [List.getElem?_toArray, List.getElem?_cons_succ, List.getElem?_cons_zero]); rfl) (by kernel_rfl) (by kernel_rfl) (by kernel_rfl) (by exact fun _ _ _ h => h) (Or.inr ⟨by (go_simp; try (intro hh; cases hh)), rfl⟩) (by assumption) ?_); try simp only [Act.put, List.setIfInBounds_toArray, List.set_cons_zero, List.set_cons_succ])
          ((refine wpAnyH_take (i := 11) (v := undef) (by (simp only [List.getElem?_toArray, List.getElem?_cons_succ, List.getElem?_cons_zero]); rfl) (by kernel_rfl) (by kernel_rfl) (by kernel_rfl) (by exact fun _ _ _ h => h) (Or.inr ⟨by (go_simp; try (intro hh; cases hh)), rfl⟩) (by assumption) ?_); try simp only [Act.put, List.setIfInBounds_toArray, List.set_cons_zero, List.set_cons_succ])
          ((refine wpAnyH_take (i := 12) (v := undef) (by (simp only [List.getElem?_toArray, List.getElem?_cons_succ, List.getElem?_cons_zero]); rfl) (by kernel_rfl) (by kernel_rfl) (by kernel_rfl) (by exact fun _ _ _ h => h) (Or.inr ⟨by (go_simp; try (intro hh; cases hh)), rfl⟩) (by assumption) ?_); try simp only [Act.put, List.setIfInBounds_toArray, List.set_cons_zero, List.set_cons_succ])
          ((refine wpAnyH_take (i := 13) (v := undef) (by (simp only [List.getElem?_toArray, List.getElem?_cons_succ, List.getElem?_cons_zero]); rfl) (by kernel_rfl) (by kernel_rfl) (by kernel_rfl) (by exact fun _ _ _ h => h) (Or.inr ⟨by (go_simp; try (intro hh; cases hh)), rfl⟩) (by assumption) ?_); try simp only [Act.put, List.setIfInBounds_toArray, List.set_cons_zero, List.set_cons_succ])
          ((refine wpAnyH_take (i := 14) (v := undef) (by (simp only [List.getElem?_toArray, List.getElem?_cons_succ, List.getElem?_cons_zero]); rfl) (by kernel_rfl) (by kernel_rfl) (by kernel_rfl) (by exact fun _ _ _ h => h) (Or.inr ⟨by (go_simp; try (intro hh; cases hh)), rfl⟩) (by assumption) ?_); try simp only [Act.put, List.setIfInBounds_toArray, List.set_cons_zero, List.set_cons_succ])
          ((refine wpAnyH_take (i := 15) (v := undef) (by (simp only [List.getElem?_toArray, List.getElem?_cons_succ, List.getElem?_cons_zero]); rfl) (by kernel_rfl) (by kernel_rfl) (by kernel_rfl) (by exact fun _ _ _ h => h) (Or.inr ⟨by (go_simp; try (intro hh; cases hh)), rfl⟩) (by assumption) ?_); try simp only [Act.put, List.setIfInBounds_toArray, List.set_cons_zero, List.set_cons_succ])
          ((refine wpAnyH_take (i := 16) (v := undef) (by (simp only [List.getElem?_toArray, List.getElem?_cons_succ, List.getElem?_cons_zero]); rfl) (by kernel_rfl) (by kernel_rfl) (by kernel_rfl) (by exact fun _ _ _ h => h) (Or.inr ⟨by (go_simp; try (intro hh; cases hh)), rfl⟩) (by assumption) ?_); try simp only [Act.put, List.setIfInBounds_toArray, List.set_cons_zero, List.set_cons_succ])
          ((refine wpAnyH_take (i := 17) (v := ?_) (by (simp only [List.getElem?_toArray, List.getElem?_cons_succ, List.getElem?_cons_zero]); rfl) (by kernel_rfl) (by kernel_rfl) (by kernel_rfl) (by exact fun _ _ _ h => h) (Or.inl ⟨by rfl, ?_⟩) (by assumption) ?_); rotate_left; focus (intro wS hSw; (try dsimp only at hSw); go_simp; first | done | with_reducible rfl); try simp only [Act.put, List.setIfInBounds_toArray, List.set_cons_zero, List.set_cons_succ])
          refine wpAnyH_done (by kernel_rfl) ?_ _
          all_goals
            go_wp2_with fail
            go_roundw
            case rel => exact ⟨k + 1, by omega, by go_num, by rw [HF.out], HQ1.out.2.2, HQ1.out.1⟩
            case measure => simp [intOf]; omega
        · have HF : Hid (firstI tk lt (k + 1) = k) := Lib.hid (firstI_some (firstS_n1 hbst htk))
          rw [htk] at CT
          clear hbst htk hs hf
          go_wp2_with fail
          refine wp_region_held_drew (S := fun X => X.cell? ⟨w.heap.size, 0, none⟩ = some (.func (.func fT) #[] capT)) (by kernel_rfl) (HQ.out.1.1 0) (fun hHeld => ?_)
          ((refine wpAnyH_take (i := 0) (v := ?_) (by (simp only [List.getElem?_toArray, List.getElem?_cons_succ, List.getElem?_cons_zero]); rfl) (by kernel_rfl) (by kernel_rfl) (by kernel_rfl) (by exact fun _ _ _ h => h) (Or.inl ⟨by rfl, ?_⟩) (by assumption) ?_); rotate_left; focus (intro wS hSw; (try dsimp only at hSw); go_simp; first | done | with_reducible rfl); try simp only [Act.put, List.setIfInBounds_toArray, List.set_cons_zero, List.set_cons_succ])
          ((refine wpAnyH_take (i := 1) (v := ?_) (by (simp only [List.getElem?_toArray, List.getElem?_cons_succ, List.getElem?_cons_zero]); rfl) (by kernel_rfl) (by kernel_rfl) (by kernel_rfl) (by exact fun _ _ _ h => h) (Or.inl ⟨by rfl, ?_⟩) (by assumption) ?_); rotate_left; focus (intro wS hSw; (try dsimp only at hSw); go_simp; first | done | with_reducible rfl); try simp only [Act.put, List.setIfInBounds_toArray, List.set_cons_zero, List.set_cons_succ])
          ((refine wpAnyH_take (i := 2) (v := ?_) (by (simp only [List.getElem?_toArray, List.getElem?_cons_succ, List.getElem?_cons_zero]); rfl) (by kernel_rfl) (by kernel_rfl) (by kernel_rfl) (by exact fun _ _ _ h => h) (Or.inl ⟨by rfl, ?_⟩) (by assumption) ?_); rotate_left; focus (intro wS hSw; (try dsimp only at hSw); go_simp; first | done | with_reducible rfl); try simp only [Act.put, List.setIfInBounds_toArray, List.set_cons_zero, List.set_cons_succ])
          ((refine wpAnyH_ready (rs := [3]) (by kernel_rfl) (by simp) ?_); (refine AllReadyH.cons (by (simp only [List.getElem?_toArray, List.getElem?_cons_succ, List.getElem?_cons_zero]); rfl) (fun K hK => ?_) AllReadyH.nil); go_simp; refine Calls.mono (CT.out _ HQ.out.2.2) ?_)
          rintro e W1 ⟨rfl, hW1⟩
          have HQ1 := Lib.hid (HQ.out.step hW1)
          have p0 : W1.cell? ⟨w.heap.size, 0, none⟩ = some (.func (.func fT) #[] capT) := HQ1.out.1.1 0
          clear hW1
          go_wp2_with fail
          refine hK.out _ _ p0 (fun hHeld2 => ?_)
          try simp only [Act.put, List.setIfInBounds_toArray, List.set_cons_zero, List.set_cons_succ]
          ((refine wpAnyH_take (i := 4) (v := ?_) (by (simp only [List.getElem?_toArray, List.getElem?_cons_succ, List.getElem?_cons_zero]); rfl) (by kernel_rfl) (by kernel_rfl) (by kernel_rfl) (by exact fun _ _ _ h => h) (Or.inl ⟨by rfl, ?_⟩) (by assumption) ?_); rotate_left; focus (intro wS hSw; (try dsimp only at hSw); go_simp; first | done | with_reducible rfl); try simp only [Act.put, List.setIfInBounds_toArray, List.set_cons_zero, List.set_cons_succ])
          ((refine wpAnyH_take (i := 5) (v := ?_) (by (simp only [List.getElem?_toArray, List.getElem?_cons_succ, List.getElem?_cons_zero]); rfl) (by kernel_rfl) (by kernel_rfl) (by kernel_rfl) (by exact fun _ _ _ h => h) (Or.inl ⟨by (go_simp; try rfl), ?_⟩) (by assumption) ?_); rotate_left; focus (intro wS hSw; (try dsimp only at hSw); go_simp; first | done | with_reducible rfl); try simp only [Act.put, List.setIfInBounds_toArray, List.set_cons_zero, List.set_cons_succ])
          ((refine wpAnyH_take (i := 6) (v := ?_) (by (simp only [List.getElem?_toArray, List.getElem?_cons_succ, List.getElem?_cons_zero]); rfl) (by kernel_rfl) (by kernel_rfl) (by kernel_rfl) (by exact fun _ _ _ h => h) (Or.inl ⟨by (go_simp; try rfl), ?_⟩) (by assumption) ?_); rotate_left; focus (intro wS hSw; (try dsimp only at hSw); go_simp; first | done | with_reducible rfl); try simp only [Act.put, List.setIfInBounds_toArray, List.set_cons_zero, List.set_cons_succ])
          ((refine wpAnyH_take (i := 7) (v := ?_) (by (simp only [List.getElem?_toArray, List.getElem?_cons_succ, List.getElem?_cons_zero]); rfl) (by kernel_rfl) (by kernel_rfl) (by kernel_rfl) (by exact fun _ _ _ h => h) (Or.inl ⟨by (go_simp; try rfl), ?_⟩) (by assumption) ?_); rotate_left; focus (intro wS hSw; (try dsimp only at hSw); go_simp; first | done | with_reducible rfl); try simp only [Act.put, List.setIfInBounds_toArray, List.set_cons_zero, List.set_cons_succ])

          ((refine wpAnyH_take (i := 8) (v := undef) (by (simp only [List.getElem?_toArray, List.getElem?_cons_succ, List.getElem?_cons_zero]); rfl) (by kernel_rfl) (by kernel_rfl) (by kernel_rfl) (by exact fun _ _ _ h => h) (Or.inr ⟨by (go_simp; try (intro hh; cases hh)), rfl⟩) (by assumption) ?_); try simp only [Act.put, List.setIfInBounds_toArray, List.set_cons_zero, List.set_cons_succ])
          ((refine wpAnyH_take (i := 9) (v := undef) (by (simp only [List.getElem?_toArray, List.getElem?_cons_succ, List.getElem?_cons_zero]); rfl) (by kernel_rfl) (by kernel_rfl) (by kernel_rfl) (by exact fun _ _ _ h => h) (Or.inr ⟨by (go_simp; try (intro hh; cases hh)), rfl⟩) (by assumption) ?_); try simp only [Act.put, List.setIfInBounds_toArray, List.set_cons_zero, List.set_cons_succ])
          ((refine wpAnyH_take (i := 10) (v := undef) (by (simp only [List.getElem?_toArray, List.getElem?_cons_succ, List.getElem?_cons_zero]); rfl) (by kernel_rfl) (by kernel_rfl) (by kernel_rfl) (by exact fun _ _ _ h => h) (Or.inr ⟨by (go_simp; try (intro hh; cases hh)), rfl⟩) (by assumption) ?_); try simp only [Act.put, List.setIfInBounds_toArray, List.set_cons_zero, List.set_cons_succ])
          ((refine wpAnyH_take (i := 11) (v := undef) (by (simp only [List.getElem?_toArray, List.getElem?_cons_succ, List.getElem?_cons_zero]); rfl) (by kernel_rfl) (by kernel_rfl) (by kernel_rfl) (by exact fun _ _ _ h => h) (Or.inr ⟨by (go_simp; try (intro hh; cases hh)), rfl⟩) (by assumption) ?_); try simp only [Act.put, List.setIfInBounds_toArray, List.set_cons_zero, List.set_cons_succ])
          ((refine wpAnyH_take (i := 12) (v := undef) (by (simp only [List.getElem?_toArray, List.getElem?_cons_succ, List.getElem?_cons_zero]); rfl) (by kernel_rfl) (by kernel_rfl) (by kernel_rfl) (by exact fun _ _ _ h => h) (Or.inr ⟨by (go_simp; try (intro hh; cases hh)), rfl⟩) (by assumption) ?_); try simp only [Act.put, List.setIfInBounds_toArray, List.set_cons_zero, List.set_cons_succ])
          ((refine wpAnyH_take (i := 13) (v := undef) (by (simp only [List.getElem?_toArray, List.getElem?_cons_succ, List.getElem?_cons_zero]); rfl) (by kernel_rfl) (by kernel_rfl) (by kernel_rfl) (by exact fun _ _ _ h => h) (Or.inr ⟨by (go_simp; try (intro hh; cases hh)), rfl⟩) (by assumption) ?_); try simp only [Act.put, List.setIfInBounds_toArray, List.set_cons_zero, List.set_cons_succ])
          ((refine wpAnyH_take (i := 14) (v := undef) (by (simp only [List.getElem?_toArray, List.getElem?_cons_succ, List.getElem?_cons_zero]); rfl) (by kernel_rfl) (by kernel_rfl) (by kernel_rfl) (by exact fun _ _ _ h => h) (Or.inr ⟨by (go_simp; try (intro hh; cases hh)), rfl⟩) (by assumption) ?_); try simp only [Act.put, List.setIfInBounds_toArray, List.set_cons_zero, List.set_cons_succ])
          ((refine wpAnyH_take (i := 15) (v := undef) (by (simp only [List.getElem?_toArray, List.getElem?_cons_succ, List.getElem?_cons_zero]); rfl) (by kernel_rfl) (by kernel_rfl) (by kernel_rfl) (by exact fun _ _ _ h => h) (Or.inr ⟨by (go_simp; try (intro hh; cases hh)), rfl⟩) (by assumption) ?_); try simp only [Act.put, List.setIfInBounds_toArray, List.set_cons_zero, List.set_cons_succ])
          ((refine wpAnyH_take (i := 16) (v := ?_) (by (simp only [List.getElem?_toArray, List.getElem?_cons_succ, List.getElem?_cons_zero]); rfl) (by kernel_rfl) (by kernel_rfl) (by kernel_rfl) (by exact fun _ _ _ h => h) (Or.inl ⟨by (go_simp; try rfl), ?_⟩) (by assumption) ?_); rotate_left; focus (intro wS hSw; (try dsimp only at hSw); go_simp; first | done | with_reducible rfl); try simp only [Act.put, List.setIfInBounds_toArray, List.set_cons_zero, List.set_cons_succ])
          ((refine wpAnyH_take (i := 17) (v := ?_) (by (simp only [List.getElem?_toArray, List.getElem?_cons_succ, List.getElem?_cons_zero]); rfl) (by kernel_rfl) (by kernel_rfl) (by kernel_rfl) (by exact fun _ _ _ h => h) (Or.inl ⟨by rfl, ?_⟩) (by assumption) ?_); rotate_left; focus (intro wS hSw; (try dsimp only at hSw); go_simp; first | done | with_reducible rfl); try simp only [Act.put, List.setIfInBounds_toArray, List.set_cons_zero, List.set_cons_succ])
          refine wpAnyH_done (by kernel_rfl) ?_ _
          all_goals
            go_wp2_with fail
            go_roundw
            case rel => exact ⟨k + 1, by omega, by go_num, by rw [HF.out], HQ1.out.2.2, HQ1.out.1⟩
            case measure => simp [intOf]; omega
      | some m =>
        rw [firstI_some hbst]
        have hml := (firstS_some hbst).1
        cases htk : tk k
        · have HF : Hid (firstI tk lt (k + 1) = m) := Lib.hid (firstI_some (firstS_s0 hbst (by rw [htk]; rfl)))
          rw [htk] at CT
          clear hbst htk hs hf
          go_wp2_with fail
          refine wp_region_held_drew (S := fun X => X.cell? ⟨w.heap.size, 0, none⟩ = some (.func (.func fT) #[] capT)) (by kernel_rfl) (HQ.out.1.1 0) (fun hHeld => ?_)
          ((refine wpAnyH_take (i := 0) (v := ?_) (by (simp only [List.getElem?_toArray, List.getElem?_cons_succ, List.getElem?_cons_zero]); rfl) (by kernel_rfl) (by kernel_rfl) (by kernel_rfl) (by exact fun _ _ _ h => h) (Or.inl ⟨by rfl, ?_⟩) (by assumption) ?_); rotate_left; focus (intro wS hSw; (try dsimp only at hSw); go_simp; first | done | with_reducible rfl); try simp only [Act.put, List.setIfInBounds_toArray, List.set_cons_zero, List.set_cons_succ])
          ((refine wpAnyH_take (i := 1) (v := ?_) (by (simp only [List.getElem?_toArray, List.getElem?_cons_succ, List.getElem?_cons_zero]); rfl) (by kernel_rfl) (by kernel_rfl) (by kernel_rfl) (by exact fun _ _ _ h => h) (Or.inl ⟨by rfl, ?_⟩) (by assumption) ?_); rotate_left; focus (intro wS hSw; (try dsimp only at hSw); go_simp; first | done | with_reducible rfl); try simp only [Act.put, List.setIfInBounds_toArray, List.set_cons_zero, List.set_cons_succ])
          ((refine wpAnyH_take (i := 2) (v := ?_) (by (simp only [List.getElem?_toArray, List.getElem?_cons_succ, List.getElem?_cons_zero]); rfl) (by kernel_rfl) (by kernel_rfl) (by kernel_rfl) (by exact fun _ _ _ h => h) (Or.inl ⟨by rfl, ?_⟩) (by assumption) ?_); rotate_left; focus (intro wS hSw; (try dsimp only at hSw); go_simp; first | done | with_reducible rfl); try simp only [Act.put, List.setIfInBounds_toArray, List.set_cons_zero, List.set_cons_succ])
          ((refine wpAnyH_ready (rs := [3]) (by kernel_rfl) (by simp) ?_); (refine AllReadyH.cons (by (simp only [List.getElem?_toArray, List.getElem?_cons_succ, List.getElem?_cons_zero]); rfl) (fun K hK => ?_) AllReadyH.nil); go_simp; refine Calls.mono (CT.out _ HQ.out.2.2) ?_)
          rintro e W1 ⟨rfl, hW1⟩
          have HQ1 := Lib.hid (HQ.out.step hW1)
          have p0 : W1.cell? ⟨w.heap.size, 0, none⟩ = some (.func (.func fT) #[] capT) := HQ1.out.1.1 0
          clear hW1
          go_wp2_with fail
          refine hK.out _ _ p0 (fun hHeld2 => ?_)
          try simp only [Act.put, List.setIfInBounds_toArray, List.set_cons_zero, List.set_cons_succ]
          ((refine wpAnyH_take (i := 4) (v := ?_) (by (simp only [List.getElem?_toArray, List.getElem?_cons_succ, List.getElem?_cons_zero]); rfl) (by kernel_rfl) (by kernel_rfl) (by kernel_rfl) (by exact fun _ _ _ h => h) (Or.inl ⟨by rfl, ?_⟩) (by assumption) ?_); rotate_left; focus (intro wS hSw; (try dsimp only at hSw); go_simp; first | done | with_reducible rfl); try simp only [Act.put, List.setIfInBounds_toArray, List.set_cons_zero, List.set_cons_succ])
          ((refine wpAnyH_take (i := 5) (v := undef) (by (simp only [List.getElem?_toArray, List.getElem?_cons_succ, List.getElem?_cons_zero]); rfl) (by kernel_rfl) (by kernel_rfl) (by kernel_rfl) (by exact fun _ _ _ h => h) (Or.inr ⟨by (go_simp; try (intro hh; cases hh)), rfl⟩) (by assumption) ?_); try simp only [Act.put, List.setIfInBounds_toArray, List.set_cons_zero, List.set_cons_succ])
          ((refine wpAnyH_take (i := 6) (v := undef) (by (simp only [List.getElem?_toArray, List.getElem?_cons_succ, List.getElem?_cons_zero]); rfl) (by kernel_rfl) (by kernel_rfl) (by kernel_rfl) (by exact fun _ _ _ h => h) (Or.inr ⟨by (go_simp; try (intro hh; cases hh)), rfl⟩) (by assumption) ?_); try simp only [Act.put, List.setIfInBounds_toArray, List.set_cons_zero, List.set_cons_succ])
          ((refine wpAnyH_take (i := 7) (v := undef) (by (simp only [List.getElem?_toArray, List.getElem?_cons_succ, List.getElem?_cons_zero]); rfl) (by kernel_rfl) (by kernel_rfl) (by kernel_rfl) (by exact fun _ _ _ h => h) (Or.inr ⟨by (go_simp; try (intro hh; cases hh)), rfl⟩) (by assumption) ?_); try simp only [Act.put, List.setIfInBounds_toArray, List.set_cons_zero, List.set_cons_succ])

          ((refine wpAnyH_take (i := 8) (v := undef) (by (simp only [List.getElem?_toArray, List.getElem?_cons_succ, List.getElem?_cons_zero]); rfl) (by kernel_rfl) (by kernel_rfl) (by kernel_rfl) (by exact fun _ _ _ h => h) (Or.inr ⟨by (go_simp; try (intro hh; cases hh)), rfl⟩) (by assumption) ?_); try simp only [Act.put, List.setIfInBounds_toArray, List.set_cons_zero, List.set_cons_succ])
          ((refine wpAnyH_take (i := 9) (v := undef) (by (simp only [List.getElem?_toArray, List.getElem?_cons_succ, List.getElem?_cons_zero]); rfl) (by kernel_rfl) (by kernel_rfl) (by kernel_rfl) (by exact fun _ _ _ h => h) (Or.inr ⟨by (go_simp; try (intro hh; cases hh)), rfl⟩) (by assumption) ?_); try simp only [Act.put, List.setIfInBounds_toArray, List.set_cons_zero, List.set_cons_succ])
          ((refine wpAnyH_take (i := 10) (v := undef) (by (simp only [List.getElem?_toArray, List.getElem?_cons_succ, List.getElem?_cons_zero]); rfl) (by kernel_rfl) (by kernel_rfl) (by kernel_rfl) (by exact fun _ _ _ h => h) (Or.inr ⟨by (go_simp; try (intro hh; cases hh)), rfl⟩) (by assumption) ?_); try simp only [Act.put, List.setIfInBounds_toArray, List.set_cons_zero, List.set_cons_succ])
          ((refine wpAnyH_take (i := 11) (v := undef) (by (simp only [List.getElem?_toArray, List.getElem?_cons_succ, List.getElem?_cons_zero]); rfl) (by kernel_rfl) (by kernel_rfl) (by kernel_rfl) (by exact fun _ _ _ h => h) (Or.inr ⟨by (go_simp; try (intro hh; cases hh)), rfl⟩) (by assumption) ?_); try simp only [Act.put, List.setIfInBounds_toArray, List.set_cons_zero, List.set_cons_succ])
          ((refine wpAnyH_take (i := 12) (v := undef) (by (simp only [List.getElem?_toArray, List.getElem?_cons_succ, List.getElem?_cons_zero]); rfl) (by kernel_rfl) (by kernel_rfl) (by kernel_rfl) (by exact fun _ _ _ h => h) (Or.inr ⟨by (go_simp; try (intro hh; cases hh)), rfl⟩) (by assumption) ?_); try simp only [Act.put, List.setIfInBounds_toArray, List.set_cons_zero, List.set_cons_succ])
          ((refine wpAnyH_take (i := 13) (v := undef) (by (simp only [List.getElem?_toArray, List.getElem?_cons_succ, List.getElem?_cons_zero]); rfl) (by kernel_rfl) (by kernel_rfl) (by kernel_rfl) (by exact fun _ _ _ h => h) (Or.inr ⟨by (go_simp; try (intro hh; cases hh)), rfl⟩) (by assumption) ?_); try simp only [Act.put, List.setIfInBounds_toArray, List.set_cons_zero, List.set_cons_succ])
          ((refine wpAnyH_take (i := 14) (v := undef) (by (simp only [List.getElem?_toArray, List.getElem?_cons_succ, List.getElem?_cons_zero]); rfl) (by kernel_rfl) (by kernel_rfl) (by kernel_rfl) (by exact fun _ _ _ h => h) (Or.inr ⟨by (go_simp; try (intro hh; cases hh)), rfl⟩) (by assumption) ?_); try simp only [Act.put, List.setIfInBounds_toArray, List.set_cons_zero, List.set_cons_succ])
          ((refine wpAnyH_take (i := 15) (v := undef) (by (simp only [List.getElem?_toArray, List.getElem?_cons_succ, List.getElem?_cons_zero]); rfl) (by kernel_rfl) (by kernel_rfl) (by kernel_rfl) (by exact fun _ _ _ h => h) (Or.inr ⟨by (go_simp; try (intro hh; cases hh)), rfl⟩) (by assumption) ?_); try simp only [Act.put, List.setIfInBounds_toArray, List.set_cons_zero, List.set_cons_succ])
          ((refine wpAnyH_take (i := 16) (v := undef) (by (simp only [List.getElem?_toArray, List.getElem?_cons_succ, List.getElem?_cons_zero]); rfl) (by kernel_rfl) (by kernel_rfl) (by kernel_rfl) (by exact fun _ _ _ h => h) (Or.inr ⟨by (go_simp; try (intro hh; cases hh)), rfl⟩) (by assumption) ?_); try simp only [Act.put, List.setIfInBounds_toArray, List.set_cons_zero, List.set_cons_succ])
          ((refine wpAnyH_take (i := 17) (v := ?_) (by (simp only [List.getElem?_toArray, List.getElem?_cons_succ, List.getElem?_cons_zero]); rfl) (by kernel_rfl) (by kernel_rfl) (by kernel_rfl) (by exact fun _ _ _ h => h) (Or.inl ⟨by rfl, ?_⟩) (by assumption) ?_); rotate_left; focus (intro wS hSw; (try dsimp only at hSw); go_simp; first | done | with_reducible rfl); try simp only [Act.put, List.setIfInBounds_toArray, List.set_cons_zero, List.set_cons_succ])
          refine wpAnyH_done (by kernel_rfl) ?_ _
          all_goals
            go_wp2_with fail
            go_roundw
            case rel => exact ⟨k + 1, by omega, by go_num, by rw [HF.out], HQ1.out.2.2, HQ1.out.1⟩
            case measure => simp [intOf]; omega
        · obtain ⟨s2, hs2⟩ : ∃ s2, s2 = (T m).s := ⟨_, rfl⟩
          obtain ⟨f2, hf2⟩ : ∃ f2, f2 = (T m).f := ⟨_, rfl⟩
          obtain ⟨l0, l1⟩ := (HS.out.below hbel).cell m (by omega)
          rw [← hs2] at l0
          rw [← hf2] at l1
          obtain ⟨L, hL⟩ : ∃ L, L = lt k m := ⟨_, rfl⟩
          have CA : Hid (∀ W, Calls Try.prog fA (#[.agg #[.int .i64 s, .int .i64 f], .agg #[.int .i64 s2, .int .i64 f2]] ++ #[]) W fun e w' => e = .returned (.bool L) ∧ Below W.heap.size W w') := Lib.hid (fun W => by rw [hs, hf, hs2, hf2, hL]; exact HA.out W k m hlt (by omega))
          have HF : Hid (firstI tk lt (k + 1) = if L then k else m) := Lib.hid (by
            cases hL2 : L
            · rw [firstI_some (firstS_s0 hbst (by rw [htk, ← hL, hL2]; rfl))]; rfl
            · rw [firstI_some (firstS_s1 hbst (by rw [htk, ← hL, hL2]; rfl))]; rfl)
          have HKL : Hid (∀ X, FQ w w.heap.size wr.heap.size #[.func (.func fT) #[] capT, .func (.func fA) #[] #[]] #[.int .i64 s, .int .i64 f] X → X.cell? ⟨b, o + m * 2, none⟩ = some (.int .i64 s2) ∧ X.cell? ⟨b, o + m * 2 + 1, none⟩ = some (.int .i64 f2)) := Lib.hid (fun X hX => by rw [hs2, hf2]; exact (HS.out.below hX.2.2).cell m (by omega))
          rw [htk] at CT
          have bm : decide ((m : Int) < 0) = false := by simp
          have q2 : wr.heap.size ≠ b := by omega
          have i1 : (0 : Int) ≤ (m : Int) := by omega
          have i2 : (m : Int) < (n : Int) := by omega
          clear hbst htk hs hf hs2 hf2 hL
          cases L
          all_goals
            go_wp2_with fail
            go_region_held3 (fun X => X.cell? ⟨w.heap.size, 0, none⟩ = some (.func (.func fT) #[] capT) ∧ X.cell? ⟨w.heap.size, 1, none⟩ = some (.func (.func fA) #[] #[]) ∧ X.cell? ⟨wr.heap.size, 0, none⟩ = some (.int .i64 s) ∧ X.cell? ⟨wr.heap.size, 1, none⟩ = some (.int .i64 f) ∧ X.cell? ⟨b, o + m * 2, none⟩ = some (.int .i64 s2) ∧ X.cell? ⟨b, o + m * 2 + 1, none⟩ = some (.int .i64 f2))
              (first | exact ⟨HQ.out.1.1 0, HQ.out.1.1 1, HQ.out.2.1.1 0, HQ.out.2.1.1 1, (HKL.out _ HQ.out).1, (HKL.out _ HQ.out).2⟩ | with_reducible exact ⟨g0, g1, g2, g3, g4, g5⟩ | with_reducible exact ⟨p0, p1, p2, p3, p4, p5⟩ | go_keep)
              (first
                | (refine Calls.mono (CT.out _ HQ.out.2.2) ?_; rintro e W1 ⟨rfl, hW1⟩; have HQ1 := Lib.hid (HQ.out.step hW1); have p0 : W1.cell? ⟨w.heap.size, 0, none⟩ = some (.func (.func fT) #[] capT) := HQ1.out.1.1 0; have p1 : W1.cell? ⟨w.heap.size, 1, none⟩ = some (.func (.func fA) #[] #[]) := HQ1.out.1.1 1; have p2 : W1.cell? ⟨wr.heap.size, 0, none⟩ = some (.int .i64 s) := HQ1.out.2.1.1 0; have p3 : W1.cell? ⟨wr.heap.size, 1, none⟩ = some (.int .i64 f) := HQ1.out.2.1.1 1; have p45 := HKL.out _ HQ1.out; obtain ⟨p4, p5⟩ := p45; clear hW1)
                | (refine Calls.mono (CA.out _) ?_; rintro e W2 ⟨rfl, hW2⟩; have HQ2 := Lib.hid (HQ1.out.step hW2); have g0 : W2.cell? ⟨w.heap.size, 0, none⟩ = some (.func (.func fT) #[] capT) := HQ2.out.1.1 0; have g1 : W2.cell? ⟨w.heap.size, 1, none⟩ = some (.func (.func fA) #[] #[]) := HQ2.out.1.1 1; have g2 : W2.cell? ⟨wr.heap.size, 0, none⟩ = some (.int .i64 s) := HQ2.out.2.1.1 0; have g3 : W2.cell? ⟨wr.heap.size, 1, none⟩ = some (.int .i64 f) := HQ2.out.2.1.1 1; have g45 := HKL.out _ HQ2.out; obtain ⟨g4, g5⟩ := g45; clear hW2))
            all_goals
              go_wp2_with fail
              go_roundw
              case rel => exact ⟨k + 1, by omega, by go_num, by rw [HF.out]; rfl, HQ2.out.2.2, HQ2.out.1⟩
              case measure => simp [intOf]; omega
    · obtain rfl : k = n := by omega
      go_wp2_with fail
      go_ret
      exact ⟨rfl, hbel⟩
end Go.Proofs.Ytnainlemnkfpkaa
