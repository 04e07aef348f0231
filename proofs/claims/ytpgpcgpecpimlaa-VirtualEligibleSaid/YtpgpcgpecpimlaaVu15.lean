/-
  Package virtual: what the document says of two flows of one weight.
-/
import Derived.Test.YtpgpcgpecpimlaaVu14
import Derived.Test.YtpgpcgpecpimlaaVu10
namespace Go.Proofs.Ytpgpcgpecpimlaa
open Go.RowKit
set_option linter.unusedSimpArgs false
set_option linter.unusedVariables false

theorem TagsIn.set {W : World} {a : Option Addr} {n c b o : Nat} {T : Nat → TagsE} (h : TagsIn W a n c b o T) (g j : Nat) (u : Value) (hg : 0 < n → g ≠ b) : TagsIn (W.setCell ⟨g, j, none⟩ u) a n c b o T :=
  ⟨h.le, h.max, fun hk => ⟨(h.at_ hk).1, by have := (h.at_ hk).2; simpa using this⟩, fun k hk => by
    have hne := hg (by omega)
    obtain ⟨c0, c1⟩ := h.cell k hk
    exact ⟨(World.cell?_of_block (a := ⟨b, _, none⟩) (heap_setCell_ne W ⟨g, j, none⟩ u b (by simp only; omega))).trans c0, (World.cell?_of_block (a := ⟨b, _, none⟩) (heap_setCell_ne W ⟨g, j, none⟩ u b (by simp only; omega))).trans c1⟩, h.bd⟩
theorem VOut.tags {w w' : World} {v : Value} {V : Int} {n : Nat} {T : Nat → TagsE} (h : VOut w w' v V n T) (hT : ∀ k, k < n → (T k).ok) :
    ∃ a c b, v = .agg #[.int .i64 V, .slice a n c] ∧ TagsIn w' a n c b 0 T ∧ (0 < n → w.heap.size ≤ b) ∧ Below w.heap.size w w' := by
  obtain ⟨a, c, ob, rfl, hR, hO, hB⟩ := h
  obtain ⟨a', c', he, ht⟩ := tags_row hR hT
  injection he with e1 e2 e3
  subst e1 e3
  refine ⟨a, c, ob.getD 0, rfl, ht, fun hn => ?_, hB⟩
  obtain ⟨g, hg, _⟩ := own_k hR hn
  subst hg
  exact hO g rfl

def wT1 : Nat → TagsE := updT zeroT 0 ⟨0, 144144000⟩
def wT2 : Nat → TagsE := updT wT1 1 ⟨0, 144144000⟩
theorem zero_ok (k : Nat) : (zeroT k).ok := by unfold zeroT TagsE.ok; simp
theorem wT1_ok (k : Nat) : (wT1 k).ok := by unfold wT1 updT; split; (unfold TagsE.ok; simp); exact zero_ok k
theorem wT2_ok (k : Nat) : (wT2 k).ok := by unfold wT2 updT; split; (unfold TagsE.ok; simp); exact wT1_ok k
theorem w_cost : costS 100 1 2 = 144144000 := by decide +kernel
theorem k1_wake (W : World) (a : Option Addr) (c b : Nat) (h : TagsIn W a 2 c b 0 zeroT) : Calls Try.prog 25 #[.agg #[.int .i64 0, .slice a 2 c], .int .i64 0, .int .i64 100, .int .i64 1, .int .i64 2] W (VRes W 0 2 wT1 0) := by
  refine (wake_any 0 a 2 c b 0 zeroT 0 100 1 2 W h (by omega)).mono fun e w' h => ?_
  unfold TagP at h
  rw [w_cost, show max (headF zeroT 0) 0 = 0 by decide +kernel, show goodTag 0 2 zeroT 0 144144000 0 = true by decide +kernel] at h
  exact h
theorem k2_wake (W : World) (a : Option Addr) (c b : Nat) (h : TagsIn W a 2 c b 0 wT1) : Calls Try.prog 25 #[.agg #[.int .i64 0, .slice a 2 c], .int .i64 1, .int .i64 100, .int .i64 1, .int .i64 2] W (VRes W 0 2 wT2 0) := by
  refine (wake_any 0 a 2 c b 0 wT1 1 100 1 2 W h (by omega)).mono fun e w' h => ?_
  unfold TagP at h
  rw [w_cost, show max (headF wT1 1) 0 = 0 by decide +kernel, show goodTag 0 2 wT1 1 144144000 0 = true by decide +kernel] at h
  exact h
theorem k3_pick (W : World) (a : Option Addr) (c b rb : Nat) (h : TagsIn W a 2 c b 0 wT2) (hr : BoolsIn W (some ⟨rb, 0, none⟩) 2 2 rb 0 (fun _ => true)) : Calls Try.prog 29 #[.agg #[.int .i64 0, .slice a 2 c], .slice (some ⟨rb, 0, none⟩) 2 2] W (PickOut W 0 2 wT2 0 true) := by
  refine (pick_any 0 a 2 c b 0 wT2 _ 2 2 rb 0 _ W h (by omega) hr).mono fun e w' h => ?_
  unfold PickP at h
  rw [if_pos ⟨by decide +kernel, rfl⟩, show firstS (fun _ => true) (ltS wT2) 2 = some 0 by decide +kernel] at h
  simp only at h
  rw [show max (0 : Int) (wT2 0).s = 0 by decide +kernel, show firstI (tkN wT2 (fun _ => true) 0) (ltF wT2) 2 = 0 by decide +kernel] at h
  exact h

set_option maxRecDepth 100000 in
set_option maxHeartbeats 8000000 in
theorem vwakes_any (w : World) : Calls Try.prog 15 #[] w fun e w' => e = .returned (.bool true) ∧ Below w.heap.size w w' := by
  have N1 := Lib.hid (fun W => new_good 2 W (by omega) (by omega))
  have hcost : Hid (∀ W, Calls Try.prog 21 #[.int .i64 100, .int .i64 1, .int .i64 2] W fun e w' => e = .returned (.int .i64 144144000) ∧ W = w') := Lib.hid (fun W => by have := cost_any 100 1 2 W; rwa [w_cost] at this)
  have hchk : Hid (∀ W a c b, TagsIn W a 2 c b 0 wT2 → Calls Try.prog 19 #[.agg #[.int .i64 0, .slice a 2 c]] W fun e w' => e = .returned (.bool true) ∧ Below W.heap.size W w') := Lib.hid (fun W a c b h => by have := check_any 0 a 2 c b 0 wT2 W h; rwa [show vokB 0 2 wT2 = true by decide +kernel] at this)
  go_enter Try.func15, Try.ntmps15
  go_wp2_with (first
    | (go_at_call 16; refine Calls.mono (N1.out _) ?_; rintro e W1 ⟨v1, rfl, hV1⟩; have hV1 := hV1.tags (fun k _ => zero_ok k); obtain ⟨a1, c1, b1, rfl, hT1, hF1, hB1⟩ := hV1; have HT1 := Lib.hid hT1; have HB1 := Lib.hid hB1; have K1 := Lib.hid (fun W (hW : Below W1.heap.size W1 W) => k1_wake W a1 c1 b1 (hT1.below hW)); clear hT1 hF1 hB1))
  go_at_call 25
  refine Calls.mono (K1.out _ ?_) ?_
  · exact (Below.refl _ _).alloc (Nat.le_refl _) _
  rintro e W2 ⟨v2, rfl, hV2⟩
  have hV2 := hV2.tags (fun k _ => wT1_ok k)
  obtain ⟨a2, c2, b2, rfl, hT2, hF2, hB2⟩ := hV2
  have hx := tw1 (n := W1.heap.size) hB2 rfl
  obtain ⟨x0, x1, x2⟩ := hx
  have hF2 := hF2 (by omega)
  simp only [World.size_alloc] at hF2
  have HB2 := Lib.hid (HB1.out.trans ((((Below.refl _ _).alloc (Nat.le_refl _) _).trans (hB2.mono (by simp))).mono HB1.out.size))
  have K2 := Lib.hid (fun W (hW : TagsIn W a2 2 c2 b2 0 wT1) => k2_wake W a2 c2 b2 hW)
  have HT2 := Lib.hid hT2
  clear hT2 hB2
  go_wp2_with fail
  go_at_call 25
  refine Calls.mono (K2.out _ ?_) ?_
  · exact (HT2.out.set _ _ _ (fun _ => by omega)).set _ _ _ (fun _ => by omega)
  rintro e W3 ⟨v3, rfl, hV3⟩
  have hV3 := hV3.tags (fun k _ => wT2_ok k)
  obtain ⟨a3, c3, b3, rfl, hT3, hF3, hB3⟩ := hV3
  have hF3 := hF3 (by omega)
  have hw1 := HB1.out.size
  have hz1 := hB3.size
  have hc0 : W3.cell? ⟨W1.heap.size, 0, none⟩ = some (.int .i64 0) := (hB3.cell (p := ⟨W1.heap.size, 0, none⟩) (by simpa using x2)).trans (by go_simp)
  have hX3 : Below w.heap.size w ((W2.setCell ⟨W1.heap.size, 0, none⟩ (.int .i64 0)).setCell ⟨W1.heap.size, 1, none⟩ (.slice a2 2 c2)) := (HB2.out.setCell (by simp only; omega) _).setCell (by simp only; omega) _
  have HB3 := Lib.hid (hX3.trans (hB3.mono hX3.size))
  have K3 := Lib.hid (fun W rb (hW : TagsIn W a3 2 c3 b3 0 wT2) hr => k3_pick W a3 c3 b3 rb hW hr)
  have HT3 := Lib.hid hT3
  clear hT3 hB3 hX3 x0 x1 x2 hc0 hz1
  go_wp2_with fail
  go_at_call 29
  refine Calls.mono (K3.out _ _ ?_ ?_) ?_
  · exact HT3.out.below (((Below.refl _ _).alloc (Nat.le_refl _) _).alloc (by simp) _)
  · have T := (tw2 (n := W3.heap.size) (Below.refl _ ((W3.alloc (.cells #[.int .i64 0, .slice a3 2 c3] 24)).alloc (.cells #[.bool true, .bool true] 4))) rfl).2.1
    refine ⟨by omega, by unfold maxLen; omega, fun _ => ⟨rfl, by simp⟩, fun k hk => ?_⟩
    rw [Nat.zero_add, T k]
    rcases (show k = 0 ∨ k = 1 by omega) with rfl | rfl <;> rfl
  rintro e W4 ⟨v4, rfl, hV4⟩
  have hV4 := hV4.tags (fun k _ => wT2_ok k)
  obtain ⟨a4, c4, b4, rfl, hT4, hF4, hB4⟩ := hV4
  have hF4 := hF4 (by omega)
  have hx := tw2 (n := W3.heap.size) hB4 rfl
  obtain ⟨⟨x0, x1, x2⟩, _⟩ := hx
  simp only [World.size_alloc] at hF4
  have HB4 := Lib.hid (HB3.out.trans (((((Below.refl _ _).alloc (Nat.le_refl _) _).alloc (by simp) _).trans (hB4.mono (by simp; omega))).mono HB3.out.size))
  have hw3 := HB3.out.size
  have HT4 := Lib.hid hT4
  clear hT4 hB4
  go_wp2_with (go_at_call 21; refine Calls.mono (hcost.out _) ?_; rintro e W ⟨rfl, rfl⟩)
  go_at_call 19
  refine Calls.mono (hchk.out _ a4 c4 b4 ?_) ?_
  · exact (HT4.out.set _ _ _ (fun _ => by omega)).set _ _ _ (fun _ => by omega)
  rintro e W5 ⟨rfl, hB5⟩
  go_wp2_with fail
  go_ret
  have hX4 : Below w.heap.size w ((W4.setCell ⟨W3.heap.size, 0, none⟩ (.int .i64 0)).setCell ⟨W3.heap.size, 1, none⟩ (.slice a4 2 c4)) := (HB4.out.setCell (by simp only; omega) _).setCell (by simp only; omega) _
  exact ⟨rfl, hX4.trans (hB5.mono hX4.size)⟩
end Go.Proofs.Ytpgpcgpecpimlaa
