/-
  Package virtual: a flow's head is given its tags.
-/
import Derived.Test.YtnainlemnkfpkaaVu7
namespace Go.Proofs.Ytnainlemnkfpkaa
open Go.RowKit
set_option linter.unusedSimpArgs false
set_option linter.unusedVariables false

/-- is a tag given? -/
def goodTag (V : Int) (n : Nat) (T : Nat → TagsE) (k cost at_ : Int) : Bool := vokB V n T && decide (0 ≤ k) && decide (k < n) && (cost != 0) && decide (at_ ≤ 1152921504606846976 - cost)
def TagRes (w : World) (V : Int) (n : Nat) (T : Nat → TagsE) (k : Nat) (cost at_ : Int) (e : Ending) (w' : World) : Bool → Prop
  | true => VRes w V n (updT T k ⟨at_, at_ + cost⟩) 0 e w'
  | false => VRes w 0 0 zeroT 2 e w'

theorem own_k {W : World} {n : Nat} {T : Nat → TagsE} {a : Option Addr} {c : Nat} {ob : Option Nat} (h : Row W (.slice a n c) ob 80 2 n (tagsL T n)) {k : Nat} (hk : k < n) : ∃ g, ob = some g ∧ a = some ⟨g, 0, none⟩ ∧ g < W.heap.size ∧
    W.cell? ⟨g, k * 2, none⟩ = some (.int .i64 (T k).s) ∧ W.cell? ⟨g, k * 2 + 1, none⟩ = some (.int .i64 (T k).f) ∧ W.frozen? ⟨g, k * 2, none⟩ = false ∧ W.frozen? ⟨g, k * 2 + 1, none⟩ = false := by
  obtain ⟨g, rfl, c0, f0⟩ := h.cell (k * 2) (by omega)
  obtain ⟨g', e, c1, f1⟩ := h.cell (k * 2 + 1) (by omega)
  obtain rfl := Option.some.inj e
  have h0 := tagsL_at T n k 0 hk (by omega)
  have h1 := tagsL_at T n k 1 hk (by omega)
  rw [Nat.add_zero] at h0
  rw [h0] at c0
  rw [h1] at c1
  exact ⟨g, rfl, h.own, h.lt, c0, c1, f0, f1⟩

theorem row_tag {W : World} {n k : Nat} {T : Nat → TagsE} {a : Option Addr} {c g : Nat} {s f : Int} (h : Row W (.slice a n c) (some g) 80 2 n (tagsL T n)) (hk : k < n) : Row ((W.setCell ⟨g, k * 2, none⟩ (.int .i64 s)).setCell ⟨g, k * 2 + 1, none⟩ (.int .i64 f)) (.slice a n c) (some g) 80 2 n (tagsL (updT T k ⟨s, f⟩) n) := by
  have := (h.set (k * 2) (.int .i64 s)).set (k * 2 + 1) (.int .i64 f)
  rwa [tagsL_upd T k s f n hk] at this
theorem Row.other {w : World} {v : Value} {g : Nat} {e : TypeId} {size n : Nat} {xs : List Value} (h : Row w v (some g) e size n xs) (b j : Nat) (hb : b ≠ g) (u : Value) : Row (w.setCell ⟨b, j, none⟩ u) v (some g) e size n xs :=
  h.congr fun g' e => by obtain rfl := Option.some.inj e; exact heap_setCell_ne _ _ _ _ (by simp only; omega)

set_option maxRecDepth 100000 in
set_option maxHeartbeats 8000000 in
theorem beginW_good (V : Int) (a : Option Addr) (n c b o : Nat) (T : Nat → TagsE) (k : Nat) (cost at_ : Int) (g : Nat) (w : World) (hs : TagsIn w a n c b o T) (hn : n * 16 ≤ 140737488351232) (hk : k < n) (hok : vokB V n T = true)
    (h0 : 0 < cost) (h1 : cost ≤ 138378240000) (ha : at_ = max (T k).f V) (hat : at_ ≤ 1152921504606846976 - cost) (ha0 : 0 ≤ at_) (hg : w.cell? ⟨g, 0, none⟩ = some (.int .i64 V)) (hgl : g < w.heap.size) :
    Calls Try.prog 53 #[.agg #[.int .i64 V, .slice a n c], .int .i64 k, .int .i64 cost, .func (.func 56) #[] #[.pointer (some ⟨g, 0, none⟩)]] w (VRes w V n (updT T k ⟨at_, at_ + cost⟩) 0) := by
  have hm := hs.max
  have hl := hs.le
  unfold maxLen at hm
  have HQ := Lib.hid (VB2.mk0 w #[.int .i64 V, .slice a n c] #[.int .i64 0, .slice none 0 0] 39 39)
  have HS := Lib.hid hs
  have C1 : Hid (∀ W, TagsIn W a n c b o T → Calls Try.prog 42 #[.agg #[.int .i64 V, .slice a n c]] W fun e w' => e = .returned (.bool true) ∧ Below W.heap.size W w') := Lib.hid (fun W h => by rw [← hok]; exact check_any V a n c b o T W h)
  obtain ⟨e0, e1⟩ := hs.at_ (by omega)
  subst e0
  have C3 := Lib.hid (fun W h => twin_any V (some ⟨b, o, none⟩) n c b o T W h hn)
  obtain ⟨s, hs1⟩ : ∃ s, s = (T k).s := ⟨_, rfl⟩
  obtain ⟨f, hf1⟩ : ∃ f, f = (T k).f := ⟨_, rfl⟩
  rw [← hf1] at ha
  have HW : Hid (∀ W, Below w.heap.size w W → Calls Try.prog 56 #[.agg #[.int .i64 s, .int .i64 f], .pointer (some ⟨g, 0, none⟩)] W fun e w' => e = .returned (.int .i64 at_) ∧ W.alloc (.cells #[.int .i64 s, .int .i64 f] 80) = w') :=
    Lib.hid (fun W h => by rw [ha]; exact wake1_any s f V g W ((h.cell (p := ⟨g, 0, none⟩) hgl).trans hg) (by have := h.size; omega))
  have HK : Hid (∀ W, Below w.heap.size w W → W.cell? ⟨b, o + k * 2, none⟩ = some (.int .i64 s) ∧ W.cell? ⟨b, o + k * 2 + 1, none⟩ = some (.int .i64 f)) := Lib.hid (fun W h => by rw [hs1, hf1]; exact (hs.below h).cell k hk)
  have b1 : (cost == 0) = false := by simp; omega
  have b2 : decide (n ≤ k) = false := by simp; omega
  have b3 : decide ((k : Int) < 0) = false := by simp
  clear hs hok ha hs1 hf1 hg
  go_enter Try.func53, Try.ntmps53
  go_wp2_with (first
    | (go_at_call 42; refine Calls.mono (C1.out _ (HS.out.below HQ.out.2.2)) ?_; rintro e W1 ⟨rfl, hW1⟩; have HQ1 := Lib.hid (HQ.out.step hW1); have r0 := HQ1.out.1.1; have y0 := HQ1.out.1.2.1; have z0 := HQ1.out.1.2.2; have r1 := HQ1.out.2.1.1; have y1 := HQ1.out.2.1.2.1; have z1 := HQ1.out.2.1.2.2; have KK := HK.out W1 HQ1.out.2.2; obtain ⟨k0, k1⟩ := KK)
    | (go_at_call 56; refine Calls.mono (HW.out _ HQ1.out.2.2) ?_; rintro e W2 ⟨rfl, rfl⟩))
  go_at_call 48
  refine Calls.mono (C3.out _ (HS.out.below (HQ1.out.alloc _).2.2)) ?_
  rintro e W2 ⟨v2, rfl, hV2⟩
  obtain ⟨a2, c2, ob2, rfl, hR, hO, hB⟩ := hV2
  have T3 := own_k hR hk
  obtain ⟨g2, rfl, rfl, hg2, u0, u1, v0, v1⟩ := T3
  have hgo := hO g2 rfl
  simp only [World.size_alloc] at hgo
  have zz := HQ1.out.2.1.2.2
  have HQ2 := Lib.hid ((HQ1.out.alloc _).step hB)
  have HR := Lib.hid hR
  clear hO hB hR r0 y0 z0 r1 y1 z1 k0 k1
  have r0 := HQ2.out.1.1
  have y0 := HQ2.out.1.2.1
  have z0 := HQ2.out.1.2.2
  have r1 := HQ2.out.2.1.1
  have y1 := HQ2.out.2.1.2.1
  have z1 := HQ2.out.2.1.2.2
  have q1 : (g2 = w.heap.size) = False := eq_false (by omega)
  have q2 : (w.heap.size = g2) = False := eq_false (by omega)
  have q3 : (g2 = w.heap.size + 1) = False := eq_false (by omega)
  have q4 : (w.heap.size + 1 = g2) = False := eq_false (by omega)
  go_wp2_with fail
  refine bodyPost_ret (v := .tuple #[.agg #[.int .i64 V, .slice (some ⟨g2, 0, none⟩) n c2], .int .i64 0]) (by simp [results, Try.results53, go_sem, z1, r1, y1]) rfl ⟨_, rfl, _, _, some g2, rfl, ?_, ?_, ?_⟩
  · exact ((row_tag ((HR.out.other _ 0 (by omega) _).other _ 1 (by omega) _) hk).other _ 0 (by omega) _).other _ 1 (by omega) _
  · intro g' e
    obtain rfl := Option.some.inj e
    omega
  · exact (((((HQ2.out.2.2.setCell (by simp only; omega) _).setCell (by simp only; omega) _).setCell (by simp only; omega) _).setCell (by simp only; omega) _).setCell (by simp only; omega) _).setCell (by simp only; omega) _
set_option maxRecDepth 100000 in
set_option maxHeartbeats 8000000 in
theorem beginN_good (V : Int) (a : Option Addr) (n c b o : Nat) (T : Nat → TagsE) (k : Nat) (cost at_ : Int) (w : World) (hs : TagsIn w a n c b o T) (hn : n * 16 ≤ 140737488351232) (hk : k < n) (hok : vokB V n T = true)
    (h0 : 0 < cost) (h1 : cost ≤ 138378240000) (ha : at_ = (T k).f) (hat : at_ ≤ 1152921504606846976 - cost) (ha0 : 0 ≤ at_) :
    Calls Try.prog 53 #[.agg #[.int .i64 V, .slice a n c], .int .i64 k, .int .i64 cost, .func (.func 55) #[] #[]] w (VRes w V n (updT T k ⟨at_, at_ + cost⟩) 0) := by
  have hm := hs.max
  have hl := hs.le
  unfold maxLen at hm
  have HQ := Lib.hid (VB2.mk0 w #[.int .i64 V, .slice a n c] #[.int .i64 0, .slice none 0 0] 39 39)
  have HS := Lib.hid hs
  have C1 : Hid (∀ W, TagsIn W a n c b o T → Calls Try.prog 42 #[.agg #[.int .i64 V, .slice a n c]] W fun e w' => e = .returned (.bool true) ∧ Below W.heap.size W w') := Lib.hid (fun W h => by rw [← hok]; exact check_any V a n c b o T W h)
  obtain ⟨e0, e1⟩ := hs.at_ (by omega)
  subst e0
  have C3 := Lib.hid (fun W h => twin_any V (some ⟨b, o, none⟩) n c b o T W h hn)
  obtain ⟨s, hs1⟩ : ∃ s, s = (T k).s := ⟨_, rfl⟩
  obtain ⟨f, hf1⟩ : ∃ f, f = (T k).f := ⟨_, rfl⟩
  rw [← hf1] at ha
  have HW : Hid (∀ W, Below w.heap.size w W → Calls Try.prog 55 #[.agg #[.int .i64 s, .int .i64 f]] W fun e w' => e = .returned (.int .i64 at_) ∧ W.alloc (.cells #[.int .i64 s, .int .i64 f] 80) = w') :=
    Lib.hid (fun W h => by rw [ha]; exact next1_any s f W)
  have HK : Hid (∀ W, Below w.heap.size w W → W.cell? ⟨b, o + k * 2, none⟩ = some (.int .i64 s) ∧ W.cell? ⟨b, o + k * 2 + 1, none⟩ = some (.int .i64 f)) := Lib.hid (fun W h => by rw [hs1, hf1]; exact (hs.below h).cell k hk)
  have b1 : (cost == 0) = false := by simp; omega
  have b2 : decide (n ≤ k) = false := by simp; omega
  have b3 : decide ((k : Int) < 0) = false := by simp
  clear hs hok ha hs1 hf1
  go_enter Try.func53, Try.ntmps53
  go_wp2_with (first
    | (go_at_call 42; refine Calls.mono (C1.out _ (HS.out.below HQ.out.2.2)) ?_; rintro e W1 ⟨rfl, hW1⟩; have HQ1 := Lib.hid (HQ.out.step hW1); have r0 := HQ1.out.1.1; have y0 := HQ1.out.1.2.1; have z0 := HQ1.out.1.2.2; have r1 := HQ1.out.2.1.1; have y1 := HQ1.out.2.1.2.1; have z1 := HQ1.out.2.1.2.2; have KK := HK.out W1 HQ1.out.2.2; obtain ⟨k0, k1⟩ := KK)
    | (go_at_call 55; refine Calls.mono (HW.out _ HQ1.out.2.2) ?_; rintro e W2 ⟨rfl, rfl⟩))
  go_at_call 48
  refine Calls.mono (C3.out _ (HS.out.below (HQ1.out.alloc _).2.2)) ?_
  rintro e W2 ⟨v2, rfl, hV2⟩
  obtain ⟨a2, c2, ob2, rfl, hR, hO, hB⟩ := hV2
  have T3 := own_k hR hk
  obtain ⟨g2, rfl, rfl, hg2, u0, u1, v0, v1⟩ := T3
  have hgo := hO g2 rfl
  simp only [World.size_alloc] at hgo
  have zz := HQ1.out.2.1.2.2
  have HQ2 := Lib.hid ((HQ1.out.alloc _).step hB)
  have HR := Lib.hid hR
  clear hO hB hR r0 y0 z0 r1 y1 z1 k0 k1
  have r0 := HQ2.out.1.1
  have y0 := HQ2.out.1.2.1
  have z0 := HQ2.out.1.2.2
  have r1 := HQ2.out.2.1.1
  have y1 := HQ2.out.2.1.2.1
  have z1 := HQ2.out.2.1.2.2
  have q1 : (g2 = w.heap.size) = False := eq_false (by omega)
  have q2 : (w.heap.size = g2) = False := eq_false (by omega)
  have q3 : (g2 = w.heap.size + 1) = False := eq_false (by omega)
  have q4 : (w.heap.size + 1 = g2) = False := eq_false (by omega)
  go_wp2_with fail
  refine bodyPost_ret (v := .tuple #[.agg #[.int .i64 V, .slice (some ⟨g2, 0, none⟩) n c2], .int .i64 0]) (by simp [results, Try.results53, go_sem, z1, r1, y1]) rfl ⟨_, rfl, _, _, some g2, rfl, ?_, ?_, ?_⟩
  · exact ((row_tag ((HR.out.other _ 0 (by omega) _).other _ 1 (by omega) _) hk).other _ 0 (by omega) _).other _ 1 (by omega) _
  · intro g' e
    obtain rfl := Option.some.inj e
    omega
  · exact (((((HQ2.out.2.2.setCell (by simp only; omega) _).setCell (by simp only; omega) _).setCell (by simp only; omega) _).setCell (by simp only; omega) _).setCell (by simp only; omega) _).setCell (by simp only; omega) _
set_option maxRecDepth 100000 in
set_option maxHeartbeats 8000000 in
theorem beginW_far (V : Int) (a : Option Addr) (n c b o : Nat) (T : Nat → TagsE) (k : Nat) (cost at_ : Int) (g : Nat) (w : World) (hs : TagsIn w a n c b o T) (hn : n * 16 ≤ 140737488351232) (hk : k < n) (hok : vokB V n T = true)
    (h0 : 0 < cost) (h1 : cost ≤ 138378240000) (ha : at_ = max (T k).f V) (hat : 1152921504606846976 - cost < at_) (hg : w.cell? ⟨g, 0, none⟩ = some (.int .i64 V)) (hgl : g < w.heap.size) :
    Calls Try.prog 53 #[.agg #[.int .i64 V, .slice a n c], .int .i64 k, .int .i64 cost, .func (.func 56) #[] #[.pointer (some ⟨g, 0, none⟩)]] w (VRes w 0 0 zeroT 2) := by
  have hm := hs.max
  have hl := hs.le
  unfold maxLen at hm
  have HQ := Lib.hid (VB2.mk0 w #[.int .i64 V, .slice a n c] #[.int .i64 0, .slice none 0 0] 39 39)
  have HS := Lib.hid hs
  have C1 : Hid (∀ W, TagsIn W a n c b o T → Calls Try.prog 42 #[.agg #[.int .i64 V, .slice a n c]] W fun e w' => e = .returned (.bool true) ∧ Below W.heap.size W w') := Lib.hid (fun W h => by rw [← hok]; exact check_any V a n c b o T W h)
  obtain ⟨e0, e1⟩ := hs.at_ (by omega)
  subst e0
  obtain ⟨s, hs1⟩ : ∃ s, s = (T k).s := ⟨_, rfl⟩
  obtain ⟨f, hf1⟩ : ∃ f, f = (T k).f := ⟨_, rfl⟩
  rw [← hf1] at ha
  have HW : Hid (∀ W, Below w.heap.size w W → Calls Try.prog 56 #[.agg #[.int .i64 s, .int .i64 f], .pointer (some ⟨g, 0, none⟩)] W fun e w' => e = .returned (.int .i64 at_) ∧ W.alloc (.cells #[.int .i64 s, .int .i64 f] 80) = w') :=
    Lib.hid (fun W h => by rw [ha]; exact wake1_any s f V g W ((h.cell (p := ⟨g, 0, none⟩) hgl).trans hg) (by have := h.size; omega))
  have HK : Hid (∀ W, Below w.heap.size w W → W.cell? ⟨b, o + k * 2, none⟩ = some (.int .i64 s) ∧ W.cell? ⟨b, o + k * 2 + 1, none⟩ = some (.int .i64 f)) := Lib.hid (fun W h => by rw [hs1, hf1]; exact (hs.below h).cell k hk)
  have b1 : (cost == 0) = false := by simp; omega
  have b2 : decide (n ≤ k) = false := by simp; omega
  have b3 : decide ((k : Int) < 0) = false := by simp
  clear hs hok ha hs1 hf1 hg
  go_enter Try.func53, Try.ntmps53
  go_wp2_with (first
    | (go_at_call 42; refine Calls.mono (C1.out _ (HS.out.below HQ.out.2.2)) ?_; rintro e W1 ⟨rfl, hW1⟩; have HQ1 := Lib.hid (HQ.out.step hW1); have r0 := HQ1.out.1.1; have y0 := HQ1.out.1.2.1; have z0 := HQ1.out.1.2.2; have r1 := HQ1.out.2.1.1; have y1 := HQ1.out.2.1.2.1; have z1 := HQ1.out.2.1.2.2; have KK := HK.out W1 HQ1.out.2.2; obtain ⟨k0, k1⟩ := KK)
    | (go_at_call 56; refine Calls.mono (HW.out _ HQ1.out.2.2) ?_; rintro e W2 ⟨rfl, rfl⟩))
  refine bodyPost_ret (v := .tuple #[.agg #[.int .i64 0, .slice none 0 0], .int .i64 2]) (by simp [results, Try.results53, go_sem, z1, r1, y1]) rfl ⟨_, rfl, none, 0, none, rfl, Row.nil _ _ _, (fun _ h => by cases h), ?_⟩
  exact ((HQ1.out.2.2.setCell (by simp only; omega) _).setCell (by simp only; omega) _).alloc (by have := HQ1.out.2.2.size; simp; omega) _
set_option maxRecDepth 100000 in
set_option maxHeartbeats 8000000 in
theorem beginN_far (V : Int) (a : Option Addr) (n c b o : Nat) (T : Nat → TagsE) (k : Nat) (cost at_ : Int) (w : World) (hs : TagsIn w a n c b o T) (hn : n * 16 ≤ 140737488351232) (hk : k < n) (hok : vokB V n T = true)
    (h0 : 0 < cost) (h1 : cost ≤ 138378240000) (ha : at_ = (T k).f) (hat : 1152921504606846976 - cost < at_) :
    Calls Try.prog 53 #[.agg #[.int .i64 V, .slice a n c], .int .i64 k, .int .i64 cost, .func (.func 55) #[] #[]] w (VRes w 0 0 zeroT 2) := by
  have hm := hs.max
  have hl := hs.le
  unfold maxLen at hm
  have HQ := Lib.hid (VB2.mk0 w #[.int .i64 V, .slice a n c] #[.int .i64 0, .slice none 0 0] 39 39)
  have HS := Lib.hid hs
  have C1 : Hid (∀ W, TagsIn W a n c b o T → Calls Try.prog 42 #[.agg #[.int .i64 V, .slice a n c]] W fun e w' => e = .returned (.bool true) ∧ Below W.heap.size W w') := Lib.hid (fun W h => by rw [← hok]; exact check_any V a n c b o T W h)
  obtain ⟨e0, e1⟩ := hs.at_ (by omega)
  subst e0
  obtain ⟨s, hs1⟩ : ∃ s, s = (T k).s := ⟨_, rfl⟩
  obtain ⟨f, hf1⟩ : ∃ f, f = (T k).f := ⟨_, rfl⟩
  rw [← hf1] at ha
  have HW : Hid (∀ W, Below w.heap.size w W → Calls Try.prog 55 #[.agg #[.int .i64 s, .int .i64 f]] W fun e w' => e = .returned (.int .i64 at_) ∧ W.alloc (.cells #[.int .i64 s, .int .i64 f] 80) = w') :=
    Lib.hid (fun W h => by rw [ha]; exact next1_any s f W)
  have HK : Hid (∀ W, Below w.heap.size w W → W.cell? ⟨b, o + k * 2, none⟩ = some (.int .i64 s) ∧ W.cell? ⟨b, o + k * 2 + 1, none⟩ = some (.int .i64 f)) := Lib.hid (fun W h => by rw [hs1, hf1]; exact (hs.below h).cell k hk)
  have b1 : (cost == 0) = false := by simp; omega
  have b2 : decide (n ≤ k) = false := by simp; omega
  have b3 : decide ((k : Int) < 0) = false := by simp
  clear hs hok ha hs1 hf1
  go_enter Try.func53, Try.ntmps53
  go_wp2_with (first
    | (go_at_call 42; refine Calls.mono (C1.out _ (HS.out.below HQ.out.2.2)) ?_; rintro e W1 ⟨rfl, hW1⟩; have HQ1 := Lib.hid (HQ.out.step hW1); have r0 := HQ1.out.1.1; have y0 := HQ1.out.1.2.1; have z0 := HQ1.out.1.2.2; have r1 := HQ1.out.2.1.1; have y1 := HQ1.out.2.1.2.1; have z1 := HQ1.out.2.1.2.2; have KK := HK.out W1 HQ1.out.2.2; obtain ⟨k0, k1⟩ := KK)
    | (go_at_call 55; refine Calls.mono (HW.out _ HQ1.out.2.2) ?_; rintro e W2 ⟨rfl, rfl⟩))
  refine bodyPost_ret (v := .tuple #[.agg #[.int .i64 0, .slice none 0 0], .int .i64 2]) (by simp [results, Try.results53, go_sem, z1, r1, y1]) rfl ⟨_, rfl, none, 0, none, rfl, Row.nil _ _ _, (fun _ h => by cases h), ?_⟩
  exact ((HQ1.out.2.2.setCell (by simp only; omega) _).setCell (by simp only; omega) _).alloc (by have := HQ1.out.2.2.size; simp; omega) _
set_option maxRecDepth 100000 in
set_option maxHeartbeats 8000000 in
theorem begin_bad (V : Int) (a : Option Addr) (n c b o : Nat) (T : Nat → TagsE) (k cost : Int) (fv : Value) (w : World) (hs : TagsIn w a n c b o T)
    (hh : vokB V n T = false ∨ (vokB V n T = true ∧ k < 0) ∨ (vokB V n T = true ∧ 0 ≤ k ∧ n ≤ k) ∨ (vokB V n T = true ∧ 0 ≤ k ∧ k < n ∧ cost = 0)) :
    Calls Try.prog 53 #[.agg #[.int .i64 V, .slice a n c], .int .i64 k, .int .i64 cost, fv] w (VRes w 0 0 zeroT 2) := by
  have hm := hs.max
  have hl := hs.le
  unfold maxLen at hm
  have HQ := Lib.hid (VB2.mk0 w #[.int .i64 V, .slice a n c] #[.int .i64 0, .slice none 0 0] 39 39)
  have HS := Lib.hid hs
  obtain ⟨C, hC⟩ : ∃ C, C = vokB V n T := ⟨_, rfl⟩
  have C1 : Hid (∀ W, TagsIn W a n c b o T → Calls Try.prog 42 #[.agg #[.int .i64 V, .slice a n c]] W fun e w' => e = .returned (.bool C) ∧ Below W.heap.size W w') := Lib.hid (fun W h => by rw [hC]; exact check_any V a n c b o T W h)
  rw [← hC] at hh
  clear hs hC
  rcases hh with rfl | ⟨rfl, h⟩ | ⟨rfl, h, h2⟩ | ⟨rfl, h, h2, rfl⟩
  all_goals
    go_enter Try.func53, Try.ntmps53
    go_wp2_with (go_at_call 42; refine Calls.mono (C1.out _ (HS.out.below HQ.out.2.2)) ?_; rintro e W1 ⟨rfl, hW1⟩; have HQ1 := Lib.hid (HQ.out.step hW1); have r0 := HQ1.out.1.1; have y0 := HQ1.out.1.2.1; have z0 := HQ1.out.1.2.2; have r1 := HQ1.out.2.1.1; have y1 := HQ1.out.2.1.2.1; have z1 := HQ1.out.2.1.2.2)
    refine bodyPost_ret (v := .tuple #[.agg #[.int .i64 0, .slice none 0 0], .int .i64 2]) (by simp [results, Try.results53, go_sem, z1, r1, y1]) rfl ⟨_, rfl, none, 0, none, rfl, Row.nil _ _ _, (fun _ h => by cases h), ?_⟩
    exact (HQ1.out.2.2.setCell (by simp only; omega) _).setCell (by simp only; omega) _
end Go.Proofs.Ytnainlemnkfpkaa
