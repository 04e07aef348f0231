/-
  Package virtual: which flow is picked.
-/
import Derived.Test.YtnainlemnkfpkaaVu11
namespace Go.Proofs.Ytnainlemnkfpkaa
open Go.RowKit
set_option linter.unusedSimpArgs false
set_option linter.unusedVariables false

/-- Bools that came in. -/
structure BoolsIn (W : World) (a : Option Addr) (len cap : Nat) (b o : Nat) (R : Nat → Bool) : Prop where
  le : len ≤ cap
  max : cap ≤ maxLen
  at_ : 0 < len → a = some ⟨b, o, none⟩ ∧ b < W.heap.size
  cell : ∀ k, k < len → W.cell? ⟨b, o + k, none⟩ = some (.bool (R k))
theorem bools_cells (W : World) {a : Option Addr} {len cap : Nat} {xs : List Dt} (h : SliceFits Try.prog W 4 a len cap xs) : ∃ (b o : Nat) (R : Nat → Bool), BoolsIn W a len cap b o R := by
  have hc : Try.prog.cellsOf 4 = 1 := by kernel_rfl
  obtain ⟨b, o, h1, h2⟩ := h.spot (by rw [hc]; omega)
  have hex : ∀ k, ∃ q : Bool, k < len → W.cell? ⟨b, o + k, none⟩ = some (.bool q) := fun k => by
    by_cases hk : k < len
    · have hl := h.length
      have hx := List.getElem?_eq_getElem (l := xs) (i := k) (by omega)
      obtain ⟨n0, e0⟩ := (h.each k _ hx).1.bool_inv Try.underlying4
      have hcell := h2 k _ hx
      rw [e0, hc] at hcell
      exact ⟨n0, fun _ => by have := hcell 0 _ rfl; rwa [Nat.mul_one] at this⟩
    · exact ⟨false, fun h => absurd h hk⟩
  have hg := fun k => Classical.choose_spec (hex k)
  exact ⟨b, o, fun k => Classical.choose (hex k), h.le, h.max, h1, fun k hk => hg k hk⟩
theorem BoolsIn.below {W W' : World} {a : Option Addr} {len cap b o : Nat} {R : Nat → Bool} (h : BoolsIn W a len cap b o R) (hB : Below W.heap.size W W') : BoolsIn W' a len cap b o R :=
  ⟨h.le, h.max, fun hk => ⟨(h.at_ hk).1, by have := (h.at_ hk).2; have := hB.size; omega⟩, fun k hk => (hB.cell (p := ⟨b, _, none⟩) (h.at_ (by omega)).2).trans (h.cell k hk)⟩

def ltS (T : Nat → TagsE) (i j : Nat) : Bool := decide ((T i).s < (T j).s)
def ltF (T : Nat → TagsE) (i j : Nat) : Bool := decide ((T i).f < (T j).f)
def tkN (T : Nat → TagsE) (R : Nat → Bool) (now : Int) (j : Nat) : Bool := R j && decide ((T j).s ≤ now)
theorem second_some {T : Nat → TagsE} {R : Nat → Bool} {V : Int} {n k : Nat} (h : firstS R (ltS T) n = some k) : ∃ m, firstS (tkN T R (max V (T k).s)) (ltF T) n = some m := by
  cases hc : firstS (tkN T R (max V (T k).s)) (ltF T) n with
  | some m => exact ⟨m, rfl⟩
  | none =>
    obtain ⟨h1, h2⟩ := firstS_some h
    have := firstS_none hc k h1
    unfold tkN at this
    rw [h2] at this
    simp at this
    omega

def PickOut (w : World) (V : Int) (n : Nat) (T : Nat → TagsE) (k : Int) (ok : Bool) (e : Ending) (w' : World) : Prop := ∃ v, e = .returned (.tuple #[v, .int .i64 k, .bool ok]) ∧ VOut w w' v V n T

set_option maxHeartbeats 1000000 in
theorem pick1_any (k n : Nat) (rb : Nat) (ra : Option Addr) (rc b o : Nat) (R : Nat → Bool) (w : World) (hb : w.cell? ⟨rb, 0, none⟩ = some (.slice ra n rc)) (hr : BoolsIn w ra n rc b o R) (hk : k < n) :
    Calls Try.prog 44 #[.int .i64 k, .pointer (some ⟨rb, 0, none⟩)] w fun e w' => e = .returned (.bool (R k)) ∧ w = w' := by
  have hm := hr.max
  have hl := hr.le
  unfold maxLen at hm
  obtain ⟨e0, e1⟩ := hr.at_ (by omega)
  subst e0
  have c0 := hr.cell k hk
  obtain ⟨r, hr1⟩ : ∃ r, r = R k := ⟨_, rfl⟩
  rw [← hr1] at c0 ⊢
  clear hr hr1
  go_enter Try.func44, Try.ntmps44
  go_wp2_with fail
  go_ret
  exact ⟨rfl, rfl⟩
set_option maxHeartbeats 1000000 in
theorem pick2_any (s f s2 f2 : Int) (w : World) :
    Calls Try.prog 45 #[.agg #[.int .i64 s, .int .i64 f], .agg #[.int .i64 s2, .int .i64 f2]] w fun e w' => e = .returned (.bool (decide (s < s2))) ∧ Below w.heap.size w w' := by
  go_enter Try.func45, Try.ntmps45
  go_wp2_with fail
  go_ret
  exact ⟨rfl, ((Below.refl _ _).alloc (Nat.le_refl _) _).alloc (by simp) _⟩
set_option maxHeartbeats 1000000 in
theorem pick4_any (s f s2 f2 : Int) (w : World) :
    Calls Try.prog 47 #[.agg #[.int .i64 s, .int .i64 f], .agg #[.int .i64 s2, .int .i64 f2]] w fun e w' => e = .returned (.bool (decide (f < f2))) ∧ Below w.heap.size w w' := by
  go_enter Try.func47, Try.ntmps47
  go_wp2_with fail
  go_ret
  exact ⟨rfl, ((Below.refl _ _).alloc (Nat.le_refl _) _).alloc (by simp) _⟩
set_option maxRecDepth 100000 in
set_option maxHeartbeats 2000000 in
theorem pick3_any (k n : Nat) (rb vb nb : Nat) (V now : Int) (ra : Option Addr) (rc b o : Nat) (R : Nat → Bool) (a : Option Addr) (c tb to_ : Nat) (T : Nat → TagsE) (w : World) (hb : w.cell? ⟨rb, 0, none⟩ = some (.slice ra n rc)) (hr : BoolsIn w ra n rc b o R) (hv : w.cell? ⟨vb, 1, none⟩ = some (.slice a n c)) (hs : TagsIn w a n c tb to_ T)
    (hn : w.cell? ⟨nb, 0, none⟩ = some (.int .i64 now)) (hk : k < n) :
    Calls Try.prog 46 #[.int .i64 k, .pointer (some ⟨rb, 0, none⟩), .pointer (some ⟨vb, 0, none⟩), .pointer (some ⟨nb, 0, none⟩)] w fun e w' => e = .returned (.bool (tkN T R now k)) ∧ Below w.heap.size w w' := by
  have hm := hr.max
  have hl := hr.le
  have hm2 := hs.max
  have hl2 := hs.le
  unfold maxLen at hm hm2
  obtain ⟨e0, e1⟩ := hr.at_ (by omega)
  obtain ⟨e2, e3⟩ := hs.at_ (by omega)
  subst e0 e2
  have c0 := hr.cell k hk
  have c1 := (hs.cell k hk).1
  obtain ⟨r, hr1⟩ : ∃ r, r = R k := ⟨_, rfl⟩
  obtain ⟨s, hs1⟩ : ∃ s, s = (T k).s := ⟨_, rfl⟩
  unfold tkN
  rw [← hr1] at c0 ⊢
  rw [← hs1] at c1 ⊢
  clear hr hr1 hs hs1
  cases r
  all_goals
    go_enter Try.func46, Try.ntmps46
    go_wp2_with fail
    go_quiet (fail)
    go_wp2_with fail
    go_ret
    exact ⟨by simp, below_drewN (Below.refl _ _) _⟩

/-- three boxes of the call's own -/
def P3 (w : World) (c1 c2 c3 : Array Value) (W : World) : Prop := Holds W w.heap.size c1 ∧ Holds W (w.heap.size + 1) c2 ∧ Holds W (w.heap.size + 1 + 1) c3 ∧ Below w.heap.size w W
theorem P3.step {w A B : World} {c1 c2 c3 : Array Value} (h : P3 w c1 c2 c3 A) (hB : Below A.heap.size A B) : P3 w c1 c2 c3 B :=
  ⟨Holds.step h.1 hB, Holds.step h.2.1 hB, Holds.step h.2.2.1 hB, h.2.2.2.trans (hB.mono h.2.2.2.size)⟩
theorem P3.mk0 (w : World) (c1 c2 c3 : Array Value) (t1 t2 t3 : TypeId) : P3 w c1 c2 c3 (((w.alloc (.cells c1 t1)).alloc (.cells c2 t2)).alloc (.cells c3 t3)) := by
  obtain ⟨h1, h2, h3⟩ := tw3 (Below.refl _ (((w.alloc (.cells c1 t1)).alloc (.cells c2 t2)).alloc (.cells c3 t3))) rfl
  exact ⟨h1, h2, h3, (((Below.refl _ _).alloc (Nat.le_refl _) _).alloc (by simp) _).alloc (by simp; omega) _⟩

set_option maxRecDepth 100000 in
set_option maxHeartbeats 8000000 in
theorem pick_good (V : Int) (a : Option Addr) (n c b o : Nat) (T : Nat → TagsE) (ra : Option Addr) (rc rb ro : Nat) (R : Nat → Bool) (k m : Nat) (now : Int) (w : World) (hs : TagsIn w a n c b o T) (hn : n * 16 ≤ 140737488351232) (hr : BoolsIn w ra n rc rb ro R) (hok : vokB V n T = true)
    (hk : firstS R (ltS T) n = some k) (hnow : now = max V (T k).s) (hm2 : firstS (tkN T R now) (ltF T) n = some m) :
    Calls Try.prog 28 #[.agg #[.int .i64 V, .slice a n c], .slice ra n rc] w (PickOut w now n T m true) := by
  have hm := hs.max
  have hl := hs.le
  unfold maxLen at hm
  have hkn := (firstS_some hk).1
  have HQ := Lib.hid (P3.mk0 w #[.int .i64 V, .slice a n c] #[.slice ra n rc] #[.int .i64 0, .slice none 0 0] 39 41 39)
  have HS := Lib.hid hs
  have HR := Lib.hid hr
  have C1 : Hid (∀ W, TagsIn W a n c b o T → Calls Try.prog 42 #[.agg #[.int .i64 V, .slice a n c]] W fun e w' => e = .returned (.bool true) ∧ Below W.heap.size W w') := Lib.hid (fun W h => by rw [← hok]; exact check_any V a n c b o T W h)
  have C2 : Hid (∀ W g, Below w.heap.size w W → W.cell? ⟨g, 0, none⟩ = some (.slice ra n rc) → g < W.heap.size → Calls Try.prog 43 #[.slice a n c, .agg #[.func (.func 44) #[] #[.pointer (some ⟨g, 0, none⟩)], .func (.func 45) #[] #[]]] W fun e w' => e = .returned (.int .i64 k) ∧ Below W.heap.size W w') := Lib.hid (fun W g h1 h2 h3 => by
    have := first_any a n c b o T 44 45 #[.pointer (some ⟨g, 0, none⟩)] R (ltS T) W (hs.below h1) (fun _ _ => rfl) (fun _ _ => rfl)
      (fun X j hX hj => (pick1_any j n g ra rc rb ro R X ((hX.cell (p := ⟨g, 0, none⟩) h3).trans h2) ((hr.below h1).below hX) hj).mono fun e w' ⟨he, hw⟩ => ⟨he, by rw [← hw]; exact Below.refl _ _⟩)
      (fun X i j _ _ => pick2_any _ _ _ _ X)
    rwa [firstI_some hk] at this)
  have C3 : Hid (∀ W g vg ng, Below w.heap.size w W → W.cell? ⟨g, 0, none⟩ = some (.slice ra n rc) → g < W.heap.size → W.cell? ⟨vg, 1, none⟩ = some (.slice a n c) → vg < W.heap.size → W.cell? ⟨ng, 0, none⟩ = some (.int .i64 now) → ng < W.heap.size →
      Calls Try.prog 43 #[.slice a n c, .agg #[.func (.func 46) #[] #[.pointer (some ⟨g, 0, none⟩), .pointer (some ⟨vg, 0, none⟩), .pointer (some ⟨ng, 0, none⟩)], .func (.func 47) #[] #[]]] W fun e w' => e = .returned (.int .i64 m) ∧ Below W.heap.size W w') := Lib.hid (fun W g vg ng h1 h2 h3 h4 h5 h6 h7 => by
    have := first_any a n c b o T 46 47 #[.pointer (some ⟨g, 0, none⟩), .pointer (some ⟨vg, 0, none⟩), .pointer (some ⟨ng, 0, none⟩)] (tkN T R now) (ltF T) W (hs.below h1) (fun _ _ => rfl) (fun _ _ => rfl)
      (fun X j hX hj => pick3_any j n g vg ng V now ra rc rb ro R a c b o T X ((hX.cell (p := ⟨g, 0, none⟩) h3).trans h2) ((hr.below h1).below hX) ((hX.cell (p := ⟨vg, 1, none⟩) h5).trans h4) ((hs.below h1).below hX) ((hX.cell (p := ⟨ng, 0, none⟩) h7).trans h6) hj)
      (fun X i j _ _ => pick4_any _ _ _ _ X)
    rwa [firstI_some hm2] at this)
  have C4 := Lib.hid (fun W h => twin_any V a n c b o T W h hn)
  obtain ⟨e0, e1⟩ := hs.at_ (by omega)
  obtain ⟨s, hs1⟩ : ∃ s, s = (T k).s := ⟨_, rfl⟩
  have HKK : Hid (∀ W, Below w.heap.size w W → W.cell? ⟨b, o + k * 2, none⟩ = some (.int .i64 s)) := Lib.hid (fun W h => by rw [hs1]; exact ((hs.below h).cell k hkn).1)
  rw [← hs1] at hnow
  have hif : (if V < s then s else V) = now := by rw [hnow]; split <;> omega
  have bk : decide ((k : Int) < 0) = false := by simp
  clear hs hr hok hk hm2 hs1 hnow
  subst e0
  go_enter Try.func28, Try.ntmps28
  go_wp2_with (first
    | (go_at_call 42; refine Calls.mono (C1.out _ (HS.out.below HQ.out.2.2.2)) ?_; rintro e W1 ⟨rfl, hW1⟩; have HQ1 := Lib.hid (HQ.out.step hW1); have r0 := HQ1.out.1.1; have z0 := HQ1.out.1.2.2; have r1 := HQ1.out.2.1.1; have z1 := HQ1.out.2.1.2.2)
    | (go_at_call 43; refine Calls.mono (C2.out _ _ HQ1.out.2.2.2 (HQ1.out.2.1.1 0) HQ1.out.2.1.2.2) ?_; rintro e W2 ⟨rfl, hW2⟩; have HQ2 := Lib.hid (HQ1.out.step hW2); clear r0 z0 r1 z1; have r0 : W2.cell? ⟨w.heap.size, 0, none⟩ = some (.int .i64 V) := HQ2.out.1.1 0; have r1 : W2.cell? ⟨w.heap.size, 1, none⟩ = some (.slice (some ⟨b, o, none⟩) n c) := HQ2.out.1.1 1; have r2 := HKK.out _ HQ2.out.2.2.2; have z0 := HQ2.out.1.2.2; have z1 := HQ2.out.2.1.2.2; have z2 := HQ2.out.2.2.1.2.2; have z3 : b < W2.heap.size := Nat.lt_of_lt_of_le e1 HQ2.out.2.2.2.size))
  go_upto_region 6 with fail
  go_cut [8] (fun x wx => x = .pointer (some ⟨W2.heap.size, 0, none⟩) ∧ wx = (W2.alloc (.cells #[.int .i64 now] 3)).drew)
  case first =>
    go_region_held3 (fun X => X.cell? ⟨w.heap.size, 0, none⟩ = some (.int .i64 V) ∧ X.cell? ⟨w.heap.size, 1, none⟩ = some (.slice (some ⟨b, o, none⟩) n c) ∧ X.cell? ⟨b, o + k * 2, none⟩ = some (.int .i64 s)) (first | with_reducible exact ⟨r0, r1, r2⟩ | go_keep) (fail)
    all_goals
      go_wp2_with fail
      go_meet
      exact ⟨rfl, rfl⟩
  case rest =>
    obtain ⟨rfl, rfl⟩ := hcut
    have hN := tw1 (n := W2.heap.size) (Below.refl _ (W2.alloc (.cells #[.int .i64 now] 3))).drew rfl
    have hB3 : Below W2.heap.size W2 (W2.alloc (.cells #[.int .i64 now] 3)).drew := ((Below.refl _ _).alloc (Nat.le_refl _) _).drew
    obtain ⟨W3, hW3⟩ : ∃ W3, W3 = (W2.alloc (.cells #[.int .i64 now] 3)).drew := ⟨_, rfl⟩
    rw [← hW3] at hN hB3 ⊢
    have HQ3 := Lib.hid (HQ2.out.step hB3)
    have HN := Lib.hid hN
    have hsz : w.heap.size + 1 + 1 < W2.heap.size := z2
    clear r0 r1 r2 z0 z1 z2 z3 hN hB3 hW3
    have r0 : W3.cell? ⟨w.heap.size, 0, none⟩ = some (.int .i64 V) := HQ3.out.1.1 0
    have r1 : W3.cell? ⟨w.heap.size, 1, none⟩ = some (.slice (some ⟨b, o, none⟩) n c) := HQ3.out.1.1 1
    have z0 := HQ3.out.1.2.2
    go_wp2_with (go_at_call 43; refine Calls.mono (C3.out _ _ _ _ HQ3.out.2.2.2 (HQ3.out.2.1.1 0) HQ3.out.2.1.2.2 (HQ3.out.1.1 1) HQ3.out.1.2.2 (HN.out.1 0) HN.out.2.2) ?_; rintro e W4 ⟨rfl, hW4⟩; have HQ4 := Lib.hid (HQ3.out.step hW4); have HN4 := Lib.hid (Holds.step HN.out hW4); clear r0 r1 z0; have r0 : W4.cell? ⟨w.heap.size, 0, none⟩ = some (.int .i64 V) := HQ4.out.1.1 0; have r1 : W4.cell? ⟨w.heap.size, 1, none⟩ = some (.slice (some ⟨b, o, none⟩) n c) := HQ4.out.1.1 1; have z0 := HQ4.out.1.2.2)
    go_at_call 48
    refine Calls.mono (C4.out _ (HS.out.below HQ4.out.2.2.2)) ?_
    rintro e W5 ⟨v5, rfl, hV5⟩
    obtain ⟨a5, c5, ob5, rfl, hR5, hO5, hB5⟩ := hV5
    have HQ5 := Lib.hid (HQ4.out.step hB5)
    have HN5 := Lib.hid (Holds.step HN4.out hB5)
    have HRR := Lib.hid hR5
    have HOO := Lib.hid hO5
    clear r0 r1 z0 hR5 hO5 hB5
    have x0 := HQ5.out.1.1
    have x1 := HQ5.out.1.2.1
    have x2 := HQ5.out.1.2.2
    have y0 := HQ5.out.2.2.1.1
    have y1 := HQ5.out.2.2.1.2.1
    have y2 := HQ5.out.2.2.1.2.2
    have n0 : W5.cell? ⟨W2.heap.size, 0, none⟩ = some (.int .i64 now) := HN5.out.1 0
    have n1 := HN5.out.2.2
    have q1 : (W2.heap.size = w.heap.size) = False := eq_false (by omega)
    have q2 : (w.heap.size = W2.heap.size) = False := eq_false (by omega)
    have q3 : (w.heap.size = w.heap.size + 1 + 1) = False := eq_false (by omega)
    have q4 : (w.heap.size + 1 + 1 = w.heap.size) = False := eq_false (by omega)
    have hsz5 := HQ4.out.2.2.1.2.2
    go_wp2_with fail
    refine bodyPost_ret (v := .tuple #[.agg #[.int .i64 now, .slice a5 n c5], .int .i64 m, .bool true]) (by simp [results, Try.results28, go_sem, x0, x1, x2, y0, y1, y2, q3, q4]) rfl ⟨_, rfl, a5, c5, ob5, rfl, ?_, ?_, ?_⟩
    · refine HRR.out.congr fun g e => ?_
      have := HOO.out g e
      repeat rw [heap_setCell_ne _ _ _ _ (by simp only; omega)]
    · exact fun g e => by have := HOO.out g e; omega
    · exact ((((HQ5.out.2.2.2.setCell (by simp only; omega) _).setCell (by simp only; omega) _).setCell (by simp only; omega) _).setCell (by simp only; omega) _).setCell (by simp only; omega) _
end Go.Proofs.Ytnainlemnkfpkaa
