/-
  Texts of this claim, put together: Vu12, Vu13, Vu22, Fa1, Vu14, Vu10, Vu15, Vu23, Vu24, Fa2, Sh0, Fa3, Fa4, Fa5, Fa6, Fa7.
-/
import Derived.Test.YtoodmocapagapaaSm2
import Derived.StillTailTactics
import Derived.Deep.DeepFit
import Derived.Lib.AppendZeros
namespace Go.Proofs.Ytoodmocapagapaa
open Go.RowKit
set_option linter.unusedSimpArgs false
set_option linter.unusedVariables false

/-- Bools that came in. -/
structure BoolsIn (W : World) (a : Option Addr) (len cap : Nat) (b o : Nat) (R : Nat → Bool) : Prop where
  le : len ≤ cap
  max : cap ≤ maxLen
  at_ : 0 < len → a = some ⟨b, o, none⟩ ∧ b < W.heap.size
  cell : ∀ k, k < len → W.cell? ⟨b, o + k, none⟩ = some (.bool (R k))
theorem bools_cells (W : World) {a : Option Addr} {len cap : Nat} {xs : List Dt} (h : SliceFits Try.prog W 4 a len cap xs) : ∃ (b o : Nat) (R : Nat → Bool), BoolsIn W a len cap b o R := by
  have hc : Try.prog.cellsOf 4 = 1 := by kernel_rfl
  obtain ⟨b, o, h1, h2⟩ := h.spot (by rw [hc]; omega)
  have hex : ∀ k, ∃ q : Bool, k < len → W.cell? ⟨b, o + k, none⟩ = some (.bool q) := fun k => by
    by_cases hk : k < len
    · have hl := h.length
      have hx := List.getElem?_eq_getElem (l := xs) (i := k) (by omega)
      obtain ⟨n0, e0⟩ := (h.each k _ hx).1.bool_inv Try.underlying4
      have hcell := h2 k _ hx
      rw [e0, hc] at hcell
      exact ⟨n0, fun _ => by have := hcell 0 _ rfl; rwa [Nat.mul_one] at this⟩
    · exact ⟨false, fun h => absurd h hk⟩
  have hg := fun k => Classical.choose_spec (hex k)
  exact ⟨b, o, fun k => Classical.choose (hex k), h.le, h.max, h1, fun k hk => hg k hk⟩
theorem BoolsIn.below {W W' : World} {a : Option Addr} {len cap b o : Nat} {R : Nat → Bool} (h : BoolsIn W a len cap b o R) (hB : Below W.heap.size W W') : BoolsIn W' a len cap b o R :=
  ⟨h.le, h.max, fun hk => ⟨(h.at_ hk).1, by have := (h.at_ hk).2; have := hB.size; omega⟩, fun k hk => (hB.cell (p := ⟨b, _, none⟩) (h.at_ (by omega)).2).trans (h.cell k hk)⟩

def ltS (T : Nat → TagsE) (i j : Nat) : Bool := decide ((T i).s < (T j).s)
def ltF (T : Nat → TagsE) (i j : Nat) : Bool := decide ((T i).f < (T j).f)
def tkN (T : Nat → TagsE) (R : Nat → Bool) (now : Int) (j : Nat) : Bool := R j && decide ((T j).s ≤ now)
theorem second_some {T : Nat → TagsE} {R : Nat → Bool} {V : Int} {n k : Nat} (h : firstS R (ltS T) n = some k) : ∃ m, firstS (tkN T R (max V (T k).s)) (ltF T) n = some m := by
  cases hc : firstS (tkN T R (max V (T k).s)) (ltF T) n with
  | some m => exact ⟨m, rfl⟩
  | none =>
    obtain ⟨h1, h2⟩ := firstS_some h
    have := firstS_none hc k h1
    unfold tkN at this
    rw [h2] at this
    simp at this
    omega

def PickOut (w : World) (V : Int) (n : Nat) (T : Nat → TagsE) (k : Int) (ok : Bool) (e : Ending) (w' : World) : Prop := ∃ v, e = .returned (.tuple #[v, .int .i64 k, .bool ok]) ∧ VOut w w' v V n T

set_option maxHeartbeats 1000000 in
theorem pick1_any (k n : Nat) (rb : Nat) (ra : Option Addr) (rc b o : Nat) (R : Nat → Bool) (w : World) (hb : w.cell? ⟨rb, 0, none⟩ = some (.slice ra n rc)) (hr : BoolsIn w ra n rc b o R) (hk : k < n) :
    Calls Try.prog 67 #[.int .i64 k, .pointer (some ⟨rb, 0, none⟩)] w fun e w' => e = .returned (.bool (R k)) ∧ w = w' := by
  have hm := hr.max
  have hl := hr.le
  unfold maxLen at hm
  obtain ⟨e0, e1⟩ := hr.at_ (by omega)
  subst e0
  have c0 := hr.cell k hk
  obtain ⟨r, hr1⟩ : ∃ r, r = R k := ⟨_, rfl⟩
  rw [← hr1] at c0 ⊢
  clear hr hr1
  go_enter Try.func67, Try.ntmps67
  go_wp2_with fail
  go_ret
  exact ⟨rfl, rfl⟩
set_option maxHeartbeats 1000000 in
theorem pick2_any (s f s2 f2 : Int) (w : World) :
    Calls Try.prog 68 #[.agg #[.int .i64 s, .int .i64 f], .agg #[.int .i64 s2, .int .i64 f2]] w fun e w' => e = .returned (.bool (decide (s < s2))) ∧ Below w.heap.size w w' := by
  go_enter Try.func68, Try.ntmps68
  go_wp2_with fail
  go_ret
  exact ⟨rfl, ((Below.refl _ _).alloc (Nat.le_refl _) _).alloc (by simp) _⟩
set_option maxHeartbeats 1000000 in
theorem pick4_any (s f s2 f2 : Int) (w : World) :
    Calls Try.prog 70 #[.agg #[.int .i64 s, .int .i64 f], .agg #[.int .i64 s2, .int .i64 f2]] w fun e w' => e = .returned (.bool (decide (f < f2))) ∧ Below w.heap.size w w' := by
  go_enter Try.func70, Try.ntmps70
  go_wp2_with fail
  go_ret
  exact ⟨rfl, ((Below.refl _ _).alloc (Nat.le_refl _) _).alloc (by simp) _⟩
set_option maxRecDepth 100000 in
set_option maxHeartbeats 2000000 in
theorem pick3_any (k n : Nat) (rb vb nb : Nat) (V now : Int) (ra : Option Addr) (rc b o : Nat) (R : Nat → Bool) (a : Option Addr) (c tb to_ : Nat) (T : Nat → TagsE) (w : World) (hb : w.cell? ⟨rb, 0, none⟩ = some (.slice ra n rc)) (hr : BoolsIn w ra n rc b o R) (hv : w.cell? ⟨vb, 1, none⟩ = some (.slice a n c)) (hs : TagsIn w a n c tb to_ T)
    (hn : w.cell? ⟨nb, 0, none⟩ = some (.int .i64 now)) (hk : k < n) :
    Calls Try.prog 69 #[.int .i64 k, .pointer (some ⟨rb, 0, none⟩), .pointer (some ⟨vb, 0, none⟩), .pointer (some ⟨nb, 0, none⟩)] w fun e w' => e = .returned (.bool (tkN T R now k)) ∧ Below w.heap.size w w' := by
  have hm := hr.max
  have hl := hr.le
  have hm2 := hs.max
  have hl2 := hs.le
  unfold maxLen at hm hm2
  obtain ⟨e0, e1⟩ := hr.at_ (by omega)
  obtain ⟨e2, e3⟩ := hs.at_ (by omega)
  subst e0 e2
  have c0 := hr.cell k hk
  have c1 := (hs.cell k hk).1
  obtain ⟨r, hr1⟩ : ∃ r, r = R k := ⟨_, rfl⟩
  obtain ⟨s, hs1⟩ : ∃ s, s = (T k).s := ⟨_, rfl⟩
  unfold tkN
  rw [← hr1] at c0 ⊢
  rw [← hs1] at c1 ⊢
  clear hr hr1 hs hs1
  cases r
  all_goals
    go_enter Try.func69, Try.ntmps69
    go_wp2_with fail
    go_quiet (fail)
    go_wp2_with fail
    go_ret
    exact ⟨by simp, below_drewN (Below.refl _ _) _⟩

/-- three boxes of the call's own -/
def P3 (w : World) (c1 c2 c3 : Array Value) (W : World) : Prop := Holds W w.heap.size c1 ∧ Holds W (w.heap.size + 1) c2 ∧ Holds W (w.heap.size + 1 + 1) c3 ∧ Below w.heap.size w W
theorem P3.step {w A B : World} {c1 c2 c3 : Array Value} (h : P3 w c1 c2 c3 A) (hB : Below A.heap.size A B) : P3 w c1 c2 c3 B :=
  ⟨Holds.step h.1 hB, Holds.step h.2.1 hB, Holds.step h.2.2.1 hB, h.2.2.2.trans (hB.mono h.2.2.2.size)⟩
theorem P3.mk0 (w : World) (c1 c2 c3 : Array Value) (t1 t2 t3 : TypeId) : P3 w c1 c2 c3 (((w.alloc (.cells c1 t1)).alloc (.cells c2 t2)).alloc (.cells c3 t3)) := by
  obtain ⟨h1, h2, h3⟩ := tw3 (Below.refl _ (((w.alloc (.cells c1 t1)).alloc (.cells c2 t2)).alloc (.cells c3 t3))) rfl
  exact ⟨h1, h2, h3, (((Below.refl _ _).alloc (Nat.le_refl _) _).alloc (by simp) _).alloc (by simp; omega) _⟩

set_option maxRecDepth 100000 in
set_option maxHeartbeats 8000000 in
theorem pick_good (V : Int) (a : Option Addr) (n c b o : Nat) (T : Nat → TagsE) (ra : Option Addr) (rc rb ro : Nat) (R : Nat → Bool) (k m : Nat) (now : Int) (w : World) (hs : TagsIn w a n c b o T) (hn : n * 16 ≤ 140737488351232) (hr : BoolsIn w ra n rc rb ro R) (hok : vokB V n T = true)
    (hk : firstS R (ltS T) n = some k) (hnow : now = max V (T k).s) (hm2 : firstS (tkN T R now) (ltF T) n = some m) :
    Calls Try.prog 52 #[.agg #[.int .i64 V, .slice a n c], .slice ra n rc] w (PickOut w now n T m true) := by
  have hm := hs.max
  have hl := hs.le
  unfold maxLen at hm
  have hkn := (firstS_some hk).1
  have HQ := Lib.hid (P3.mk0 w #[.int .i64 V, .slice a n c] #[.slice ra n rc] #[.int .i64 0, .slice none 0 0] 99 106 99)
  have HS := Lib.hid hs
  have HR := Lib.hid hr
  have C1 : Hid (∀ W, TagsIn W a n c b o T → Calls Try.prog 65 #[.agg #[.int .i64 V, .slice a n c]] W fun e w' => e = .returned (.bool true) ∧ Below W.heap.size W w') := Lib.hid (fun W h => by rw [← hok]; exact check_any V a n c b o T W h)
  have C2 : Hid (∀ W g, Below w.heap.size w W → W.cell? ⟨g, 0, none⟩ = some (.slice ra n rc) → g < W.heap.size → Calls Try.prog 66 #[.slice a n c, .agg #[.func (.func 67) #[] #[.pointer (some ⟨g, 0, none⟩)], .func (.func 68) #[] #[]]] W fun e w' => e = .returned (.int .i64 k) ∧ Below W.heap.size W w') := Lib.hid (fun W g h1 h2 h3 => by
    have := first_any a n c b o T 67 68 #[.pointer (some ⟨g, 0, none⟩)] R (ltS T) W (hs.below h1) (fun _ _ => rfl) (fun _ _ => rfl)
      (fun X j hX hj => (pick1_any j n g ra rc rb ro R X ((hX.cell (p := ⟨g, 0, none⟩) h3).trans h2) ((hr.below h1).below hX) hj).mono fun e w' ⟨he, hw⟩ => ⟨he, by rw [← hw]; exact Below.refl _ _⟩)
      (fun X i j _ _ => pick2_any _ _ _ _ X)
    rwa [firstI_some hk] at this)
  have C3 : Hid (∀ W g vg ng, Below w.heap.size w W → W.cell? ⟨g, 0, none⟩ = some (.slice ra n rc) → g < W.heap.size → W.cell? ⟨vg, 1, none⟩ = some (.slice a n c) → vg < W.heap.size → W.cell? ⟨ng, 0, none⟩ = some (.int .i64 now) → ng < W.heap.size →
      Calls Try.prog 66 #[.slice a n c, .agg #[.func (.func 69) #[] #[.pointer (some ⟨g, 0, none⟩), .pointer (some ⟨vg, 0, none⟩), .pointer (some ⟨ng, 0, none⟩)], .func (.func 70) #[] #[]]] W fun e w' => e = .returned (.int .i64 m) ∧ Below W.heap.size W w') := Lib.hid (fun W g vg ng h1 h2 h3 h4 h5 h6 h7 => by
    have := first_any a n c b o T 69 70 #[.pointer (some ⟨g, 0, none⟩), .pointer (some ⟨vg, 0, none⟩), .pointer (some ⟨ng, 0, none⟩)] (tkN T R now) (ltF T) W (hs.below h1) (fun _ _ => rfl) (fun _ _ => rfl)
      (fun X j hX hj => pick3_any j n g vg ng V now ra rc rb ro R a c b o T X ((hX.cell (p := ⟨g, 0, none⟩) h3).trans h2) ((hr.below h1).below hX) ((hX.cell (p := ⟨vg, 1, none⟩) h5).trans h4) ((hs.below h1).below hX) ((hX.cell (p := ⟨ng, 0, none⟩) h7).trans h6) hj)
      (fun X i j _ _ => pick4_any _ _ _ _ X)
    rwa [firstI_some hm2] at this)
  have C4 := Lib.hid (fun W h => twin_any V a n c b o T W h hn)
  obtain ⟨e0, e1⟩ := hs.at_ (by omega)
  obtain ⟨s, hs1⟩ : ∃ s, s = (T k).s := ⟨_, rfl⟩
  have HKK : Hid (∀ W, Below w.heap.size w W → W.cell? ⟨b, o + k * 2, none⟩ = some (.int .i64 s)) := Lib.hid (fun W h => by rw [hs1]; exact ((hs.below h).cell k hkn).1)
  rw [← hs1] at hnow
  have hif : (if V < s then s else V) = now := by rw [hnow]; split <;> omega
  have bk : decide ((k : Int) < 0) = false := by simp
  clear hs hr hok hk hm2 hs1 hnow
  subst e0
  go_enter Try.func52, Try.ntmps52
  go_wp2_with (first
    | (go_at_call 65; refine Calls.mono (C1.out _ (HS.out.below HQ.out.2.2.2)) ?_; rintro e W1 ⟨rfl, hW1⟩; have HQ1 := Lib.hid (HQ.out.step hW1); have r0 := HQ1.out.1.1; have z0 := HQ1.out.1.2.2; have r1 := HQ1.out.2.1.1; have z1 := HQ1.out.2.1.2.2)
    | (go_at_call 66; refine Calls.mono (C2.out _ _ HQ1.out.2.2.2 (HQ1.out.2.1.1 0) HQ1.out.2.1.2.2) ?_; rintro e W2 ⟨rfl, hW2⟩; have HQ2 := Lib.hid (HQ1.out.step hW2); clear r0 z0 r1 z1; have r0 : W2.cell? ⟨w.heap.size, 0, none⟩ = some (.int .i64 V) := HQ2.out.1.1 0; have r1 : W2.cell? ⟨w.heap.size, 1, none⟩ = some (.slice (some ⟨b, o, none⟩) n c) := HQ2.out.1.1 1; have r2 := HKK.out _ HQ2.out.2.2.2; have z0 := HQ2.out.1.2.2; have z1 := HQ2.out.2.1.2.2; have z2 := HQ2.out.2.2.1.2.2; have z3 : b < W2.heap.size := Nat.lt_of_lt_of_le e1 HQ2.out.2.2.2.size))
  go_upto_region 6 with fail
  go_cut [8] (fun x wx => x = .pointer (some ⟨W2.heap.size, 0, none⟩) ∧ wx = (W2.alloc (.cells #[.int .i64 now] 3)).drew)
  case first =>
    go_region_held3 (fun X => X.cell? ⟨w.heap.size, 0, none⟩ = some (.int .i64 V) ∧ X.cell? ⟨w.heap.size, 1, none⟩ = some (.slice (some ⟨b, o, none⟩) n c) ∧ X.cell? ⟨b, o + k * 2, none⟩ = some (.int .i64 s)) (first | with_reducible exact ⟨r0, r1, r2⟩ | go_keep) (fail)
    all_goals
      go_wp2_with fail
      go_meet
      exact ⟨rfl, rfl⟩
  case rest =>
    obtain ⟨rfl, rfl⟩ := hcut
    have hN := tw1 (n := W2.heap.size) (Below.refl _ (W2.alloc (.cells #[.int .i64 now] 3))).drew rfl
    have hB3 : Below W2.heap.size W2 (W2.alloc (.cells #[.int .i64 now] 3)).drew := ((Below.refl _ _).alloc (Nat.le_refl _) _).drew
    obtain ⟨W3, hW3⟩ : ∃ W3, W3 = (W2.alloc (.cells #[.int .i64 now] 3)).drew := ⟨_, rfl⟩
    rw [← hW3] at hN hB3 ⊢
    have HQ3 := Lib.hid (HQ2.out.step hB3)
    have HN := Lib.hid hN
    have hsz : w.heap.size + 1 + 1 < W2.heap.size := z2
    clear r0 r1 r2 z0 z1 z2 z3 hN hB3 hW3
    have r0 : W3.cell? ⟨w.heap.size, 0, none⟩ = some (.int .i64 V) := HQ3.out.1.1 0
    have r1 : W3.cell? ⟨w.heap.size, 1, none⟩ = some (.slice (some ⟨b, o, none⟩) n c) := HQ3.out.1.1 1
    have z0 := HQ3.out.1.2.2
    go_wp2_with (go_at_call 66; refine Calls.mono (C3.out _ _ _ _ HQ3.out.2.2.2 (HQ3.out.2.1.1 0) HQ3.out.2.1.2.2 (HQ3.out.1.1 1) HQ3.out.1.2.2 (HN.out.1 0) HN.out.2.2) ?_; rintro e W4 ⟨rfl, hW4⟩; have HQ4 := Lib.hid (HQ3.out.step hW4); have HN4 := Lib.hid (Holds.step HN.out hW4); clear r0 r1 z0; have r0 : W4.cell? ⟨w.heap.size, 0, none⟩ = some (.int .i64 V) := HQ4.out.1.1 0; have r1 : W4.cell? ⟨w.heap.size, 1, none⟩ = some (.slice (some ⟨b, o, none⟩) n c) := HQ4.out.1.1 1; have z0 := HQ4.out.1.2.2)
    go_at_call 71
    refine Calls.mono (C4.out _ (HS.out.below HQ4.out.2.2.2)) ?_
    rintro e W5 ⟨v5, rfl, hV5⟩
    obtain ⟨a5, c5, ob5, rfl, hR5, hO5, hB5⟩ := hV5
    have HQ5 := Lib.hid (HQ4.out.step hB5)
    have HN5 := Lib.hid (Holds.step HN4.out hB5)
    have HRR := Lib.hid hR5
    have HOO := Lib.hid hO5
    clear r0 r1 z0 hR5 hO5 hB5
    have x0 := HQ5.out.1.1
    have x1 := HQ5.out.1.2.1
    have x2 := HQ5.out.1.2.2
    have y0 := HQ5.out.2.2.1.1
    have y1 := HQ5.out.2.2.1.2.1
    have y2 := HQ5.out.2.2.1.2.2
    have n0 : W5.cell? ⟨W2.heap.size, 0, none⟩ = some (.int .i64 now) := HN5.out.1 0
    have n1 := HN5.out.2.2
    have q1 : (W2.heap.size = w.heap.size) = False := eq_false (by omega)
    have q2 : (w.heap.size = W2.heap.size) = False := eq_false (by omega)
    have q3 : (w.heap.size = w.heap.size + 1 + 1) = False := eq_false (by omega)
    have q4 : (w.heap.size + 1 + 1 = w.heap.size) = False := eq_false (by omega)
    have hsz5 := HQ4.out.2.2.1.2.2
    go_wp2_with fail
    refine bodyPost_ret (v := .tuple #[.agg #[.int .i64 now, .slice a5 n c5], .int .i64 m, .bool true]) (by simp [results, Try.results52, go_sem, x0, x1, x2, y0, y1, y2, q3, q4]) rfl ⟨_, rfl, a5, c5, ob5, rfl, ?_, ?_, ?_⟩
    · refine HRR.out.congr fun g e => ?_
      have := HOO.out g e
      repeat rw [heap_setCell_ne _ _ _ _ (by simp only; omega)]
    · exact fun g e => by have := HOO.out g e; omega
    · exact ((((HQ5.out.2.2.2.setCell (by simp only; omega) _).setCell (by simp only; omega) _).setCell (by simp only; omega) _).setCell (by simp only; omega) _).setCell (by simp only; omega) _
end Go.Proofs.Ytoodmocapagapaa
namespace Go.Proofs.Ytoodmocapagapaa
open Go.RowKit
set_option linter.unusedSimpArgs false
set_option linter.unusedVariables false

set_option maxRecDepth 100000 in
set_option maxHeartbeats 8000000 in
theorem pick_bad (V : Int) (a : Option Addr) (n c b o : Nat) (T : Nat → TagsE) (ra : Option Addr) (rn rc : Nat) (w : World) (hs : TagsIn w a n c b o T) (hrl : rn ≤ rc) (hrm : rc ≤ maxLen) (hh : vokB V n T = false ∨ (vokB V n T = true ∧ rn ≠ n)) :
    Calls Try.prog 52 #[.agg #[.int .i64 V, .slice a n c], .slice ra rn rc] w (PickOut w 0 0 zeroT 0 false) := by
  have hm := hs.max
  have hl := hs.le
  unfold maxLen at hm hrm
  have HQ := Lib.hid (P3.mk0 w #[.int .i64 V, .slice a n c] #[.slice ra rn rc] #[.int .i64 0, .slice none 0 0] 99 106 99)
  have HS := Lib.hid hs
  obtain ⟨C, hC⟩ : ∃ C, C = vokB V n T := ⟨_, rfl⟩
  have C1 : Hid (∀ W, TagsIn W a n c b o T → Calls Try.prog 65 #[.agg #[.int .i64 V, .slice a n c]] W fun e w' => e = .returned (.bool C) ∧ Below W.heap.size W w') := Lib.hid (fun W h => by rw [hC]; exact check_any V a n c b o T W h)
  rw [← hC] at hh
  have hb : rn ≠ n → ((rn : Int) != (n : Int)) = true := fun h => by rw [bne_iff_ne]; omega
  clear hs hC
  rcases hh with rfl | ⟨rfl, h⟩
  · clear hb
    go_enter Try.func52, Try.ntmps52
    go_wp2_with (go_at_call 65; refine Calls.mono (C1.out _ (HS.out.below HQ.out.2.2.2)) ?_; rintro e W1 ⟨rfl, hW1⟩; have HQ1 := Lib.hid (HQ.out.step hW1); have r0 := HQ1.out.1.1; have z0 := HQ1.out.1.2.2; have r1 := HQ1.out.2.1.1; have z1 := HQ1.out.2.1.2.2; have y0 := HQ1.out.2.2.1.1; have y1 := HQ1.out.2.2.1.2.1; have y2 := HQ1.out.2.2.1.2.2)
    refine bodyPost_ret (v := .tuple #[.agg #[.int .i64 0, .slice none 0 0], .int .i64 0, .bool false]) (by simp [results, Try.results52, go_sem, y0, y1, y2]) rfl ⟨_, rfl, none, 0, none, rfl, Row.nil _ _ _, (fun _ h => by cases h), ?_⟩
    exact (HQ1.out.2.2.2.setCell (by simp only; omega) _).setCell (by simp only; omega) _
  · have hne := hb h
    have hne2 : decide ((rn : Nat) = n) = false := by simpa using h
    clear hb
    go_enter Try.func52, Try.ntmps52
    go_wp2_with (go_at_call 65; refine Calls.mono (C1.out _ (HS.out.below HQ.out.2.2.2)) ?_; rintro e W1 ⟨rfl, hW1⟩; have HQ1 := Lib.hid (HQ.out.step hW1); have r0 := HQ1.out.1.1; have z0 := HQ1.out.1.2.2; have r1 := HQ1.out.2.1.1; have z1 := HQ1.out.2.1.2.2; have y0 := HQ1.out.2.2.1.1; have y1 := HQ1.out.2.2.1.2.1; have y2 := HQ1.out.2.2.1.2.2)
    refine bodyPost_ret (v := .tuple #[.agg #[.int .i64 0, .slice none 0 0], .int .i64 0, .bool false]) (by simp [results, Try.results52, go_sem, y0, y1, y2]) rfl ⟨_, rfl, none, 0, none, rfl, Row.nil _ _ _, (fun _ h => by cases h), ?_⟩
    exact (HQ1.out.2.2.2.setCell (by simp only; omega) _).setCell (by simp only; omega) _

set_option maxRecDepth 100000 in
set_option maxHeartbeats 8000000 in
theorem pick_none (V : Int) (a : Option Addr) (n c b o : Nat) (T : Nat → TagsE) (ra : Option Addr) (rc rb ro : Nat) (R : Nat → Bool) (w : World) (hs : TagsIn w a n c b o T) (hr : BoolsIn w ra n rc rb ro R) (hok : vokB V n T = true) (hk : firstS R (ltS T) n = none) :
    Calls Try.prog 52 #[.agg #[.int .i64 V, .slice a n c], .slice ra n rc] w (PickOut w 0 0 zeroT 0 false) := by
  have hm := hs.max
  have hl := hs.le
  unfold maxLen at hm
  have HQ := Lib.hid (P3.mk0 w #[.int .i64 V, .slice a n c] #[.slice ra n rc] #[.int .i64 0, .slice none 0 0] 99 106 99)
  have HS := Lib.hid hs
  have C1 : Hid (∀ W, TagsIn W a n c b o T → Calls Try.prog 65 #[.agg #[.int .i64 V, .slice a n c]] W fun e w' => e = .returned (.bool true) ∧ Below W.heap.size W w') := Lib.hid (fun W h => by rw [← hok]; exact check_any V a n c b o T W h)
  have C2 : Hid (∀ W g, Below w.heap.size w W → W.cell? ⟨g, 0, none⟩ = some (.slice ra n rc) → g < W.heap.size → Calls Try.prog 66 #[.slice a n c, .agg #[.func (.func 67) #[] #[.pointer (some ⟨g, 0, none⟩)], .func (.func 68) #[] #[]]] W fun e w' => e = .returned (.int .i64 (-1)) ∧ Below W.heap.size W w') := Lib.hid (fun W g h1 h2 h3 => by
    have := first_any a n c b o T 67 68 #[.pointer (some ⟨g, 0, none⟩)] R (ltS T) W (hs.below h1) (fun _ _ => rfl) (fun _ _ => rfl)
      (fun X j hX hj => (pick1_any j n g ra rc rb ro R X ((hX.cell (p := ⟨g, 0, none⟩) h3).trans h2) ((hr.below h1).below hX) hj).mono fun e w' ⟨he, hw⟩ => ⟨he, by rw [← hw]; exact Below.refl _ _⟩)
      (fun X i j _ _ => pick2_any _ _ _ _ X)
    rwa [firstI_none hk] at this)
  clear hs hr hok hk
  go_enter Try.func52, Try.ntmps52
  go_wp2_with (first
    | (go_at_call 65; refine Calls.mono (C1.out _ (HS.out.below HQ.out.2.2.2)) ?_; rintro e W1 ⟨rfl, hW1⟩; have HQ1 := Lib.hid (HQ.out.step hW1); have r0 := HQ1.out.1.1; have z0 := HQ1.out.1.2.2; have r1 := HQ1.out.2.1.1; have z1 := HQ1.out.2.1.2.2)
    | (go_at_call 66; refine Calls.mono (C2.out _ _ HQ1.out.2.2.2 (HQ1.out.2.1.1 0) HQ1.out.2.1.2.2) ?_; rintro e W2 ⟨rfl, hW2⟩; have HQ2 := Lib.hid (HQ1.out.step hW2); clear r0 z0 r1 z1; have y0 := HQ2.out.2.2.1.1; have y1 := HQ2.out.2.2.1.2.1; have y2 := HQ2.out.2.2.1.2.2))
  refine bodyPost_ret (v := .tuple #[.agg #[.int .i64 0, .slice none 0 0], .int .i64 0, .bool false]) (by simp [results, Try.results52, go_sem, y0, y1, y2]) rfl ⟨_, rfl, none, 0, none, rfl, Row.nil _ _ _, (fun _ h => by cases h), ?_⟩
  exact (HQ2.out.2.2.2.setCell (by simp only; omega) _).setCell (by simp only; omega) _

/-- what is picked -/
def PickP (w : World) (V : Int) (n : Nat) (T : Nat → TagsE) (rn : Nat) (R : Nat → Bool) (e : Ending) (w' : World) : Prop :=
  if vokB V n T = true ∧ rn = n then match firstS R (ltS T) n with
    | none => PickOut w 0 0 zeroT 0 false e w'
    | some k => PickOut w (max V (T k).s) n T (firstI (tkN T R (max V (T k).s)) (ltF T) n) true e w'
  else PickOut w 0 0 zeroT 0 false e w'

theorem pick_any (V : Int) (a : Option Addr) (n c b o : Nat) (T : Nat → TagsE) (ra : Option Addr) (rn rc rb ro : Nat) (R : Nat → Bool) (w : World) (hs : TagsIn w a n c b o T) (hn : n * 16 ≤ 140737488351232) (hr : BoolsIn w ra rn rc rb ro R) :
    Calls Try.prog 52 #[.agg #[.int .i64 V, .slice a n c], .slice ra rn rc] w (PickP w V n T rn R) := by
  by_cases hc : vokB V n T = true ∧ rn = n
  · obtain ⟨hok, rfl⟩ := hc
    cases hk : firstS R (ltS T) rn with
    | none => exact (pick_none V a rn c b o T ra rc rb ro R w hs hr hok hk).mono fun e w' h => by unfold PickP; rw [if_pos ⟨hok, rfl⟩, hk]; exact h
    | some k =>
      obtain ⟨m, hm⟩ := second_some (V := V) hk
      exact (pick_good V a rn c b o T ra rc rb ro R k m _ w hs hn hr hok hk rfl hm).mono fun e w' h => by unfold PickP; rw [if_pos ⟨hok, rfl⟩, hk]; simp only; rw [firstI_some hm]; exact h
  · refine (pick_bad V a n c b o T ra rn rc w hs hr.le hr.max ?_).mono fun e w' h => by unfold PickP; rw [if_neg hc]; exact h
    cases hv : vokB V n T
    · exact .inl rfl
    · exact .inr ⟨rfl, fun h => hc ⟨hv, h⟩⟩

/-- what a flow's serving comes to -/
def serveB (V : Int) (n : Nat) (T : Nat → TagsE) (s : Int) : Bool := vokB V n T && decide (1 ≤ s) && decide (s ≤ 1500) && decide (V ≤ 1152921504606846976 - s * 720720)
def ServeP (w : World) (V : Int) (n : Nat) (T : Nat → TagsE) (s : Int) (e : Ending) (w' : World) : Prop :=
  match serveB V n T s with
  | true => VRes w (V + s * 720720) n T 0 e w'
  | false => VRes w 0 0 zeroT 2 e w'
theorem serve_cases (V : Int) (n : Nat) (T : Nat → TagsE) (s : Int) :
    (serveB V n T s = false ∧ (vokB V n T = false ∨ (vokB V n T = true ∧ s < 1) ∨ (vokB V n T = true ∧ 1 ≤ s ∧ 1500 < s) ∨ (vokB V n T = true ∧ 1 ≤ s ∧ s ≤ 1500 ∧ 1152921504606846976 - s * 720720 < V))) ∨
    (serveB V n T s = true ∧ vokB V n T = true ∧ 1 ≤ s ∧ s ≤ 1500 ∧ V ≤ 1152921504606846976 - s * 720720) := by
  unfold serveB
  cases hv : vokB V n T
  · exact .inl ⟨by simp, .inl rfl⟩
  · by_cases h1 : s < 1
    · exact .inl ⟨by simp; omega, .inr (.inl ⟨rfl, h1⟩)⟩
    · by_cases h2 : 1500 < s
      · exact .inl ⟨by simp; omega, .inr (.inr (.inl ⟨rfl, by omega, h2⟩))⟩
      · by_cases h3 : 1152921504606846976 - s * 720720 < V
        · exact .inl ⟨by simp; omega, .inr (.inr (.inr ⟨rfl, by omega, by omega, h3⟩))⟩
        · exact .inr ⟨by simp; omega, rfl, by omega, by omega, by omega⟩
theorem vok_V {V : Int} {n : Nat} {T : Nat → TagsE} (h : vokB V n T = true) : 0 ≤ V ∧ V ≤ 1152921504606846976 := by
  unfold vokB timeB at h
  simp at h
  omega

set_option maxRecDepth 100000 in
set_option maxHeartbeats 8000000 in
theorem serve_any (V : Int) (a : Option Addr) (n c b o : Nat) (T : Nat → TagsE) (s : Int) (w : World) (hs : TagsIn w a n c b o T) (hn : n * 16 ≤ 140737488351232) :
    Calls Try.prog 54 #[.agg #[.int .i64 V, .slice a n c], .int .i64 s] w (ServeP w V n T s) := by
  unfold ServeP
  have HQ := Lib.hid (VB2.mk0 w #[.int .i64 V, .slice a n c] #[.int .i64 0, .slice none 0 0] 99 99)
  have HS := Lib.hid hs
  obtain ⟨C, hC⟩ : ∃ C, C = vokB V n T := ⟨_, rfl⟩
  have C1 : Hid (∀ W, TagsIn W a n c b o T → Calls Try.prog 65 #[.agg #[.int .i64 V, .slice a n c]] W fun e w' => e = .returned (.bool C) ∧ Below W.heap.size W w') := Lib.hid (fun W h => by rw [hC]; exact check_any V a n c b o T W h)
  have C3 := Lib.hid (fun W h => twin_any V a n c b o T W h hn)
  rcases serve_cases V n T s with ⟨hG, hh⟩ | ⟨hG, hv, h1, h2, h3⟩
  · rw [hG]
    simp only
    rw [← hC] at hh
    clear hs hC hG C3
    rcases hh with rfl | ⟨rfl, h⟩ | ⟨rfl, h, h2⟩ | ⟨rfl, h, h2, h3⟩
    all_goals
      go_enter Try.func54, Try.ntmps54
      go_wp2_with (go_at_call 65; refine Calls.mono (C1.out _ (HS.out.below HQ.out.2.2)) ?_; rintro e W1 ⟨rfl, hW1⟩; have HQ1 := Lib.hid (HQ.out.step hW1); have r0 := HQ1.out.1.1; have y0 := HQ1.out.1.2.1; have z0 := HQ1.out.1.2.2; have r1 := HQ1.out.2.1.1; have y1 := HQ1.out.2.1.2.1; have z1 := HQ1.out.2.1.2.2)
      refine bodyPost_ret (v := .tuple #[.agg #[.int .i64 0, .slice none 0 0], .int .i64 2]) (by simp [results, Try.results54, go_sem, z1, r1, y1]) rfl ⟨_, rfl, none, 0, none, rfl, Row.nil _ _ _, (fun _ h => by cases h), ?_⟩
      exact (HQ1.out.2.2.setCell (by simp only; omega) _).setCell (by simp only; omega) _
  · rw [hG]
    simp only
    rw [hv] at hC
    subst hC
    have hVV := vok_V hv
    have b1 : decide (1152921504606846976 - s * 720720 < V) = false := by simp; omega
    clear hs hG hv
    go_enter Try.func54, Try.ntmps54
    go_wp2_with (go_at_call 65; refine Calls.mono (C1.out _ (HS.out.below HQ.out.2.2)) ?_; rintro e W1 ⟨rfl, hW1⟩; have HQ1 := Lib.hid (HQ.out.step hW1); have r0 := HQ1.out.1.1; have y0 := HQ1.out.1.2.1; have z0 := HQ1.out.1.2.2; have r1 := HQ1.out.2.1.1; have y1 := HQ1.out.2.1.2.1; have z1 := HQ1.out.2.1.2.2)
    go_at_call 71
    refine Calls.mono (C3.out _ (HS.out.below HQ1.out.2.2)) ?_
    rintro e W5 ⟨v5, rfl, hV5⟩
    obtain ⟨a5, c5, ob5, rfl, hR5, hO5, hB5⟩ := hV5
    have HQ5 := Lib.hid (HQ1.out.step hB5)
    have HRR := Lib.hid hR5
    have HOO := Lib.hid hO5
    have zz := HQ1.out.2.1.2.2
    clear r0 y0 z0 r1 y1 z1 hR5 hO5 hB5
    have x0 := HQ5.out.1.1
    have x1 := HQ5.out.1.2.1
    have x2 := HQ5.out.1.2.2
    have y0 := HQ5.out.2.1.1
    have y1 := HQ5.out.2.1.2.1
    have y2 := HQ5.out.2.1.2.2
    have q7 : (w.heap.size + 1 = W5.heap.size) = False := eq_false (by omega)
    have q8 : (W5.heap.size = w.heap.size + 1) = False := eq_false (by omega)
    go_wp2_with fail
    refine bodyPost_ret (v := .tuple #[.agg #[.int .i64 (V + s * 720720), .slice a5 n c5], .int .i64 0]) (by simp [results, Try.results54, go_sem, x0, x1, x2, y0, y1, y2, q7, q8]) rfl ⟨_, rfl, a5, c5, ob5, rfl, ?_, ?_, ?_⟩
    · refine HRR.out.congr fun g e => ?_
      have := HOO.out g e
      repeat rw [heap_setCell_ne _ _ _ _ (by simp only; omega)]
    · exact fun g e => by have := HOO.out g e; omega
    · exact ((((HQ5.out.2.2.setCell (by simp only; omega) _).setCell (by simp only; omega) _).setCell (by simp only; omega) _).setCell (by simp only; omega) _).setCell (by simp only; omega) _

end Go.Proofs.Ytoodmocapagapaa
namespace Go.Proofs.Ytoodmocapagapaa
open Go.RowKit
set_option linter.unusedSimpArgs false
set_option linter.unusedVariables false

def rebE (off : Int) (t : TagsE) : TagsE := ⟨max t.s off - off, max t.f off - off⟩
def rebT (T : Nat → TagsE) (off : Int) (k : Nat) (j : Nat) : TagsE := if j < k then rebE off (T j) else T j
theorem rebT_step {T : Nat → TagsE} {off : Int} {k : Nat} {s f : Int} (h : rebE off (T k) = ⟨s, f⟩) (n : Nat) : tagsL (updT (rebT T off k) k ⟨s, f⟩) n = tagsL (rebT T off (k + 1)) n := by
  refine tagsL_congr fun j _ => ?_
  unfold updT rebT
  by_cases hj : j = k
  · rw [if_pos hj, if_pos (by omega), ← h, hj]
  · rw [if_neg hj]
    by_cases h2 : j < k
    · rw [if_pos h2, if_pos (by omega)]
    · rw [if_neg h2, if_neg (by omega)]
theorem rebT_zero (T : Nat → TagsE) (off : Int) (n : Nat) : tagsL (rebT T off 0) n = tagsL T n := tagsL_congr fun j _ => by unfold rebT; rw [if_neg (by omega)]
/-- is a time brought down? -/
def lateB (V : Int) (n : Nat) (T : Nat → TagsE) : Bool := vokB V n T && decide (1125899906842624 < V)
def RebP (w : World) (V : Int) (n : Nat) (T : Nat → TagsE) (e : Ending) (w' : World) : Prop := ∃ v, e = .returned v ∧ match lateB V n T with
  | true => VOut w w' v 1099511627776 n (rebT T (V - 1099511627776) n)
  | false => VOut w w' v V n T
theorem reb_ok {T : Nat → TagsE} {off : Int} {n : Nat} (h0 : 0 ≤ off) (h1 : off ≤ 1152921504606846976) (hT : ∀ k, k < n → (T k).ok) (k : Nat) (hk : k < n) : (rebT T off n k).ok := by
  have := hT k hk
  unfold rebT
  rw [if_pos hk]
  unfold TagsE.ok at this ⊢
  unfold rebE
  simp only
  omega

set_option maxRecDepth 100000 in
set_option maxHeartbeats 8000000 in
theorem rebase_keep (V : Int) (a : Option Addr) (n c b o : Nat) (T : Nat → TagsE) (w : World) (hs : TagsIn w a n c b o T) (hn : n * 16 ≤ 140737488351232) (hh : vokB V n T = false ∨ (vokB V n T = true ∧ V ≤ 1125899906842624)) :
    Calls Try.prog 55 #[.agg #[.int .i64 V, .slice a n c]] w fun e w' => ∃ v, e = .returned v ∧ VOut w w' v V n T := by
  have HQ := Lib.hid (VB2.mk0 w #[.int .i64 V, .slice a n c] #[.int .i64 0, .slice none 0 0] 99 99)
  have HS := Lib.hid hs
  obtain ⟨C, hC⟩ : ∃ C, C = vokB V n T := ⟨_, rfl⟩
  have C1 : Hid (∀ W, TagsIn W a n c b o T → Calls Try.prog 65 #[.agg #[.int .i64 V, .slice a n c]] W fun e w' => e = .returned (.bool C) ∧ Below W.heap.size W w') := Lib.hid (fun W h => by rw [hC]; exact check_any V a n c b o T W h)
  have C3 := Lib.hid (fun W h => twin_any V a n c b o T W h hn)
  rw [← hC] at hh
  clear hs hC
  rcases hh with rfl | ⟨rfl, h⟩
  all_goals
    go_enter Try.func55, Try.ntmps55
    go_wp2_with fail
    go_at_call 71
    refine Calls.mono (C3.out _ (HS.out.below HQ.out.2.2)) ?_
    rintro e W1 ⟨v1, rfl, hV1⟩
    obtain ⟨a2, c2, ob2, rfl, hR, hO, hB⟩ := hV1
    have HQ1 := Lib.hid (HQ.out.step hB)
    have hy : Below W1.heap.size W1 (W1.alloc (.cells #[.int .i64 V, .slice a2 n c2] 99)) := (Below.refl _ _).alloc (Nat.le_refl _) _
    have HQ2 := Lib.hid (HQ1.out.step hy)
    have HR := Lib.hid hR
    have HO := Lib.hid hO
    have r0 : W1.cell? ⟨w.heap.size, 0, none⟩ = some (.int .i64 V) := HQ1.out.1.1 0
    have r1 : W1.cell? ⟨w.heap.size, 1, none⟩ = some (.slice a n c) := HQ1.out.1.1 1
    have z0 := HQ1.out.1.2.2
    have zz := HQ1.out.2.1.2.2
    clear hR hO hB hy
    go_wp2_with fail
    go_at_call 65
    refine Calls.mono (C1.out _ (HS.out.below HQ2.out.2.2)) ?_
    rintro e W3 ⟨rfl, hB3⟩
    have hx := tw1 (n := W1.heap.size) hB3 rfl
    have HQ3 := Lib.hid (HQ2.out.step hB3)
    have HB3 := Lib.hid hB3
    have x0 := hx.1
    have x1 := hx.2.1
    have x2 := hx.2.2
    clear r0 r1 z0 hx hB3
    have r0 : W3.cell? ⟨w.heap.size, 0, none⟩ = some (.int .i64 V) := HQ3.out.1.1 0
    have z0 := HQ3.out.1.2.2
    have y0 := HQ3.out.2.1.1
    have y1 := HQ3.out.2.1.2.1
    have y2 := HQ3.out.2.1.2.2
    go_wp2_with fail
    refine bodyPost_ret (v := .agg #[.int .i64 V, .slice a2 n c2]) (by simp [results, Try.results55, go_sem, y0, y1, y2]) rfl ⟨_, rfl, a2, c2, ob2, rfl, ?_, ?_, ?_⟩
    · refine HR.out.congr fun g e => ?_
      have := HO.out g e
      have hlt : g < W1.heap.size := by subst e; exact HR.out.lt
      simp only [World.size_alloc] at this
      rw [heap_setCell_ne _ _ _ _ (by simp only; omega), heap_setCell_ne _ _ _ _ (by simp only; omega), HB3.out.block _ (by simp; omega), Below.heap_alloc _ _ _ hlt]
    · exact fun g e => by have := HO.out g e; simp only [World.size_alloc] at this; omega
    · exact (HQ3.out.2.2.setCell (by simp only; omega) _).setCell (by simp only; omega) _

theorem Holds.other {X : World} {n : Nat} {c : Array Value} (h : Holds X n c) (b j : Nat) (u : Value) (hb : b ≠ n) : Holds (X.setCell ⟨b, j, none⟩ u) n c :=
  ⟨fun i => (World.cell?_of_block (a := ⟨n, i, none⟩) (heap_setCell_ne X ⟨b, j, none⟩ u n (by simp only; omega))).trans (h.1 i), fun i => by
    have := h.2.1 i
    unfold World.frozen? at this ⊢
    rw [heap_setCell_ne X ⟨b, j, none⟩ u n (by simp only; omega)]
    exact this, by have := h.2.2; simpa using this⟩
/-- times on their way down -/
def RebR (w W1 : World) (V : Int) (a : Option Addr) (n c : Nat) (a2 : Option Addr) (c2 : Nat) (ob2 : Option Nat) (T : Nat → TagsE) (off : Int) (B : Int) (k : Nat) (wr : World) : Prop :=
  Row wr (.slice a2 n c2) ob2 129 2 n (tagsL (rebT T off k) n) ∧ Holds wr w.heap.size #[.int .i64 V, .slice a n c] ∧ Holds wr (w.heap.size + 1) #[.int .i64 0, .slice none 0 0] ∧ Holds wr W1.heap.size #[.int .i64 B, .slice a2 n c2] ∧ Below w.heap.size w wr

set_option maxRecDepth 100000 in
set_option maxHeartbeats 8000000 in
theorem rebase_down (V : Int) (a : Option Addr) (n c b o : Nat) (T : Nat → TagsE) (w : World) (hs : TagsIn w a n c b o T) (hn : n * 16 ≤ 140737488351232) (hv : vokB V n T = true) (hV : 1125899906842624 < V) :
    Calls Try.prog 55 #[.agg #[.int .i64 V, .slice a n c]] w fun e w' => ∃ v, e = .returned v ∧ VOut w w' v 1099511627776 n (rebT T (V - 1099511627776) n) := by
  have hm := hs.max
  have hl := hs.le
  unfold maxLen at hm
  have hVV := vok_V hv
  have HV := Lib.hid hv
  have HQ := Lib.hid (VB2.mk0 w #[.int .i64 V, .slice a n c] #[.int .i64 0, .slice none 0 0] 99 99)
  have HS := Lib.hid hs
  have C1 : Hid (∀ W, TagsIn W a n c b o T → Calls Try.prog 65 #[.agg #[.int .i64 V, .slice a n c]] W fun e w' => e = .returned (.bool true) ∧ Below W.heap.size W w') := Lib.hid (fun W h => by rw [← hv]; exact check_any V a n c b o T W h)
  have C3 := Lib.hid (fun W h => twin_any V a n c b o T W h hn)
  clear hs hv
  go_enter Try.func55, Try.ntmps55
  go_wp2_with fail
  go_at_call 71
  refine Calls.mono (C3.out _ (HS.out.below HQ.out.2.2)) ?_
  rintro e W1 ⟨v1, rfl, hV1⟩
  obtain ⟨a2, c2, ob2, rfl, hR, hO, hB⟩ := hV1
  have HQ1 := Lib.hid (HQ.out.step hB)
  have hy : Below W1.heap.size W1 (W1.alloc (.cells #[.int .i64 V, .slice a2 n c2] 99)) := (Below.refl _ _).alloc (Nat.le_refl _) _
  have HQ2 := Lib.hid (HQ1.out.step hy)
  have HR := Lib.hid hR
  have HO := Lib.hid hO
  have r0 : W1.cell? ⟨w.heap.size, 0, none⟩ = some (.int .i64 V) := HQ1.out.1.1 0
  have r1 : W1.cell? ⟨w.heap.size, 1, none⟩ = some (.slice a n c) := HQ1.out.1.1 1
  have z0 := HQ1.out.1.2.2
  have zz := HQ1.out.2.1.2.2
  have hcap : n ≤ c2 ∧ c2 ≤ maxLen := by obtain ⟨_, _, he, h1, h2, _⟩ := hR.shape; injection he with _ _ h3; subst h3; exact ⟨h1, h2⟩
  obtain ⟨hc1, hc2⟩ := hcap
  unfold maxLen at hc2
  clear hR hO hB hy
  go_wp2_with fail
  go_at_call 65
  refine Calls.mono (C1.out _ (HS.out.below HQ2.out.2.2)) ?_
  rintro e W3 ⟨rfl, hB3⟩
  have hx := tw1 (n := W1.heap.size) hB3 rfl
  have HQ3 := Lib.hid (HQ2.out.step hB3)
  have hR3 : Row W3 (.slice a2 n c2) ob2 129 2 n (tagsL T n) := HR.out.congr fun g e => by
    have hlt : g < W1.heap.size := by subst e; exact HR.out.lt
    rw [hB3.block _ (by simp; omega), Below.heap_alloc _ _ _ hlt]
  have HR3 := Lib.hid hR3
  have HX := Lib.hid hx
  have x0 : W3.cell? ⟨W1.heap.size, 0, none⟩ = some (.int .i64 V) := hx.1 0
  have x1 : W3.cell? ⟨W1.heap.size, 1, none⟩ = some (.slice a2 n c2) := hx.1 1
  have x2 := hx.2.2
  clear r0 r1 z0 hx hB3 hR3
  have r0 : W3.cell? ⟨w.heap.size, 0, none⟩ = some (.int .i64 V) := HQ3.out.1.1 0
  have z0 := HQ3.out.1.2.2
  have b1 : decide (V ≤ 1125899906842624) = false := by simp; omega
  have hOb : ∀ g, ob2 = some g → w.heap.size + 1 < g ∧ g < W1.heap.size := fun g e => by
    have := HO.out g e
    simp only [World.size_alloc] at this
    have hlt : g < W1.heap.size := by subst e; exact HR.out.lt
    omega
  have HOB := Lib.hid hOb
  clear hOb
  go_wp2_with fail
  go_loopw [24] (fun i wr => ∃ k : Nat, k ≤ n ∧ i = .int .i64 k ∧ RebR w W1 V a n c a2 c2 ob2 T (V - 1099511627776) V k wr) (fun i _ => n - (intOf i).toNat)
  case atStart => exact ⟨0, Nat.zero_le _, rfl, by rw [rebT_zero]; exact HR3.out, HQ3.out.1, HQ3.out.2.1, HX.out, HQ3.out.2.2⟩
  case round =>
    clear r0 z0 x0 x1 x2
    obtain ⟨k, hk, rfl, hrow, hh0, hh1, hh2, hbel⟩ := hrel
    by_cases hlt : k < n
    · have T3 := own_k hrow hlt
      obtain ⟨g2, rfl, rfl, hg2, u0, u1, v0, v1⟩ := T3
      obtain ⟨q1, q2⟩ := HOB.out g2 rfl
      have hvk := vok_at HV.out hlt
      have hrk : rebT T (V - 1099511627776) k k = T k := by unfold rebT; rw [if_neg (by omega)]
      rw [hrk] at u0 u1
      obtain ⟨s, hs⟩ : ∃ s, s = (T k).s := ⟨_, rfl⟩
      obtain ⟨f, hf⟩ : ∃ f, f = (T k).f := ⟨_, rfl⟩
      rw [← hs] at u0
      rw [← hf] at u1
      rw [← hs, ← hf] at hvk
      obtain ⟨ms, hms⟩ : ∃ ms, ms = max s (V - 1099511627776) := ⟨_, rfl⟩
      obtain ⟨mf, hmf⟩ : ∃ mf, mf = max f (V - 1099511627776) := ⟨_, rfl⟩
      have hi1 : (if s < V - 1099511627776 then V - 1099511627776 else s) = ms := by rw [hms]; split <;> omega
      have hi2 : (if f < V - 1099511627776 then V - 1099511627776 else f) = mf := by rw [hmf]; split <;> omega
      have HE : Hid (rebE (V - 1099511627776) (T k) = ⟨ms - (V - 1099511627776), mf - (V - 1099511627776)⟩) := Lib.hid (by unfold rebE; rw [← hs, ← hf, ← hms, ← hmf])
      have hb1 : V - 1099511627776 ≤ ms := by omega
      have hb2 : ms ≤ 1152921504606846976 := by omega
      have hb3 : V - 1099511627776 ≤ mf := by omega
      have hb4 : mf ≤ 1152921504606846976 := by omega
      have o1 : wr.cell? ⟨W1.heap.size, 1, none⟩ = some (.slice (some ⟨g2, 0, none⟩) n c2) := hh2.1 1
      have o2 := hh2.2.2
      have HROW := Lib.hid hrow
      have HH0 := Lib.hid hh0
      have HH1 := Lib.hid hh1
      have HH2 := Lib.hid hh2
      have HBL := Lib.hid hbel
      have n1 : (g2 = wr.heap.size) = False := eq_false (by omega)
      have n2 : (wr.heap.size = g2) = False := eq_false (by omega)
      have n3 : (wr.heap.size = W1.heap.size) = False := eq_false (by omega)
      have n4 : (W1.heap.size = wr.heap.size) = False := eq_false (by omega)
      have n5 : g2 < wr.heap.size + 1 := by omega
      clear hrow hh0 hh1 hh2 hbel hs hf hms hmf hrk
      go_wp2_with fail
      go_roundw
      case rel =>
        have hal : ∀ (Y : World) (o : Obj), Below Y.heap.size Y (Y.alloc o) := fun Y o => (Below.refl _ _).alloc (Nat.le_refl _) _
        refine ⟨k + 1, by omega, by go_num, ?_, ?_, ?_, ?_, ?_⟩
        · rw [← rebT_step HE.out]
          exact (row_tag HROW.out hlt).alloc _
        · exact Holds.step (Holds.other (Holds.other HH0.out _ _ _ (by omega)) _ _ _ (by omega)) (hal _ _)
        · exact Holds.step (Holds.other (Holds.other HH1.out _ _ _ (by omega)) _ _ _ (by omega)) (hal _ _)
        · exact Holds.step (Holds.other (Holds.other HH2.out _ _ _ (by omega)) _ _ _ (by omega)) (hal _ _)
        · have hz := HBL.out.size
          exact ((HBL.out.setCell (by simp only; omega) _).setCell (by simp only; omega) _).alloc (by simp; omega) _
      case measure => simp [intOf]; omega
    · obtain rfl : k = n := by omega
      have o0 := hh2.1
      have o1 := hh2.2.1
      have o2 := hh2.2.2
      have y0 := hh1.1
      have y1 := hh1.2.1
      have y2 := hh1.2.2
      have HROW := Lib.hid hrow
      have HBL := Lib.hid hbel
      clear hrow hh0 hh1 hh2 hbel
      have n3 : (w.heap.size + 1 = W1.heap.size) = False := eq_false (by omega)
      have n4 : (W1.heap.size = w.heap.size + 1) = False := eq_false (by omega)
      go_wp2_with fail
      refine bodyPost_ret (v := .agg #[.int .i64 1099511627776, .slice a2 k c2]) (by simp [results, Try.results55, go_sem, y0, y1, y2, o0, o1, o2, n3, n4]) rfl ⟨_, rfl, a2, c2, ob2, rfl, ?_, ?_, ?_⟩
      · refine HROW.out.congr fun g e => ?_
        obtain ⟨q1, q2⟩ := HOB.out g e
        rw [heap_setCell_ne _ _ _ _ (by simp only; omega), heap_setCell_ne _ _ _ _ (by simp only; omega), heap_setCell_ne _ _ _ _ (by simp only; omega)]
      · exact fun g e => by have := (HOB.out g e).1; omega
      · exact ((HBL.out.setCell (by simp only; omega) _).setCell (by simp only; omega) _).setCell (by simp only; omega) _
end Go.Proofs.Ytoodmocapagapaa
namespace Go.Proofs.Ytoodmocapagapaa
open Go.RowKit
set_option linter.unusedSimpArgs false
set_option linter.unusedVariables false

structure FS where
  V : Int
  T : Nat → TagsE
  z : Nat → Int
  sv : Nat → Bool
def upf {α : Type} (f : Nat → α) (k : Nat) (x : α) : Nat → α := fun j => if j = k then x else f j
theorem upf_at {α : Type} (f : Nat → α) (k : Nat) (x : α) : upf f k x k = x := by simp [upf]
theorem upf_ne {α : Type} (f : Nat → α) {k j : Nat} (x : α) (h : j ≠ k) : upf f k x j = f j := by simp [upf, h]
theorem updT_at (T : Nat → TagsE) (k : Nat) (x : TagsE) : updT T k x k = x := by simp [updT]
theorem updT_ne (T : Nat → TagsE) {k j : Nat} (x : TagsE) (h : j ≠ k) : updT T k x j = T j := by simp [updT, h]
/-- what was not served starts no more -/
def hT1 (k : Nat) (m : Int) (s : FS) : Nat → TagsE := if s.sv k = false ∧ s.z k ≠ m ∧ 0 < s.z k then updT s.T k ⟨(s.T k).s, (s.T k).s⟩ else s.T
/-- where a flow's head starts, if it gets new tags -/
def hAt (k : Nat) (m : Int) (s : FS) : Int := if s.sv k = true then (s.T k).f else max (hT1 k m s k).f s.V
def hNew (k : Nat) (m : Int) (s : FS) : Bool := decide (m ≠ 0) && (s.sv k || decide (s.z k ≠ m))
def hearS (wt al : Int) (k : Nat) (m : Int) (s : FS) : FS :=
  ⟨s.V, if hNew k m s = true then updT (hT1 k m s) k ⟨hAt k m s, hAt k m s + costS m wt al⟩ else hT1 k m s, upf s.z k m, upf s.sv k false⟩
def hearN (wt : Nat → Int) (al : Int) (m : Nat → Int) : Nat → FS → FS
  | 0, s => s
  | k + 1, s => hearS (wt k) al k (m k) (hearN wt al m k s)
def rdy (m : Nat → Int) (k : Nat) : Bool := decide (0 < m k)
/-- what a pick leaves, of flow k at time now -/
def takeS (n k : Nat) (now size : Int) (s : FS) : FS :=
  ⟨if 1125899906842624 < now + size * 720720 then 1099511627776 else now + size * 720720,
   if 1125899906842624 < now + size * 720720 then rebT s.T (now + size * 720720 - 1099511627776) n else s.T, s.z, upf s.sv k true⟩
def pickS (n : Nat) (m : Nat → Int) (s : FS) : Option (Nat × FS) :=
  match firstS (rdy m) (ltS s.T) n with
  | none => none
  | some k0 => match firstS (tkN s.T (rdy m) (max s.V (s.T k0).s)) (ltF s.T) n with
    | none => none
    | some k => some (k, takeS n k (max s.V (s.T k0).s) (m k) s)
def pkS (n : Nat) (wt : Nat → Int) (al : Int) (m : Nat → Int) (s : FS) : FS := match pickS n m (hearN wt al m n s) with
  | none => hearN wt al m n s
  | some p => p.2
def pkK (n : Nat) (wt : Nat → Int) (al : Int) (m : Nat → Int) (s : FS) : Option Nat := (pickS n m (hearN wt al m n s)).map (·.1)

/-- what holds of one flow -/
structure InvK (s : FS) (k : Nat) : Prop where
  s0 : 0 ≤ (s.T k).s
  sf : (s.T k).s ≤ (s.T k).f
  fs : (s.T k).f ≤ (s.T k).s + 138378240000
  sV : (s.T k).s ≤ s.V + 138378240000
  z0 : 0 ≤ s.z k ∧ s.z k ≤ 1500
  fV : s.sv k = true ∨ s.z k = 0 → (s.T k).f ≤ s.V + 138378240000
structure Inv (n : Nat) (s : FS) : Prop where
  n8 : n ≤ 8
  V : 0 ≤ s.V ∧ s.V ≤ 1125899906842624
  k : ∀ k, k < n → InvK s k
structure WtOk (n : Nat) (wt : Nat → Int) (al : Int) : Prop where
  w : ∀ k, k < n → 1 ≤ wt k ∧ wt k ≤ 16 ∧ wt k ≤ al
  a : al ≤ 128
theorem InvK.tag {s : FS} {k : Nat} (h : InvK s k) (hV : 0 ≤ s.V ∧ s.V ≤ 1125899906842624) : tagB (s.T k) = true := by
  have := h.s0
  have := h.sf
  have := h.fs
  have := h.sV
  unfold tagB timeB
  simp
  omega
theorem Inv.vok {n : Nat} {s : FS} (h : Inv n s) : vokB s.V n s.T = true := by
  have h8 := h.n8
  have hV := h.V
  unfold vokB timeB
  simp only [Bool.and_eq_true, decide_eq_true_eq]
  exact ⟨⟨by omega, by omega, by omega⟩, (okN_iff s.T n).2 fun k hk => (h.k k hk).tag hV⟩
theorem Inv.tok {n : Nat} {s : FS} (h : Inv n s) (k : Nat) (hk : k < n) : (s.T k).ok := by
  have h1 := h.k k hk
  have := h.V
  have := h1.s0
  have := h1.sf
  have := h1.fs
  have := h1.sV
  unfold TagsE.ok
  omega
theorem cost_pos {m wt al : Int} (hm : 1 ≤ m ∧ m ≤ 1500) (hw : 1 ≤ wt ∧ wt ≤ 16 ∧ wt ≤ al) (ha : al ≤ 128) : 0 < costS m wt al := by
  unfold costS
  rw [if_pos (by unfold costB; simp; omega)]
  have h1 : 1 ≤ 720720 / wt := by
    rw [Int.le_ediv_iff_mul_le (by omega)]
    omega
  have h2 : 0 < m * al := Int.mul_pos (by omega) (by omega)
  exact Int.mul_pos h2 (by omega)
/-- the tags behind the first part -/
theorem hT1_k (k : Nat) (m : Int) (s : FS) : ((hT1 k m s) k).s = (s.T k).s ∧ (((hT1 k m s) k).f = (s.T k).f ∨ (((hT1 k m s) k).f = (s.T k).s ∧ s.sv k = false ∧ 0 < s.z k)) := by
  unfold hT1
  split
  · next h => rw [updT_at]; exact ⟨rfl, .inr ⟨rfl, h.1, h.2.2⟩⟩
  · exact ⟨rfl, .inl rfl⟩
theorem hT1_ne (k j : Nat) (m : Int) (s : FS) (h : j ≠ k) : (hT1 k m s) j = s.T j := by
  unfold hT1
  split
  · rw [updT_ne _ _ h]
  · rfl
theorem hAt_bd {s : FS} {k : Nat} (h : InvK s k) (hV : 0 ≤ s.V ∧ s.V ≤ 1125899906842624) (m : Int) (hn : hNew k m s = true) : 0 ≤ hAt k m s ∧ hAt k m s ≤ s.V + 138378240000 := by
  have h1 := h.s0
  have h2 := h.sf
  have h3 := h.sV
  have h4 := h.fV
  have h5 := h.z0
  obtain ⟨e1, e2⟩ := hT1_k k m s
  unfold hNew at hn
  unfold hAt
  cases hs : s.sv k
  · rw [hs] at hn h4 e2
    simp at hn
    simp only [Bool.false_eq_true, if_false]
    by_cases hz : 0 < s.z k
    · have hf : ((hT1 k m s) k).f = (s.T k).s := by
        unfold hT1
        rw [if_pos ⟨hs, hn.2, hz⟩, updT_at]
      omega
    · have h6 := h4 (.inr (by omega))
      rcases e2 with e2 | ⟨_, _, e2⟩ <;> omega
  · have h6 := h4 (.inl hs)
    simp only [if_true]
    omega
theorem inv_hear {n : Nat} {s : FS} (h : Inv n s) {k : Nat} (hk : k < n) {m : Int} (hm : 0 ≤ m ∧ m ≤ 1500) {wt al : Int} (hw : 1 ≤ wt ∧ wt ≤ 16 ∧ wt ≤ al) (ha : al ≤ 128) : Inv n (hearS wt al k m s) := by
  refine ⟨h.n8, h.V, fun j hj => ?_⟩
  have hc := cost_range m wt al
  by_cases hjk : j = k
  · subst hjk
    have h0 := h.k j hj
    have h1 := h0.s0
    have h2 := h0.sf
    have h3 := h0.fs
    have h4 := h0.sV
    have h5 := h0.fV
    have h6 := h0.z0
    have hV := h.V
    obtain ⟨e1, e2⟩ := hT1_k j m s
    unfold hearS
    cases hn : hNew j m s
    · simp only [Bool.false_eq_true, if_false]
      have hcase : m = 0 ∨ (s.sv j = false ∧ s.z j = m) := by
        unfold hNew at hn
        cases hs : s.sv j
        · rw [hs] at hn; simp at hn; by_cases h0 : m = 0; exact .inl h0; exact .inr ⟨rfl, hn h0⟩
        · rw [hs] at hn; simp at hn; exact .inl hn
      have hmz : m = 0 → ((hT1 j m s) j).f ≤ s.V + 138378240000 := by
        intro h0
        cases hs : s.sv j
        · by_cases hz : 0 < s.z j
          · have : ((hT1 j m s) j).f = (s.T j).s := by unfold hT1; rw [if_pos ⟨hs, by omega, hz⟩, updT_at]
            omega
          · have := h5 (.inr (by omega))
            rcases e2 with e | ⟨_, _, e⟩ <;> omega
        · have := h5 (.inl hs)
          rcases e2 with e | ⟨_, e, _⟩
          · omega
          · rw [hs] at e; cases e
      refine ⟨by simp only; omega, by simp only; rcases e2 with e | ⟨e, _⟩ <;> omega, by simp only; rcases e2 with e | ⟨e, _⟩ <;> omega, by simp only; omega, by simp only [upf_at]; exact hm, ?_⟩
      simp only [upf_at]
      rintro (e | e)
      · cases e
      · exact hmz e
    · simp only [if_true]
      obtain ⟨b1, b2⟩ := hAt_bd h0 hV m hn
      refine ⟨by simp only [updT_at]; exact b1, by simp only [updT_at]; omega, by simp only [updT_at]; omega, by simp only [updT_at]; exact b2, by simp only [upf_at]; exact hm, ?_⟩
      simp only [upf_at]
      rintro (e | e)
      · cases e
      · unfold hNew at hn; simp at hn; omega
  · have h0 := h.k j hj
    have hT : (hearS wt al k m s).T j = s.T j := by
      unfold hearS
      simp only
      split
      · rw [updT_ne _ _ hjk, hT1_ne _ _ _ _ hjk]
      · rw [hT1_ne _ _ _ _ hjk]
    have hz : (hearS wt al k m s).z j = s.z j := upf_ne _ _ hjk
    have hs : (hearS wt al k m s).sv j = s.sv j := upf_ne _ _ hjk
    exact ⟨by rw [hT]; exact h0.s0, by rw [hT]; exact h0.sf, by rw [hT]; exact h0.fs, by rw [hT]; exact h0.sV, by rw [hz]; exact h0.z0, by rw [hT, hz, hs]; exact h0.fV⟩
theorem inv_hearN {n : Nat} {wt : Nat → Int} {al : Int} (hw : WtOk n wt al) {m : Nat → Int} (hm : ∀ k, k < n → 0 ≤ m k ∧ m k ≤ 1500) : ∀ (k : Nat) {s : FS}, Inv n s → k ≤ n → Inv n (hearN wt al m k s)
  | 0, _, h, _ => h
  | k + 1, s, h, hk => by
    have ih := inv_hearN hw hm k h (by omega)
    exact inv_hear ih (by omega) (hm k (by omega)) (hw.w k (by omega)) hw.a
/-- what virtual is asked is never refused -/
theorem hear_good {n : Nat} {s : FS} (h : Inv n s) {k : Nat} (hk : k < n) {m : Int} (hm : 1 ≤ m ∧ m ≤ 1500) {wt al : Int} (hw : 1 ≤ wt ∧ wt ≤ 16 ∧ wt ≤ al) (ha : al ≤ 128) (hn : hNew k m s = true) :
    goodTag s.V n (hT1 k m s) k (costS m wt al) (hAt k m s) = true := by
  have hc := cost_range m wt al
  have hp := cost_pos hm hw ha
  obtain ⟨b1, b2⟩ := hAt_bd (h.k k hk) h.V m hn
  have hV := h.V
  have hv : vokB s.V n (hT1 k m s) = true := by
    have h8 := h.n8
    unfold vokB timeB
    simp only [Bool.and_eq_true, decide_eq_true_eq]
    refine ⟨⟨by omega, by omega, by omega⟩, (okN_iff _ n).2 fun j hj => ?_⟩
    have h1 := (h.k j hj).tag hV
    by_cases hjk : j = k
    · subst hjk
      obtain ⟨e1, e2⟩ := hT1_k j m s
      unfold tagB timeB at h1 ⊢
      simp at h1 ⊢
      rcases e2 with e | ⟨e, _⟩ <;> omega
    · rw [hT1_ne _ _ _ _ hjk]; exact h1
  unfold goodTag
  rw [hv]
  simp
  omega
theorem firstS_ex {tk : Nat → Bool} {lt : Nat → Nat → Bool} {n j : Nat} (hj : j < n) (h : tk j = true) : ∃ b, firstS tk lt n = some b := by
  cases hf : firstS tk lt n with
  | some b => exact ⟨b, rfl⟩
  | none => rw [firstS_none hf j hj] at h; cases h
theorem inv_pick {n : Nat} {s s' : FS} {m : Nat → Int} {k : Nat} (h : Inv n s) (hm : ∀ k, k < n → 0 ≤ m k ∧ m k ≤ 1500) (hz : ∀ k, k < n → s.z k = m k) (hp : pickS n m s = some (k, s')) : Inv n s' ∧ k < n ∧ 0 < m k := by
  unfold pickS at hp
  cases h1 : firstS (rdy m) (ltS s.T) n with
  | none => rw [h1] at hp; cases hp
  | some k0 =>
    rw [h1] at hp
    simp only at hp
    cases h2 : firstS (tkN s.T (rdy m) (max s.V (s.T k0).s)) (ltF s.T) n with
    | none => rw [h2] at hp; cases hp
    | some q =>
      rw [h2] at hp
      simp only [Option.some.injEq, Prod.mk.injEq] at hp
      obtain ⟨rfl, rfl⟩ := hp
      obtain ⟨k1, k2⟩ := firstS_some h1
      obtain ⟨q1, q2⟩ := firstS_some h2
      unfold tkN rdy at q2
      simp at q2
      obtain ⟨now, hnow⟩ : ∃ now, now = max s.V (s.T k0).s := ⟨_, rfl⟩
      rw [← hnow] at q2 ⊢
      have hk0 := h.k k0 k1
      have hV := h.V
      have g1 := hk0.sV
      have g2 := hk0.s0
      have hnow2 : s.V ≤ now ∧ now ≤ s.V + 138378240000 := by omega
      have hmk := hm q q1
      refine ⟨⟨h.n8, ?_, fun j hj => ?_⟩, q1, q2.1⟩
      · unfold takeS
        simp only
        split <;> omega
      · have h0 := h.k j hj
        have g3 := h0.s0
        have g4 := h0.sf
        have g5 := h0.fs
        have g6 := h0.sV
        have g7 := h0.fV
        have hsz : 0 ≤ m q * 720720 ∧ m q * 720720 ≤ 1081080000 := by omega
        obtain ⟨P, hP⟩ : ∃ P, P = m q * 720720 := ⟨_, rfl⟩
        have hfv : upf s.sv q true j = true ∨ s.z j = 0 → (s.T j).f ≤ now + P + 138378240000 := by
          by_cases hjq : j = q
          · subst hjq
            intro _
            omega
          · rw [upf_ne _ _ hjq]
            intro h9
            have := g7 h9
            omega
        unfold takeS
        rw [← hP] at hsz ⊢
        by_cases hl : 1125899906842624 < now + P
        · simp only [if_pos hl]
          have hr : rebT s.T (now + P - 1099511627776) n j = rebE (now + P - 1099511627776) (s.T j) := by unfold rebT; rw [if_pos hj]
          refine ⟨by simp only [hr, rebE]; omega, by simp only [hr, rebE]; omega, by simp only [hr, rebE]; omega, by simp only [hr, rebE]; omega, h0.z0, fun h9 => ?_⟩
          have := hfv h9
          simp only [hr, rebE]
          omega
        · simp only [if_neg hl]
          exact ⟨g3, g4, g5, by simp only; omega, h0.z0, hfv⟩
theorem hearN_z (wt : Nat → Int) (al : Int) (m : Nat → Int) (s : FS) : ∀ (n k : Nat), k < n → (hearN wt al m n s).z k = m k
  | 0, _, h => by omega
  | n + 1, k, h => by
    show upf (hearN wt al m n s).z n (m n) k = m k
    by_cases hk : k = n
    · subst hk; rw [upf_at]
    · rw [upf_ne _ _ hk]; exact hearN_z wt al m s n k (by omega)
theorem pk_some {n : Nat} {wt : Nat → Int} {al : Int} {m : Nat → Int} {s : FS} {j : Nat} (hj : j < n) (h : 0 < m j) : ∃ k, pkK n wt al m s = some k := by
  obtain ⟨k0, h1⟩ := firstS_ex (lt := ltS (hearN wt al m n s).T) hj (show rdy m j = true by simp [rdy, h])
  obtain ⟨k, h2⟩ := second_some (V := (hearN wt al m n s).V) h1
  exact ⟨k, by unfold pkK pickS; rw [h1]; simp only; rw [h2]; rfl⟩
theorem pk_none {n : Nat} {wt : Nat → Int} {al : Int} {m : Nat → Int} {s : FS} (h : pkK n wt al m s = none) : ∀ j, j < n → ¬ 0 < m j := by
  intro j hj h1
  obtain ⟨k, hk⟩ := pk_some (wt := wt) (al := al) (s := s) hj h1
  rw [h] at hk
  cases hk
theorem inv_pk {n : Nat} {wt : Nat → Int} {al : Int} (hw : WtOk n wt al) {m : Nat → Int} (hm : ∀ k, k < n → 0 ≤ m k ∧ m k ≤ 1500) {s : FS} (h : Inv n s) : Inv n (pkS n wt al m s) ∧ ∀ k, pkK n wt al m s = some k → k < n ∧ 0 < m k := by
  have hi := inv_hearN hw hm n h (Nat.le_refl _)
  unfold pkS pkK
  cases hp : pickS n m (hearN wt al m n s) with
  | none => exact ⟨hi, fun k e => by cases e⟩
  | some p =>
    obtain ⟨k, s'⟩ := p
    have := inv_pick hi hm (fun k hk => hearN_z wt al m s n k hk) hp
    refine ⟨this.1, fun k' e => ?_⟩
    obtain rfl : k = k' := by simpa using e
    exact this.2
end Go.Proofs.Ytoodmocapagapaa
namespace Go.Proofs.Ytoodmocapagapaa
open Go.RowKit
set_option linter.unusedSimpArgs false
set_option linter.unusedVariables false

def leastI (T : Nat → TagsE) (R : Nat → Bool) (k : Nat) : Int := match firstS R (ltS T) k with
  | none => -1
  | some b => (T b).s
theorem leastI_none {T : Nat → TagsE} {R : Nat → Bool} {k : Nat} (h : firstS R (ltS T) k = none) : leastI T R k = -1 := by unfold leastI; rw [h]
theorem leastI_some {T : Nat → TagsE} {R : Nat → Bool} {k b : Nat} (h : firstS R (ltS T) k = some b) : leastI T R k = (T b).s := by unfold leastI; rw [h]

end Go.Proofs.Ytoodmocapagapaa
namespace Go.Proofs.Ytoodmocapagapaa
open Go.RowKit
set_option linter.unusedSimpArgs false
set_option linter.unusedVariables false

end Go.Proofs.Ytoodmocapagapaa
namespace Go.Proofs.Ytoodmocapagapaa
open Go.RowKit
set_option linter.unusedSimpArgs false
set_option linter.unusedVariables false

theorem TagsIn.set {W : World} {a : Option Addr} {n c b o : Nat} {T : Nat → TagsE} (h : TagsIn W a n c b o T) (g j : Nat) (u : Value) (hg : 0 < n → g ≠ b) : TagsIn (W.setCell ⟨g, j, none⟩ u) a n c b o T :=
  ⟨h.le, h.max, fun hk => ⟨(h.at_ hk).1, by have := (h.at_ hk).2; simpa using this⟩, fun k hk => by
    have hne := hg (by omega)
    obtain ⟨c0, c1⟩ := h.cell k hk
    exact ⟨(World.cell?_of_block (a := ⟨b, _, none⟩) (heap_setCell_ne W ⟨g, j, none⟩ u b (by simp only; omega))).trans c0, (World.cell?_of_block (a := ⟨b, _, none⟩) (heap_setCell_ne W ⟨g, j, none⟩ u b (by simp only; omega))).trans c1⟩, h.bd⟩
theorem VOut.tags {w w' : World} {v : Value} {V : Int} {n : Nat} {T : Nat → TagsE} (h : VOut w w' v V n T) (hT : ∀ k, k < n → (T k).ok) :
    ∃ a c b, v = .agg #[.int .i64 V, .slice a n c] ∧ TagsIn w' a n c b 0 T ∧ (0 < n → w.heap.size ≤ b) ∧ Below w.heap.size w w' := by
  obtain ⟨a, c, ob, rfl, hR, hO, hB⟩ := h
  obtain ⟨a', c', he, ht⟩ := tags_row hR hT
  injection he with e1 e2 e3
  subst e1 e3
  refine ⟨a, c, ob.getD 0, rfl, ht, fun hn => ?_, hB⟩
  obtain ⟨g, hg, _⟩ := own_k hR hn
  subst hg
  exact hO g rfl

def wT1 : Nat → TagsE := updT zeroT 0 ⟨0, 144144000⟩
def wT2 : Nat → TagsE := updT wT1 1 ⟨0, 144144000⟩
theorem zero_ok (k : Nat) : (zeroT k).ok := by unfold zeroT TagsE.ok; simp
theorem wT1_ok (k : Nat) : (wT1 k).ok := by unfold wT1 updT; split; (unfold TagsE.ok; simp); exact zero_ok k
theorem wT2_ok (k : Nat) : (wT2 k).ok := by unfold wT2 updT; split; (unfold TagsE.ok; simp); exact wT1_ok k
theorem w_cost : costS 100 1 2 = 144144000 := by decide +kernel
theorem k1_wake (W : World) (a : Option Addr) (c b : Nat) (h : TagsIn W a 2 c b 0 zeroT) : Calls Try.prog 64 #[.agg #[.int .i64 0, .slice a 2 c], .int .i64 0, .int .i64 100, .int .i64 1, .int .i64 2] W (VRes W 0 2 wT1 0) := by
  refine (wake_any 0 a 2 c b 0 zeroT 0 100 1 2 W h (by omega)).mono fun e w' h => ?_
  unfold TagP at h
  rw [w_cost, show max (headF zeroT 0) 0 = 0 by decide +kernel, show goodTag 0 2 zeroT 0 144144000 0 = true by decide +kernel] at h
  exact h
theorem k2_wake (W : World) (a : Option Addr) (c b : Nat) (h : TagsIn W a 2 c b 0 wT1) : Calls Try.prog 64 #[.agg #[.int .i64 0, .slice a 2 c], .int .i64 1, .int .i64 100, .int .i64 1, .int .i64 2] W (VRes W 0 2 wT2 0) := by
  refine (wake_any 0 a 2 c b 0 wT1 1 100 1 2 W h (by omega)).mono fun e w' h => ?_
  unfold TagP at h
  rw [w_cost, show max (headF wT1 1) 0 = 0 by decide +kernel, show goodTag 0 2 wT1 1 144144000 0 = true by decide +kernel] at h
  exact h
theorem k3_pick (W : World) (a : Option Addr) (c b rb : Nat) (h : TagsIn W a 2 c b 0 wT2) (hr : BoolsIn W (some ⟨rb, 0, none⟩) 2 2 rb 0 (fun _ => true)) : Calls Try.prog 52 #[.agg #[.int .i64 0, .slice a 2 c], .slice (some ⟨rb, 0, none⟩) 2 2] W (PickOut W 0 2 wT2 0 true) := by
  refine (pick_any 0 a 2 c b 0 wT2 _ 2 2 rb 0 _ W h (by omega) hr).mono fun e w' h => ?_
  unfold PickP at h
  rw [if_pos ⟨by decide +kernel, rfl⟩, show firstS (fun _ => true) (ltS wT2) 2 = some 0 by decide +kernel] at h
  simp only at h
  rw [show max (0 : Int) (wT2 0).s = 0 by decide +kernel, show firstI (tkN wT2 (fun _ => true) 0) (ltF wT2) 2 = 0 by decide +kernel] at h
  exact h

end Go.Proofs.Ytoodmocapagapaa
namespace Go.Proofs.Ytoodmocapagapaa
open Go.RowKit
set_option linter.unusedSimpArgs false
set_option linter.unusedVariables false

end Go.Proofs.Ytoodmocapagapaa
namespace Go.Proofs.Ytoodmocapagapaa
open Go.RowKit
set_option linter.unusedSimpArgs false
set_option linter.unusedVariables false

theorem rebase_any (V : Int) (a : Option Addr) (n c b o : Nat) (T : Nat → TagsE) (w : World) (hs : TagsIn w a n c b o T) (hn : n * 16 ≤ 140737488351232) : Calls Try.prog 55 #[.agg #[.int .i64 V, .slice a n c]] w (RebP w V n T) := by
  by_cases hc : vokB V n T = true ∧ 1125899906842624 < V
  · have hL : lateB V n T = true := by unfold lateB; rw [hc.1]; simpa using hc.2
    exact (rebase_down V a n c b o T w hs hn hc.1 hc.2).mono fun e w' ⟨v, h1, h2⟩ => ⟨v, h1, by rw [hL]; exact h2⟩
  · have hL : lateB V n T = false := by unfold lateB; simpa using hc
    refine (rebase_keep V a n c b o T w hs hn ?_).mono fun e w' ⟨v, h1, h2⟩ => ⟨v, h1, by rw [hL]; exact h2⟩
    cases hv : vokB V n T
    · exact .inl rfl
    · exact .inr ⟨rfl, by have : ¬ 1125899906842624 < V := fun h => hc ⟨hv, h⟩; omega⟩
theorem RebP.two {w : World} {V : Int} {n : Nat} {T : Nat → TagsE} {e : Ending} {w' : World} (h : RebP w V n T e w') (hT : ∀ j, j < n → (T j).ok) :
    ∃ V' T', (∃ v, e = .returned v ∧ VOut w w' v V' n T') ∧ (∀ j, j < n → (T' j).ok) ∧ (∀ w3 e2 w2, RebP w3 V n T e2 w2 → ∃ v, e2 = .returned v ∧ VOut w3 w2 v V' n T') := by
  unfold RebP at h ⊢
  cases hL : lateB V n T
  · rw [hL] at h
    exact ⟨V, T, h, hT, fun _ _ _ h => h⟩
  · rw [hL] at h
    unfold lateB at hL
    simp at hL
    have := vok_V hL.1
    exact ⟨_, _, h, fun j hj => reb_ok (by omega) (by omega) hT j hj, fun _ _ _ h => h⟩
/-- three blocks of the call's own -/
def F3 (w : World) (n1 n2 : Nat) (c0 c1 c2 : Array Value) (X : World) : Prop := Holds X w.heap.size c0 ∧ Holds X n1 c1 ∧ Holds X n2 c2 ∧ Below w.heap.size w X
theorem F3.step {w A B : World} {n1 n2 : Nat} {c0 c1 c2 : Array Value} (h : F3 w n1 n2 c0 c1 c2 A) (hB : Below A.heap.size A B) : F3 w n1 n2 c0 c1 c2 B := ⟨Holds.step h.1 hB, Holds.step h.2.1 hB, Holds.step h.2.2.1 hB, h.2.2.2.trans (hB.mono h.2.2.2.size)⟩

end Go.Proofs.Ytoodmocapagapaa
namespace Go.Proofs.Ytoodmocapagapaa
open Go.RowKit
set_option linter.unusedSimpArgs false
set_option linter.unusedVariables false

theorem belowN {B : Nat} {w X : World} (h : Below B w X) (n : Nat) : Below B w (X.drewN n) := ⟨h.os, h.tape, h.output, h.size, h.block⟩
/-- blocks of kinds other than these stay -/
def TyL (l : List TypeId) (W W' : World) : Prop := ∀ q cs ty, Blk W q cs ty → ty ∉ l → Blk W' q cs ty
theorem TyL.refl (l : List TypeId) (W : World) : TyL l W W := fun _ _ _ h _ => h
theorem TyL.trans {l : List TypeId} {a b c : World} (h : TyL l a b) (k : TyL l b c) : TyL l a c := fun q cs ty hb h1 => k q cs ty (h q cs ty hb h1) h1
theorem TyL.of_below {l : List TypeId} {W W' : World} (h : Below W.heap.size W W') : TyL l W W' := fun _ _ _ hb _ => hb.step h
theorem TyL.of_fr {l : List TypeId} {L : List Nat} {W W' : World} (h : Fr L W W') (hL : ∀ q ∈ L, ∃ cs ty, Blk W q cs ty ∧ ty ∈ l) : TyL l W W' := by
  intro q cs ty hb h1
  refine (h.block q hb.lt fun hm => ?_).trans hb
  obtain ⟨cs', ty', hb', ht'⟩ := hL q hm
  have := hb.symm.trans hb'
  injection this with e'
  injection e' with e1 e2
  exact h1 (e2 ▸ ht')
def fTy : List TypeId := [101, 112, 129]
structure BF (M : Nat) (W W' : World) : Prop where
  b : Below M W W'
  t : TyL fTy W W'
theorem BF.refl (M : Nat) (W : World) : BF M W W := ⟨Below.refl _ _, TyL.refl _ _⟩
theorem BF.trans {M : Nat} {a b c : World} (h : BF M a b) (k : BF M b c) : BF M a c := ⟨h.b.trans k.b, h.t.trans k.t⟩
theorem BF.size {M : Nat} {a b : World} (h : BF M a b) : a.heap.size ≤ b.heap.size := h.b.size
theorem BF.new {M : Nat} {W W' : World} (h : Below W.heap.size W W') (hM : M ≤ W.heap.size) : BF M W W' := ⟨h.mono hM, TyL.of_below h⟩
theorem blk_row {W : World} {v : Value} {g : Nat} {e : TypeId} {s n : Nat} {xs : List Value} (h : Row W v (some g) e s n xs) : ∃ cs, Blk W g cs e := by
  rcases h.cases with ⟨he, _⟩ | ⟨g1, cap, cur, he, _, h3, _⟩
  · cases he
  · obtain rfl := Option.some.inj he
    exact ⟨cur, h3⟩
/-- what a scheduler knows of its flows beside their tags -/
structure FlAt (W : World) (fo n : Nat) (wt z : Nat → Int) (sv : Nat → Bool) : Prop where
  ex : ∃ cs, Blk W fo cs 112 ∧ ∀ k, k < n → cs[k * 3]? = some (.int .u8 (wt k)) ∧ cs[k * 3 + 1]? = some (.int .u16 (z k)) ∧ cs[k * 3 + 2]? = some (.bool (sv k))
theorem FlAt.fr {W W' : World} {fo n : Nat} {wt z : Nat → Int} {sv : Nat → Bool} {l : List Nat} (h : FlAt W fo n wt z sv) (hf : Fr l W W') (hn : fo ∉ l) : FlAt W' fo n wt z sv := by
  obtain ⟨cs, hb, hc⟩ := h
  exact ⟨cs, (hf.block fo hb.lt hn).trans hb, hc⟩
theorem FlAt.lt {W : World} {fo n : Nat} {wt z : Nat → Int} {sv : Nat → Bool} (h : FlAt W fo n wt z sv) : fo < W.heap.size := by
  obtain ⟨cs, hb, hc⟩ := h
  exact hb.lt
theorem FlAt.cell {W : World} {fo n : Nat} {wt z : Nat → Int} {sv : Nat → Bool} (h : FlAt W fo n wt z sv) {k : Nat} (hk : k < n) : W.cell? ⟨fo, k * 3, none⟩ = some (.int .u8 (wt k)) ∧ W.cell? ⟨fo, k * 3 + 1, none⟩ = some (.int .u16 (z k)) ∧ W.cell? ⟨fo, k * 3 + 2, none⟩ = some (.bool (sv k)) ∧ ∀ j, W.frozen? ⟨fo, j, none⟩ = false := by
  obtain ⟨cs, hb, hc⟩ := h
  obtain ⟨c0, c1, c2⟩ := hc k hk
  exact ⟨(cell_at hb _).trans c0, (cell_at hb _).trans c1, (cell_at hb _).trans c2, fun j => free_at hb j⟩
theorem FlAt.put {W W' : World} {fo n : Nat} {wt z : Nat → Int} {sv : Nat → Bool} (h : FlAt W fo n wt z sv) {k : Nat} (hk : k < n) (m : Int) (b : Bool) (hW : W' = (W.setCell ⟨fo, k * 3 + 1, none⟩ (.int .u16 m)).setCell ⟨fo, k * 3 + 2, none⟩ (.bool b)) : FlAt W' fo n wt (upf z k m) (upf sv k b) ∧ Fr [fo] W W' := by
  obtain ⟨cs, hb, hc⟩ := h
  subst hW
  refine ⟨⟨_, (hb.set _ _).set _ _, fun j hj => ?_⟩, ((Fr.refl _ _).setCell _ (.inl (by simp)) _).setCell _ (.inl (by simp)) _⟩
  obtain ⟨c0, c1, c2⟩ := hc j hj
  obtain ⟨k0, k1, k2⟩ := hc k hk
  have hs1 := (Array.getElem?_eq_some_iff.1 k1).1
  have hs2 := (Array.getElem?_eq_some_iff.1 k2).1
  simp only [Array.getElem?_setIfInBounds, Array.size_setIfInBounds]
  by_cases hjk : j = k
  · subst hjk
    rw [upf_at, upf_at]
    refine ⟨?_, ?_, ?_⟩
    · rw [if_neg (by omega), if_neg (by omega)]; exact c0
    · rw [if_neg (by omega), if_pos rfl, if_pos hs1]
    · rw [if_pos rfl, if_pos hs2]
  · rw [upf_ne _ _ hjk, upf_ne _ _ hjk]
    refine ⟨?_, ?_, ?_⟩
    · rw [if_neg (by omega), if_neg (by omega)]; exact c0
    · rw [if_neg (by omega), if_neg (by omega)]; exact c1
    · rw [if_neg (by omega), if_neg (by omega)]; exact c2
theorem FlAt.put1 {W W' : World} {fo n : Nat} {wt z : Nat → Int} {sv : Nat → Bool} (h : FlAt W fo n wt z sv) {k : Nat} (hk : k < n) (b : Bool) (hW : W' = W.setCell ⟨fo, k * 3 + 2, none⟩ (.bool b)) : FlAt W' fo n wt z (upf sv k b) ∧ Fr [fo] W W' := by
  obtain ⟨cs, hb, hc⟩ := h
  subst hW
  refine ⟨⟨_, hb.set _ _, fun j hj => ?_⟩, (Fr.refl _ _).setCell _ (.inl (by simp)) _⟩
  obtain ⟨c0, c1, c2⟩ := hc j hj
  obtain ⟨k0, k1, k2⟩ := hc k hk
  have hs2 := (Array.getElem?_eq_some_iff.1 k2).1
  simp only [Array.getElem?_setIfInBounds]
  by_cases hjk : j = k
  · subst hjk
    rw [upf_at]
    refine ⟨?_, ?_, ?_⟩
    · rw [if_neg (by omega)]; exact c0
    · rw [if_neg (by omega)]; exact c1
    · rw [if_pos rfl, if_pos hs2]
  · rw [upf_ne _ _ hjk]
    refine ⟨?_, ?_, ?_⟩
    · rw [if_neg (by omega)]; exact c0
    · rw [if_neg (by omega)]; exact c1
    · rw [if_neg (by omega)]; exact c2
/-- a scheduler in memory -/
structure FrAt (W : World) (M g fo ft n c1 c2 : Nat) (wt : Nat → Int) (al : Int) (s : FS) : Prop where
  blk : Blk W g #[.slice (some ⟨fo, 0, none⟩) n c1, .int .i64 al, .int .i64 s.V, .slice (some ⟨ft, 0, none⟩) n c2] 101
  fl : FlAt W fo n wt s.z s.sv
  cp : n ≤ c1 ∧ c1 ≤ maxLen
  tg : Row W (.slice (some ⟨ft, 0, none⟩) n c2) (some ft) 129 2 n (tagsL s.T n)
  ge : M ≤ g ∧ M ≤ fo ∧ M ≤ ft
theorem FrAt.fr {W W' : World} {M g fo ft n c1 c2 : Nat} {wt : Nat → Int} {al : Int} {s : FS} (h : FrAt W M g fo ft n c1 c2 wt al s) {l : List Nat} (hf : Fr l W W') (h1 : g ∉ l) (h2 : fo ∉ l) (h3 : ft ∉ l) : FrAt W' M g fo ft n c1 c2 wt al s :=
  ⟨(hf.block g h.blk.lt h1).trans h.blk, h.fl.fr hf h2, h.cp, h.tg.congr fun q e => by obtain rfl := Option.some.inj e; exact hf.block _ h.tg.lt h3, h.ge⟩
theorem FrAt.step {W W' : World} {M g fo ft n c1 c2 : Nat} {wt : Nat → Int} {al : Int} {s : FS} (h : FrAt W M g fo ft n c1 c2 wt al s) (hB : Below W.heap.size W W') : FrAt W' M g fo ft n c1 c2 wt al s := h.fr (Fr.of_below hB) (by simp) (by simp) (by simp)
theorem FrAt.size {W : World} {M g fo ft n c1 c2 : Nat} {wt : Nat → Int} {al : Int} {s : FS} (h : FrAt W M g fo ft n c1 c2 wt al s) : M ≤ W.heap.size := by have := h.blk.lt; have := h.ge; omega
theorem FrAt.ne {W : World} {M g fo ft n c1 c2 : Nat} {wt : Nat → Int} {al : Int} {s : FS} (h : FrAt W M g fo ft n c1 c2 wt al s) : g ≠ fo ∧ g ≠ ft ∧ fo ≠ ft := by
  have dis : ∀ {x : Nat} {a b : Array Value} {t u : TypeId}, Blk W x a t → Blk W x b u → t ≠ u → False := fun h1 h2 hn => by
    have := h1.symm.trans h2
    injection this with e'
    injection e' with e1 e2
    exact hn e2
  obtain ⟨cs, hb, _⟩ := h.fl
  obtain ⟨ct, hc⟩ := blk_row h.tg
  refine ⟨?_, ?_, ?_⟩
  · rintro rfl; exact dis h.blk hb (by decide)
  · rintro rfl; exact dis h.blk hc (by decide)
  · rintro rfl; exact dis hb hc (by decide)
theorem FrAt.frame {W W' : World} {M g fo ft n c1 c2 : Nat} {wt : Nat → Int} {al : Int} {s : FS} (h : FrAt W M g fo ft n c1 c2 wt al s) {l : List Nat} (hf : Fr l W W') (hl : ∀ q ∈ l, q = g ∨ q = fo ∨ q = ft) : BF M W W' := by
  have hg := h.ge
  refine ⟨hf.below h.size (fun q hq => by rcases hl q hq with e | e | e <;> omega), TyL.of_fr hf fun q hq => ?_⟩
  rcases hl q hq with rfl | rfl | rfl
  · exact ⟨_, _, h.blk, by simp [fTy]⟩
  · obtain ⟨cs, hb, _⟩ := h.fl; exact ⟨_, _, hb, by simp [fTy]⟩
  · obtain ⟨cs, hb⟩ := blk_row h.tg; exact ⟨_, _, hb, by simp [fTy]⟩
theorem FrAt.tags {W : World} {M g fo ft n c1 c2 : Nat} {wt : Nat → Int} {al : Int} {s : FS} (h : FrAt W M g fo ft n c1 c2 wt al s) (hi : Inv n s) : TagsIn W (some ⟨ft, 0, none⟩) n c2 ft 0 s.T := by
  obtain ⟨a', c', he, ht⟩ := tags_row h.tg (fun k hk => hi.tok k hk)
  injection he with e1 e2 e3
  subst e1 e3
  exact ht
theorem vout_own {w w' : World} {v : Value} {V : Int} {n : Nat} {T : Nat → TagsE} (h : VOut w w' v V n T) (hn : 0 < n) : ∃ ft c, v = .agg #[.int .i64 V, .slice (some ⟨ft, 0, none⟩) n c] ∧ Row w' (.slice (some ⟨ft, 0, none⟩) n c) (some ft) 129 2 n (tagsL T n) ∧ w.heap.size ≤ ft ∧ Below w.heap.size w w' := by
  obtain ⟨a, c, ob, rfl, hR, hO, hB⟩ := h
  obtain ⟨g, rfl, rfl, _⟩ := own_k hR hn
  exact ⟨g, c, rfl, hR, hO g rfl, hB⟩
set_option maxRecDepth 100000 in
set_option maxHeartbeats 4000000 in
theorem set_ok (V' : Int) (T' : Nat → TagsE) (ft' c' : Nat) (M g fo ft n c1 c2 : Nat) (wt : Nat → Int) (al : Int) (s : FS) (w : World) (h : FrAt w M g fo ft n c1 c2 wt al s) (hr : Row w (.slice (some ⟨ft', 0, none⟩) n c') (some ft') 129 2 n (tagsL T' n)) (hM : M ≤ ft') :
    Calls Try.prog 53 #[.pointer (some ⟨g, 0, none⟩), .agg #[.int .i64 V', .slice (some ⟨ft', 0, none⟩) n c'], .int .i64 0] w fun e w' => e = .returned (.tuple #[]) ∧ FrAt w' M g fo ft' n c1 c' wt al ⟨V', T', s.z, s.sv⟩ ∧ BF M w w' ∧ Fr [g] w w' := by
  obtain ⟨N, hN⟩ : ∃ N, N = w.heap.size := ⟨_, rfl⟩
  obtain ⟨W1, hW1⟩ : ∃ W, W = w.alloc (.cells #[.int .i64 V', .slice (some ⟨ft', 0, none⟩) n c'] 99) := ⟨_, rfl⟩
  have hB1 : Below w.heap.size w W1 := by rw [hW1]; exact (Below.refl _ _).alloc (Nat.le_refl _) _
  have hb1 : Blk W1 N #[.int .i64 V', .slice (some ⟨ft', 0, none⟩) n c'] 99 := by rw [hW1, hN]; exact blk_new _ _ _
  have h1 := h.step hB1
  have c0 : W1.cell? ⟨N, 0, none⟩ = some (.int .i64 V') := cell_at hb1 0
  have d0 : W1.cell? ⟨N, 1, none⟩ = some (.slice (some ⟨ft', 0, none⟩) n c') := cell_at hb1 1
  have e2 : W1.cell? ⟨g, 2, none⟩ = some (.int .i64 s.V) := cell_at h1.blk 2
  have e3 : W1.cell? ⟨g, 3, none⟩ = some (.slice (some ⟨ft, 0, none⟩) n c2) := cell_at h1.blk 3
  have ez : ∀ j, W1.frozen? ⟨g, j, none⟩ = false := fun j => free_at h1.blk j
  have el : g < W1.heap.size := h1.blk.lt
  obtain ⟨W2, hW2⟩ : ∃ W, W = (W1.setCell ⟨g, 2, none⟩ (.int .i64 V')).setCell ⟨g, 3, none⟩ (.slice (some ⟨ft', 0, none⟩) n c') := ⟨_, rfl⟩
  have hf2 : Fr [g] W1 W2 := by rw [hW2]; exact ((Fr.refl _ _).setCell _ (.inl (by simp)) _).setCell _ (.inl (by simp)) _
  have hk2 : Blk W2 g #[.slice (some ⟨fo, 0, none⟩) n c1, .int .i64 al, .int .i64 V', .slice (some ⟨ft', 0, none⟩) n c'] 101 := by rw [hW2]; exact (h1.blk.set 2 _).set 3 _
  have hne := h1.ne
  have hgt : g ≠ ft' := by
    rintro rfl
    obtain ⟨ct, hc⟩ := blk_row hr
    have := hc.symm.trans h.blk
    injection this with e'
    injection e' with e1 e2
    revert e2
    decide
  have HR : Hid (FrAt W2 M g fo ft' n c1 c' wt al ⟨V', T', s.z, s.sv⟩ ∧ BF M w W2 ∧ Fr [g] w W2) := Lib.hid ⟨⟨hk2, h1.fl.fr hf2 (by simpa using fun e => hne.1 e.symm), h.cp, (hr.congr fun q e => by obtain rfl := Option.some.inj e; exact hB1.block _ hr.lt).congr fun q e => by
    obtain rfl := Option.some.inj e
    exact hf2.block _ (by have := hr.lt; have := hB1.size; omega) (by simpa using fun e => hgt e.symm), ⟨h.ge.1, h.ge.2.1, hM⟩⟩, (BF.new hB1 h.size).trans (h1.frame hf2 (by simp)), ((Fr.of_below hB1).mono (by simp)).trans hf2 (by simp)⟩
  clear hB1 hb1 h1 hf2 hk2 hne hgt h hr hM
  go_enter Try.func53, Try.ntmps53
  go_upto_region 1 with fail
  rw [← hN, ← hW1]
  clear hN hW1
  go_wp2_with fail
  rw [← hW2]
  go_end0
  exact ⟨rfl, HR.out⟩
end Go.Proofs.Ytoodmocapagapaa
namespace Go.Proofs.Ytoodmocapagapaa
open Go.RowKit
set_option linter.unusedSimpArgs false
set_option linter.unusedVariables false

set_option maxRecDepth 100000 in
set_option maxHeartbeats 4000000 in
theorem pclone_t (a : Option Addr) (n c b o : Nat) (X : Nat → Nat) (w : World) (h1 : ByIn w a n c b o X) (hn5 : n ≤ 5000) :
    Calls Try.prog 39 #[.slice a n c] w fun e w' => ∃ a' c' b', e = .returned (.slice a' n c') ∧ ByIn w' a' n c' b' 0 X ∧ (0 < n → w.heap.size ≤ b' ∧ ∃ cs, Blk w' b' cs 5) ∧ Below w.heap.size w w' := by
  obtain ⟨i0, hi, hz0, hz1, hz2⟩ := info_parts infoU8'
  have HI := Lib.hid hi
  have HZ0 := Lib.hid hz0
  have HZ1 := Lib.hid hz1
  have HZ2 := Lib.hid hz2
  have hm := h1.max
  have hl := h1.le
  unfold maxLen at hm
  have HA := Lib.hid h1
  clear h1 hi hz0 hz1 hz2
  cases a with
  | none =>
    obtain rfl : n = 0 := by
      rcases Nat.eq_zero_or_pos n with h | h
      · exact h
      · exact absurd (HA.out.at_ h).1 (by simp)
    have hnil : ∀ W, (binOp .eql 42 (.slice none 0 c) (.slice none 0 0)).run Try.prog W = .ok (.bool true) W := fun _ => rfl
    go_enter Try.func39, Try.ntmps39
    go_wp2_with fail
    go_ret
    exact ⟨none, 0, 0, rfl, ⟨Nat.le_refl _, by unfold maxLen; omega, fun h => by omega, fun k hk => by omega, HA.out.bd⟩, (fun h => by omega), Below.refl _ _⟩
  | some p =>
    have hnil : ∀ W, (binOp .eql 42 (.slice (some p) n c) (.slice none 0 0)).run Try.prog W = .ok (.bool false) W := fun _ => rfl
    go_enter Try.func39, Try.ntmps39
    have HR0 : Hid (Row (w.alloc (.cells #[] 5)) (.slice (some ⟨w.heap.size, 0, none⟩) 0 0) (some w.heap.size) 5 1 0 (rowV X 0)) := Lib.hid (Row.mk (heap_alloc_new w _) (Nat.le_refl _) (by unfold maxLen; omega) rfl rfl)
    have HB0 : Hid (Below w.heap.size w (w.alloc (.cells #[] 5))) := Lib.hid ((Below.refl _ _).alloc (Nat.le_refl _) _)
    have hbd := HA.out.bd
    by_cases h0 : n = 0
    · subst h0
      go_wp2_with (at_builtin; refine wpList_append_row_zero _ rfl (.tmp 5) (.tmp 6) 42 rfl 5 i0 1 Try.underlying42 HI.out _ _ 0 _ rfl HR0.out (some p) c rfl ?_)
      go_wp2_with fail
      go_ret
      exact ⟨_, _, 0, rfl, ⟨Nat.le_refl _, by unfold maxLen; omega, fun h => by omega, fun k hk => by omega, HA.out.bd⟩, (fun h => by omega), HB0.out⟩
    · obtain ⟨e0, e1⟩ := HA.out.at_ (by omega)
      obtain rfl : p = ⟨b, o, none⟩ := Option.some.inj e0
      have hb8 : (0 + (n : Int)) * 1 ≤ 140737488355328 := by omega
      go_wp2_with (at_builtin; refine wpList_append_row _ rfl (.tmp 5) (.tmp 6) 42 rfl 5 i0 _ 1 1 Try.underlying42 HI.out HZ0.out HZ1.out HZ2.out rfl (by decide) _ _ 0 (rowV X 0) rfl HR0.out ⟨b, o, none⟩ n c (rowV X n) rfl (by omega) (by rw [rowV_len, Nat.mul_one]) ?c1 (rowV_one X n) ?c3 ?c4 ?_)
      case c1 =>
        intro j u hu
        have hj : j < n := by have := (List.getElem?_eq_some_iff.1 hu).1; rwa [rowV_len] at this
        rw [rowV_at X n j hj] at hu
        obtain rfl := Option.some.inj hu
        exact HA.out.cell j hj
      case c3 => unfold maxLen; omega
      case c4 => omega
      intro v' ob' W3 hrow3 hg3 hob3
      have hB3 : Below w.heap.size w W3 := HB0.out.grown hg3 (by simp) (fun g e => by obtain rfl := Option.some.inj e; exact Nat.le_refl _)
      have hrow4 : Row W3 v' (some ob') 5 1 n (rowV X n) := by
        first | exact hrow3 | (rw [Nat.zero_add] at hrow3; exact hrow3)
      obtain ⟨a', c', rfl, hby⟩ := row_by hrow4 hbd
      have HBY := Lib.hid hby
      obtain ⟨cs4, hcs4⟩ := blk_row hrow4
      have HCS4 := Lib.hid hcs4
      have HB3 := Lib.hid hB3
      have HOB : Hid (w.heap.size ≤ ob') := Lib.hid (by
        rcases hob3 with h | h
        · exact Nat.le_of_eq (by first | exact h | exact Option.some.inj h)
        · rw [h]; simp)
      clear hrow3 hg3 hob3 hrow4 hby hB3 hcs4
      go_wp2_with fail
      go_ret
      exact ⟨a', c', _, rfl, HBY.out, (fun _ => ⟨HOB.out, cs4, HCS4.out⟩), HB3.out⟩

set_option maxRecDepth 100000 in
set_option maxHeartbeats 8000000 in
theorem ftwin_t (num t c : Int) (a : Option Addr) (n ca b o : Nat) (X : Nat → Nat) (w : World) (h1 : ByIn w a n ca b o X) (hn : n ≤ 5000) :
    Calls Try.prog 44 #[.agg #[.int .i64 num, .int .i64 t, .int .i64 c, .slice a n ca]] w fun e w' => ∃ a' c' b', e = .returned (.agg #[.int .i64 num, .int .i64 t, .int .i64 c, .slice a' n c']) ∧ ByIn w' a' n c' b' 0 X ∧ (0 < n → w.heap.size ≤ b' ∧ ∃ cs, Blk w' b' cs 5) ∧ Below w.heap.size w w' := by
  have HS := Lib.hid h1
  clear h1
  obtain ⟨N, hN⟩ : ∃ N, N = w.heap.size := ⟨_, rfl⟩
  have HN := Lib.hid hN
  have HB0 : Hid (Below w.heap.size w ((w.alloc (.cells #[.int .i64 num, .int .i64 t, .int .i64 c, .slice a n ca] 53)).alloc (.cells #[.int .i64 0, .int .i64 0, .int .i64 0, .slice none 0 0] 53))) := Lib.hid (((Below.refl _ _).alloc (Nat.le_refl _) _).alloc (by simp) _)
  have HP : Hid (Blk ((w.alloc (.cells #[.int .i64 num, .int .i64 t, .int .i64 c, .slice a n ca] 53)).alloc (.cells #[.int .i64 0, .int .i64 0, .int .i64 0, .slice none 0 0] 53)) N #[.int .i64 num, .int .i64 t, .int .i64 c, .slice a n ca] 53) := Lib.hid (by rw [hN]; exact (blk_new _ _ _).alloc _)
  have HR : Hid (Blk ((w.alloc (.cells #[.int .i64 num, .int .i64 t, .int .i64 c, .slice a n ca] 53)).alloc (.cells #[.int .i64 0, .int .i64 0, .int .i64 0, .slice none 0 0] 53)) (N + 1) #[.int .i64 0, .int .i64 0, .int .i64 0, .slice none 0 0] 53) := Lib.hid (by have := blk_new (w.alloc (.cells #[.int .i64 num, .int .i64 t, .int .i64 c, .slice a n ca] 53)) #[.int .i64 0, .int .i64 0, .int .i64 0, .slice none 0 0] 53; rw [World.size_alloc, ← hN] at this; exact this)
  clear hN
  go_enter Try.func44, Try.ntmps44
  go_wp2_with fail
  go_at_call 39
  refine (pclone_t _ _ _ _ _ _ _ (HS.out.below HB0.out) hn).mono ?_
  rintro e W1 ⟨a', c', b', rfl, hby, hfr, hB1⟩
  rw [← HN.out]
  have HB1 := Lib.hid (HB0.out.trans (hB1.mono HB0.out.size))
  have HP1 := Lib.hid (HP.out.step hB1)
  have HR1 := Lib.hid (HR.out.step hB1)
  have HBY := Lib.hid hby
  have HF : Hid (0 < n → N + 2 ≤ b') := Lib.hid (fun hp => by have := (hfr hp).1; simp only [World.size_alloc] at this; rw [← HN.out] at this; omega)
  have HT : Hid (0 < n → ∃ cs, Blk W1 b' cs 5) := Lib.hid (fun hp => (hfr hp).2)
  clear hby hfr hB1 HB0 HP HR
  have c0 : W1.cell? ⟨N, 0, none⟩ = some (.int .i64 num) := cell_at HP1.out 0
  have c1 : W1.cell? ⟨N, 1, none⟩ = some (.int .i64 t) := cell_at HP1.out 1
  have c2 : W1.cell? ⟨N, 2, none⟩ = some (.int .i64 c) := cell_at HP1.out 2
  have c3 : W1.cell? ⟨N, 3, none⟩ = some (.slice a n ca) := cell_at HP1.out 3
  have z3 := free_at HP1.out 3
  have d0 : W1.cell? ⟨N + 1, 0, none⟩ = some (.int .i64 0) := cell_at HR1.out 0
  have d1 : W1.cell? ⟨N + 1, 1, none⟩ = some (.int .i64 0) := cell_at HR1.out 1
  have d2 : W1.cell? ⟨N + 1, 2, none⟩ = some (.int .i64 0) := cell_at HR1.out 2
  have d3 : W1.cell? ⟨N + 1, 3, none⟩ = some (.slice none 0 0) := cell_at HR1.out 3
  have y0 := free_at HR1.out 0
  have y1 := free_at HR1.out 1
  have y2 := free_at HR1.out 2
  have y3 := free_at HR1.out 3
  have hl1 : N < W1.heap.size := HP1.out.lt
  have hl2 : N + 1 < W1.heap.size := HR1.out.lt
  go_wp2_with fail
  obtain ⟨WF, hWF⟩ : ∃ WF, WF = ((((W1.setCell ⟨N, 3, none⟩ (.slice a' n c')).setCell ⟨N + 1, 0, none⟩ (.int .i64 num)).setCell ⟨N + 1, 1, none⟩ (.int .i64 t)).setCell ⟨N + 1, 2, none⟩ (.int .i64 c)).setCell ⟨N + 1, 3, none⟩ (.slice a' n c') := ⟨_, rfl⟩
  have k1 : Blk WF (N + 1) #[.int .i64 num, .int .i64 t, .int .i64 c, .slice a' n c'] 53 := by rw [hWF]; exact ((((HR1.out.ne ⟨N, 3, none⟩ (by simp) _).set 0 (.int .i64 num)).set 1 (.int .i64 t)).set 2 (.int .i64 c)).set 3 (.slice a' n c')
  have hBF : Below w.heap.size w WF := by rw [hWF]; exact ((((HB1.out.setCell (p := ⟨N, 3, none⟩) (by have := HN.out; simp only; omega) _).setCell (p := ⟨N + 1, 0, none⟩) (by have := HN.out; simp only; omega) _).setCell (p := ⟨N + 1, 1, none⟩) (by have := HN.out; simp only; omega) _).setCell (p := ⟨N + 1, 2, none⟩) (by have := HN.out; simp only; omega) _).setCell (p := ⟨N + 1, 3, none⟩) (by have := HN.out; simp only; omega) _
  have hn1 : 0 < n → b' ≠ N := fun hp => by have := HF.out hp; omega
  have hn2 : 0 < n → b' ≠ N + 1 := fun hp => by have := HF.out hp; omega
  have k2 : ByIn WF a' n c' b' 0 X := by rw [hWF]; exact ((((HBY.out.ne ⟨N, 3, none⟩ hn1 _).ne ⟨N + 1, 0, none⟩ hn2 _).ne ⟨N + 1, 1, none⟩ hn2 _).ne ⟨N + 1, 2, none⟩ hn2 _).ne ⟨N + 1, 3, none⟩ hn2 _
  have k3 : 0 < n → ∃ cs, Blk WF b' cs 5 := fun hp => by
    obtain ⟨cs, hb⟩ := HT.out hp
    rw [hWF]
    exact ⟨cs, ((((hb.ne ⟨N, 3, none⟩ (hn1 hp) _).ne ⟨N + 1, 0, none⟩ (hn2 hp) _).ne ⟨N + 1, 1, none⟩ (hn2 hp) _).ne ⟨N + 1, 2, none⟩ (hn2 hp) _).ne ⟨N + 1, 3, none⟩ (hn2 hp) _⟩
  rw [← hWF]
  have r0 : WF.cell? ⟨N + 1, 0, none⟩ = some (.int .i64 num) := cell_at k1 0
  have r1 : WF.cell? ⟨N + 1, 1, none⟩ = some (.int .i64 t) := cell_at k1 1
  have r2 : WF.cell? ⟨N + 1, 2, none⟩ = some (.int .i64 c) := cell_at k1 2
  have r3 : WF.cell? ⟨N + 1, 3, none⟩ = some (.slice a' n c') := cell_at k1 3
  exact bodyPost_ret (v := .agg #[.int .i64 num, .int .i64 t, .int .i64 c, .slice a' n c']) (by simp [results, Try.results44, go_sem, r0, r1, r2, r3]) rfl ⟨a', c', b', rfl, k2, (fun hp => ⟨by have := HF.out hp; have := HN.out; omega, k3 hp⟩), hBF⟩

set_option maxRecDepth 100000 in
set_option maxHeartbeats 8000000 in
theorem fpush_t (D R o room f n : Nat) (by_ dr : Int) (E : Nat → PkE) (num t c : Int) (a : Option Addr) (ln ca : Nat) (w : World) (hq : FqIn w D R o room f n by_ dr E) (hn : n < room) (b ob : Nat) (X : Nat → Nat) (hl : ByIn w a ln ca b ob X) (h14 : ln ≤ 1492) (hby : 0 ≤ by_ ∧ by_ ≤ 1000000) :
    Calls Try.prog 24 #[.pointer (some ⟨D, 0, none⟩), .agg #[.int .i64 num, .int .i64 t, .int .i64 c, .slice a ln ca]] w fun e w' => e = .returned (.int .i64 0) ∧ (∃ a' c' b', (0 < ln → w.heap.size ≤ b' ∧ ∃ cs, Blk w' b' cs 5) ∧ FqIn w' D R o room f (n + 1) (by_ + (8 + (ln : Int))) dr (putE E n ⟨num, t, c, a', ln, c', b', 0, X⟩)) ∧ Fr [D, R] w w' := by
  obtain ⟨N, hN⟩ : ∃ N, N = w.heap.size := ⟨_, rfl⟩
  obtain ⟨W1, hW1⟩ : ∃ W1, W1 = w.alloc (.cells #[.int .i64 num, .int .i64 t, .int .i64 c, .slice a ln ca] 53) := ⟨_, rfl⟩
  have hB1 : Below w.heap.size w W1 := by rw [hW1]; exact (Below.refl _ _).alloc (Nat.le_refl _) _
  have hp : Blk W1 N #[.int .i64 num, .int .i64 t, .int .i64 c, .slice a ln ca] 53 := by rw [hW1, hN]; exact blk_new _ _ _
  have hD : D < N := by rw [hN]; exact hq.own.lt
  have hR : R < N := by rw [hN]; obtain ⟨_, h1, _⟩ := hq.ring; exact h1.lt
  have HB1 := Lib.hid hB1
  have HP1 := Lib.hid hp
  have HQ1 := Lib.hid (hq.below hB1)
  have HL1 := Lib.hid (hl.below hB1)
  have HN := Lib.hid hN
  have hnil : ∀ W, (binOp .eql 65 (.pointer (some ⟨D, 0, none⟩)) (.pointer none)).run Try.prog W = .ok (.bool false) W := fun _ => rfl
  have d1 : decide ((1500 : Int) < 8 + ln) = false := by simp; omega
  have p0 : W1.cell? ⟨N, 0, none⟩ = some (.int .i64 num) := cell_at hp 0
  have p1 : W1.cell? ⟨N, 1, none⟩ = some (.int .i64 t) := cell_at hp 1
  have p2 : W1.cell? ⟨N, 2, none⟩ = some (.int .i64 c) := cell_at hp 2
  have p3 : W1.cell? ⟨N, 3, none⟩ = some (.slice a ln ca) := cell_at hp 3
  have hN1 : N < W1.heap.size := hp.lt
  clear hq hl hB1 hp
  go_enter Try.func24, Try.ntmps24
  go_upto_region 3 with fail
  rw [← hN, ← hW1]
  clear hN hW1
  go_wp2_with fail
  go_at_call 42
  refine (fsize_any _ _ _ _ _ _ _ (by omega)).mono ?_
  rintro e W2 ⟨rfl, hB2⟩
  have HB2 := Lib.hid (HB1.out.trans (hB2.mono HB1.out.size))
  have HP2 := Lib.hid (HP1.out.step hB2)
  have HQ2 := Lib.hid (HQ1.out.below hB2)
  have HL2 := Lib.hid (HL1.out.below hB2)
  clear hB2 p0 p1 p2 p3 hN1
  go_upto_region 5 with fail
  have HB2d := Lib.hid (HB2.out.drew)
  have HP2d : Hid (Blk W2.drew N #[.int .i64 num, .int .i64 t, .int .i64 c, .slice a ln ca] 53) := Lib.hid HP2.out
  have HQ2d : Hid (FqIn W2.drew D R o room f n by_ dr E) := Lib.hid (HQ2.out.below ((Below.refl _ _).drew : Below W2.heap.size W2 W2.drew))
  have HL2d : Hid (ByIn W2.drew a ln ca b ob X) := Lib.hid (HL2.out.below ((Below.refl _ _).drew : Below W2.heap.size W2 W2.drew))
  refine wp_region_held_drew (S := fun X => X.cell? ⟨N, 0, none⟩ = some (.int .i64 num) ∧ X.cell? ⟨N, 1, none⟩ = some (.int .i64 t) ∧ X.cell? ⟨N, 2, none⟩ = some (.int .i64 c) ∧ X.cell? ⟨N, 3, none⟩ = some (.slice a ln ca) ∧ N < X.heap.size) (by kernel_rfl) ⟨cell_at HP2d.out 0, cell_at HP2d.out 1, cell_at HP2d.out 2, cell_at HP2d.out 3, HP2d.out.lt⟩ (fun hHeld => ?_)
  ((refine wpAnyH_take (i := 0) (v := ?_) (by (simp only [List.getElem?_toArray, List.getElem?_cons_succ, List.getElem?_cons_zero]); rfl) (by kernel_rfl) (by kernel_rfl) (by kernel_rfl) (by exact fun _ _ _ h => h) (Or.inl ⟨by rfl, ?_⟩) (by assumption) ?_); rotate_left; focus (intro wS hSw; (try dsimp only at hSw); go_simp; first | done | with_reducible rfl); try simp only [Act.put, List.setIfInBounds_toArray, List.set_cons_zero, List.set_cons_succ])
  ((refine wpAnyH_take (i := 1) (v := ?_) (by (simp only [List.getElem?_toArray, List.getElem?_cons_succ, List.getElem?_cons_zero]); rfl) (by kernel_rfl) (by kernel_rfl) (by kernel_rfl) (by exact fun _ _ _ h => h) (Or.inl ⟨by rfl, ?_⟩) (by assumption) ?_); rotate_left; focus (intro wS hSw; (try dsimp only at hSw); go_simp; first | done | with_reducible rfl); try simp only [Act.put, List.setIfInBounds_toArray, List.set_cons_zero, List.set_cons_succ])
  ((refine wpAnyH_take (i := 2) (v := ?_) (by (simp only [List.getElem?_toArray, List.getElem?_cons_succ, List.getElem?_cons_zero]); rfl) (by kernel_rfl) (by kernel_rfl) (by kernel_rfl) (by exact fun _ _ _ h => h) (Or.inl ⟨by rfl, ?_⟩) (by assumption) ?_); rotate_left; focus (intro wS hSw; (try dsimp only at hSw); go_simp; first | done | with_reducible rfl); try simp only [Act.put, List.setIfInBounds_toArray, List.set_cons_zero, List.set_cons_succ])
  ((refine wpAnyH_take (i := 3) (v := ?_) (by (simp only [List.getElem?_toArray, List.getElem?_cons_succ, List.getElem?_cons_zero]); rfl) (by kernel_rfl) (by kernel_rfl) (by kernel_rfl) (by exact fun _ _ _ h => h) (Or.inl ⟨by rfl, ?_⟩) (by assumption) ?_); rotate_left; focus (intro wS hSw; (try dsimp only at hSw); go_simp; first | done | with_reducible rfl); try simp only [Act.put, List.setIfInBounds_toArray, List.set_cons_zero, List.set_cons_succ])
  ((refine wpAnyH_ready (rs := [4]) (by kernel_rfl) (by simp) ?_); (refine AllReadyH.cons (by (simp only [List.getElem?_toArray, List.getElem?_cons_succ, List.getElem?_cons_zero]); rfl) (fun K hK => ?_) AllReadyH.nil); go_simp; refine Calls.mono (ftwin_t num t c a ln ca b ob X _ HL2d.out (by omega)) ?_)
  rintro e W3 ⟨a', c', b', rfl, hby3, hfr3, hB3⟩
  have HB3 := Lib.hid (HB2d.out.trans (hB3.mono HB2d.out.size))
  have HP3 := Lib.hid (HP2d.out.step hB3)
  have HQ3 := Lib.hid (HQ2d.out.below hB3)
  have HL3 : Hid (LdIn W3 D R ⟨num, t, c, a', ln, c', b', 0, X⟩) := Lib.hid ⟨hby3, h14, fun h0 => (by have := (hfr3 h0).1; have := HP2d.out.lt; show b' ≠ D; omega), fun h0 => (by have := (hfr3 h0).1; have := HP2d.out.lt; show b' ≠ R; omega)⟩
  have HFR3 : Hid (0 < ln → w.heap.size ≤ b') := Lib.hid (fun h0 => by have := (hfr3 h0).1; have := HB2d.out.size; omega)
  have HT3 : Hid (0 < ln → b' ≠ D ∧ b' ≠ R ∧ ∃ cs, Blk W3 b' cs 5) := Lib.hid (fun h0 => ⟨by have := (hfr3 h0).1; have := HP2d.out.lt; omega, by have := (hfr3 h0).1; have := HP2d.out.lt; omega, (hfr3 h0).2⟩)
  clear hby3 hfr3 hB3
  go_wp2_with fail
  refine hK.out _ _ ⟨cell_at HP3.out 0, cell_at HP3.out 1, cell_at HP3.out 2, cell_at HP3.out 3, HP3.out.lt⟩ (fun hHeld => ?_)
  clear hK K
  try simp only [Act.put, List.setIfInBounds_toArray, List.set_cons_zero, List.set_cons_succ]
  ((refine wpAnyH_ready (rs := [5]) (by kernel_rfl) (by simp) ?_); (refine AllReadyH.cons (by (simp only [List.getElem?_toArray, List.getElem?_cons_succ, List.getElem?_cons_zero]); rfl) (fun K hK => ?_) AllReadyH.nil); go_simp; refine Calls.mono (ring_push D R o room f n by_ dr E num t c a' ln c' _ HQ3.out hn b' 0 X HL3.out) ?_)
  rintro e W4 ⟨rfl, hq4, hF4⟩
  have HP4 : Hid (Blk W4 N #[.int .i64 num, .int .i64 t, .int .i64 c, .slice a ln ca] 53) := Lib.hid ((hF4.block N HP3.out.lt (by simp; omega)).trans HP3.out)
  have HQ4 := Lib.hid hq4
  have HG4 := Lib.hid hF4
  have HF4 : Hid (Fr [D, R] w W4) := Lib.hid (((Fr.of_below HB3.out).mono (by simp)).trans hF4 (by simp))
  clear hq4 hF4
  go_wp2_with fail
  refine hK.out _ _ ⟨cell_at HP4.out 0, cell_at HP4.out 1, cell_at HP4.out 2, cell_at HP4.out 3, HP4.out.lt⟩ (fun hHeld => ?_)
  clear hK K
  try simp only [Act.put, List.setIfInBounds_toArray, List.set_cons_zero, List.set_cons_succ]
  ((refine wpAnyH_take (i := 6) (v := ?_) (by (simp only [List.getElem?_toArray, List.getElem?_cons_succ, List.getElem?_cons_zero]); rfl) (by kernel_rfl) (by kernel_rfl) (by kernel_rfl) (by exact fun _ _ _ h => h) (Or.inl ⟨by rfl, ?_⟩) (by assumption) ?_); rotate_left; focus (intro wS hSw; (try dsimp only at hSw); go_simp; first | done | with_reducible rfl); try simp only [Act.put, List.setIfInBounds_toArray, List.set_cons_zero, List.set_cons_succ])
  ((refine wpAnyH_take (i := 7) (v := ?_) (by (simp only [List.getElem?_toArray, List.getElem?_cons_succ, List.getElem?_cons_zero]); rfl) (by kernel_rfl) (by kernel_rfl) (by kernel_rfl) (by exact fun _ _ _ h => h) (Or.inl ⟨by rfl, ?_⟩) (by assumption) ?_); rotate_left; focus (intro wS hSw; (try dsimp only at hSw); go_simp; first | done | with_reducible rfl); try simp only [Act.put, List.setIfInBounds_toArray, List.set_cons_zero, List.set_cons_succ])
  refine wpAnyH_done (by kernel_rfl) ?_ _
  go_upto_region 8 with fail
  have HP5 : Hid (Blk W4.drew N #[.int .i64 num, .int .i64 t, .int .i64 c, .slice a ln ca] 53) := Lib.hid HP4.out
  have HQ5 : Hid (FqIn W4.drew D R o room f (n + 1) by_ dr (putE E n ⟨num, t, c, a', ln, c', b', 0, X⟩)) := Lib.hid (HQ4.out.below ((Below.refl _ _).drew : Below W4.heap.size W4 W4.drew))
  have HF5 : Hid (Fr [D, R] w W4.drew) := Lib.hid HF4.out.drew
  have p0 : W4.cell? ⟨N, 0, none⟩ = some (.int .i64 num) := cell_at HP4.out 0
  have p1 : W4.cell? ⟨N, 1, none⟩ = some (.int .i64 t) := cell_at HP4.out 1
  have p2 : W4.cell? ⟨N, 2, none⟩ = some (.int .i64 c) := cell_at HP4.out 2
  have p3 : W4.cell? ⟨N, 3, none⟩ = some (.slice a ln ca) := cell_at HP4.out 3
  have pN : N < W4.heap.size := HP4.out.lt
  have k3 : W4.cell? ⟨D, 3, none⟩ = some (.int .i64 by_) := cell_at HQ4.out.own 3
  have z3 := free_at HQ4.out.own 3
  have hDW : D < W4.heap.size := HQ4.out.own.lt
  have hnD : D ≠ N := by omega
  have hw : IntKind.i64.wrap (by_ + (8 + (ln : Int))) = by_ + (8 + (ln : Int)) := by rw [IntKind.wrap_i64]; omega
  refine wp_region_held_drew (S := fun X => X.cell? ⟨N, 0, none⟩ = some (.int .i64 num) ∧ X.cell? ⟨N, 1, none⟩ = some (.int .i64 t) ∧ X.cell? ⟨N, 2, none⟩ = some (.int .i64 c) ∧ X.cell? ⟨N, 3, none⟩ = some (.slice a ln ca) ∧ N < X.heap.size) (by kernel_rfl) ⟨cell_at HP5.out 0, cell_at HP5.out 1, cell_at HP5.out 2, cell_at HP5.out 3, HP5.out.lt⟩ (fun hHeld => ?_)
  ((refine wpAnyH_take (i := 0) (v := ?_) (by (simp only [List.getElem?_toArray, List.getElem?_cons_succ, List.getElem?_cons_zero]); rfl) (by kernel_rfl) (by kernel_rfl) (by kernel_rfl) (by exact fun _ _ _ h => h) (Or.inl ⟨by rfl, ?_⟩) (by assumption) ?_); rotate_left; focus (intro wS hSw; (try dsimp only at hSw); go_simp; first | done | with_reducible rfl); try simp only [Act.put, List.setIfInBounds_toArray, List.set_cons_zero, List.set_cons_succ])
  ((refine wpAnyH_take (i := 1) (v := ?_) (by (simp only [List.getElem?_toArray, List.getElem?_cons_succ, List.getElem?_cons_zero]); rfl) (by kernel_rfl) (by kernel_rfl) (by kernel_rfl) (by exact fun _ _ _ h => h) (Or.inl ⟨by rfl, ?_⟩) (by assumption) ?_); rotate_left; focus (intro wS hSw; (try dsimp only at hSw); go_simp; first | done | with_reducible rfl); try simp only [Act.put, List.setIfInBounds_toArray, List.set_cons_zero, List.set_cons_succ])
  ((refine wpAnyH_take (i := 2) (v := ?_) (by (simp only [List.getElem?_toArray, List.getElem?_cons_succ, List.getElem?_cons_zero]); rfl) (by kernel_rfl) (by kernel_rfl) (by kernel_rfl) (by exact fun _ _ _ h => h) (Or.inl ⟨by rfl, ?_⟩) (by assumption) ?_); rotate_left; focus (intro wS hSw; (try dsimp only at hSw); go_simp; first | done | with_reducible rfl); try simp only [Act.put, List.setIfInBounds_toArray, List.set_cons_zero, List.set_cons_succ])
  ((refine wpAnyH_take (i := 4) (v := ?_) (by (simp only [List.getElem?_toArray, List.getElem?_cons_succ, List.getElem?_cons_zero]); rfl) (by kernel_rfl) (by kernel_rfl) (by kernel_rfl) (by exact fun _ _ _ h => h) (Or.inl ⟨by rfl, ?_⟩) (by assumption) ?_); rotate_left; focus (intro wS hSw; (try dsimp only at hSw); go_simp; first | done | with_reducible rfl); try simp only [Act.put, List.setIfInBounds_toArray, List.set_cons_zero, List.set_cons_succ])
  refine wpAnyH_ready (rs := [3, 5]) (by kernel_rfl) (by simp) ?_
  refine AllReadyH.cons (by (simp only [List.getElem?_toArray, List.getElem?_cons_succ, List.getElem?_cons_zero]); rfl) (fun K hK => ?_) (AllReadyH.cons (by (simp only [List.getElem?_toArray, List.getElem?_cons_succ, List.getElem?_cons_zero]); rfl) (fun K hK => ?_) AllReadyH.nil)
  · go_simp
    refine hK.out _ _ ⟨cell_at HP5.out 0, cell_at HP5.out 1, cell_at HP5.out 2, cell_at HP5.out 3, HP5.out.lt⟩ (fun hHeld => ?_)
    clear hK K
    try simp only [Act.put, List.setIfInBounds_toArray, List.set_cons_zero, List.set_cons_succ]
    ((refine wpAnyH_ready (rs := [5]) (by kernel_rfl) (by simp) ?_); (refine AllReadyH.cons (by (simp only [List.getElem?_toArray, List.getElem?_cons_succ, List.getElem?_cons_zero]); rfl) (fun K hK => ?_) AllReadyH.nil); go_simp; refine Calls.mono (fsize_any _ _ _ _ _ _ _ (by omega)) ?_)
    rintro e W6 ⟨rfl, hB6⟩
    have HP6 := Lib.hid (HP5.out.step hB6)
    have HQ6 := Lib.hid (HQ5.out.below hB6)
    have HF6 : Hid (Fr [D, R] w W6) := Lib.hid (HF5.out.trans (Fr.of_below hB6) (by simp))
    have HG6 : Hid (Fr [D, R] W3 W6) := Lib.hid (HG4.out.drew.trans (Fr.of_below hB6) (by simp))
    have k6 : W6.cell? ⟨D, 3, none⟩ = some (.int .i64 by_) := cell_at HQ6.out.own 3
    have z6 := free_at HQ6.out.own 3
    have hD6 : D < W6.heap.size := HQ6.out.own.lt
    clear hB6
    go_wp2_with fail
    refine hK.out _ _ ⟨cell_at HP6.out 0, cell_at HP6.out 1, cell_at HP6.out 2, cell_at HP6.out 3, HP6.out.lt⟩ (fun hHeld => ?_)
    clear hK K
    try simp only [Act.put, List.setIfInBounds_toArray, List.set_cons_zero, List.set_cons_succ]
    ((refine wpAnyH_take (i := 6) (v := ?_) (by (simp only [List.getElem?_toArray, List.getElem?_cons_succ, List.getElem?_cons_zero]); rfl) (by kernel_rfl) (by kernel_rfl) (by kernel_rfl) (by exact fun _ _ _ h => h) (Or.inl ⟨by rfl, ?_⟩) (by assumption) ?_); rotate_left; focus (intro wS hSw; (try dsimp only at hSw); go_simp; first | done | with_reducible rfl); try simp only [Act.put, List.setIfInBounds_toArray, List.set_cons_zero, List.set_cons_succ])
    ((refine wpAnyH_take (i := 7) (v := ?_) (by (simp only [List.getElem?_toArray, List.getElem?_cons_succ, List.getElem?_cons_zero]); rfl) (by kernel_rfl) (by kernel_rfl) (by kernel_rfl) (by exact fun _ _ _ h => h) (Or.inl ⟨by rfl, ?_⟩) (by assumption) ?_); rotate_left; focus (intro wS hSw; (try dsimp only at hSw); go_simp; first | done | with_reducible rfl); try simp only [Act.put, List.setIfInBounds_toArray, List.set_cons_zero, List.set_cons_succ])
    ((refine wpAnyH_take (i := 8) (v := ?_) (by (simp only [List.getElem?_toArray, List.getElem?_cons_succ, List.getElem?_cons_zero]); rfl) (by kernel_rfl) (by kernel_rfl) (by kernel_rfl) (by exact fun _ _ _ h => h) (Or.inl ⟨by rfl, ?_⟩) (by assumption) ?_); rotate_left; focus (intro wS hSw; (try dsimp only at hSw); go_simp; first | done | with_reducible rfl); try simp only [Act.put, List.setIfInBounds_toArray, List.set_cons_zero, List.set_cons_succ])
    refine wpAnyH_ready (rs := [9]) (by kernel_rfl) (by simp) ?_
    refine AllReadyH.cons (by (simp only [List.getElem?_toArray, List.getElem?_cons_succ, List.getElem?_cons_zero]); rfl) (fun K hK => ?_) AllReadyH.nil
    go_simp
    have HP7 := Lib.hid (HP6.out.ne ⟨D, 3, none⟩ hnD.symm (.int .i64 (by_ + (8 + (ln : Int)))))
    have HQ7 := Lib.hid (HQ6.out.bytes (by_ + (8 + (ln : Int))))
    have HG7 := Lib.hid (HG6.out.setCell ⟨D, 3, none⟩ (.inl (by simp)) (.int .i64 (by_ + (8 + (ln : Int)))))
    have HF7 := Lib.hid (HF6.out.setCell ⟨D, 3, none⟩ (.inl (by simp)) (.int .i64 (by_ + (8 + (ln : Int)))))
    refine hK.out _ _ ⟨cell_at HP7.out 0, cell_at HP7.out 1, cell_at HP7.out 2, cell_at HP7.out 3, HP7.out.lt⟩ (fun hHeld => ?_)
    clear hK K
    try simp only [Act.put, List.setIfInBounds_toArray, List.set_cons_zero, List.set_cons_succ]
    refine wpAnyH_done (by kernel_rfl) ?_ _
    go_wp2_with fail
    go_ret
    exact ⟨rfl, ⟨a', c', b', (fun h0 => ⟨HFR3.out h0, by obtain ⟨n1, n2, cs, hb⟩ := HT3.out h0; exact ⟨cs, (HG7.out.block _ hb.lt (by simp [n1, n2])).trans hb⟩⟩), HQ7.out⟩, HF7.out⟩
  · go_simp
    refine Calls.mono (fsize_any _ _ _ _ _ _ _ (by omega)) ?_
    rintro e W6 ⟨rfl, hB6⟩
    have HP6 := Lib.hid (HP5.out.step hB6)
    have HQ6 := Lib.hid (HQ5.out.below hB6)
    have HF6 : Hid (Fr [D, R] w W6) := Lib.hid (HF5.out.trans (Fr.of_below hB6) (by simp))
    have HG6 : Hid (Fr [D, R] W3 W6) := Lib.hid (HG4.out.drew.trans (Fr.of_below hB6) (by simp))
    have k6 : W6.cell? ⟨D, 3, none⟩ = some (.int .i64 by_) := cell_at HQ6.out.own 3
    have z6 := free_at HQ6.out.own 3
    have hD6 : D < W6.heap.size := HQ6.out.own.lt
    clear hB6
    go_wp2_with fail
    refine hK.out _ _ ⟨cell_at HP6.out 0, cell_at HP6.out 1, cell_at HP6.out 2, cell_at HP6.out 3, HP6.out.lt⟩ (fun hHeld => ?_)
    clear hK K
    try simp only [Act.put, List.setIfInBounds_toArray, List.set_cons_zero, List.set_cons_succ]
    refine wpAnyH_ready (rs := [3]) (by kernel_rfl) (by simp) ?_
    refine AllReadyH.cons (by (simp only [List.getElem?_toArray, List.getElem?_cons_succ, List.getElem?_cons_zero]); rfl) (fun K hK => ?_) AllReadyH.nil
    go_simp
    refine hK.out _ _ ⟨cell_at HP6.out 0, cell_at HP6.out 1, cell_at HP6.out 2, cell_at HP6.out 3, HP6.out.lt⟩ (fun hHeld => ?_)
    clear hK K
    try simp only [Act.put, List.setIfInBounds_toArray, List.set_cons_zero, List.set_cons_succ]
    ((refine wpAnyH_take (i := 6) (v := ?_) (by (simp only [List.getElem?_toArray, List.getElem?_cons_succ, List.getElem?_cons_zero]); rfl) (by kernel_rfl) (by kernel_rfl) (by kernel_rfl) (by exact fun _ _ _ h => h) (Or.inl ⟨by rfl, ?_⟩) (by assumption) ?_); rotate_left; focus (intro wS hSw; (try dsimp only at hSw); go_simp; first | done | with_reducible rfl); try simp only [Act.put, List.setIfInBounds_toArray, List.set_cons_zero, List.set_cons_succ])
    ((refine wpAnyH_take (i := 7) (v := ?_) (by (simp only [List.getElem?_toArray, List.getElem?_cons_succ, List.getElem?_cons_zero]); rfl) (by kernel_rfl) (by kernel_rfl) (by kernel_rfl) (by exact fun _ _ _ h => h) (Or.inl ⟨by rfl, ?_⟩) (by assumption) ?_); rotate_left; focus (intro wS hSw; (try dsimp only at hSw); go_simp; first | done | with_reducible rfl); try simp only [Act.put, List.setIfInBounds_toArray, List.set_cons_zero, List.set_cons_succ])
    ((refine wpAnyH_take (i := 8) (v := ?_) (by (simp only [List.getElem?_toArray, List.getElem?_cons_succ, List.getElem?_cons_zero]); rfl) (by kernel_rfl) (by kernel_rfl) (by kernel_rfl) (by exact fun _ _ _ h => h) (Or.inl ⟨by rfl, ?_⟩) (by assumption) ?_); rotate_left; focus (intro wS hSw; (try dsimp only at hSw); go_simp; first | done | with_reducible rfl); try simp only [Act.put, List.setIfInBounds_toArray, List.set_cons_zero, List.set_cons_succ])
    refine wpAnyH_ready (rs := [9]) (by kernel_rfl) (by simp) ?_
    refine AllReadyH.cons (by (simp only [List.getElem?_toArray, List.getElem?_cons_succ, List.getElem?_cons_zero]); rfl) (fun K hK => ?_) AllReadyH.nil
    go_simp
    have HP7 := Lib.hid (HP6.out.ne ⟨D, 3, none⟩ hnD.symm (.int .i64 (by_ + (8 + (ln : Int)))))
    have HQ7 := Lib.hid (HQ6.out.bytes (by_ + (8 + (ln : Int))))
    have HG7 := Lib.hid (HG6.out.setCell ⟨D, 3, none⟩ (.inl (by simp)) (.int .i64 (by_ + (8 + (ln : Int)))))
    have HF7 := Lib.hid (HF6.out.setCell ⟨D, 3, none⟩ (.inl (by simp)) (.int .i64 (by_ + (8 + (ln : Int)))))
    refine hK.out _ _ ⟨cell_at HP7.out 0, cell_at HP7.out 1, cell_at HP7.out 2, cell_at HP7.out 3, HP7.out.lt⟩ (fun hHeld => ?_)
    clear hK K
    try simp only [Act.put, List.setIfInBounds_toArray, List.set_cons_zero, List.set_cons_succ]
    refine wpAnyH_done (by kernel_rfl) ?_ _
    go_wp2_with fail
    go_ret
    exact ⟨rfl, ⟨a', c', b', (fun h0 => ⟨HFR3.out h0, by obtain ⟨n1, n2, cs, hb⟩ := HT3.out h0; exact ⟨cs, (HG7.out.block _ hb.lt (by simp [n1, n2])).trans hb⟩⟩), HQ7.out⟩, HF7.out⟩
end Go.Proofs.Ytoodmocapagapaa
namespace Go.Proofs.Ytoodmocapagapaa
open Go.RowKit
set_option linter.unusedSimpArgs false
set_option linter.unusedVariables false

theorem next_ok (V : Int) (ft n c2 : Nat) (T : Nat → TagsE) (k : Nat) (m wt al : Int) (w : World) (hs : TagsIn w (some ⟨ft, 0, none⟩) n c2 ft 0 T) (hn : n ≤ 8) (hk : k < n) (hg : goodTag V n T k (costS m wt al) (T k).f = true) :
    Calls Try.prog 63 #[.agg #[.int .i64 V, .slice (some ⟨ft, 0, none⟩) n c2], .int .i64 k, .int .i64 m, .int .i64 wt, .int .i64 al] w fun e w' => ∃ ft' c', e = .returned (.tuple #[.agg #[.int .i64 V, .slice (some ⟨ft', 0, none⟩) n c'], .int .i64 0]) ∧ Row w' (.slice (some ⟨ft', 0, none⟩) n c') (some ft') 129 2 n (tagsL (updT T k ⟨(T k).f, (T k).f + costS m wt al⟩) n) ∧ w.heap.size ≤ ft' ∧ Below w.heap.size w w' := by
  refine (next_any V _ n c2 ft 0 T k m wt al w hs (by omega)).mono fun e w' h => ?_
  unfold TagP at h
  simp only [headF, Int.toNat_natCast] at h
  rw [hg] at h
  obtain ⟨v, rfl, hv⟩ := h
  obtain ⟨ft', c', rfl, h1, h2, h3⟩ := vout_own hv (by omega)
  exact ⟨ft', c', rfl, h1, h2, h3⟩
theorem wake_ok (V : Int) (ft n c2 : Nat) (T : Nat → TagsE) (k : Nat) (m wt al : Int) (w : World) (hs : TagsIn w (some ⟨ft, 0, none⟩) n c2 ft 0 T) (hn : n ≤ 8) (hk : k < n) (hg : goodTag V n T k (costS m wt al) (max (T k).f V) = true) :
    Calls Try.prog 64 #[.agg #[.int .i64 V, .slice (some ⟨ft, 0, none⟩) n c2], .int .i64 k, .int .i64 m, .int .i64 wt, .int .i64 al] w fun e w' => ∃ ft' c', e = .returned (.tuple #[.agg #[.int .i64 V, .slice (some ⟨ft', 0, none⟩) n c'], .int .i64 0]) ∧ Row w' (.slice (some ⟨ft', 0, none⟩) n c') (some ft') 129 2 n (tagsL (updT T k ⟨max (T k).f V, max (T k).f V + costS m wt al⟩) n) ∧ w.heap.size ≤ ft' ∧ Below w.heap.size w w' := by
  refine (wake_any V _ n c2 ft 0 T k m wt al w hs (by omega)).mono fun e w' h => ?_
  unfold TagP at h
  simp only [headF, Int.toNat_natCast] at h
  rw [hg] at h
  obtain ⟨v, rfl, hv⟩ := h
  obtain ⟨ft', c', rfl, h1, h2, h3⟩ := vout_own hv (by omega)
  exact ⟨ft', c', rfl, h1, h2, h3⟩
/-- a flow's tags end where they start -/
theorem FrAt.cut {W W' : World} {M g fo ft n c1 c2 : Nat} {wt : Nat → Int} {al : Int} {s : FS} (h : FrAt W M g fo ft n c1 c2 wt al s) {k : Nat} (hk : k < n) (hW : W' = W.setCell ⟨ft, k * 2 + 1, none⟩ (.int .i64 (s.T k).s)) : FrAt W' M g fo ft n c1 c2 wt al ⟨s.V, updT s.T k ⟨(s.T k).s, (s.T k).s⟩, s.z, s.sv⟩ ∧ BF M W W' ∧ Fr [ft] W W' := by
  have hf : Fr [ft] W W' := by rw [hW]; exact (Fr.refl _ _).setCell _ (.inl (by simp)) _
  have hne := h.ne
  refine ⟨⟨(hf.block g h.blk.lt (by simpa using hne.2.1)).trans h.blk, h.fl.fr hf (by simpa using hne.2.2), h.cp, ?_, h.ge⟩, h.frame hf (by simp), hf⟩
  have h1 := h.tg.set (k * 2 + 1) (.int .i64 (s.T k).s)
  rw [← hW] at h1
  have hl : (tagsL s.T n).set (k * 2 + 1) (.int .i64 (s.T k).s) = tagsL (updT s.T k ⟨(s.T k).s, (s.T k).s⟩) n := by
    rw [← tagsL_upd s.T k _ _ n hk]
    congr 1
    have hg : (tagsL s.T n)[k * 2]? = some (.int .i64 (s.T k).s) := by
      have := tagsL_at s.T n k 0 hk (by omega)
      simpa [TagsE.cells] using this
    apply List.ext_getElem?
    intro i
    rw [List.getElem?_set]
    by_cases hi : k * 2 = i
    · subst hi
      rw [if_pos rfl, hg]
      have := (List.getElem?_eq_some_iff.1 hg).1
      rw [if_pos this]
    · rw [if_neg hi]
  rw [hl] at h1
  exact h1
structure HrP (M g fo ft n c1 : Nat) (wt : Nat → Int) (al : Int) (s' : FS) (w w' : World) : Prop where
  ex : ∃ ft' c', FrAt w' M g fo ft' n c1 c' wt al s' ∧ Fr [g, fo, ft] w w' ∧ (ft' = ft ∨ w.heap.size ≤ ft')
  b : BF M w w'
theorem hearS_T (wt al : Int) (k : Nat) (m : Int) (s : FS) (T : Nat → TagsE) (h : (if hNew k m s = true then updT (hT1 k m s) k ⟨hAt k m s, hAt k m s + costS m wt al⟩ else hT1 k m s) = T) : hearS wt al k m s = ⟨s.V, T, upf s.z k m, upf s.sv k false⟩ := by
  unfold hearS
  rw [h]
set_option maxRecDepth 100000 in
set_option maxHeartbeats 8000000 in
theorem hear_n (k : Nat) (m : Int) (M g fo ft n c1 c2 : Nat) (wt : Nat → Int) (al : Int) (s : FS) (w : World) (h : FrAt w M g fo ft n c1 c2 wt al s) (hi : Inv n s) (hw : WtOk n wt al) (hk : k < n) (hm : 0 ≤ m ∧ m ≤ 1500) (hc : (s.sv k = true ∧ m = 0) ∨ (s.sv k = false ∧ s.z k = m)) :
    Calls Try.prog 51 #[.pointer (some ⟨g, 0, none⟩), .int .i64 k, .pointer (some ⟨fo, k * 3, none⟩), .int .i64 m] w fun e w' => e = .returned (.tuple #[]) ∧ HrP M g fo ft n c1 wt al (hearS (wt k) al k m s) w w' := by
  have hn8 := hi.n8
  have hwk := hw.w k hk
  have hzk := (hi.k k hk).z0
  obtain ⟨f0, f1, f2, fz⟩ := h.fl.cell hk
  have fl := h.fl.lt
  obtain ⟨WT, hWT⟩ : ∃ x, x = wt k := ⟨_, rfl⟩
  obtain ⟨Z, hZ⟩ : ∃ x, x = s.z k := ⟨_, rfl⟩
  rw [← hWT] at f0 hwk
  rw [← hZ] at f1 hzk
  have w1 : IntKind.i64.wrap WT = WT := IntWalk.i64_in _ (by omega)
  have w2 : IntKind.i64.wrap Z = Z := IntWalk.i64_in _ (by omega)
  have w3 : IntKind.u16.wrap m = m := by first | exact IntWalk.u16_in _ (by omega) | (simp [IntKind.wrap]; omega)
  have HH := Lib.hid h
  have HI := Lib.hid hi
  have HW := Lib.hid hw
  have HK := Lib.hid hk
  have HM := Lib.hid hm
  have HWT := Lib.hid hWT
  have HZ := Lib.hid hZ
  have HE := Lib.hid (hearS_T (wt k) al k m s s.T (by
    rcases hc with ⟨h1, h2⟩ | ⟨h1, h2⟩
    · unfold hNew hT1; simp [h1, h2]
    · unfold hNew hT1; simp [h1, h2]))
  have HBB : Hid (BF M w w) := Lib.hid (BF.refl _ _)
  have HFF : Hid (Fr [g, fo, ft] w w) := Lib.hid (Fr.refl _ _)
  rw [← hZ] at hc
  rcases hc with ⟨hs, h0⟩ | ⟨hs, h0⟩
  · rw [hs] at f2
    have d1 : decide (0 < m) = false := decide_eq_false (by omega)
    clear hi hw hm h hWT hZ hn8 hwk hzk h0
    go_enter Try.func51, Try.ntmps51
    go_upto_region 8 with fail
    clear f0 f1 f2 fz fl w3
    obtain ⟨W8, hW8⟩ : ∃ W, W = (w.setCell ⟨fo, k * 3 + 1, none⟩ (.int .u16 m)).setCell ⟨fo, k * 3 + 2, none⟩ (.bool false) := ⟨_, rfl⟩
    obtain ⟨p8, q8⟩ := HH.out.fl.put HK.out m false hW8
    have hne8 := HH.out.ne
    have HR := Lib.hid (show FrAt W8 M g fo _ n c1 _ wt al (hearS (wt k) al k m s) ∧ BF M w W8 from ⟨by
      rw [HE.out]
      exact ⟨(q8.block g HH.out.blk.lt (by simpa using hne8.1)).trans HH.out.blk, p8, HH.out.cp, HH.out.tg.congr fun q e => by obtain rfl := Option.some.inj e; exact q8.block _ HH.out.tg.lt (by simpa using fun e => hne8.2.2 e.symm), HH.out.ge⟩, HBB.out.trans (HH.out.frame q8 (by simp))⟩)
    obtain ⟨g0, g1, g2, gz⟩ := HH.out.fl.cell HK.out
    have gl := HH.out.fl.lt
    have w3 : IntKind.u16.wrap m = m := IntWalk.u16_in _ (by have := HM.out; omega)
    have HF8 := Lib.hid (HFF.out.trans q8 (by simp))
    clear p8 q8 hne8 g0
    go_wp2_with fail
    rw [← hW8]
    go_end0
    exact ⟨rfl, ⟨_, _, HR.out.1, HF8.out, (Or.inl rfl)⟩, HR.out.2⟩
  · rw [hs] at f2
    have d1 : (m == Z) = true := by simp [h0]
    have d2 : (m != Z) = false := by simp [h0]
    clear hi hw hm h hWT hZ hn8 hwk hzk h0
    go_enter Try.func51, Try.ntmps51
    go_upto_region 8 with fail
    clear f0 f1 f2 fz fl w3
    obtain ⟨W8, hW8⟩ : ∃ W, W = (w.setCell ⟨fo, k * 3 + 1, none⟩ (.int .u16 m)).setCell ⟨fo, k * 3 + 2, none⟩ (.bool false) := ⟨_, rfl⟩
    obtain ⟨p8, q8⟩ := HH.out.fl.put HK.out m false hW8
    have hne8 := HH.out.ne
    have HR := Lib.hid (show FrAt W8 M g fo _ n c1 _ wt al (hearS (wt k) al k m s) ∧ BF M w W8 from ⟨by
      rw [HE.out]
      exact ⟨(q8.block g HH.out.blk.lt (by simpa using hne8.1)).trans HH.out.blk, p8, HH.out.cp, HH.out.tg.congr fun q e => by obtain rfl := Option.some.inj e; exact q8.block _ HH.out.tg.lt (by simpa using fun e => hne8.2.2 e.symm), HH.out.ge⟩, HBB.out.trans (HH.out.frame q8 (by simp))⟩)
    obtain ⟨g0, g1, g2, gz⟩ := HH.out.fl.cell HK.out
    have gl := HH.out.fl.lt
    have w3 : IntKind.u16.wrap m = m := IntWalk.u16_in _ (by have := HM.out; omega)
    have HF8 := Lib.hid (HFF.out.trans q8 (by simp))
    clear p8 q8 hne8 g0
    go_wp2_with fail
    rw [← hW8]
    go_end0
    exact ⟨rfl, ⟨_, _, HR.out.1, HF8.out, (Or.inl rfl)⟩, HR.out.2⟩
set_option maxRecDepth 100000 in
set_option maxHeartbeats 8000000 in
theorem hear_a (k : Nat) (m : Int) (M g fo ft n c1 c2 : Nat) (wt : Nat → Int) (al : Int) (s : FS) (w : World) (h : FrAt w M g fo ft n c1 c2 wt al s) (hi : Inv n s) (hw : WtOk n wt al) (hk : k < n) (hm : 0 ≤ m ∧ m ≤ 1500) (hs : s.sv k = true) (h0 : 0 < m) :
    Calls Try.prog 51 #[.pointer (some ⟨g, 0, none⟩), .int .i64 k, .pointer (some ⟨fo, k * 3, none⟩), .int .i64 m] w fun e w' => e = .returned (.tuple #[]) ∧ HrP M g fo ft n c1 wt al (hearS (wt k) al k m s) w w' := by
  have hn8 := hi.n8
  have hwk := hw.w k hk
  have hzk := (hi.k k hk).z0
  obtain ⟨f0, f1, f2, fz⟩ := h.fl.cell hk
  have fl := h.fl.lt
  obtain ⟨WT, hWT⟩ : ∃ x, x = wt k := ⟨_, rfl⟩
  obtain ⟨Z, hZ⟩ : ∃ x, x = s.z k := ⟨_, rfl⟩
  rw [← hWT] at f0 hwk
  rw [← hZ] at f1 hzk
  have w1 : IntKind.i64.wrap WT = WT := IntWalk.i64_in _ (by omega)
  have w2 : IntKind.i64.wrap Z = Z := IntWalk.i64_in _ (by omega)
  have w3 : IntKind.u16.wrap m = m := by first | exact IntWalk.u16_in _ (by omega) | (simp [IntKind.wrap]; omega)
  have HH := Lib.hid h
  have HI := Lib.hid hi
  have HW := Lib.hid hw
  have HK := Lib.hid hk
  have HM := Lib.hid hm
  have HWT := Lib.hid hWT
  have HZ := Lib.hid hZ
  have hnew : hNew k m s = true := by unfold hNew; simp [hs]; omega
  have hT : hT1 k m s = s.T := by unfold hT1; rw [if_neg (by simp [hs])]
  have hA : hAt k m s = (s.T k).f := by unfold hAt; rw [if_pos hs]
  have HE := Lib.hid (hearS_T (wt k) al k m s (updT s.T k ⟨(s.T k).f, (s.T k).f + costS m (wt k) al⟩) (by rw [if_pos hnew, hT, hA]))
  have hg := hear_good hi hk (m := m) (by omega) (hw.w k hk) hw.a hnew
  rw [hT, hA] at hg
  have NX := Lib.hid (fun W hs => next_ok s.V ft n c2 s.T k m (wt k) al W hs hn8 hk hg)
  rw [← hWT] at NX
  have HBB : Hid (BF M w w) := Lib.hid (BF.refl _ _)
  have HFF : Hid (Fr [g, fo, ft] w w) := Lib.hid (Fr.refl _ _)
  rw [hs] at f2
  have d1 : decide (0 < m) = true := decide_eq_true h0
  clear hi hw hm h hZ hn8 hwk hzk h0 hnew hT hA hg hs hWT
  go_enter Try.func51, Try.ntmps51
  go_upto_region 1 with fail
  clear f1 f2 w2 w3 fz fl f0
  refine wp_region_held_drew (S := fun X => X.cell? ⟨g, 1, none⟩ = some (.int .i64 al) ∧ X.cell? ⟨fo, k * 3, none⟩ = some (.int .u8 WT)) (by kernel_rfl) ⟨cell_at HH.out.blk 1, by rw [HWT.out]; exact (HH.out.fl.cell HK.out).1⟩ (fun hHeld => ?_)
  try simp only [Act.put, List.setIfInBounds_toArray, List.set_cons_zero, List.set_cons_succ]
  have Bz := belowN (Below.refl w.heap.size w) 1
  have HX1 : Hid (FrAt w.drew M g fo ft n c1 c2 wt al s) := Lib.hid (HH.out.step Bz)
  have HB1 : Hid (BF M w w.drew) := Lib.hid (HBB.out.trans (BF.new Bz HH.out.size))
  have HF1 : Hid (Fr [g, fo, ft] w w.drew) := Lib.hid (HFF.out.trans (Fr.of_below Bz) (by simp))
  clear Bz
  ((refine wpAnyH_take (i := 0) (v := ?_) (by (simp only [List.getElem?_toArray, List.getElem?_cons_succ, List.getElem?_cons_zero]); rfl) (by kernel_rfl) (by kernel_rfl) (by kernel_rfl) (by exact fun _ _ _ h => h) (Or.inl ⟨by rfl, ?_⟩) (by assumption) ?_); rotate_left; focus (intro wS hSw; (try dsimp only at hSw); go_simp; first | done | with_reducible rfl); try simp only [Act.put, List.setIfInBounds_toArray, List.set_cons_zero, List.set_cons_succ])
  ((refine wpAnyH_take (i := 1) (v := ?_) (by (simp only [List.getElem?_toArray, List.getElem?_cons_succ, List.getElem?_cons_zero]); rfl) (by kernel_rfl) (by kernel_rfl) (by kernel_rfl) (by exact fun _ _ _ h => h) (Or.inl ⟨by rfl, ?_⟩) (by assumption) ?_); rotate_left; focus (intro wS hSw; (try dsimp only at hSw); go_simp; first | done | with_reducible rfl); try simp only [Act.put, List.setIfInBounds_toArray, List.set_cons_zero, List.set_cons_succ])
  ((refine wpAnyH_take (i := 2) (v := ?_) (by (simp only [List.getElem?_toArray, List.getElem?_cons_succ, List.getElem?_cons_zero]); rfl) (by kernel_rfl) (by kernel_rfl) (by kernel_rfl) (by exact fun _ _ _ h => h) (Or.inl ⟨by rfl, ?_⟩) (by assumption) ?_); rotate_left; focus (intro wS hSw; (try dsimp only at hSw); go_simp; first | done | with_reducible rfl); try simp only [Act.put, List.setIfInBounds_toArray, List.set_cons_zero, List.set_cons_succ])
  ((refine wpAnyH_take (i := 3) (v := ?_) (by (simp only [List.getElem?_toArray, List.getElem?_cons_succ, List.getElem?_cons_zero]); rfl) (by kernel_rfl) (by kernel_rfl) (by kernel_rfl) (by exact fun _ _ _ h => h) (Or.inl ⟨by rfl, ?_⟩) (by assumption) ?_); rotate_left; focus (intro wS hSw; (try dsimp only at hSw); go_simp; first | done | with_reducible rfl); try simp only [Act.put, List.setIfInBounds_toArray, List.set_cons_zero, List.set_cons_succ])
  ((refine wpAnyH_take (i := 5) (v := ?_) (by (simp only [List.getElem?_toArray, List.getElem?_cons_succ, List.getElem?_cons_zero]); rfl) (by kernel_rfl) (by kernel_rfl) (by kernel_rfl) (by exact fun _ _ _ h => h) (Or.inl ⟨by rfl, ?_⟩) (by assumption) ?_); rotate_left; focus (intro wS hSw; (try dsimp only at hSw); go_simp; first | done | with_reducible rfl); try simp only [Act.put, List.setIfInBounds_toArray, List.set_cons_zero, List.set_cons_succ])
  ((refine wpAnyH_take (i := 6) (v := ?_) (by (simp only [List.getElem?_toArray, List.getElem?_cons_succ, List.getElem?_cons_zero]); rfl) (by kernel_rfl) (by kernel_rfl) (by kernel_rfl) (by exact fun _ _ _ h => h) (Or.inl ⟨by rfl, ?_⟩) (by assumption) ?_); rotate_left; focus (intro wS hSw; (try dsimp only at hSw); go_simp; first | done | with_reducible rfl); try simp only [Act.put, List.setIfInBounds_toArray, List.set_cons_zero, List.set_cons_succ])
  ((refine wpAnyH_take (i := 7) (v := ?_) (by (simp only [List.getElem?_toArray, List.getElem?_cons_succ, List.getElem?_cons_zero]); rfl) (by kernel_rfl) (by kernel_rfl) (by kernel_rfl) (by exact fun _ _ _ h => h) (Or.inl ⟨by rfl, ?_⟩) (by assumption) ?_); rotate_left; focus (intro wS hSw; (try dsimp only at hSw); go_simp; first | done | with_reducible rfl); try simp only [Act.put, List.setIfInBounds_toArray, List.set_cons_zero, List.set_cons_succ])
  ((refine wpAnyH_take (i := 8) (v := ?_) (by (simp only [List.getElem?_toArray, List.getElem?_cons_succ, List.getElem?_cons_zero]); rfl) (by kernel_rfl) (by kernel_rfl) (by kernel_rfl) (by exact fun _ _ _ h => h) (Or.inl ⟨by rfl, ?_⟩) (by assumption) ?_); rotate_left; focus (intro wS hSw; (try dsimp only at hSw); go_simp; first | done | with_reducible rfl); try simp only [Act.put, List.setIfInBounds_toArray, List.set_cons_zero, List.set_cons_succ])
  ((refine wpAnyH_take (i := 9) (v := ?_) (by (simp only [List.getElem?_toArray, List.getElem?_cons_succ, List.getElem?_cons_zero]); rfl) (by kernel_rfl) (by kernel_rfl) (by kernel_rfl) (by exact fun _ _ _ h => h) (Or.inl ⟨by rfl, ?_⟩) (by assumption) ?_); rotate_left; focus (intro wS hSw; (try dsimp only at hSw); go_simp; first | done | with_reducible rfl); try simp only [Act.put, List.setIfInBounds_toArray, List.set_cons_zero, List.set_cons_succ])
  ((refine wpAnyH_take (i := 10) (v := ?_) (by (simp only [List.getElem?_toArray, List.getElem?_cons_succ, List.getElem?_cons_zero]); rfl) (by kernel_rfl) (by kernel_rfl) (by kernel_rfl) (by exact fun _ _ _ h => h) (Or.inl ⟨by rfl, ?_⟩) (by assumption) ?_); rotate_left; focus (intro wS hSw; (try dsimp only at hSw); go_simp; first | done | with_reducible rfl); try simp only [Act.put, List.setIfInBounds_toArray, List.set_cons_zero, List.set_cons_succ])
  ((refine wpAnyH_take (i := 11) (v := ?_) (by (simp only [List.getElem?_toArray, List.getElem?_cons_succ, List.getElem?_cons_zero]); rfl) (by kernel_rfl) (by kernel_rfl) (by kernel_rfl) (by exact fun _ _ _ h => h) (Or.inl ⟨by rfl, ?_⟩) (by assumption) ?_); rotate_left; focus (intro wS hSw; (try dsimp only at hSw); go_simp; first | done | with_reducible rfl); try simp only [Act.put, List.setIfInBounds_toArray, List.set_cons_zero, List.set_cons_succ])
  ((refine wpAnyH_take (i := 12) (v := ?_) (by (simp only [List.getElem?_toArray, List.getElem?_cons_succ, List.getElem?_cons_zero]); rfl) (by kernel_rfl) (by kernel_rfl) (by kernel_rfl) (by exact fun _ _ _ h => h) (Or.inl ⟨by rfl, ?_⟩) (by assumption) ?_); rotate_left; focus (intro wS hSw; (try dsimp only at hSw); go_simp; first | done | with_reducible rfl); try simp only [Act.put, List.setIfInBounds_toArray, List.set_cons_zero, List.set_cons_succ])
  ((refine wpAnyH_take (i := 13) (v := ?_) (by (simp only [List.getElem?_toArray, List.getElem?_cons_succ, List.getElem?_cons_zero]); rfl) (by kernel_rfl) (by kernel_rfl) (by kernel_rfl) (by exact fun _ _ _ h => h) (Or.inl ⟨by rfl, ?_⟩) (by assumption) ?_); rotate_left; focus (intro wS hSw; (try dsimp only at hSw); go_simp; first | done | with_reducible rfl); try simp only [Act.put, List.setIfInBounds_toArray, List.set_cons_zero, List.set_cons_succ])
  ((refine wpAnyH_take (i := 14) (v := ?_) (by (simp only [List.getElem?_toArray, List.getElem?_cons_succ, List.getElem?_cons_zero]); rfl) (by kernel_rfl) (by kernel_rfl) (by kernel_rfl) (by exact fun _ _ _ h => h) (Or.inl ⟨by rfl, ?_⟩) (by assumption) ?_); rotate_left; focus (intro wS hSw; (try dsimp only at hSw); go_simp; first | done | with_reducible rfl); try simp only [Act.put, List.setIfInBounds_toArray, List.set_cons_zero, List.set_cons_succ])
  ((refine wpAnyH_take (i := 15) (v := ?_) (by (simp only [List.getElem?_toArray, List.getElem?_cons_succ, List.getElem?_cons_zero]); rfl) (by kernel_rfl) (by kernel_rfl) (by kernel_rfl) (by exact fun _ _ _ h => h) (Or.inl ⟨by rfl, ?_⟩) (by assumption) ?_); rotate_left; focus (intro wS hSw; (try dsimp only at hSw); go_simp; first | done | with_reducible rfl); try simp only [Act.put, List.setIfInBounds_toArray, List.set_cons_zero, List.set_cons_succ])
  refine wpAnyH_ready (rs := [4]) (by kernel_rfl) (by simp) ?_
  refine AllReadyH.cons (by (simp only [List.getElem?_toArray, List.getElem?_cons_succ, List.getElem?_cons_zero]); rfl) (fun K hK => ?_) AllReadyH.nil
  have e2 : w.drew.cell? ⟨g, 2, none⟩ = some (.int .i64 s.V) := cell_at HX1.out.blk 2
  have e3 : w.drew.cell? ⟨g, 3, none⟩ = some (.slice (some ⟨ft, 0, none⟩) n c2) := cell_at HX1.out.blk 3
  go_simp
  refine hK _ _ ⟨cell_at HX1.out.blk 1, by rw [HWT.out]; exact (HX1.out.fl.cell HK.out).1⟩ (fun hHeld => ?_)
  clear hK K e2 e3
  try simp only [Act.put, List.setIfInBounds_toArray, List.set_cons_zero, List.set_cons_succ]
  ((refine wpAnyH_ready (rs := [16]) (by kernel_rfl) (by simp) ?_); (refine AllReadyH.cons (by (simp only [List.getElem?_toArray, List.getElem?_cons_succ, List.getElem?_cons_zero]); rfl) (fun K hK => ?_) AllReadyH.nil); go_simp; go_fit (NX.out _ (HX1.out.tags HI.out)))
  rintro e W2 ⟨ft', c', rfl, hr2, hl2, hB2⟩
  have HX2 := Lib.hid (HX1.out.step hB2)
  have HB2 := Lib.hid (HB1.out.trans (BF.new hB2 HX1.out.size))
  have HR2 := Lib.hid hr2
  have HL2 : Hid (M ≤ ft') := Lib.hid (Nat.le_trans HX1.out.size hl2)
  have HF2 := Lib.hid (HF1.out.trans (Fr.of_below hB2) (by simp))
  have HFT : Hid (ft' = ft ∨ w.heap.size ≤ ft') := Lib.hid (.inr (Nat.le_trans HF1.out.size hl2))
  clear hr2 hl2 hB2
  go_wp2_with fail
  refine hK.out _ _ ⟨cell_at HX2.out.blk 1, by rw [HWT.out]; exact (HX2.out.fl.cell HK.out).1⟩ (fun hHeld => ?_)
  clear hK K
  try simp only [Act.put, List.setIfInBounds_toArray, List.set_cons_zero, List.set_cons_succ]
  ((refine wpAnyH_take (i := 17) (v := ?_) (by (simp only [List.getElem?_toArray, List.getElem?_cons_succ, List.getElem?_cons_zero]); rfl) (by kernel_rfl) (by kernel_rfl) (by kernel_rfl) (by exact fun _ _ _ h => h) (Or.inl ⟨by rfl, ?_⟩) (by assumption) ?_); rotate_left; focus (intro wS hSw; (try dsimp only at hSw); go_simp; first | done | with_reducible rfl); try simp only [Act.put, List.setIfInBounds_toArray, List.set_cons_zero, List.set_cons_succ])
  ((refine wpAnyH_take (i := 18) (v := ?_) (by (simp only [List.getElem?_toArray, List.getElem?_cons_succ, List.getElem?_cons_zero]); rfl) (by kernel_rfl) (by kernel_rfl) (by kernel_rfl) (by exact fun _ _ _ h => h) (Or.inl ⟨by rfl, ?_⟩) (by assumption) ?_); rotate_left; focus (intro wS hSw; (try dsimp only at hSw); go_simp; first | done | with_reducible rfl); try simp only [Act.put, List.setIfInBounds_toArray, List.set_cons_zero, List.set_cons_succ])
  ((refine wpAnyH_ready (rs := [19]) (by kernel_rfl) (by simp) ?_); (refine AllReadyH.cons (by (simp only [List.getElem?_toArray, List.getElem?_cons_succ, List.getElem?_cons_zero]); rfl) (fun K hK => ?_) AllReadyH.nil); go_simp; go_fit (set_ok _ _ _ _ M g fo ft n c1 c2 wt al _ _ HX2.out HR2.out HL2.out))
  rintro e W3 ⟨rfl, hx3, hb3, hf3⟩
  have HF3 := Lib.hid (HF2.out.trans hf3 (by simp))
  have HX3 := Lib.hid hx3
  have HB3 := Lib.hid (HB2.out.trans hb3)
  clear hx3 hb3 hf3
  go_wp2_with fail
  refine hK.out _ _ ⟨cell_at HX3.out.blk 1, by rw [HWT.out]; exact (HX3.out.fl.cell HK.out).1⟩ (fun hHeld => ?_)
  clear hK K
  try simp only [Act.put, List.setIfInBounds_toArray, List.set_cons_zero, List.set_cons_succ]
  refine wpAnyH_done (by kernel_rfl) ?_ _
  try simp only [Act.put, List.setIfInBounds_toArray, List.set_cons_zero, List.set_cons_succ]
  rw [HWT.out] at HX3
  go_upto_region 8 with fail
  obtain ⟨W8, hW8⟩ : ∃ W, W = (W3.setCell ⟨fo, k * 3 + 1, none⟩ (.int .u16 m)).setCell ⟨fo, k * 3 + 2, none⟩ (.bool false) := ⟨_, rfl⟩
  obtain ⟨p8, q8⟩ := HX3.out.fl.put HK.out m false hW8
  have hne8 := HX3.out.ne
  have HR := Lib.hid (show FrAt W8 M g fo _ n c1 _ wt al (hearS (wt k) al k m s) ∧ BF M w W8 from ⟨by
    rw [HE.out]
    exact ⟨(q8.block g HX3.out.blk.lt (by simpa using hne8.1)).trans HX3.out.blk, p8, HX3.out.cp, HX3.out.tg.congr fun q e => by obtain rfl := Option.some.inj e; exact q8.block _ HX3.out.tg.lt (by simpa using fun e => hne8.2.2 e.symm), HX3.out.ge⟩, HB3.out.trans (HX3.out.frame q8 (by simp))⟩)
  obtain ⟨g0, g1, g2, gz⟩ := HX3.out.fl.cell HK.out
  have gl := HX3.out.fl.lt
  have w3 : IntKind.u16.wrap m = m := IntWalk.u16_in _ (by have := HM.out; omega)
  have HF8 := Lib.hid (HF3.out.trans q8 (by simp))
  clear p8 q8 hne8 g0
  go_wp2_with fail
  rw [← hW8]
  go_end0
  exact ⟨rfl, ⟨_, _, HR.out.1, HF8.out, HFT.out⟩, HR.out.2⟩
set_option maxRecDepth 100000 in
set_option maxHeartbeats 8000000 in
theorem hear_d (k : Nat) (m : Int) (M g fo ft n c1 c2 : Nat) (wt : Nat → Int) (al : Int) (s : FS) (w : World) (h : FrAt w M g fo ft n c1 c2 wt al s) (hi : Inv n s) (hw : WtOk n wt al) (hk : k < n) (hm : 0 ≤ m ∧ m ≤ 1500) (hs : s.sv k = false) (hzm : s.z k ≠ m) (hz0 : 0 < s.z k) :
    Calls Try.prog 51 #[.pointer (some ⟨g, 0, none⟩), .int .i64 k, .pointer (some ⟨fo, k * 3, none⟩), .int .i64 m] w fun e w' => e = .returned (.tuple #[]) ∧ HrP M g fo ft n c1 wt al (hearS (wt k) al k m s) w w' := by
  have hn8 := hi.n8
  have hwk := hw.w k hk
  have hzk := (hi.k k hk).z0
  obtain ⟨f0, f1, f2, fz⟩ := h.fl.cell hk
  have fl := h.fl.lt
  obtain ⟨WT, hWT⟩ : ∃ x, x = wt k := ⟨_, rfl⟩
  obtain ⟨Z, hZ⟩ : ∃ x, x = s.z k := ⟨_, rfl⟩
  rw [← hWT] at f0 hwk
  rw [← hZ] at f1 hzk
  have w1 : IntKind.i64.wrap WT = WT := IntWalk.i64_in _ (by omega)
  have w2 : IntKind.i64.wrap Z = Z := IntWalk.i64_in _ (by omega)
  have w3 : IntKind.u16.wrap m = m := by first | exact IntWalk.u16_in _ (by omega) | (simp [IntKind.wrap]; omega)
  have HH := Lib.hid h
  have HI := Lib.hid hi
  have HW := Lib.hid hw
  have HK := Lib.hid hk
  have HM := Lib.hid hm
  have HWT := Lib.hid hWT
  have HZ := Lib.hid hZ
  have hT : hT1 k m s = updT s.T k ⟨(s.T k).s, (s.T k).s⟩ := by unfold hT1; rw [if_pos ⟨hs, hzm, hz0⟩]
  obtain ⟨W5, hW5⟩ : ∃ W, W = (w.setCell ⟨ft, k * 2 + 1, none⟩ (.int .i64 (s.T k).s)).drew := ⟨_, rfl⟩
  obtain ⟨hx5', hb5', hf5'⟩ := h.cut hk rfl
  have hx5 := hx5'.step (belowN (Below.refl _ _) 1)
  have hb5 := hb5'.trans (BF.new (belowN (Below.refl _ _) 1) hx5'.size)
  have hW5' : W5 = ((w.setCell ⟨ft, k * 2 + 1, none⟩ (.int .i64 (s.T k).s)).drewN 1) := hW5
  rw [← hW5'] at hx5 hb5
  have HX5 := Lib.hid hx5
  have HB5 := Lib.hid hb5
  have HF5 : Hid (Fr [g, fo, ft] w W5) := Lib.hid (by rw [hW5']; exact (((Fr.refl [g, fo, ft] w).trans hf5' (by simp))).trans (Fr.of_below (belowN (Below.refl _ _) 1)) (by simp))
  clear hW5' hx5' hb5' hf5'
  have e3 : w.cell? ⟨g, 3, none⟩ = some (.slice (some ⟨ft, 0, none⟩) n c2) := cell_at h.blk 3
  obtain ⟨g', eg, _, el4, e4, e5, e6, e7⟩ := own_k h.tg hk
  obtain rfl := Option.some.inj eg
  obtain ⟨SS, hSS⟩ : ∃ x, x = (s.T k).s := ⟨_, rfl⟩
  rw [← hSS] at e4 hW5
  have hgl := h.blk.lt
  have bk1 : (k < n) = True := eq_true hk
  have bk2 : ((k : Int) < (n : Int)) = True := eq_true (by omega)
  have bk0 : ((0 : Int) ≤ (k : Int)) = True := eq_true (by omega)
  have d2 : (m != Z) = true := by rw [hZ]; simp; omega
  have d3 : decide (0 < Z) = true := decide_eq_true (by omega)
  have dz : ∀ j, w.frozen? ⟨ft, j, none⟩ = false := by
    obtain ⟨cs, hb⟩ := blk_row h.tg
    exact fun j => free_at hb j
  have HF1 := Lib.hid f1
  by_cases h0 : 0 < m
  · have hnew : hNew k m s = true := by unfold hNew; simp [hs, hzm]; omega
    have hA : hAt k m s = max (s.T k).s s.V := by unfold hAt; rw [if_neg (by simp [hs]), hT, updT_at]
    have hE := hearS_T (wt k) al k m s (updT (updT s.T k ⟨(s.T k).s, (s.T k).s⟩) k ⟨max (s.T k).s s.V, max (s.T k).s s.V + costS m (wt k) al⟩) (by rw [if_pos hnew, hT, hA])
    have hg := hear_good hi hk (m := m) (by omega) (hw.w k hk) hw.a hnew
    rw [hT, hA] at hg
    have hi5 : ∀ j, j < n → (updT s.T k ⟨(s.T k).s, (s.T k).s⟩ j).ok := fun j hj => by
      have h1 := hi.tok j hj
      by_cases hjk : j = k
      · subst hjk; rw [updT_at]; unfold TagsE.ok at h1 ⊢; exact ⟨h1.1, h1.1⟩
      · rw [updT_ne _ _ hjk]; exact h1
    have hu : (updT s.T k ⟨(s.T k).s, (s.T k).s⟩ k).f = (s.T k).s := by rw [updT_at]
    have NX := Lib.hid (fun W hs => wake_ok s.V ft n c2 (updT s.T k ⟨(s.T k).s, (s.T k).s⟩) k m (wt k) al W hs hn8 hk (by rw [hu]; exact hg))
    rw [hu] at NX
    have HTG : Hid (∀ W, FrAt W M g fo ft n c1 c2 wt al ⟨s.V, updT s.T k ⟨(s.T k).s, (s.T k).s⟩, s.z, s.sv⟩ → TagsIn W (some ⟨ft, 0, none⟩) n c2 ft 0 (updT s.T k ⟨(s.T k).s, (s.T k).s⟩)) := Lib.hid (fun W hx => by
      obtain ⟨a', c', he, ht⟩ := tags_row hx.tg hi5
      injection he with e1 e2 e3
      subst e1 e3
      exact ht)
    rw [← hWT] at NX
    have HE := Lib.hid hE
    rw [hs] at f2
    have d1 : decide (0 < m) = true := decide_eq_true h0
    clear hi hw hm h hZ hn8 hwk hzk h0 hnew hT hA hg hs hWT hzm hz0 hx5 hb5 hSS hi5 hu hE hk HH
    go_enter Try.func51, Try.ntmps51
    go_upto_region 5 with fail
    go_still_tail 17, (by kernel_rfl)
    change wpList _ _ _ _ _ w.drew
    go_upto_region 6 with fail
    rw [← hW5]
    clear hW5 e3 e4 e5 e6 e7 dz
    go_upto_region 7 with fail
    clear f1 f2 w2 w3 fz fl f0
    refine wp_region_held_drew (S := fun X => X.cell? ⟨g, 1, none⟩ = some (.int .i64 al) ∧ X.cell? ⟨fo, k * 3, none⟩ = some (.int .u8 WT)) (by kernel_rfl) ⟨cell_at HX5.out.blk 1, by rw [HWT.out]; exact (HX5.out.fl.cell HK.out).1⟩ (fun hHeld => ?_)
    try simp only [Act.put, List.setIfInBounds_toArray, List.set_cons_zero, List.set_cons_succ]
    have Bz := belowN (Below.refl W5.heap.size W5) 1
    have HX1 : Hid (FrAt W5.drew M g fo ft n c1 c2 wt al ⟨s.V, updT s.T k ⟨(s.T k).s, (s.T k).s⟩, s.z, s.sv⟩) := Lib.hid (HX5.out.step Bz)
    have HB1 : Hid (BF M w W5.drew) := Lib.hid (HB5.out.trans (BF.new Bz HX5.out.size))
    have HF1 : Hid (Fr [g, fo, ft] w W5.drew) := Lib.hid (HF5.out.trans (Fr.of_below Bz) (by simp))
    clear Bz
    ((refine wpAnyH_take (i := 0) (v := ?_) (by (simp only [List.getElem?_toArray, List.getElem?_cons_succ, List.getElem?_cons_zero]); rfl) (by kernel_rfl) (by kernel_rfl) (by kernel_rfl) (by exact fun _ _ _ h => h) (Or.inl ⟨by rfl, ?_⟩) (by assumption) ?_); rotate_left; focus (intro wS hSw; (try dsimp only at hSw); go_simp; first | done | with_reducible rfl); try simp only [Act.put, List.setIfInBounds_toArray, List.set_cons_zero, List.set_cons_succ])
    ((refine wpAnyH_take (i := 1) (v := ?_) (by (simp only [List.getElem?_toArray, List.getElem?_cons_succ, List.getElem?_cons_zero]); rfl) (by kernel_rfl) (by kernel_rfl) (by kernel_rfl) (by exact fun _ _ _ h => h) (Or.inl ⟨by rfl, ?_⟩) (by assumption) ?_); rotate_left; focus (intro wS hSw; (try dsimp only at hSw); go_simp; first | done | with_reducible rfl); try simp only [Act.put, List.setIfInBounds_toArray, List.set_cons_zero, List.set_cons_succ])
    ((refine wpAnyH_take (i := 2) (v := ?_) (by (simp only [List.getElem?_toArray, List.getElem?_cons_succ, List.getElem?_cons_zero]); rfl) (by kernel_rfl) (by kernel_rfl) (by kernel_rfl) (by exact fun _ _ _ h => h) (Or.inl ⟨by rfl, ?_⟩) (by assumption) ?_); rotate_left; focus (intro wS hSw; (try dsimp only at hSw); go_simp; first | done | with_reducible rfl); try simp only [Act.put, List.setIfInBounds_toArray, List.set_cons_zero, List.set_cons_succ])
    ((refine wpAnyH_take (i := 3) (v := ?_) (by (simp only [List.getElem?_toArray, List.getElem?_cons_succ, List.getElem?_cons_zero]); rfl) (by kernel_rfl) (by kernel_rfl) (by kernel_rfl) (by exact fun _ _ _ h => h) (Or.inl ⟨by rfl, ?_⟩) (by assumption) ?_); rotate_left; focus (intro wS hSw; (try dsimp only at hSw); go_simp; first | done | with_reducible rfl); try simp only [Act.put, List.setIfInBounds_toArray, List.set_cons_zero, List.set_cons_succ])
    ((refine wpAnyH_take (i := 5) (v := ?_) (by (simp only [List.getElem?_toArray, List.getElem?_cons_succ, List.getElem?_cons_zero]); rfl) (by kernel_rfl) (by kernel_rfl) (by kernel_rfl) (by exact fun _ _ _ h => h) (Or.inl ⟨by rfl, ?_⟩) (by assumption) ?_); rotate_left; focus (intro wS hSw; (try dsimp only at hSw); go_simp; first | done | with_reducible rfl); try simp only [Act.put, List.setIfInBounds_toArray, List.set_cons_zero, List.set_cons_succ])
    ((refine wpAnyH_take (i := 6) (v := ?_) (by (simp only [List.getElem?_toArray, List.getElem?_cons_succ, List.getElem?_cons_zero]); rfl) (by kernel_rfl) (by kernel_rfl) (by kernel_rfl) (by exact fun _ _ _ h => h) (Or.inl ⟨by rfl, ?_⟩) (by assumption) ?_); rotate_left; focus (intro wS hSw; (try dsimp only at hSw); go_simp; first | done | with_reducible rfl); try simp only [Act.put, List.setIfInBounds_toArray, List.set_cons_zero, List.set_cons_succ])
    ((refine wpAnyH_take (i := 7) (v := ?_) (by (simp only [List.getElem?_toArray, List.getElem?_cons_succ, List.getElem?_cons_zero]); rfl) (by kernel_rfl) (by kernel_rfl) (by kernel_rfl) (by exact fun _ _ _ h => h) (Or.inl ⟨by rfl, ?_⟩) (by assumption) ?_); rotate_left; focus (intro wS hSw; (try dsimp only at hSw); go_simp; first | done | with_reducible rfl); try simp only [Act.put, List.setIfInBounds_toArray, List.set_cons_zero, List.set_cons_succ])
    ((refine wpAnyH_take (i := 8) (v := ?_) (by (simp only [List.getElem?_toArray, List.getElem?_cons_succ, List.getElem?_cons_zero]); rfl) (by kernel_rfl) (by kernel_rfl) (by kernel_rfl) (by exact fun _ _ _ h => h) (Or.inl ⟨by rfl, ?_⟩) (by assumption) ?_); rotate_left; focus (intro wS hSw; (try dsimp only at hSw); go_simp; first | done | with_reducible rfl); try simp only [Act.put, List.setIfInBounds_toArray, List.set_cons_zero, List.set_cons_succ])
    ((refine wpAnyH_take (i := 9) (v := ?_) (by (simp only [List.getElem?_toArray, List.getElem?_cons_succ, List.getElem?_cons_zero]); rfl) (by kernel_rfl) (by kernel_rfl) (by kernel_rfl) (by exact fun _ _ _ h => h) (Or.inl ⟨by rfl, ?_⟩) (by assumption) ?_); rotate_left; focus (intro wS hSw; (try dsimp only at hSw); go_simp; first | done | with_reducible rfl); try simp only [Act.put, List.setIfInBounds_toArray, List.set_cons_zero, List.set_cons_succ])
    ((refine wpAnyH_take (i := 10) (v := ?_) (by (simp only [List.getElem?_toArray, List.getElem?_cons_succ, List.getElem?_cons_zero]); rfl) (by kernel_rfl) (by kernel_rfl) (by kernel_rfl) (by exact fun _ _ _ h => h) (Or.inl ⟨by rfl, ?_⟩) (by assumption) ?_); rotate_left; focus (intro wS hSw; (try dsimp only at hSw); go_simp; first | done | with_reducible rfl); try simp only [Act.put, List.setIfInBounds_toArray, List.set_cons_zero, List.set_cons_succ])
    ((refine wpAnyH_take (i := 11) (v := ?_) (by (simp only [List.getElem?_toArray, List.getElem?_cons_succ, List.getElem?_cons_zero]); rfl) (by kernel_rfl) (by kernel_rfl) (by kernel_rfl) (by exact fun _ _ _ h => h) (Or.inl ⟨by rfl, ?_⟩) (by assumption) ?_); rotate_left; focus (intro wS hSw; (try dsimp only at hSw); go_simp; first | done | with_reducible rfl); try simp only [Act.put, List.setIfInBounds_toArray, List.set_cons_zero, List.set_cons_succ])
    ((refine wpAnyH_take (i := 12) (v := ?_) (by (simp only [List.getElem?_toArray, List.getElem?_cons_succ, List.getElem?_cons_zero]); rfl) (by kernel_rfl) (by kernel_rfl) (by kernel_rfl) (by exact fun _ _ _ h => h) (Or.inl ⟨by rfl, ?_⟩) (by assumption) ?_); rotate_left; focus (intro wS hSw; (try dsimp only at hSw); go_simp; first | done | with_reducible rfl); try simp only [Act.put, List.setIfInBounds_toArray, List.set_cons_zero, List.set_cons_succ])
    ((refine wpAnyH_take (i := 13) (v := ?_) (by (simp only [List.getElem?_toArray, List.getElem?_cons_succ, List.getElem?_cons_zero]); rfl) (by kernel_rfl) (by kernel_rfl) (by kernel_rfl) (by exact fun _ _ _ h => h) (Or.inl ⟨by rfl, ?_⟩) (by assumption) ?_); rotate_left; focus (intro wS hSw; (try dsimp only at hSw); go_simp; first | done | with_reducible rfl); try simp only [Act.put, List.setIfInBounds_toArray, List.set_cons_zero, List.set_cons_succ])
    ((refine wpAnyH_take (i := 14) (v := ?_) (by (simp only [List.getElem?_toArray, List.getElem?_cons_succ, List.getElem?_cons_zero]); rfl) (by kernel_rfl) (by kernel_rfl) (by kernel_rfl) (by exact fun _ _ _ h => h) (Or.inl ⟨by rfl, ?_⟩) (by assumption) ?_); rotate_left; focus (intro wS hSw; (try dsimp only at hSw); go_simp; first | done | with_reducible rfl); try simp only [Act.put, List.setIfInBounds_toArray, List.set_cons_zero, List.set_cons_succ])
    ((refine wpAnyH_take (i := 15) (v := ?_) (by (simp only [List.getElem?_toArray, List.getElem?_cons_succ, List.getElem?_cons_zero]); rfl) (by kernel_rfl) (by kernel_rfl) (by kernel_rfl) (by exact fun _ _ _ h => h) (Or.inl ⟨by rfl, ?_⟩) (by assumption) ?_); rotate_left; focus (intro wS hSw; (try dsimp only at hSw); go_simp; first | done | with_reducible rfl); try simp only [Act.put, List.setIfInBounds_toArray, List.set_cons_zero, List.set_cons_succ])
    refine wpAnyH_ready (rs := [4]) (by kernel_rfl) (by simp) ?_
    refine AllReadyH.cons (by (simp only [List.getElem?_toArray, List.getElem?_cons_succ, List.getElem?_cons_zero]); rfl) (fun K hK => ?_) AllReadyH.nil
    have e2 : W5.drew.cell? ⟨g, 2, none⟩ = some (.int .i64 s.V) := cell_at HX1.out.blk 2
    have e3 : W5.drew.cell? ⟨g, 3, none⟩ = some (.slice (some ⟨ft, 0, none⟩) n c2) := cell_at HX1.out.blk 3
    go_simp
    refine hK _ _ ⟨cell_at HX1.out.blk 1, by rw [HWT.out]; exact (HX1.out.fl.cell HK.out).1⟩ (fun hHeld => ?_)
    clear hK K e2 e3
    try simp only [Act.put, List.setIfInBounds_toArray, List.set_cons_zero, List.set_cons_succ]
    ((refine wpAnyH_ready (rs := [16]) (by kernel_rfl) (by simp) ?_); (refine AllReadyH.cons (by (simp only [List.getElem?_toArray, List.getElem?_cons_succ, List.getElem?_cons_zero]); rfl) (fun K hK => ?_) AllReadyH.nil); go_simp; go_fit (NX.out _ (HTG.out _ HX1.out)))
    rintro e W2 ⟨ft', c', rfl, hr2, hl2, hB2⟩
    have HX2 := Lib.hid (HX1.out.step hB2)
    have HB2 := Lib.hid (HB1.out.trans (BF.new hB2 HX1.out.size))
    have HR2 := Lib.hid hr2
    have HL2 : Hid (M ≤ ft') := Lib.hid (Nat.le_trans HX1.out.size hl2)
    have HF2 := Lib.hid (HF1.out.trans (Fr.of_below hB2) (by simp))
    have HFT : Hid (ft' = ft ∨ w.heap.size ≤ ft') := Lib.hid (.inr (Nat.le_trans HF1.out.size hl2))
    clear hr2 hl2 hB2
    go_wp2_with fail
    refine hK.out _ _ ⟨cell_at HX2.out.blk 1, by rw [HWT.out]; exact (HX2.out.fl.cell HK.out).1⟩ (fun hHeld => ?_)
    clear hK K
    try simp only [Act.put, List.setIfInBounds_toArray, List.set_cons_zero, List.set_cons_succ]
    ((refine wpAnyH_take (i := 17) (v := ?_) (by (simp only [List.getElem?_toArray, List.getElem?_cons_succ, List.getElem?_cons_zero]); rfl) (by kernel_rfl) (by kernel_rfl) (by kernel_rfl) (by exact fun _ _ _ h => h) (Or.inl ⟨by rfl, ?_⟩) (by assumption) ?_); rotate_left; focus (intro wS hSw; (try dsimp only at hSw); go_simp; first | done | with_reducible rfl); try simp only [Act.put, List.setIfInBounds_toArray, List.set_cons_zero, List.set_cons_succ])
    ((refine wpAnyH_take (i := 18) (v := ?_) (by (simp only [List.getElem?_toArray, List.getElem?_cons_succ, List.getElem?_cons_zero]); rfl) (by kernel_rfl) (by kernel_rfl) (by kernel_rfl) (by exact fun _ _ _ h => h) (Or.inl ⟨by rfl, ?_⟩) (by assumption) ?_); rotate_left; focus (intro wS hSw; (try dsimp only at hSw); go_simp; first | done | with_reducible rfl); try simp only [Act.put, List.setIfInBounds_toArray, List.set_cons_zero, List.set_cons_succ])
    ((refine wpAnyH_ready (rs := [19]) (by kernel_rfl) (by simp) ?_); (refine AllReadyH.cons (by (simp only [List.getElem?_toArray, List.getElem?_cons_succ, List.getElem?_cons_zero]); rfl) (fun K hK => ?_) AllReadyH.nil); go_simp; go_fit (set_ok _ _ _ _ M g fo ft n c1 c2 wt al _ _ HX2.out HR2.out HL2.out))
    rintro e W3 ⟨rfl, hx3, hb3, hf3⟩
    have HF3 := Lib.hid (HF2.out.trans hf3 (by simp))
    have HX3 := Lib.hid hx3
    have HB3 := Lib.hid (HB2.out.trans hb3)
    clear hx3 hb3 hf3
    go_wp2_with fail
    refine hK.out _ _ ⟨cell_at HX3.out.blk 1, by rw [HWT.out]; exact (HX3.out.fl.cell HK.out).1⟩ (fun hHeld => ?_)
    clear hK K
    try simp only [Act.put, List.setIfInBounds_toArray, List.set_cons_zero, List.set_cons_succ]
    refine wpAnyH_done (by kernel_rfl) ?_ _
    try simp only [Act.put, List.setIfInBounds_toArray, List.set_cons_zero, List.set_cons_succ]
    rw [HWT.out] at HX3
    go_upto_region 8 with fail
    obtain ⟨W8, hW8⟩ : ∃ W, W = (W3.setCell ⟨fo, k * 3 + 1, none⟩ (.int .u16 m)).setCell ⟨fo, k * 3 + 2, none⟩ (.bool false) := ⟨_, rfl⟩
    obtain ⟨p8, q8⟩ := HX3.out.fl.put HK.out m false hW8
    have hne8 := HX3.out.ne
    have HR := Lib.hid (show FrAt W8 M g fo _ n c1 _ wt al (hearS (wt k) al k m s) ∧ BF M w W8 from ⟨by
      rw [HE.out]
      exact ⟨(q8.block g HX3.out.blk.lt (by simpa using hne8.1)).trans HX3.out.blk, p8, HX3.out.cp, HX3.out.tg.congr fun q e => by obtain rfl := Option.some.inj e; exact q8.block _ HX3.out.tg.lt (by simpa using fun e => hne8.2.2 e.symm), HX3.out.ge⟩, HB3.out.trans (HX3.out.frame q8 (by simp))⟩)
    obtain ⟨g0, g1, g2, gz⟩ := HX3.out.fl.cell HK.out
    have gl := HX3.out.fl.lt
    have w3 : IntKind.u16.wrap m = m := IntWalk.u16_in _ (by have := HM.out; omega)
    have HF8 := Lib.hid (HF3.out.trans q8 (by simp))
    clear p8 q8 hne8 g0
    go_wp2_with fail
    rw [← hW8]
    go_end0
    exact ⟨rfl, ⟨_, _, HR.out.1, HF8.out, HFT.out⟩, HR.out.2⟩
  · have h00 : m = 0 := by omega
    have hnew : hNew k m s = false := by unfold hNew; simp [h00]
    have HE := Lib.hid (hearS_T (wt k) al k m s (updT s.T k ⟨(s.T k).s, (s.T k).s⟩) (by rw [if_neg (by rw [hnew]; simp), hT]))
    rw [hs] at f2
    have d1 : decide (0 < m) = false := decide_eq_false h0
    clear hi hw hm h hZ hn8 hwk hzk h0 hnew hT hs hWT hzm hz0 hx5 hb5 hSS hk h00 HH
    go_enter Try.func51, Try.ntmps51
    go_upto_region 5 with fail
    go_still_tail 17, (by kernel_rfl)
    change wpList _ _ _ _ _ w.drew
    go_upto_region 6 with fail
    rw [← hW5]
    clear hW5 e3 e4 e5 e6 e7 dz
    go_upto_region 8 with fail
    clear f0 f1 f2 fz fl w3
    obtain ⟨W8, hW8⟩ : ∃ W, W = (W5.setCell ⟨fo, k * 3 + 1, none⟩ (.int .u16 m)).setCell ⟨fo, k * 3 + 2, none⟩ (.bool false) := ⟨_, rfl⟩
    obtain ⟨p8, q8⟩ := HX5.out.fl.put HK.out m false hW8
    have hne8 := HX5.out.ne
    have HR := Lib.hid (show FrAt W8 M g fo _ n c1 _ wt al (hearS (wt k) al k m s) ∧ BF M w W8 from ⟨by
      rw [HE.out]
      exact ⟨(q8.block g HX5.out.blk.lt (by simpa using hne8.1)).trans HX5.out.blk, p8, HX5.out.cp, HX5.out.tg.congr fun q e => by obtain rfl := Option.some.inj e; exact q8.block _ HX5.out.tg.lt (by simpa using fun e => hne8.2.2 e.symm), HX5.out.ge⟩, HB5.out.trans (HX5.out.frame q8 (by simp))⟩)
    obtain ⟨g0, g1, g2, gz⟩ := HX5.out.fl.cell HK.out
    have gl := HX5.out.fl.lt
    have w3 : IntKind.u16.wrap m = m := IntWalk.u16_in _ (by have := HM.out; omega)
    have HF8 := Lib.hid (HF5.out.trans q8 (by simp))
    clear p8 q8 hne8 g0
    go_wp2_with fail
    rw [← hW8]
    go_end0
    exact ⟨rfl, ⟨_, _, HR.out.1, HF8.out, (Or.inl rfl)⟩, HR.out.2⟩
set_option maxRecDepth 100000 in
set_option maxHeartbeats 8000000 in
theorem hear_e (k : Nat) (m : Int) (M g fo ft n c1 c2 : Nat) (wt : Nat → Int) (al : Int) (s : FS) (w : World) (h : FrAt w M g fo ft n c1 c2 wt al s) (hi : Inv n s) (hw : WtOk n wt al) (hk : k < n) (hm : 0 ≤ m ∧ m ≤ 1500) (hs : s.sv k = false) (hzm : s.z k ≠ m) (hz0 : s.z k = 0) :
    Calls Try.prog 51 #[.pointer (some ⟨g, 0, none⟩), .int .i64 k, .pointer (some ⟨fo, k * 3, none⟩), .int .i64 m] w fun e w' => e = .returned (.tuple #[]) ∧ HrP M g fo ft n c1 wt al (hearS (wt k) al k m s) w w' := by
  have hn8 := hi.n8
  have hwk := hw.w k hk
  have hzk := (hi.k k hk).z0
  obtain ⟨f0, f1, f2, fz⟩ := h.fl.cell hk
  have fl := h.fl.lt
  obtain ⟨WT, hWT⟩ : ∃ x, x = wt k := ⟨_, rfl⟩
  obtain ⟨Z, hZ⟩ : ∃ x, x = s.z k := ⟨_, rfl⟩
  rw [← hWT] at f0 hwk
  rw [← hZ] at f1 hzk
  have w1 : IntKind.i64.wrap WT = WT := IntWalk.i64_in _ (by omega)
  have w2 : IntKind.i64.wrap Z = Z := IntWalk.i64_in _ (by omega)
  have w3 : IntKind.u16.wrap m = m := by first | exact IntWalk.u16_in _ (by omega) | (simp [IntKind.wrap]; omega)
  have HH := Lib.hid h
  have HI := Lib.hid hi
  have HW := Lib.hid hw
  have HK := Lib.hid hk
  have HM := Lib.hid hm
  have HWT := Lib.hid hWT
  have HZ := Lib.hid hZ
  have h0 : 0 < m := by omega
  have hnew : hNew k m s = true := by unfold hNew; simp [hs, hzm]; omega
  have hT : hT1 k m s = s.T := by unfold hT1; rw [if_neg (by simp [hz0])]
  have hA : hAt k m s = max (s.T k).f s.V := by unfold hAt; rw [if_neg (by simp [hs]), hT]
  have HE := Lib.hid (hearS_T (wt k) al k m s (updT s.T k ⟨max (s.T k).f s.V, max (s.T k).f s.V + costS m (wt k) al⟩) (by rw [if_pos hnew, hT, hA]))
  have hg := hear_good hi hk (m := m) (by omega) (hw.w k hk) hw.a hnew
  rw [hT, hA] at hg
  have NX := Lib.hid (fun W hs => wake_ok s.V ft n c2 s.T k m (wt k) al W hs hn8 hk hg)
  rw [← hWT] at NX
  have HBB : Hid (BF M w w) := Lib.hid (BF.refl _ _)
  have HFF : Hid (Fr [g, fo, ft] w w) := Lib.hid (Fr.refl _ _)
  rw [hs] at f2
  have d1 : decide (0 < m) = true := decide_eq_true h0
  have d2 : (m != Z) = true := by rw [hZ]; simp; omega
  have d3 : decide (0 < Z) = false := decide_eq_false (by omega)
  clear hi hw hm h hZ hn8 hwk hzk h0 hnew hT hA hg hs hWT hzm hz0
  go_enter Try.func51, Try.ntmps51
  go_upto_region 7 with fail
  clear f1 f2 w2 w3 fz fl f0
  refine wp_region_held_drew (S := fun X => X.cell? ⟨g, 1, none⟩ = some (.int .i64 al) ∧ X.cell? ⟨fo, k * 3, none⟩ = some (.int .u8 WT)) (by kernel_rfl) ⟨cell_at HH.out.blk 1, by rw [HWT.out]; exact (HH.out.fl.cell HK.out).1⟩ (fun hHeld => ?_)
  try simp only [Act.put, List.setIfInBounds_toArray, List.set_cons_zero, List.set_cons_succ]
  have Bz := belowN (Below.refl w.heap.size w) 1
  have HX1 : Hid (FrAt w.drew M g fo ft n c1 c2 wt al s) := Lib.hid (HH.out.step Bz)
  have HB1 : Hid (BF M w w.drew) := Lib.hid (HBB.out.trans (BF.new Bz HH.out.size))
  have HF1 : Hid (Fr [g, fo, ft] w w.drew) := Lib.hid (HFF.out.trans (Fr.of_below Bz) (by simp))
  clear Bz
  ((refine wpAnyH_take (i := 0) (v := ?_) (by (simp only [List.getElem?_toArray, List.getElem?_cons_succ, List.getElem?_cons_zero]); rfl) (by kernel_rfl) (by kernel_rfl) (by kernel_rfl) (by exact fun _ _ _ h => h) (Or.inl ⟨by rfl, ?_⟩) (by assumption) ?_); rotate_left; focus (intro wS hSw; (try dsimp only at hSw); go_simp; first | done | with_reducible rfl); try simp only [Act.put, List.setIfInBounds_toArray, List.set_cons_zero, List.set_cons_succ])
  ((refine wpAnyH_take (i := 1) (v := ?_) (by (simp only [List.getElem?_toArray, List.getElem?_cons_succ, List.getElem?_cons_zero]); rfl) (by kernel_rfl) (by kernel_rfl) (by kernel_rfl) (by exact fun _ _ _ h => h) (Or.inl ⟨by rfl, ?_⟩) (by assumption) ?_); rotate_left; focus (intro wS hSw; (try dsimp only at hSw); go_simp; first | done | with_reducible rfl); try simp only [Act.put, List.setIfInBounds_toArray, List.set_cons_zero, List.set_cons_succ])
  ((refine wpAnyH_take (i := 2) (v := ?_) (by (simp only [List.getElem?_toArray, List.getElem?_cons_succ, List.getElem?_cons_zero]); rfl) (by kernel_rfl) (by kernel_rfl) (by kernel_rfl) (by exact fun _ _ _ h => h) (Or.inl ⟨by rfl, ?_⟩) (by assumption) ?_); rotate_left; focus (intro wS hSw; (try dsimp only at hSw); go_simp; first | done | with_reducible rfl); try simp only [Act.put, List.setIfInBounds_toArray, List.set_cons_zero, List.set_cons_succ])
  ((refine wpAnyH_take (i := 3) (v := ?_) (by (simp only [List.getElem?_toArray, List.getElem?_cons_succ, List.getElem?_cons_zero]); rfl) (by kernel_rfl) (by kernel_rfl) (by kernel_rfl) (by exact fun _ _ _ h => h) (Or.inl ⟨by rfl, ?_⟩) (by assumption) ?_); rotate_left; focus (intro wS hSw; (try dsimp only at hSw); go_simp; first | done | with_reducible rfl); try simp only [Act.put, List.setIfInBounds_toArray, List.set_cons_zero, List.set_cons_succ])
  ((refine wpAnyH_take (i := 5) (v := ?_) (by (simp only [List.getElem?_toArray, List.getElem?_cons_succ, List.getElem?_cons_zero]); rfl) (by kernel_rfl) (by kernel_rfl) (by kernel_rfl) (by exact fun _ _ _ h => h) (Or.inl ⟨by rfl, ?_⟩) (by assumption) ?_); rotate_left; focus (intro wS hSw; (try dsimp only at hSw); go_simp; first | done | with_reducible rfl); try simp only [Act.put, List.setIfInBounds_toArray, List.set_cons_zero, List.set_cons_succ])
  ((refine wpAnyH_take (i := 6) (v := ?_) (by (simp only [List.getElem?_toArray, List.getElem?_cons_succ, List.getElem?_cons_zero]); rfl) (by kernel_rfl) (by kernel_rfl) (by kernel_rfl) (by exact fun _ _ _ h => h) (Or.inl ⟨by rfl, ?_⟩) (by assumption) ?_); rotate_left; focus (intro wS hSw; (try dsimp only at hSw); go_simp; first | done | with_reducible rfl); try simp only [Act.put, List.setIfInBounds_toArray, List.set_cons_zero, List.set_cons_succ])
  ((refine wpAnyH_take (i := 7) (v := ?_) (by (simp only [List.getElem?_toArray, List.getElem?_cons_succ, List.getElem?_cons_zero]); rfl) (by kernel_rfl) (by kernel_rfl) (by kernel_rfl) (by exact fun _ _ _ h => h) (Or.inl ⟨by rfl, ?_⟩) (by assumption) ?_); rotate_left; focus (intro wS hSw; (try dsimp only at hSw); go_simp; first | done | with_reducible rfl); try simp only [Act.put, List.setIfInBounds_toArray, List.set_cons_zero, List.set_cons_succ])
  ((refine wpAnyH_take (i := 8) (v := ?_) (by (simp only [List.getElem?_toArray, List.getElem?_cons_succ, List.getElem?_cons_zero]); rfl) (by kernel_rfl) (by kernel_rfl) (by kernel_rfl) (by exact fun _ _ _ h => h) (Or.inl ⟨by rfl, ?_⟩) (by assumption) ?_); rotate_left; focus (intro wS hSw; (try dsimp only at hSw); go_simp; first | done | with_reducible rfl); try simp only [Act.put, List.setIfInBounds_toArray, List.set_cons_zero, List.set_cons_succ])
  ((refine wpAnyH_take (i := 9) (v := ?_) (by (simp only [List.getElem?_toArray, List.getElem?_cons_succ, List.getElem?_cons_zero]); rfl) (by kernel_rfl) (by kernel_rfl) (by kernel_rfl) (by exact fun _ _ _ h => h) (Or.inl ⟨by rfl, ?_⟩) (by assumption) ?_); rotate_left; focus (intro wS hSw; (try dsimp only at hSw); go_simp; first | done | with_reducible rfl); try simp only [Act.put, List.setIfInBounds_toArray, List.set_cons_zero, List.set_cons_succ])
  ((refine wpAnyH_take (i := 10) (v := ?_) (by (simp only [List.getElem?_toArray, List.getElem?_cons_succ, List.getElem?_cons_zero]); rfl) (by kernel_rfl) (by kernel_rfl) (by kernel_rfl) (by exact fun _ _ _ h => h) (Or.inl ⟨by rfl, ?_⟩) (by assumption) ?_); rotate_left; focus (intro wS hSw; (try dsimp only at hSw); go_simp; first | done | with_reducible rfl); try simp only [Act.put, List.setIfInBounds_toArray, List.set_cons_zero, List.set_cons_succ])
  ((refine wpAnyH_take (i := 11) (v := ?_) (by (simp only [List.getElem?_toArray, List.getElem?_cons_succ, List.getElem?_cons_zero]); rfl) (by kernel_rfl) (by kernel_rfl) (by kernel_rfl) (by exact fun _ _ _ h => h) (Or.inl ⟨by rfl, ?_⟩) (by assumption) ?_); rotate_left; focus (intro wS hSw; (try dsimp only at hSw); go_simp; first | done | with_reducible rfl); try simp only [Act.put, List.setIfInBounds_toArray, List.set_cons_zero, List.set_cons_succ])
  ((refine wpAnyH_take (i := 12) (v := ?_) (by (simp only [List.getElem?_toArray, List.getElem?_cons_succ, List.getElem?_cons_zero]); rfl) (by kernel_rfl) (by kernel_rfl) (by kernel_rfl) (by exact fun _ _ _ h => h) (Or.inl ⟨by rfl, ?_⟩) (by assumption) ?_); rotate_left; focus (intro wS hSw; (try dsimp only at hSw); go_simp; first | done | with_reducible rfl); try simp only [Act.put, List.setIfInBounds_toArray, List.set_cons_zero, List.set_cons_succ])
  ((refine wpAnyH_take (i := 13) (v := ?_) (by (simp only [List.getElem?_toArray, List.getElem?_cons_succ, List.getElem?_cons_zero]); rfl) (by kernel_rfl) (by kernel_rfl) (by kernel_rfl) (by exact fun _ _ _ h => h) (Or.inl ⟨by rfl, ?_⟩) (by assumption) ?_); rotate_left; focus (intro wS hSw; (try dsimp only at hSw); go_simp; first | done | with_reducible rfl); try simp only [Act.put, List.setIfInBounds_toArray, List.set_cons_zero, List.set_cons_succ])
  ((refine wpAnyH_take (i := 14) (v := ?_) (by (simp only [List.getElem?_toArray, List.getElem?_cons_succ, List.getElem?_cons_zero]); rfl) (by kernel_rfl) (by kernel_rfl) (by kernel_rfl) (by exact fun _ _ _ h => h) (Or.inl ⟨by rfl, ?_⟩) (by assumption) ?_); rotate_left; focus (intro wS hSw; (try dsimp only at hSw); go_simp; first | done | with_reducible rfl); try simp only [Act.put, List.setIfInBounds_toArray, List.set_cons_zero, List.set_cons_succ])
  ((refine wpAnyH_take (i := 15) (v := ?_) (by (simp only [List.getElem?_toArray, List.getElem?_cons_succ, List.getElem?_cons_zero]); rfl) (by kernel_rfl) (by kernel_rfl) (by kernel_rfl) (by exact fun _ _ _ h => h) (Or.inl ⟨by rfl, ?_⟩) (by assumption) ?_); rotate_left; focus (intro wS hSw; (try dsimp only at hSw); go_simp; first | done | with_reducible rfl); try simp only [Act.put, List.setIfInBounds_toArray, List.set_cons_zero, List.set_cons_succ])
  refine wpAnyH_ready (rs := [4]) (by kernel_rfl) (by simp) ?_
  refine AllReadyH.cons (by (simp only [List.getElem?_toArray, List.getElem?_cons_succ, List.getElem?_cons_zero]); rfl) (fun K hK => ?_) AllReadyH.nil
  have e2 : w.drew.cell? ⟨g, 2, none⟩ = some (.int .i64 s.V) := cell_at HX1.out.blk 2
  have e3 : w.drew.cell? ⟨g, 3, none⟩ = some (.slice (some ⟨ft, 0, none⟩) n c2) := cell_at HX1.out.blk 3
  go_simp
  refine hK _ _ ⟨cell_at HX1.out.blk 1, by rw [HWT.out]; exact (HX1.out.fl.cell HK.out).1⟩ (fun hHeld => ?_)
  clear hK K e2 e3
  try simp only [Act.put, List.setIfInBounds_toArray, List.set_cons_zero, List.set_cons_succ]
  ((refine wpAnyH_ready (rs := [16]) (by kernel_rfl) (by simp) ?_); (refine AllReadyH.cons (by (simp only [List.getElem?_toArray, List.getElem?_cons_succ, List.getElem?_cons_zero]); rfl) (fun K hK => ?_) AllReadyH.nil); go_simp; go_fit (NX.out _ (HX1.out.tags HI.out)))
  rintro e W2 ⟨ft', c', rfl, hr2, hl2, hB2⟩
  have HX2 := Lib.hid (HX1.out.step hB2)
  have HB2 := Lib.hid (HB1.out.trans (BF.new hB2 HX1.out.size))
  have HR2 := Lib.hid hr2
  have HL2 : Hid (M ≤ ft') := Lib.hid (Nat.le_trans HX1.out.size hl2)
  have HF2 := Lib.hid (HF1.out.trans (Fr.of_below hB2) (by simp))
  have HFT : Hid (ft' = ft ∨ w.heap.size ≤ ft') := Lib.hid (.inr (Nat.le_trans HF1.out.size hl2))
  clear hr2 hl2 hB2
  go_wp2_with fail
  refine hK.out _ _ ⟨cell_at HX2.out.blk 1, by rw [HWT.out]; exact (HX2.out.fl.cell HK.out).1⟩ (fun hHeld => ?_)
  clear hK K
  try simp only [Act.put, List.setIfInBounds_toArray, List.set_cons_zero, List.set_cons_succ]
  ((refine wpAnyH_take (i := 17) (v := ?_) (by (simp only [List.getElem?_toArray, List.getElem?_cons_succ, List.getElem?_cons_zero]); rfl) (by kernel_rfl) (by kernel_rfl) (by kernel_rfl) (by exact fun _ _ _ h => h) (Or.inl ⟨by rfl, ?_⟩) (by assumption) ?_); rotate_left; focus (intro wS hSw; (try dsimp only at hSw); go_simp; first | done | with_reducible rfl); try simp only [Act.put, List.setIfInBounds_toArray, List.set_cons_zero, List.set_cons_succ])
  ((refine wpAnyH_take (i := 18) (v := ?_) (by (simp only [List.getElem?_toArray, List.getElem?_cons_succ, List.getElem?_cons_zero]); rfl) (by kernel_rfl) (by kernel_rfl) (by kernel_rfl) (by exact fun _ _ _ h => h) (Or.inl ⟨by rfl, ?_⟩) (by assumption) ?_); rotate_left; focus (intro wS hSw; (try dsimp only at hSw); go_simp; first | done | with_reducible rfl); try simp only [Act.put, List.setIfInBounds_toArray, List.set_cons_zero, List.set_cons_succ])
  ((refine wpAnyH_ready (rs := [19]) (by kernel_rfl) (by simp) ?_); (refine AllReadyH.cons (by (simp only [List.getElem?_toArray, List.getElem?_cons_succ, List.getElem?_cons_zero]); rfl) (fun K hK => ?_) AllReadyH.nil); go_simp; go_fit (set_ok _ _ _ _ M g fo ft n c1 c2 wt al _ _ HX2.out HR2.out HL2.out))
  rintro e W3 ⟨rfl, hx3, hb3, hf3⟩
  have HF3 := Lib.hid (HF2.out.trans hf3 (by simp))
  have HX3 := Lib.hid hx3
  have HB3 := Lib.hid (HB2.out.trans hb3)
  clear hx3 hb3 hf3
  go_wp2_with fail
  refine hK.out _ _ ⟨cell_at HX3.out.blk 1, by rw [HWT.out]; exact (HX3.out.fl.cell HK.out).1⟩ (fun hHeld => ?_)
  clear hK K
  try simp only [Act.put, List.setIfInBounds_toArray, List.set_cons_zero, List.set_cons_succ]
  refine wpAnyH_done (by kernel_rfl) ?_ _
  try simp only [Act.put, List.setIfInBounds_toArray, List.set_cons_zero, List.set_cons_succ]
  rw [HWT.out] at HX3
  go_upto_region 8 with fail
  obtain ⟨W8, hW8⟩ : ∃ W, W = (W3.setCell ⟨fo, k * 3 + 1, none⟩ (.int .u16 m)).setCell ⟨fo, k * 3 + 2, none⟩ (.bool false) := ⟨_, rfl⟩
  obtain ⟨p8, q8⟩ := HX3.out.fl.put HK.out m false hW8
  have hne8 := HX3.out.ne
  have HR := Lib.hid (show FrAt W8 M g fo _ n c1 _ wt al (hearS (wt k) al k m s) ∧ BF M w W8 from ⟨by
    rw [HE.out]
    exact ⟨(q8.block g HX3.out.blk.lt (by simpa using hne8.1)).trans HX3.out.blk, p8, HX3.out.cp, HX3.out.tg.congr fun q e => by obtain rfl := Option.some.inj e; exact q8.block _ HX3.out.tg.lt (by simpa using fun e => hne8.2.2 e.symm), HX3.out.ge⟩, HB3.out.trans (HX3.out.frame q8 (by simp))⟩)
  obtain ⟨g0, g1, g2, gz⟩ := HX3.out.fl.cell HK.out
  have gl := HX3.out.fl.lt
  have w3 : IntKind.u16.wrap m = m := IntWalk.u16_in _ (by have := HM.out; omega)
  have HF8 := Lib.hid (HF3.out.trans q8 (by simp))
  clear p8 q8 hne8 g0
  go_wp2_with fail
  rw [← hW8]
  go_end0
  exact ⟨rfl, ⟨_, _, HR.out.1, HF8.out, HFT.out⟩, HR.out.2⟩
theorem hear_ok (k : Nat) (m : Int) (M g fo ft n c1 c2 : Nat) (wt : Nat → Int) (al : Int) (s : FS) (w : World) (h : FrAt w M g fo ft n c1 c2 wt al s) (hi : Inv n s) (hw : WtOk n wt al) (hk : k < n) (hm : 0 ≤ m ∧ m ≤ 1500) :
    Calls Try.prog 51 #[.pointer (some ⟨g, 0, none⟩), .int .i64 k, .pointer (some ⟨fo, k * 3, none⟩), .int .i64 m] w fun e w' => e = .returned (.tuple #[]) ∧ HrP M g fo ft n c1 wt al (hearS (wt k) al k m s) w w' := by
  cases hs : s.sv k
  · by_cases hz : s.z k = m
    · exact hear_n k m M g fo ft n c1 c2 wt al s w h hi hw hk hm (.inr ⟨hs, hz⟩)
    · by_cases h0 : 0 < s.z k
      · exact hear_d k m M g fo ft n c1 c2 wt al s w h hi hw hk hm hs hz h0
      · exact hear_e k m M g fo ft n c1 c2 wt al s w h hi hw hk hm hs hz (by have := (hi.k k hk).z0; omega)
  · by_cases h0 : 0 < m
    · exact hear_a k m M g fo ft n c1 c2 wt al s w h hi hw hk hm hs h0
    · exact hear_n k m M g fo ft n c1 c2 wt al s w h hi hw hk hm (.inl ⟨hs, by omega⟩)
end Go.Proofs.Ytoodmocapagapaa
namespace Go.Proofs.Ytoodmocapagapaa
open Go.RowKit
set_option linter.unusedSimpArgs false
set_option linter.unusedVariables false

structure HdE where
  size : Int
  weight : Int
def HdE.cells (e : HdE) : List Value := [.int .i64 e.size, .int .i64 e.weight]
def HdE.ok (e : HdE) : Prop := (-9223372036854775808 ≤ e.size ∧ e.size ≤ 9223372036854775807) ∧ (-9223372036854775808 ≤ e.weight ∧ e.weight ≤ 9223372036854775807)
structure HdIn (W : World) (a : Option Addr) (len cap b o : Nat) (E : Nat → HdE) : Prop where
  le : len ≤ cap
  max : cap ≤ maxLen
  at_ : 0 < len → a = some ⟨b, o, none⟩ ∧ b < W.heap.size
  cell : ∀ k, k < len → W.cell? ⟨b, o + k * 2, none⟩ = some (.int .i64 (E k).size) ∧ W.cell? ⟨b, o + k * 2 + 1, none⟩ = some (.int .i64 (E k).weight)
  bd : ∀ k, k < len → (E k).ok
theorem HdIn.below {W W' : World} {a : Option Addr} {len cap b o : Nat} {E : Nat → HdE} (h : HdIn W a len cap b o E) (hB : Below W.heap.size W W') : HdIn W' a len cap b o E :=
  ⟨h.le, h.max, fun hk => ⟨(h.at_ hk).1, by have := (h.at_ hk).2; have := hB.size; omega⟩, fun k hk => by
    have hb := (h.at_ (by omega)).2
    obtain ⟨c0, c1⟩ := h.cell k hk
    exact ⟨(hB.cell (p := ⟨b, _, none⟩) hb).trans c0, (hB.cell (p := ⟨b, _, none⟩) hb).trans c1⟩, h.bd⟩
theorem hd_cells (W : World) {a : Option Addr} {len cap : Nat} {xs : List Dt} (h : SliceFits Try.prog W 104 a len cap xs) : ∃ (b o : Nat) (E : Nat → HdE), HdIn W a len cap b o E := by
  have hc : Try.prog.cellsOf 104 = 2 := by kernel_rfl
  obtain ⟨b, o, h1, h2⟩ := h.spot (by rw [hc]; omega)
  have hex : ∀ k, ∃ q : HdE, k < len → (W.cell? ⟨b, o + k * 2, none⟩ = some (.int .i64 q.size) ∧ W.cell? ⟨b, o + k * 2 + 1, none⟩ = some (.int .i64 q.weight)) ∧ q.ok := fun k => by
    by_cases hk : k < len
    · have hl := h.length
      have hx := List.getElem?_eq_getElem (l := xs) (i := k) (by omega)
      obtain ⟨l0, hxe, hl0, hf0⟩ := (h.each k _ hx).1.agg_inv Try.underlying104
      obtain ⟨y0_0, e0_0, f0_0⟩ := hf0 0 _ rfl
      obtain ⟨y0_1, e0_1, f0_1⟩ := hf0 1 _ rfl
      obtain ⟨v0_0, rfl, gv0_0⟩ := f0_0.int_inv Try.underlying3
      obtain ⟨v0_1, rfl, gv0_1⟩ := f0_1.int_inv Try.underlying3
      match l0, hl0 with
      | [z0_0, z0_1], _ =>
        obtain rfl : z0_0 = _ := by simpa using e0_0
        obtain rfl : z0_1 = _ := by simpa using e0_1
        have hcell := h2 k _ hx
        rw [hxe, hc] at hcell
        exact ⟨⟨v0_0, v0_1⟩, fun _ => ⟨⟨hcell 0 _ rfl, by have := hcell 1 _ rfl; rwa [← Nat.add_assoc] at this⟩, gv0_0, gv0_1⟩⟩
    · exact ⟨⟨0, 0⟩, fun h => absurd h hk⟩
  have hg := fun k => Classical.choose_spec (hex k)
  exact ⟨b, o, fun k => Classical.choose (hex k), h.le, h.max, h1, fun k hk => (hg k hk).1, fun k hk => (hg k hk).2⟩
def hdL (E : Nat → HdE) (n : Nat) : List Value := (List.range n).flatMap fun k => (E k).cells
theorem hdL_succ (E : Nat → HdE) (n : Nat) : hdL E (n + 1) = hdL E n ++ (E n).cells := by simp [hdL, List.range_succ, List.flatMap_append]
theorem hdL_len (E : Nat → HdE) : ∀ n : Nat, (hdL E n).length = n * 2
  | 0 => by simp [hdL]
  | n + 1 => by rw [hdL_succ, List.length_append, hdL_len E n]; simp [HdE.cells]; omega
theorem hdL_congr {E E' : Nat → HdE} : ∀ {n : Nat}, (∀ k, k < n → E k = E' k) → hdL E n = hdL E' n
  | 0, _ => rfl
  | n + 1, h => by rw [hdL_succ, hdL_succ, hdL_congr (fun k hk => h k (by omega)), h n (by omega)]
theorem hdL_at (E : Nat → HdE) : ∀ (n k j : Nat), k < n → j < 2 → (hdL E n)[k * 2 + j]? = (E k).cells[j]?
  | 0, _, _, h, _ => by omega
  | n + 1, k, j, h, hj => by
    have hl := hdL_len E n
    rw [hdL_succ]
    by_cases hk : k < n
    · rw [List.getElem?_append_left (by omega)]
      exact hdL_at E n k j hk hj
    · obtain rfl : k = n := by omega
      rw [List.getElem?_append_right (by omega), hl]
      congr 1
      omega
theorem hd_row {w : World} {v : Value} {ob : Option Nat} {E : Nat → HdE} {n : Nat} (h : Row w v ob 104 2 n (hdL E n)) (hE : ∀ k, k < n → (E k).ok) :
    ∃ a cap, v = .slice a n cap ∧ HdIn w a n cap (ob.getD 0) 0 E := by
  obtain ⟨a, cap, rfl, h1, h2, h3⟩ := h.shape
  refine ⟨a, cap, rfl, h1, h2, fun hk => ?_, fun k hk => ?_, hE⟩
  · obtain ⟨g, hg, _⟩ := h.cell 0 (by omega)
    subst hg
    exact ⟨h3, h.lt⟩
  · have hh : ∀ j, j < 2 → w.cell? ⟨ob.getD 0, 0 + k * 2 + j, none⟩ = (E k).cells[j]? := fun j hj => by
      obtain ⟨g, hg, hc, _⟩ := h.cell (k * 2 + j) (by omega)
      subst hg
      rw [Option.getD_some, Nat.zero_add, hc, hdL_at E n k j hk hj]
    exact ⟨hh 0 (by omega), hh 1 (by omega)⟩

def hsz (E : Nat → HdE) (k : Nat) : Int := (E k).size
def okHd (m : Nat → Int) (n : Nat) : Prop := ∀ k, k < n → 0 ≤ m k ∧ m k ≤ 1500
def badB (m : Int) : Bool := decide (m < 0) || decide (1500 < m)
theorem badB_iff (m : Int) : badB m = false ↔ 0 ≤ m ∧ m ≤ 1500 := by unfold badB; simp
set_option maxRecDepth 100000 in
set_option maxHeartbeats 2000000 in
theorem isNone_any (z wg : Int) (w : World) : Calls Try.prog 48 #[.agg #[.int .i64 z, .int .i64 wg]] w fun e w' => e = .returned (.bool (badB z)) ∧ Below w.heap.size w w' := by
  unfold badB
  by_cases h : z < 0
  · have d1 : decide (z < 0) = true := decide_eq_true h
    go_enter Try.func48, Try.ntmps48
    go_wp2_with fail
    go_ret
    exact ⟨by first | rfl | (rw [d1]; rfl), (Below.refl _ _).alloc (Nat.le_refl _) _⟩
  · have d1 : decide (z < 0) = false := decide_eq_false h
    go_enter Try.func48, Try.ntmps48
    go_wp2_with fail
    go_ret
    exact ⟨by first | rfl | (rw [d1]; rfl), (Below.refl _ _).alloc (Nat.le_refl _) _⟩
set_option maxRecDepth 100000 in
set_option maxHeartbeats 4000000 in
theorem index_any (a : Option Addr) (n cap b o : Nat) (E : Nat → HdE) (w : World) (h : HdIn w a n cap b o E) :
    Calls Try.prog 62 #[.slice a n cap, .func (.func 48) #[] #[]] w fun e w' => ∃ r : Int, e = .returned (.int .i64 r) ∧ Below w.heap.size w w' ∧ ((r = -1 ∧ okHd (hsz E) n) ∨ (0 ≤ r ∧ ¬ okHd (hsz E) n)) := by
  have m1 := h.le
  have m2 := h.max
  unfold maxLen at m2
  have HH := Lib.hid h
  clear h
  go_enter Try.func62, Try.ntmps62
  go_wp2_with fail
  go_loopw [5, 8] (fun _ i wr => ∃ k : Nat, k ≤ n ∧ i = .int .i64 k ∧ okHd (hsz E) k ∧ Below w.heap.size w wr) (fun _ i _ => n - (intOf i).toNat)
  case atStart => exact ⟨0, Nat.zero_le _, rfl, (fun _ h => by omega), Below.refl _ _⟩
  case round =>
    obtain ⟨k, hk, rfl, ho, hB⟩ := hrel
    have HO := Lib.hid ho
    have HB := Lib.hid hB
    by_cases hlt : k < n
    · have ww5 : IntKind.i64.wrap ((k : Int) + 1) = (k : Int) + 1 := IntWalk.i64_in _ (by omega)
      have hx := HH.out.below hB
      obtain ⟨e0, _⟩ := hx.at_ (by omega)
      subst e0
      obtain ⟨c0, c1⟩ := hx.cell k hlt
      obtain ⟨Z, hZ⟩ : ∃ Z, Z = (E k).size := ⟨_, rfl⟩
      obtain ⟨G, hG⟩ : ∃ G, G = (E k).weight := ⟨_, rfl⟩
      rw [← hZ] at c0
      rw [← hG] at c1
      have HZ : Hid (hsz E k = Z) := Lib.hid hZ.symm
      have b9 : ((k : Int) < (n : Int)) = True := eq_true (by omega)
      have bk1 : (k < n) = True := eq_true hlt
      have HLT := Lib.hid hlt
      clear ho hB hx hZ hG hlt
      go_wp2_with fail
      go_at_call 48
      go_fit (isNone_any Z G _)
      rintro e W2 ⟨rfl, hB2⟩
      have HB2 := Lib.hid (HB.out.trans (hB2.mono HB.out.size))
      clear hB2 c0 c1
      cases hb : badB Z
      · have HB9 := Lib.hid hb
        clear hb
        go_wp2_with fail
        go_roundw
        case rel => exact ⟨k + 1, by have := HLT.out; omega, by go_num, (fun j hj => by
          by_cases hjk : j = k
          · subst hjk; rw [HZ.out]; exact (badB_iff Z).1 HB9.out
          · exact HO.out j (by omega)), HB2.out⟩
        case measure => (have h8 := HLT.out; first | (simp [intOf]; done) | (simp [intOf]; omega))
      · have HB9 := Lib.hid hb
        clear hb
        go_wp2_with fail
        try rw [Exit.noGoto_ret]
        go_ret
        exact ⟨_, rfl, HB2.out, .inr ⟨by omega, fun hc => by
          have := (badB_iff Z).2 (by rw [← HZ.out]; exact hc k HLT.out)
          rw [HB9.out] at this
          cases this⟩⟩
    · obtain rfl : k = n := by omega
      clear ho hB
      go_wp2_with fail
      try rw [Exit.noGoto_ret]
      go_ret
      exact ⟨_, rfl, HB.out, .inl ⟨rfl, HO.out⟩⟩
set_option maxRecDepth 100000 in
set_option maxHeartbeats 4000000 in
theorem contains_any (a : Option Addr) (n cap b o : Nat) (E : Nat → HdE) (w : World) (h : HdIn w a n cap b o E) :
    Calls Try.prog 47 #[.slice a n cap, .func (.func 48) #[] #[]] w fun e w' => ∃ B : Bool, e = .returned (.bool B) ∧ Below w.heap.size w w' ∧ ((B = false ∧ okHd (hsz E) n) ∨ (B = true ∧ ¬ okHd (hsz E) n)) := by
  have IX := Lib.hid (index_any a n cap b o E w h)
  clear h
  go_enter Try.func47, Try.ntmps47
  go_wp2_with fail
  go_at_call 62
  go_fit (IX.out)
  rintro e W2 ⟨r, rfl, hB2, hr⟩
  have HB2 := Lib.hid hB2
  have HR := Lib.hid hr
  clear hB2 hr
  go_wp2_with fail
  go_ret
  refine ⟨_, rfl, HB2.out, ?_⟩
  rcases HR.out with ⟨h1, h2⟩ | ⟨h1, h2⟩
  · exact .inl ⟨by simp; omega, h2⟩
  · exact .inr ⟨by simp; omega, h2⟩

/-- rows of bools of the call's own -/
def boL (R : Nat → Bool) (n : Nat) : List Value := (List.range n).map fun k => .bool (R k)
theorem boL_succ (R : Nat → Bool) (n : Nat) : boL R (n + 1) = boL R n ++ [.bool (R n)] := by simp [boL, List.range_succ]
theorem boL_len (R : Nat → Bool) (n : Nat) : (boL R n).length = n := by simp [boL]
theorem boInfo : (Try.prog.info? 4).map (fun i => (i.zero, i.size, i.bytes)) = some (some (.bool false), 1, 1) := by kernel_rfl
theorem bo_grow {W : World} {M b n : Nat} {ty : TypeId} {v : Value} {ob : Option Nat} {R : Nat → Bool} (h : Row W v ob 4 1 n (boL R n)) (hO : ∀ g, ob = some g → M ≤ g) (hb : Blk W b #[.bool (R n)] 4) (hM : M ≤ W.heap.size) (hn : n ≤ 1000000) :
    ∃ v' ob' w', (Builtin.append_ #[106, 106] ty #[v, .slice (some ⟨b, 0, none⟩) 1 1]).run Try.prog W = .ok v' w' ∧ Row w' v' (some ob') 4 1 (n + 1) (boL R (n + 1)) ∧ W.grownBy w' ob ∧ (ob = some ob' ∨ ob' = W.heap.size) ∧ Below M W w' ∧ M ≤ ob' := by
  obtain ⟨i0, hi, hz0, hz1, hz2⟩ := info_parts boInfo
  obtain ⟨v', ob', w', hrun, s1, s2, s3⟩ := run_append_row (P := Try.prog) W 106 ty 4 i0 _ 1 1 Try.underlying106 hi hz0 hz1 hz2 rfl (by decide) v ob n (boL R n) h ⟨b, 0, none⟩ 1 1 [.bool (R n)] (by decide) rfl (fun j u hu => by
    rw [addr_add, cell_at hb]
    have hj : j < 1 := (List.getElem?_eq_some_iff.1 hu).1
    obtain rfl : j = 0 := by omega
    simpa using hu) (fun u hu => List.all_eq_true (p := fun u : Value => u.oneCell') |>.1 rfl u hu) (by unfold maxLen; omega) (by omega)
  refine ⟨v', ob', w', hrun, by rw [boL_succ]; exact s1, s2, s3, (Below.refl M W).grown s2 hM hO, ?_⟩
  rcases s3 with h | h
  · exact hO _ h
  · omega
theorem bools_row {w : World} {v : Value} {ob : Option Nat} {R : Nat → Bool} {n : Nat} (h : Row w v ob 4 1 n (boL R n)) : ∃ a cap, v = .slice a n cap ∧ BoolsIn w a n cap (ob.getD 0) 0 R := by
  obtain ⟨a, cap, rfl, h1, h2, h3⟩ := h.shape
  refine ⟨a, cap, rfl, ⟨h1, h2, fun hk => ?_, fun k hk => ?_⟩⟩
  · obtain ⟨g, hg, _⟩ := h.cell 0 (by omega)
    subst hg
    exact ⟨h3, h.lt⟩
  · obtain ⟨g, hg, hc, _⟩ := h.cell k (by omega)
    subst hg
    rw [Option.getD_some, Nat.zero_add, hc]
    simp [boL, hk]
end Go.Proofs.Ytoodmocapagapaa
namespace Go.Proofs.Ytoodmocapagapaa
open Go.RowKit
set_option linter.unusedSimpArgs false
set_option linter.unusedVariables false

def gTy : List TypeId := [101, 112, 129, 106, 4]
structure BG (M : Nat) (W W' : World) : Prop where
  b : Below M W W'
  t : TyL gTy W W'
theorem BG.refl (M : Nat) (W : World) : BG M W W := ⟨Below.refl _ _, TyL.refl _ _⟩
theorem BG.trans {M : Nat} {a b c : World} (h : BG M a b) (k : BG M b c) : BG M a c := ⟨h.b.trans k.b, h.t.trans k.t⟩
theorem BG.size {M : Nat} {a b : World} (h : BG M a b) : a.heap.size ≤ b.heap.size := h.b.size
theorem BG.new {M : Nat} {W W' : World} (h : Below W.heap.size W W') (hM : M ≤ W.heap.size) : BG M W W' := ⟨h.mono hM, TyL.of_below h⟩
theorem BF.g {M : Nat} {W W' : World} (h : BF M W W') : BG M W W' := ⟨h.b, fun q cs ty hb hn => h.t q cs ty hb (fun hm => hn (by simp only [fTy, List.mem_cons, List.not_mem_nil, or_false] at hm; rcases hm with h | h | h <;> simp [gTy, h]))⟩
theorem BG.fr {M : Nat} {W W' : World} {l : List Nat} (h : Fr l W W') (hM : M ≤ W.heap.size) (hl : ∀ q ∈ l, M ≤ q ∧ ∃ cs ty, Blk W q cs ty ∧ ty ∈ gTy) : BG M W W' := ⟨h.below hM (fun q hq => (hl q hq).1), TyL.of_fr h fun q hq => (hl q hq).2⟩
theorem FrAt.ty {W : World} {M g fo ft n c1 c2 : Nat} {wt : Nat → Int} {al : Int} {s : FS} (h : FrAt W M g fo ft n c1 c2 wt al s) {q : Nat} {cs : Array Value} {ty : TypeId} (hb : Blk W q cs ty) (hn : ty ∉ fTy) : q ≠ g ∧ q ≠ fo ∧ q ≠ ft := by
  have dis : ∀ {x : Nat} {a b : Array Value} {t u : TypeId}, Blk W x a t → Blk W x b u → t = u := fun h1 h2 => by
    have := h1.symm.trans h2
    injection this with e'
    injection e' with e1 e2
  refine ⟨?_, ?_, ?_⟩
  · rintro rfl; exact hn (by rw [dis hb h.blk]; simp [fTy])
  · rintro rfl; obtain ⟨cf, hf, _⟩ := h.fl; exact hn (by rw [dis hb hf]; simp [fTy])
  · rintro rfl; obtain ⟨cf, hf⟩ := blk_row h.tg; exact hn (by rw [dis hb hf]; simp [fTy])
theorem alloc_b (w : World) (o : Obj) : Below w.heap.size w (w.alloc o) := (Below.refl _ _).alloc (Nat.le_refl _) _
/-- flows, heads, what is ready: memory while flows are gone over -/
structure EaAt (W : World) (M g fo ft n c1 c2 : Nat) (wt : Nat → Int) (al : Int) (s : FS) (bF bH bR : Nat) (a : Option Addr) (cap : Nat) (vr : Value) (ob : Option Nat) (R : Nat → Bool) (k : Nat) : Prop where
  fr : FrAt W M g fo ft n c1 c2 wt al s
  hF : Blk W bF #[.pointer (some ⟨g, 0, none⟩)] 62
  hH : Blk W bH #[.slice a n cap] 69
  hR : Blk W bR #[vr] 106
  row : Row W vr ob 4 1 k (boL R k)
  hO : ∀ q, ob = some q → M ≤ q
  ge : M ≤ bR
theorem EaAt.bg {W W' : World} {M g fo ft n c1 c2 : Nat} {wt : Nat → Int} {al : Int} {s s' : FS} {bF bH bR ft' c' : Nat} {a : Option Addr} {cap : Nat} {vr : Value} {ob : Option Nat} {R : Nat → Bool} {k : Nat} (h : EaAt W M g fo ft n c1 c2 wt al s bF bH bR a cap vr ob R k) (hB : BF M W W') (hf : FrAt W' M g fo ft' n c1 c' wt al s') : EaAt W' M g fo ft' n c1 c' wt al s' bF bH bR a cap vr ob R k := by
  refine ⟨hf, hB.t _ _ _ h.hF (by decide), hB.t _ _ _ h.hH (by decide), hB.t _ _ _ h.hR (by decide), h.row.congr fun q e => ?_, h.hO, h.ge⟩
  subst e
  obtain ⟨cs, hb⟩ := blk_row h.row
  have h2 := hB.t _ _ _ hb (by decide)
  exact h2.trans hb.symm
theorem EaAt.step {W W' : World} {M g fo ft n c1 c2 : Nat} {wt : Nat → Int} {al : Int} {s : FS} {bF bH bR : Nat} {a : Option Addr} {cap : Nat} {vr : Value} {ob : Option Nat} {R : Nat → Bool} {k : Nat} (h : EaAt W M g fo ft n c1 c2 wt al s bF bH bR a cap vr ob R k) (hB : Below W.heap.size W W') : EaAt W' M g fo ft n c1 c2 wt al s bF bH bR a cap vr ob R k :=
  h.bg (BF.new hB h.fr.size) (h.fr.step hB)
/-- one more is told ready or not -/
theorem EaAt.put {W W1 W3 W4 : World} {M g fo ft n c1 c2 : Nat} {wt : Nat → Int} {al : Int} {s : FS} {bF bH bR : Nat} {a : Option Addr} {cap : Nat} {vr v' : Value} {ob : Option Nat} {ob' : Nat} {R : Nat → Bool} {k : Nat} (h : EaAt W M g fo ft n c1 c2 wt al s bF bH bR a cap vr ob R k)
    (hB1 : Below W.heap.size W W1) (hr : Row W3 v' (some ob') 4 1 (k + 1) (boL R (k + 1))) (hg : W1.grownBy W3 ob) (hn : ob = some ob' ∨ ob' = W1.heap.size) (hM : M ≤ ob') (hW : W4 = W3.setCell ⟨bR, 0, none⟩ v') :
    EaAt W4 M g fo ft n c1 c2 wt al s bF bH bR a cap v' (some ob') R (k + 1) ∧ BG M W W4 ∧ Fr (bR :: ob.toList) W W4 ∧ W3.cell? ⟨bR, 0, none⟩ = some vr ∧ (∀ j, W3.frozen? ⟨bR, j, none⟩ = false) ∧ bR < W3.heap.size := by
  have h1 := h.step hB1
  have hsz := h1.fr.size
  have nb : ∀ {q : Nat} {cs : Array Value} {ty : TypeId}, Blk W1 q cs ty → ty ≠ 4 → ob ≠ some q := fun {q cs ty} hb ht e => by
    subst e
    exact row_blk_ne h1.row hb ht rfl
  have hf3 : Fr ob.toList W1 W3 := ⟨hg.os, hg.tape, hg.output, hg.size, fun i hi hq => hg.block i hi (fun e => hq (by rw [← e]; simp))⟩
  have hR3 : Blk W3 bR #[vr] 106 := (hg.block bR h1.hR.lt (fun e => nb h1.hR (by decide) e.symm)).trans h1.hR
  have hne : bR ≠ ob' := fun e => by
    subst e
    exact row_blk_ne hr hR3 (by decide) rfl
  have hf4 : Fr [bR] W3 W4 := by rw [hW]; exact (Fr.refl _ _).setCell _ (.inl (by simp)) _
  have hft : Fr (bR :: ob.toList) W1 W4 := (hf3.mono (fun x hx => .inl (List.mem_cons_of_mem _ hx))).trans hf4 (fun x hx => .inl (by simp at hx; subst hx; simp))
  have hno : ∀ {q : Nat} {cs : Array Value} {ty : TypeId}, Blk W1 q cs ty → ty ≠ 4 → ty ≠ 106 → q ∉ bR :: ob.toList := fun {q cs ty} hb h1' h2' => by
    simp only [List.mem_cons, not_or]
    refine ⟨?_, fun hm => nb hb h1' (by simpa using hm)⟩
    rintro rfl
    have := hb.symm.trans h1.hR
    injection this with e'
    injection e' with _ e2
    exact h2' e2
  obtain ⟨cf, hcf, _⟩ := h1.fr.fl
  obtain ⟨ct, hct⟩ := blk_row h1.fr.tg
  refine ⟨⟨h1.fr.fr hft (hno h1.fr.blk (by decide) (by decide)) (hno hcf (by decide) (by decide)) (hno hct (by decide) (by decide)), (hft.block bF h1.hF.lt (hno h1.hF (by decide) (by decide))).trans h1.hF, (hft.block bH h1.hH.lt (hno h1.hH (by decide) (by decide))).trans h1.hH, by rw [hW]; exact hR3.set 0 _, hr.congr fun q e => ?_, fun q e => ?_, h.ge⟩, (BG.new hB1 h.fr.size).trans (BG.fr hft hsz fun q hq => ?_), ((Fr.of_below hB1).mono (by simp)).trans hft (fun x hx => .inl hx), cell_at hR3 0, fun j => free_at hR3 j, hR3.lt⟩
  · obtain rfl := Option.some.inj e
    exact hf4.block _ hr.lt (by simpa using fun e => hne e.symm)
  · obtain rfl := Option.some.inj e
    exact hM
  · rcases List.mem_cons.1 hq with rfl | hq
    · exact ⟨h.ge, _, _, h1.hR, by simp [gTy]⟩
    · have e : ob = some q := by simpa using hq
      subst e
      obtain ⟨cs, hb⟩ := blk_row h1.row
      exact ⟨h.hO q rfl, _, _, hb, by simp [gTy]⟩
structure P1P (M g fo ft n c1 : Nat) (wt : Nat → Int) (al : Int) (s' : FS) (bF bH bR : Nat) (a : Option Addr) (cap : Nat) (ob : Option Nat) (R : Nat → Bool) (k : Nat) (w w' : World) : Prop where
  ex : ∃ ft' c' vr' ob', EaAt w' M g fo ft' n c1 c' wt al s' bF bH bR a cap vr' (some ob') R k ∧ Fr (g :: fo :: ft :: bR :: ob.toList) w w' ∧ (ft' = ft ∨ w.heap.size ≤ ft') ∧ (ob = some ob' ∨ w.heap.size ≤ ob')
  b : BG M w w'
set_option maxRecDepth 100000 in
set_option maxHeartbeats 8000000 in
theorem pick1_ok (k : Nat) (M g fo ft n c1 c2 : Nat) (wt : Nat → Int) (al : Int) (s : FS) (bF bH bR : Nat) (a : Option Addr) (cap hb ho : Nat) (E : Nat → HdE) (vr : Value) (ob : Option Nat) (w : World) (h : EaAt w M g fo ft n c1 c2 wt al s bF bH bR a cap vr ob (rdy (hsz E)) k) (hE : ∀ W', BG M w W' → HdIn W' a n cap hb ho E) (hm : okHd (hsz E) n) (hi : Inv n s) (hw : WtOk n wt al) (hk : k < n) :
    Calls Try.prog 50 #[.int .i64 k, .pointer (some ⟨fo, k * 3, none⟩), .pointer (some ⟨bF, 0, none⟩), .pointer (some ⟨bH, 0, none⟩), .pointer (some ⟨bR, 0, none⟩)] w fun e w' => e = .returned (.tuple #[]) ∧ P1P M g fo ft n c1 wt al (hearS (wt k) al k (hsz E k) s) bF bH bR a cap ob (rdy (hsz E)) (k + 1) w w' := by
  obtain ⟨ea, hbl⟩ := (hE w (BG.refl _ _)).at_ (by omega)
  subst ea
  have HH := Lib.hid h
  have HE := Lib.hid hE
  obtain ⟨Z, hZ⟩ : ∃ z, z = hsz E k := ⟨_, rfl⟩
  have HC : Hid (∀ W', BG M w W' → W'.cell? ⟨hb, ho + k * 2, none⟩ = some (.int .i64 Z)) := Lib.hid (fun W' hB => by rw [hZ]; exact ((hE W' hB).cell k hk).1)
  have hz2 : 0 ≤ Z ∧ Z ≤ 1500 := by rw [hZ]; exact hm k hk
  have HZ2 := Lib.hid hz2
  have HR := Lib.hid (fun W hf => hear_ok k Z M g fo ft n c1 c2 wt al s W hf hi hw hk hz2)
  have hn8 := hi.n8
  have bk1 : (k < n) = True := eq_true hk
  have bk2 : ((k : Int) < (n : Int)) = True := eq_true (by omega)
  have bk0 : ((0 : Int) ≤ (k : Int)) = True := eq_true (by omega)
  have HRD : Hid (rdy (hsz E) k = decide (0 < Z)) := Lib.hid (by unfold rdy; rw [hZ])
  have HZ := Lib.hid hZ
  have HN8 := Lib.hid hn8
  have HK := Lib.hid hk
  clear h hE hm hi hw hz2 hZ hn8 hbl hk
  go_enter Try.func50, Try.ntmps50
  go_upto_region 0 with fail
  refine wp_region_held_drew (S := fun X => X.cell? ⟨bF, 0, none⟩ = some (.pointer (some ⟨g, 0, none⟩)) ∧ X.cell? ⟨bH, 0, none⟩ = some (.slice (some ⟨hb, ho, none⟩) n cap) ∧ X.cell? ⟨hb, ho + k * 2, none⟩ = some (.int .i64 Z)) (by kernel_rfl) ⟨cell_at HH.out.hF 0, cell_at HH.out.hH 0, HC.out w.drew (BG.new (belowN (Below.refl w.heap.size w) 1) HH.out.fr.size)⟩ (fun hHeld => ?_)
  try simp only [Act.put, List.setIfInBounds_toArray, List.set_cons_zero, List.set_cons_succ]
  have Bz := belowN (Below.refl w.heap.size w) 1
  have HH1 : Hid (EaAt w.drew M g fo ft n c1 c2 wt al s bF bH bR (some ⟨hb, ho, none⟩) cap vr ob (rdy (hsz E)) k) := Lib.hid (HH.out.step Bz)
  have HB1 : Hid (BG M w w.drew) := Lib.hid (BG.new Bz HH.out.fr.size)
  clear Bz HH
  ((refine wpAnyH_take (i := 0) (v := ?_) (by (simp only [List.getElem?_toArray, List.getElem?_cons_succ, List.getElem?_cons_zero]); rfl) (by kernel_rfl) (by kernel_rfl) (by kernel_rfl) (by exact fun _ _ _ h => h) (Or.inl ⟨by rfl, ?_⟩) (by assumption) ?_); rotate_left; focus (intro wS hSw; (try dsimp only at hSw); go_simp; first | done | with_reducible rfl); try simp only [Act.put, List.setIfInBounds_toArray, List.set_cons_zero, List.set_cons_succ])
  ((refine wpAnyH_take (i := 1) (v := ?_) (by (simp only [List.getElem?_toArray, List.getElem?_cons_succ, List.getElem?_cons_zero]); rfl) (by kernel_rfl) (by kernel_rfl) (by kernel_rfl) (by exact fun _ _ _ h => h) (Or.inl ⟨by rfl, ?_⟩) (by assumption) ?_); rotate_left; focus (intro wS hSw; (try dsimp only at hSw); go_simp; first | done | with_reducible rfl); try simp only [Act.put, List.setIfInBounds_toArray, List.set_cons_zero, List.set_cons_succ])
  ((refine wpAnyH_take (i := 2) (v := ?_) (by (simp only [List.getElem?_toArray, List.getElem?_cons_succ, List.getElem?_cons_zero]); rfl) (by kernel_rfl) (by kernel_rfl) (by kernel_rfl) (by exact fun _ _ _ h => h) (Or.inl ⟨by rfl, ?_⟩) (by assumption) ?_); rotate_left; focus (intro wS hSw; (try dsimp only at hSw); go_simp; first | done | with_reducible rfl); try simp only [Act.put, List.setIfInBounds_toArray, List.set_cons_zero, List.set_cons_succ])
  ((refine wpAnyH_take (i := 3) (v := ?_) (by (simp only [List.getElem?_toArray, List.getElem?_cons_succ, List.getElem?_cons_zero]); rfl) (by kernel_rfl) (by kernel_rfl) (by kernel_rfl) (by exact fun _ _ _ h => h) (Or.inl ⟨by rfl, ?_⟩) (by assumption) ?_); rotate_left; focus (intro wS hSw; (try dsimp only at hSw); go_simp; first | done | with_reducible rfl); try simp only [Act.put, List.setIfInBounds_toArray, List.set_cons_zero, List.set_cons_succ])
  ((refine wpAnyH_take (i := 4) (v := ?_) (by (simp only [List.getElem?_toArray, List.getElem?_cons_succ, List.getElem?_cons_zero]); rfl) (by kernel_rfl) (by kernel_rfl) (by kernel_rfl) (by exact fun _ _ _ h => h) (Or.inl ⟨by rfl, ?_⟩) (by assumption) ?_); rotate_left; focus (intro wS hSw; (try dsimp only at hSw); go_simp; first | done | with_reducible rfl); try simp only [Act.put, List.setIfInBounds_toArray, List.set_cons_zero, List.set_cons_succ])
  ((refine wpAnyH_take (i := 5) (v := ?_) (by (simp only [List.getElem?_toArray, List.getElem?_cons_succ, List.getElem?_cons_zero]); rfl) (by kernel_rfl) (by kernel_rfl) (by kernel_rfl) (by exact fun _ _ _ h => h) (Or.inl ⟨by rfl, ?_⟩) (by assumption) ?_); rotate_left; focus (intro wS hSw; (try dsimp only at hSw); go_simp; first | done | with_reducible rfl); try simp only [Act.put, List.setIfInBounds_toArray, List.set_cons_zero, List.set_cons_succ])
  ((refine wpAnyH_take (i := 6) (v := ?_) (by (simp only [List.getElem?_toArray, List.getElem?_cons_succ, List.getElem?_cons_zero]); rfl) (by kernel_rfl) (by kernel_rfl) (by kernel_rfl) (by exact fun _ _ _ h => h) (Or.inl ⟨by rfl, ?_⟩) (by assumption) ?_); rotate_left; focus (intro wS hSw; (try dsimp only at hSw); go_simp; first | done | with_reducible rfl); try simp only [Act.put, List.setIfInBounds_toArray, List.set_cons_zero, List.set_cons_succ])
  ((refine wpAnyH_take (i := 7) (v := ?_) (by (simp only [List.getElem?_toArray, List.getElem?_cons_succ, List.getElem?_cons_zero]); rfl) (by kernel_rfl) (by kernel_rfl) (by kernel_rfl) (by exact fun _ _ _ h => h) (Or.inl ⟨by rfl, ?_⟩) (by assumption) ?_); rotate_left; focus (intro wS hSw; (try dsimp only at hSw); go_simp; first | done | with_reducible rfl); try simp only [Act.put, List.setIfInBounds_toArray, List.set_cons_zero, List.set_cons_succ])
  ((refine wpAnyH_ready (rs := [8]) (by kernel_rfl) (by simp) ?_); (refine AllReadyH.cons (by (simp only [List.getElem?_toArray, List.getElem?_cons_succ, List.getElem?_cons_zero]); rfl) (fun K hK => ?_) AllReadyH.nil); go_simp; go_fit (HR.out _ HH1.out.fr))
  rintro e W2 ⟨rfl, ⟨ft', c', hf2, hg2, ht2⟩, hb2⟩
  have HG2 : Hid (Fr [g, fo, ft] w W2) := Lib.hid ((((Fr.of_below (belowN (Below.refl w.heap.size w) 1)).mono (by simp)) : Fr [g, fo, ft] w w.drew).trans hg2 (fun x hx => .inl hx))
  have HT2 : Hid (ft' = ft ∨ w.heap.size ≤ ft') := Lib.hid ht2
  have HH2 := Lib.hid (HH1.out.bg hb2 hf2)
  have HB2 := Lib.hid (HB1.out.trans hb2.g)
  clear hb2 hf2 hg2 ht2 HH1 HB1
  go_wp2_with fail
  refine hK.out _ _ ⟨cell_at HH2.out.hF 0, cell_at HH2.out.hH 0, HC.out _ HB2.out⟩ (fun hHeld => ?_)
  clear hK K
  try simp only [Act.put, List.setIfInBounds_toArray, List.set_cons_zero, List.set_cons_succ]
  refine wpAnyH_done (by kernel_rfl) ?_ _
  try simp only [Act.put, List.setIfInBounds_toArray, List.set_cons_zero, List.set_cons_succ]
  obtain ⟨ar, cr, rfl, hr1, hr2, hr3⟩ := HH2.out.row.shape
  have HZC : Hid (W2.cell? ⟨fo, k * 3 + 1, none⟩ = some (.int .u16 Z)) := Lib.hid (by have := (HH2.out.fr.fl.cell HK.out).2.1; rw [this]; show some (Value.int .u16 (upf s.z k Z k)) = _; rw [upf_at])
  clear hr3
  go_upto_region 1 with fail
  refine wp_region_held_drew (S := fun X => X.cell? ⟨fo, k * 3 + 1, none⟩ = some (.int .u16 Z)) (by kernel_rfl) HZC.out (fun hHeld => ?_)
  try simp only [Act.put, List.setIfInBounds_toArray, List.set_cons_zero, List.set_cons_succ]
  have Bz := belowN (Below.refl W2.heap.size W2) 1
  have HH3 := Lib.hid (show EaAt W2.drew M g fo ft' n c1 c' wt al (hearS (wt k) al k Z s) bF bH bR (some ⟨hb, ho, none⟩) cap (.slice ar k cr) ob (rdy (hsz E)) k from HH2.out.step Bz)
  have HB3 : Hid (BG M w W2.drew) := Lib.hid (HB2.out.trans (BG.new Bz HH2.out.fr.size))
  clear Bz HH2 HB2
  ((refine wpAnyH_take (i := 1) (v := ?_) (by (simp only [List.getElem?_toArray, List.getElem?_cons_succ, List.getElem?_cons_zero]); rfl) (by kernel_rfl) (by kernel_rfl) (by kernel_rfl) (by exact fun _ _ _ h => h) (Or.inl ⟨by rfl, ?_⟩) (by assumption) ?_); rotate_left; focus (intro wS hSw; (try dsimp only at hSw); go_simp; first | done | with_reducible rfl); try simp only [Act.put, List.setIfInBounds_toArray, List.set_cons_zero, List.set_cons_succ])
  ((refine wpAnyH_take (i := 2) (v := ?_) (by (simp only [List.getElem?_toArray, List.getElem?_cons_succ, List.getElem?_cons_zero]); rfl) (by kernel_rfl) (by kernel_rfl) (by kernel_rfl) (by exact fun _ _ _ h => h) (Or.inl ⟨by rfl, ?_⟩) (by assumption) ?_); rotate_left; focus (intro wS hSw; (try dsimp only at hSw); go_simp; first | done | with_reducible rfl); try simp only [Act.put, List.setIfInBounds_toArray, List.set_cons_zero, List.set_cons_succ])
  ((refine wpAnyH_take (i := 3) (v := ?_) (by (simp only [List.getElem?_toArray, List.getElem?_cons_succ, List.getElem?_cons_zero]); rfl) (by kernel_rfl) (by kernel_rfl) (by kernel_rfl) (by exact fun _ _ _ h => h) (Or.inl ⟨by rfl, ?_⟩) (by assumption) ?_); rotate_left; focus (intro wS hSw; (try dsimp only at hSw); go_simp; first | done | with_reducible rfl); try simp only [Act.put, List.setIfInBounds_toArray, List.set_cons_zero, List.set_cons_succ])
  ((refine wpAnyH_take (i := 4) (v := ?_) (by (simp only [List.getElem?_toArray, List.getElem?_cons_succ, List.getElem?_cons_zero]); rfl) (by kernel_rfl) (by kernel_rfl) (by kernel_rfl) (by exact fun _ _ _ h => h) (Or.inl ⟨by rfl, ?_⟩) (by assumption) ?_); rotate_left; focus (intro wS hSw; (try dsimp only at hSw); go_simp; first | done | with_reducible rfl); try simp only [Act.put, List.setIfInBounds_toArray, List.set_cons_zero, List.set_cons_succ])
  ((refine wpAnyH_take (i := 5) (v := ?_) (by (simp only [List.getElem?_toArray, List.getElem?_cons_succ, List.getElem?_cons_zero]); rfl) (by kernel_rfl) (by kernel_rfl) (by kernel_rfl) (by exact fun _ _ _ h => h) (Or.inl ⟨by rfl, ?_⟩) (by assumption) ?_); rotate_left; focus (intro wS hSw; (try dsimp only at hSw); go_simp; first | done | with_reducible rfl); try simp only [Act.put, List.setIfInBounds_toArray, List.set_cons_zero, List.set_cons_succ])
  have HA : Hid (Below W2.drew.heap.size W2.drew (W2.drew.alloc (.cells #[.bool (decide (0 < Z))] 4))) := Lib.hid (alloc_b _ _)
  have e0 : W2.drew.cell? ⟨bR, 0, none⟩ = some (.slice ar k cr) := cell_at HH3.out.hR 0
  have ebl : bR < W2.heap.size := HH3.out.hR.lt
  have e2 : W2.cell? ⟨bR, 0, none⟩ = some (.slice ar k cr) := e0
  have ebl2 : bR < W2.drew.heap.size := HH3.out.hR.lt
  have e1 : (W2.drew.alloc (.cells #[.bool (decide (0 < Z))] 4)).cell? ⟨bR, 0, none⟩ = some (.slice ar k cr) := cell_at (HH3.out.hR.step HA.out) 0
  have HZ3 : Hid ((W2.drew.alloc (.cells #[.bool (decide (0 < Z))] 4)).cell? ⟨fo, k * 3 + 1, none⟩ = some (.int .u16 Z)) := Lib.hid ((HA.out.cell (p := ⟨fo, _, none⟩) HH3.out.fr.fl.lt).trans HZC.out)
  have HGR := Lib.hid (bo_grow (M := M) (ty := 0) (R := rdy (hsz E)) (W := W2.drew.alloc (.cells #[.bool (decide (0 < Z))] 4)) (n := k) (HH3.out.row.congr fun q e => by subst e; exact HA.out.block q HH3.out.row.lt) HH3.out.hO (by rw [HRD.out]; exact blk_new W2.drew #[.bool (decide (0 < Z))] 4) (Nat.le_trans HH3.out.fr.size HA.out.size) (by have := HN8.out; have := HK.out; omega))
  refine wpAnyH_ready (rs := [0, 6]) (by kernel_rfl) (by simp) ?_
  refine AllReadyH.cons (by (simp only [List.getElem?_toArray, List.getElem?_cons_succ, List.getElem?_cons_zero]); rfl) (fun K hK => ?_) (AllReadyH.cons (by (simp only [List.getElem?_toArray, List.getElem?_cons_succ, List.getElem?_cons_zero]); rfl) (fun K hK => ?_) AllReadyH.nil)
  · skip
    go_simp
    refine hK _ _ HZC.out (fun hHeld => ?_)
    clear hK K
    try simp only [Act.put, List.setIfInBounds_toArray, List.set_cons_zero, List.set_cons_succ]
    refine wpAnyH_ready (rs := [6]) (by kernel_rfl) (by simp) ?_
    refine AllReadyH.cons (by (simp only [List.getElem?_toArray, List.getElem?_cons_succ, List.getElem?_cons_zero]); rfl) (fun K hK => ?_) AllReadyH.nil
    go_simp
    refine hK _ _ HZ3.out (fun hHeld => ?_)
    clear hK K
    try simp only [Act.put, List.setIfInBounds_toArray, List.set_cons_zero, List.set_cons_succ]
    obtain ⟨v', ob', W5, hrun, hrow5, hg5, hn5, hb5, hm5⟩ := HGR.out
    have hrun5 : ∀ ty, (Builtin.append_ #[106, 106] ty #[.slice ar k cr, .slice (some ⟨W2.drew.heap.size, 0, none⟩) 1 1]).run Try.prog (W2.drew.alloc (.cells #[.bool (decide (0 < Z))] 4)) = .ok v' W5 := fun ty => hrun
    obtain ⟨a6, c6, rfl, _, _, rfl⟩ := hrow5.shape
    obtain ⟨W6, hW6⟩ : ∃ W, W = W5.setCell ⟨bR, 0, none⟩ (.slice (some ⟨ob', 0, none⟩) (k + 1) c6) := ⟨_, rfl⟩
    obtain ⟨hh6, hb6, hf6, f0, fz, fl⟩ := HH3.out.put HA.out hrow5 hg5 hn5 hm5 hW6
    have HZ5 : Hid (W5.cell? ⟨fo, k * 3 + 1, none⟩ = some (.int .u16 Z)) := Lib.hid (by
      have h9 := (HH3.out.step HA.out).fr
      obtain ⟨cf, hcf, _⟩ := h9.fl
      have : W5.heap[fo]? = (W2.drew.alloc (.cells #[.bool (decide (0 < Z))] 4)).heap[fo]? := hg5.block fo hcf.lt (fun e => by
        have hrw := (HH3.out.step HA.out).row
        rw [← e] at hrw
        exact row_blk_ne hrw hcf (by decide) rfl)
      exact (World.cell?_of_block (a := ⟨fo, _, none⟩) this).trans HZ3.out)
    have HH6 := Lib.hid hh6
    have HB6 := Lib.hid (HB3.out.trans hb6)
    have HF6 : Hid (Fr (g :: fo :: ft :: bR :: ob.toList) w W6) := Lib.hid (((HG2.out.mono (l' := g :: fo :: ft :: bR :: ob.toList) (by simp)).trans (Fr.of_below (belowN (Below.refl W2.heap.size W2) 1)) (by simp)).trans hf6 (fun x hx => .inl (List.mem_cons_of_mem _ (List.mem_cons_of_mem _ (List.mem_cons_of_mem _ hx)))))
    have HO6 : Hid (ob = some ob' ∨ w.heap.size ≤ ob') := Lib.hid (by
      rcases hn5 with h | h
      · exact .inl h
      · have := HG2.out.size
        simp at h
        exact .inr (by omega))
    refine wpAnyH_ready (rs := [7]) (by kernel_rfl) (by simp) ?_
    refine AllReadyH.cons (by (simp only [List.getElem?_toArray, List.getElem?_cons_succ, List.getElem?_cons_zero]); rfl) (fun K hK => ?_) AllReadyH.nil
    rw [if_pos (by rfl)]
    refine op_append_run (.tmp 16) (.tmp 22) 106 (by kernel_rfl) (by kernel_rfl) (by kernel_rfl) (hrun5 _) ?_
    refine hK _ _ HZ5.out (fun hHeld => ?_)
    clear hK K
    try simp only [Act.put, List.setIfInBounds_toArray, List.set_cons_zero, List.set_cons_succ]
    refine wpAnyH_ready (rs := [8]) (by kernel_rfl) (by simp) ?_
    refine AllReadyH.cons (by (simp only [List.getElem?_toArray, List.getElem?_cons_succ, List.getElem?_cons_zero]); rfl) (fun K hK => ?_) AllReadyH.nil
    go_simp
    rw [← hW6]
    refine hK _ _ (by have := (HH6.out.fr.fl.cell HK.out).2.1; rw [this]; show some (Value.int .u16 (upf s.z k Z k)) = _; rw [upf_at]) (fun hHeld => ?_)
    clear hK K
    try simp only [Act.put, List.setIfInBounds_toArray, List.set_cons_zero, List.set_cons_succ]
    refine wpAnyH_done (by kernel_rfl) ?_ _
    try simp only [Act.put, List.setIfInBounds_toArray, List.set_cons_zero, List.set_cons_succ]
    go_wp2_with fail
    go_end0
    exact ⟨rfl, ⟨_, _, _, _, by rw [← HZ.out]; exact HH6.out, HF6.out, HT2.out, HO6.out⟩, HB6.out⟩
  · skip
    go_simp
    refine hK _ _ HZ3.out (fun hHeld => ?_)
    clear hK K
    try simp only [Act.put, List.setIfInBounds_toArray, List.set_cons_zero, List.set_cons_succ]
    refine wpAnyH_ready (rs := [0]) (by kernel_rfl) (by simp) ?_
    refine AllReadyH.cons (by (simp only [List.getElem?_toArray, List.getElem?_cons_succ, List.getElem?_cons_zero]); rfl) (fun K hK => ?_) AllReadyH.nil
    go_simp
    refine hK _ _ HZ3.out (fun hHeld => ?_)
    clear hK K
    try simp only [Act.put, List.setIfInBounds_toArray, List.set_cons_zero, List.set_cons_succ]
    obtain ⟨v', ob', W5, hrun, hrow5, hg5, hn5, hb5, hm5⟩ := HGR.out
    have hrun5 : ∀ ty, (Builtin.append_ #[106, 106] ty #[.slice ar k cr, .slice (some ⟨W2.drew.heap.size, 0, none⟩) 1 1]).run Try.prog (W2.drew.alloc (.cells #[.bool (decide (0 < Z))] 4)) = .ok v' W5 := fun ty => hrun
    obtain ⟨a6, c6, rfl, _, _, rfl⟩ := hrow5.shape
    obtain ⟨W6, hW6⟩ : ∃ W, W = W5.setCell ⟨bR, 0, none⟩ (.slice (some ⟨ob', 0, none⟩) (k + 1) c6) := ⟨_, rfl⟩
    obtain ⟨hh6, hb6, hf6, f0, fz, fl⟩ := HH3.out.put HA.out hrow5 hg5 hn5 hm5 hW6
    have HZ5 : Hid (W5.cell? ⟨fo, k * 3 + 1, none⟩ = some (.int .u16 Z)) := Lib.hid (by
      have h9 := (HH3.out.step HA.out).fr
      obtain ⟨cf, hcf, _⟩ := h9.fl
      have : W5.heap[fo]? = (W2.drew.alloc (.cells #[.bool (decide (0 < Z))] 4)).heap[fo]? := hg5.block fo hcf.lt (fun e => by
        have hrw := (HH3.out.step HA.out).row
        rw [← e] at hrw
        exact row_blk_ne hrw hcf (by decide) rfl)
      exact (World.cell?_of_block (a := ⟨fo, _, none⟩) this).trans HZ3.out)
    have HH6 := Lib.hid hh6
    have HB6 := Lib.hid (HB3.out.trans hb6)
    have HF6 : Hid (Fr (g :: fo :: ft :: bR :: ob.toList) w W6) := Lib.hid (((HG2.out.mono (l' := g :: fo :: ft :: bR :: ob.toList) (by simp)).trans (Fr.of_below (belowN (Below.refl W2.heap.size W2) 1)) (by simp)).trans hf6 (fun x hx => .inl (List.mem_cons_of_mem _ (List.mem_cons_of_mem _ (List.mem_cons_of_mem _ hx)))))
    have HO6 : Hid (ob = some ob' ∨ w.heap.size ≤ ob') := Lib.hid (by
      rcases hn5 with h | h
      · exact .inl h
      · have := HG2.out.size
        simp at h
        exact .inr (by omega))
    refine wpAnyH_ready (rs := [7]) (by kernel_rfl) (by simp) ?_
    refine AllReadyH.cons (by (simp only [List.getElem?_toArray, List.getElem?_cons_succ, List.getElem?_cons_zero]); rfl) (fun K hK => ?_) AllReadyH.nil
    rw [if_pos (by rfl)]
    refine op_append_run (.tmp 16) (.tmp 22) 106 (by kernel_rfl) (by kernel_rfl) (by kernel_rfl) (hrun5 _) ?_
    refine hK _ _ HZ5.out (fun hHeld => ?_)
    clear hK K
    try simp only [Act.put, List.setIfInBounds_toArray, List.set_cons_zero, List.set_cons_succ]
    refine wpAnyH_ready (rs := [8]) (by kernel_rfl) (by simp) ?_
    refine AllReadyH.cons (by (simp only [List.getElem?_toArray, List.getElem?_cons_succ, List.getElem?_cons_zero]); rfl) (fun K hK => ?_) AllReadyH.nil
    go_simp
    rw [← hW6]
    refine hK _ _ (by have := (HH6.out.fr.fl.cell HK.out).2.1; rw [this]; show some (Value.int .u16 (upf s.z k Z k)) = _; rw [upf_at]) (fun hHeld => ?_)
    clear hK K
    try simp only [Act.put, List.setIfInBounds_toArray, List.set_cons_zero, List.set_cons_succ]
    refine wpAnyH_done (by kernel_rfl) ?_ _
    try simp only [Act.put, List.setIfInBounds_toArray, List.set_cons_zero, List.set_cons_succ]
    go_wp2_with fail
    go_end0
    exact ⟨rfl, ⟨_, _, _, _, by rw [← HZ.out]; exact HH6.out, HF6.out, HT2.out, HO6.out⟩, HB6.out⟩
end Go.Proofs.Ytoodmocapagapaa
namespace Go.Proofs.Ytoodmocapagapaa
open Go.RowKit
set_option linter.unusedSimpArgs false
set_option linter.unusedVariables false

structure EchP (M g fo ft n c1 : Nat) (wt : Nat → Int) (al : Int) (s' : FS) (bF bH bR : Nat) (a : Option Addr) (cap : Nat) (ob : Option Nat) (R : Nat → Bool) (k : Nat) (w w' : World) : Prop where
  ex : ∃ ft' c' vr' ob', EaAt w' M g fo ft' n c1 c' wt al s' bF bH bR a cap vr' ob' R k ∧ Fr (g :: fo :: ft :: bR :: ob.toList) w w' ∧ (ft' = ft ∨ w.heap.size ≤ ft') ∧ ∀ q, ob' = some q → ob = some q ∨ w.heap.size ≤ q
  b : BG M w w'
set_option maxRecDepth 100000 in
set_option maxHeartbeats 8000000 in
theorem each_ok (M g fo ft n c1 c2 : Nat) (wt : Nat → Int) (al : Int) (s : FS) (bF bH bR : Nat) (a : Option Addr) (cap hb ho : Nat) (E : Nat → HdE) (vr : Value) (ob : Option Nat) (w : World) (h : EaAt w M g fo ft n c1 c2 wt al s bF bH bR a cap vr ob (rdy (hsz E)) 0) (hE : ∀ W', BG M w W' → HdIn W' a n cap hb ho E) (hm : okHd (hsz E) n) (hi : Inv n s) (hw : WtOk n wt al) :
    Calls Try.prog 49 #[.pointer (some ⟨g, 0, none⟩), .func (.func 50) #[] #[.pointer (some ⟨bF, 0, none⟩), .pointer (some ⟨bH, 0, none⟩), .pointer (some ⟨bR, 0, none⟩)]] w fun e w' => e = .returned (.tuple #[]) ∧ EchP M g fo ft n c1 wt al (hearN wt al (hsz E) n s) bF bH bR a cap ob (rdy (hsz E)) n w w' := by
  have hn8 := hi.n8
  have HP := Lib.hid (fun k ft' c' vr' ob' W (hk : k < n) (hB : BG M w W) (hx : EaAt W M g fo ft' n c1 c' wt al (hearN wt al (hsz E) k s) bF bH bR a cap vr' ob' (rdy (hsz E)) k) => pick1_ok k M g fo ft' n c1 c' wt al (hearN wt al (hsz E) k s) bF bH bR a cap hb ho E vr' ob' W hx (fun W' hB' => hE W' (hB.trans hB')) hm (inv_hearN hw hm k hi (Nat.le_of_lt hk)) hw hk)
  have HH := Lib.hid h
  have HN8 := Lib.hid hn8
  have c0 : w.cell? ⟨g, 0, none⟩ = some (.slice (some ⟨fo, 0, none⟩) n c1) := cell_at h.fr.blk 0
  clear h hE hm hi hw hn8
  go_enter Try.func49, Try.ntmps49
  go_wp2_with fail
  clear c0
  go_loopw [4, 10] (fun _ i wr => ∃ (k ft' c' : Nat) (vr' : Value) (ob' : Option Nat), k ≤ n ∧ i = .int .i64 k ∧ EaAt wr M g fo ft' n c1 c' wt al (hearN wt al (hsz E) k s) bF bH bR a cap vr' ob' (rdy (hsz E)) k ∧ BG M w wr ∧ Fr (g :: fo :: ft :: bR :: ob.toList) w wr ∧ (ft' = ft ∨ w.heap.size ≤ ft') ∧ ∀ q, ob' = some q → ob = some q ∨ w.heap.size ≤ q) (fun _ i _ => n - (intOf i).toNat)
  case atStart => exact ⟨0, ft, c2, vr, ob, Nat.zero_le _, rfl, HH.out, BG.refl _ _, Fr.refl _ _, .inl rfl, fun q e => .inl e⟩
  case round =>
    clear HH
    obtain ⟨k, ft', c', vr', ob', hk, rfl, hx, hB, hf, hft, hob⟩ := hrel
    have HX := Lib.hid hx
    have HB := Lib.hid hB
    have HF := Lib.hid hf
    have HFT := Lib.hid hft
    have HOB := Lib.hid hob
    have c0 : wr.cell? ⟨g, 0, none⟩ = some (.slice (some ⟨fo, 0, none⟩) n c1) := cell_at hx.fr.blk 0
    clear hx hB hf hft hob
    by_cases hlt : k < n
    · have ww5 : IntKind.i64.wrap ((k : Int) + 1) = (k : Int) + 1 := IntWalk.i64_in _ (by have := HN8.out; omega)
      have b9 : ((k : Int) < (n : Int)) = True := eq_true (by omega)
      have bk1 : (k < n) = True := eq_true hlt
      have HLT := Lib.hid hlt
      clear hlt
      go_wp2_with fail
      go_at_call 50
      go_fit (HP.out k ft' c' vr' ob' _ HLT.out HB.out HX.out)
      rintro e W2 ⟨rfl, ⟨ft2, c3, vr2, ob2, hx2, hf2, ht2, ho2⟩, hB2⟩
      have HX2 := Lib.hid hx2
      have HB2 := Lib.hid (HB.out.trans hB2)
      have HF2 := Lib.hid (HF.out.trans hf2 (fun x hx => by
        simp only [List.mem_cons] at hx ⊢
        rcases hx with h | h | h | h | h
        · exact .inl (.inl h)
        · exact .inl (.inr (.inl h))
        · rcases HFT.out with e | e
          · exact .inl (.inr (.inr (.inl (h.trans e))))
          · exact .inr (by omega)
        · exact .inl (.inr (.inr (.inr (.inl h))))
        · have h' : ob' = some x := by simpa using h
          rcases HOB.out x h' with e | e
          · exact .inl (.inr (.inr (.inr (.inr (by rw [e]; simp)))))
          · exact .inr e))
      have HFT2 : Hid (ft2 = ft ∨ w.heap.size ≤ ft2) := Lib.hid (by
        rcases ht2 with e | e
        · rw [e]; exact HFT.out
        · exact .inr (Nat.le_trans HF.out.size e))
      have HOB2 : Hid (∀ q, some ob2 = some q → ob = some q ∨ w.heap.size ≤ q) := Lib.hid (fun q e => by
        obtain rfl := Option.some.inj e
        rcases ho2 with h | h
        · exact HOB.out _ h
        · exact .inr (Nat.le_trans HF.out.size h))
      clear hx2 hf2 ht2 ho2 hB2 c0
      go_wp2_with fail
      go_roundw
      case rel => exact ⟨k + 1, ft2, c3, vr2, some ob2, by have := HLT.out; omega, by go_num, HX2.out, HB2.out, HF2.out, HFT2.out, HOB2.out⟩
      case measure => (have h8 := HLT.out; first | (simp [intOf]; done) | (simp [intOf]; omega))
    · obtain rfl : k = n := by omega
      go_wp2_with fail
      go_end0
      exact ⟨rfl, ⟨_, _, _, _, HX.out, HF.out, HFT.out, HOB.out⟩, HB.out⟩
end Go.Proofs.Ytoodmocapagapaa
namespace Go.Proofs.Ytoodmocapagapaa
open Go.RowKit
set_option linter.unusedSimpArgs false
set_option linter.unusedVariables false

theorem FrAt.vt {W W' : World} {M g fo ft n c1 c2 : Nat} {wt : Nat → Int} {al : Int} {s : FS} (h : FrAt W M g fo ft n c1 c2 wt al s) {V' : Int} {T' : Nat → TagsE} {ft' c' : Nat} (hr : Row W (.slice (some ⟨ft', 0, none⟩) n c') (some ft') 129 2 n (tagsL T' n)) (hM : M ≤ ft') (hW : W' = (W.setCell ⟨g, 2, none⟩ (.int .i64 V')).setCell ⟨g, 3, none⟩ (.slice (some ⟨ft', 0, none⟩) n c')) :
    FrAt W' M g fo ft' n c1 c' wt al ⟨V', T', s.z, s.sv⟩ ∧ Fr [g] W W' := by
  have hf2 : Fr [g] W W' := by rw [hW]; exact ((Fr.refl _ _).setCell _ (.inl (by simp)) _).setCell _ (.inl (by simp)) _
  have hk2 : Blk W' g #[.slice (some ⟨fo, 0, none⟩) n c1, .int .i64 al, .int .i64 V', .slice (some ⟨ft', 0, none⟩) n c'] 101 := by rw [hW]; exact (h.blk.set 2 _).set 3 _
  have hne := h.ne
  have hgt : g ≠ ft' := by
    rintro rfl
    obtain ⟨ct, hc⟩ := blk_row hr
    have := hc.symm.trans h.blk
    injection this with e'
    injection e' with e1 e2
    revert e2
    decide
  exact ⟨⟨hk2, h.fl.fr hf2 (by simpa using fun e => hne.1 e.symm), h.cp, hr.congr fun q e => by
    obtain rfl := Option.some.inj e
    exact hf2.block _ hr.lt (by simpa using fun e => hgt e.symm), ⟨h.ge.1, h.ge.2.1, hM⟩⟩, hf2⟩
theorem FrAt.sv1 {W W' : World} {M g fo ft n c1 c2 : Nat} {wt : Nat → Int} {al : Int} {s : FS} (h : FrAt W M g fo ft n c1 c2 wt al s) {k : Nat} (hk : k < n) (hW : W' = W.setCell ⟨fo, k * 3 + 2, none⟩ (.bool true)) :
    FrAt W' M g fo ft n c1 c2 wt al ⟨s.V, s.T, s.z, upf s.sv k true⟩ ∧ Fr [fo] W W' := by
  obtain ⟨p, q⟩ := h.fl.put1 hk true hW
  have hne := h.ne
  exact ⟨⟨(q.block g h.blk.lt (by simpa using hne.1)).trans h.blk, p, h.cp, h.tg.congr fun x e => by obtain rfl := Option.some.inj e; exact q.block _ h.tg.lt (by simpa using fun e => hne.2.2 e.symm), h.ge⟩, q⟩
/-- what virtual answers a scheduler -/
def VTk (w : World) (n : Nat) (V : Int) (T : Nat → TagsE) (mk : Value → Value) (e : Ending) (w' : World) : Prop := ∃ ft' c', e = .returned (mk (.agg #[.int .i64 V, .slice (some ⟨ft', 0, none⟩) n c'])) ∧ Row w' (.slice (some ⟨ft', 0, none⟩) n c') (some ft') 129 2 n (tagsL T n) ∧ w.heap.size ≤ ft' ∧ Below w.heap.size w w'
theorem vpick_ok (V : Int) (ft n c2 : Nat) (T : Nat → TagsE) (ra : Option Addr) (rc rb ro : Nat) (R : Nat → Bool) (k0 k : Nat) (w : World) (hs : TagsIn w (some ⟨ft, 0, none⟩) n c2 ft 0 T) (hn : n ≤ 8) (h0 : 0 < n) (hr : BoolsIn w ra n rc rb ro R) (hv : vokB V n T = true) (h1 : firstS R (ltS T) n = some k0) (h2 : firstS (tkN T R (max V (T k0).s)) (ltF T) n = some k) :
    Calls Try.prog 52 #[.agg #[.int .i64 V, .slice (some ⟨ft, 0, none⟩) n c2], .slice ra n rc] w (VTk w n (max V (T k0).s) T fun v => .tuple #[v, .int .i64 k, .bool true]) := by
  refine (pick_any V _ n c2 ft 0 T ra n rc rb ro R w hs (by omega) hr).mono fun e w' h => ?_
  unfold PickP at h
  rw [if_pos ⟨hv, rfl⟩, h1] at h
  simp only at h
  rw [firstI_some h2] at h
  obtain ⟨v, rfl, hv⟩ := h
  obtain ⟨ft', c', rfl, h1, h2, h3⟩ := vout_own hv h0
  exact ⟨ft', c', rfl, h1, h2, h3⟩
theorem vpick_no (V : Int) (ft n c2 : Nat) (T : Nat → TagsE) (ra : Option Addr) (rc rb ro : Nat) (R : Nat → Bool) (w : World) (hs : TagsIn w (some ⟨ft, 0, none⟩) n c2 ft 0 T) (hn : n ≤ 8) (hr : BoolsIn w ra n rc rb ro R) (hv : vokB V n T = true) (h1 : firstS R (ltS T) n = none) :
    Calls Try.prog 52 #[.agg #[.int .i64 V, .slice (some ⟨ft, 0, none⟩) n c2], .slice ra n rc] w fun e w' => ∃ a c, e = .returned (.tuple #[.agg #[.int .i64 0, .slice a 0 c], .int .i64 0, .bool false]) ∧ Below w.heap.size w w' := by
  refine (pick_any V _ n c2 ft 0 T ra n rc rb ro R w hs (by omega) hr).mono fun e w' h => ?_
  unfold PickP at h
  rw [if_pos ⟨hv, rfl⟩, h1] at h
  obtain ⟨v, rfl, a, c, ob, rfl, _, _, hB⟩ := h
  exact ⟨a, c, rfl, hB⟩
theorem vserve_ok (V : Int) (ft n c2 : Nat) (T : Nat → TagsE) (z : Int) (w : World) (hs : TagsIn w (some ⟨ft, 0, none⟩) n c2 ft 0 T) (hn : n ≤ 8) (h0 : 0 < n) (hv : serveB V n T z = true) :
    Calls Try.prog 54 #[.agg #[.int .i64 V, .slice (some ⟨ft, 0, none⟩) n c2], .int .i64 z] w (VTk w n (V + z * 720720) T fun v => .tuple #[v, .int .i64 0]) := by
  refine (serve_any V _ n c2 ft 0 T z w hs (by omega)).mono fun e w' h => ?_
  unfold ServeP at h
  rw [hv] at h
  obtain ⟨v, rfl, hv⟩ := h
  obtain ⟨ft', c', rfl, h1, h2, h3⟩ := vout_own hv h0
  exact ⟨ft', c', rfl, h1, h2, h3⟩
def reV (V : Int) : Int := if 1125899906842624 < V then 1099511627776 else V
def reT (V : Int) (n : Nat) (T : Nat → TagsE) : Nat → TagsE := if 1125899906842624 < V then rebT T (V - 1099511627776) n else T
theorem vreb_ok (V : Int) (ft n c2 : Nat) (T : Nat → TagsE) (w : World) (hs : TagsIn w (some ⟨ft, 0, none⟩) n c2 ft 0 T) (hn : n ≤ 8) (h0 : 0 < n) (hv : vokB V n T = true) :
    Calls Try.prog 55 #[.agg #[.int .i64 V, .slice (some ⟨ft, 0, none⟩) n c2]] w (VTk w n (reV V) (reT V n T) fun v => v) := by
  refine (rebase_any V _ n c2 ft 0 T w hs (by omega)).mono fun e w' h => ?_
  unfold RebP at h
  obtain ⟨v, rfl, h⟩ := h
  unfold reV reT
  by_cases hl : 1125899906842624 < V
  · have : lateB V n T = true := by unfold lateB; rw [hv]; simpa using hl
    rw [this] at h
    obtain ⟨ft', c', rfl, h1, h2, h3⟩ := vout_own h h0
    rw [if_pos hl, if_pos hl]
    exact ⟨ft', c', rfl, h1, h2, h3⟩
  · have : lateB V n T = false := by unfold lateB; rw [hv]; simpa using hl
    rw [this] at h
    obtain ⟨ft', c', rfl, h1, h2, h3⟩ := vout_own h h0
    rw [if_neg hl, if_neg hl]
    exact ⟨ft', c', rfl, h1, h2, h3⟩
theorem takeS_re (n k : Nat) (now size : Int) (s : FS) : takeS n k now size s = ⟨reV (now + size * 720720), reT (now + size * 720720) n s.T, s.z, upf s.sv k true⟩ := rfl
/-- the time between is one that may be -/
theorem mid_ok {n : Nat} {s : FS} (h : Inv n s) {now z : Int} (hn : s.V ≤ now ∧ now ≤ s.V + 138378240000) (hz : 1 ≤ z ∧ z ≤ 1500) : vokB now n s.T = true ∧ serveB now n s.T z = true ∧ vokB (now + z * 720720) n s.T = true := by
  have hV := h.V
  have hv := h.vok
  have hv1 : ∀ x : Int, 0 ≤ x → x ≤ 1152921504606846976 → vokB x n s.T = true := fun x h1 h2 => by
    unfold vokB timeB at hv ⊢
    simp at hv ⊢
    exact ⟨⟨hv.1.1, h1, h2⟩, hv.2⟩
  have a := hv1 now (by omega) (by omega)
  refine ⟨a, ?_, hv1 _ (by omega) (by omega)⟩
  unfold serveB
  rw [a]
  simp
  omega
theorem now_bd {n : Nat} {s : FS} (h : Inv n s) {k0 : Nat} (hk : k0 < n) : s.V ≤ max s.V (s.T k0).s ∧ max s.V (s.T k0).s ≤ s.V + 138378240000 := by
  have := (h.k k0 hk).sV
  omega
end Go.Proofs.Ytoodmocapagapaa
