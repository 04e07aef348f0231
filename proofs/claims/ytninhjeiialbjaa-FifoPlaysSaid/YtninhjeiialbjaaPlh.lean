/-
  A step of both queues: Pop.
-/
import Derived.Test.YtninhjeiialbjaaPlg
namespace Go.Proofs.Ytninhjeiialbjaa
open Go.RowKit
set_option linter.unusedSimpArgs false
set_option linter.unusedVariables false

/-- what a step leaves, with the same count of lost ones -/
def JP (B D R o room D2 : Nat) (dr : Int) (w w' : World) : Prop := ∃ f n ob v E F, JQ w' D R o room f n dr D2 ob v E F ∧ (∀ g, ob = some g → B ≤ g) ∧ Below B w w'

theorem jstep_pop (B D R o room f n D2 : Nat) (dr : Int) (ob : Option Nat) (v : Value) (E F : Nat → PkE) (k num t c : Int) (a : Option Addr) (ln ca : Nat) (w : World) (h : JQ w D R o room f n dr D2 ob v E F) (hBw : B ≤ w.heap.size) (hBD : B ≤ D ∧ B ≤ R ∧ B ≤ D2) (hBo : ∀ g, ob = some g → B ≤ g) :
    Calls Try.prog 37 #[.pointer (some ⟨D, 0, none⟩), .pointer (some ⟨D2, 0, none⟩), .agg #[.int .i64 1, .int .i64 k, .int .i64 num, .int .i64 t, .int .i64 c, .slice a ln ca]] w fun e w' => e = .returned (.bool true) ∧ JP B D R o room D2 dr w w' := by
  have hDl := h.q.own.lt
  have hRl : R < w.heap.size := by obtain ⟨_, h1, _⟩ := h.q.ring; exact h1.lt
  have hD2l := h.r.own.lt
  rcases Nat.eq_zero_or_pos n with rfl | hn
  · refine (step_pop D D2 k num t c a ln ca nilP nilP ⟨rfl, rfl, rfl, rfl, fun _ _ => rfl⟩ 4 w [] [] (by simp) (by simp) (fun W W1 => Below W.heap.size W W1) (fun _ _ W2 W3 => Below W2.heap.size W2 W3) (fun W hW => ?_) (fun W W1 W2 hW h1 h2 => ?_)).mono ?_
    · refine (zpop_any D R o room f _ dr E W (h.q.below hW)).mono ?_
      rintro e W1 ⟨rfl, hb⟩
      exact ⟨none, 0, 0, rfl, by_nil _, (fun hp => absurd hp (by simp [nilP])), hb, Fr.of_below hb⟩
    · refine (rpop_none D2 room dr ob v F W2 (((h.r.below hW).below h1).below h2)).mono ?_
      rintro e W3 ⟨rfl, hb⟩
      exact ⟨none, 0, 0, rfl, by_nil _, hb, Fr.of_below hb⟩
    · rintro e w' ⟨rfl, W, W1, W2, W3, g1, g2, g3, g4, g5⟩
      have hall : Below w.heap.size w w' := by
        have a1 := g1.size
        have a2 := g2.size
        have a3 := g3.size
        have a4 := g4.size
        exact (((g1.trans (g2.mono a1)).trans (g3.mono (by omega))).trans (g4.mono (by omega))).trans (g5.mono (by omega))
      exact ⟨rfl, f, 0, ob, v, E, F, h.below hall, hBo, hall.mono hBw⟩
  · have hs64 : sumB E n ≤ 1000000 := by
      have := sumB_le E n (fun j hj => (h.q.ld j hj).le)
      have := h.q.nl
      have := h.q.r64
      omega
    refine (step_pop D D2 k num t c a ln ca (E 0) (F 0) (h.sim 0 hn) 0 w [D, R] [D2] (by simp; omega) (by simp; omega)
      (fun W W1 => QIn W1 D R o room ((f + 1) % room) (n - 1) (((sumB E n : Nat) : Int) - (8 + ((E 0).n : Int))) dr (fun j => E (j + 1)) ∧ Fr [D, R] W W1) (fun _ _ W2 W3 => ∃ v', RQ W3 D2 room (n - 1) dr ob v' (fun j => F (j + 1)) ∧ Fr [D2] W2 W3) (fun W hW => ?_) (fun W W1 W2 hW h1 h2 => ?_)).mono ?_
    · refine (fpop_any D R o room f n _ dr E W (h.q.below hW) hn ⟨by omega, by omega⟩).mono ?_
      rintro e W1 ⟨a', c', b', rfl, q1, q2, q3, q4⟩
      exact ⟨a', c', b', rfl, q1, (fun hp => by have := q2 hp; have := hW.size; omega), ⟨q3, q4⟩, q4⟩
    · refine (rpop_any D2 room n dr ob v F W2 (((h.below hW).mid h1.2).below h2) hn).mono ?_
      rintro e W3 ⟨a', c', b', v', rfl, q1, q2, q3, q4⟩
      exact ⟨a', c', b', rfl, q1, ⟨v', q3, q4⟩, q4⟩
    · rintro e w' ⟨rfl, W, W1, W2, W3, g1, ⟨g2, g2'⟩, g3, ⟨v', g4, g4'⟩, g5⟩
      have a1 := g1.size
      have a2 := g2'.size
      have a3 := g3.size
      have a4 := g4'.size
      have b2 : Below B W W1 := g2'.below (by omega) (by simp; omega)
      have b4 : Below B W2 W3 := g4'.below (by omega) (by simp; omega)
      exact ⟨rfl, _, _, ob, v', _, _, ((h.below g1).pop hn g2 g3 g4 g4').below g5, hBo, ((((g1.mono hBw).trans b2).trans (g3.mono (by omega))).trans b4).trans (g5.mono (by omega))⟩

theorem jstep_head (B D R o room f n D2 : Nat) (dr : Int) (ob : Option Nat) (v : Value) (E F : Nat → PkE) (k num t c : Int) (a : Option Addr) (ln ca : Nat) (w : World) (h : JQ w D R o room f n dr D2 ob v E F) (hBw : B ≤ w.heap.size) (hBo : ∀ g, ob = some g → B ≤ g) :
    Calls Try.prog 37 #[.pointer (some ⟨D, 0, none⟩), .pointer (some ⟨D2, 0, none⟩), .agg #[.int .i64 2, .int .i64 k, .int .i64 num, .int .i64 t, .int .i64 c, .slice a ln ca]] w fun e w' => e = .returned (.bool true) ∧ JP B D R o room D2 dr w w' := by
  have fin : ∀ w' : World, (∃ W W1 W2 W3, Below w.heap.size w W ∧ Below W.heap.size W W1 ∧ Below W1.heap.size W1 W2 ∧ Below W2.heap.size W2 W3 ∧ Below W3.heap.size W3 w') → JP B D R o room D2 dr w w' := by
    rintro w' ⟨W, W1, W2, W3, g1, g2, g3, g4, g5⟩
    have hall : Below w.heap.size w w' := by
      have a1 := g1.size
      have a2 := g2.size
      have a3 := g3.size
      have a4 := g4.size
      exact (((g1.trans (g2.mono a1)).trans (g3.mono (by omega))).trans (g4.mono (by omega))).trans (g5.mono (by omega))
    exact ⟨f, n, ob, v, E, F, h.below hall, hBo, hall.mono hBw⟩
  rcases Nat.eq_zero_or_pos n with rfl | hn
  · refine (step_head D D2 k num t c a ln ca nilP nilP ⟨rfl, rfl, rfl, rfl, fun _ _ => rfl⟩ false w [] [] (by simp) (by simp) (fun W W1 => Below W.heap.size W W1) (fun _ _ W2 W3 => Below W2.heap.size W2 W3) (fun W hW => ?_) (fun W W1 W2 hW h1 h2 => ?_)).mono ?_
    · refine (zhead_any D R o room f _ dr E W (h.q.below hW)).mono ?_
      rintro e W1 ⟨rfl, hb⟩
      exact ⟨none, 0, 0, rfl, by_nil _, (fun hp => absurd hp (by simp [nilP])), hb, Fr.of_below hb⟩
    · refine (rhead_none D2 room dr ob v F W2 (((h.r.below hW).below h1).below h2)).mono ?_
      rintro e W3 ⟨rfl, hb⟩
      exact ⟨none, 0, 0, rfl, by_nil _, hb, Fr.of_below hb⟩
    · rintro e w' ⟨rfl, hx⟩
      exact ⟨rfl, fin w' hx⟩
  · refine (step_head D D2 k num t c a ln ca (E 0) (F 0) (h.sim 0 hn) true w [] [] (by simp) (by simp) (fun W W1 => Below W.heap.size W W1) (fun _ _ W2 W3 => Below W2.heap.size W2 W3) (fun W hW => ?_) (fun W W1 W2 hW h1 h2 => ?_)).mono ?_
    · refine (fhead_any D R o room f n _ dr E W (h.q.below hW) hn).mono ?_
      rintro e W1 ⟨a', c', b', rfl, q1, q2, q3⟩
      exact ⟨a', c', b', rfl, q1, (fun hp => by have := q2 hp; have := hW.size; omega), q3, Fr.of_below q3⟩
    · refine (rhead_any D2 room n dr ob v F W2 (((h.r.below hW).below h1).below h2) hn).mono ?_
      rintro e W3 ⟨a', c', b', rfl, q1, q2, q3⟩
      exact ⟨a', c', b', rfl, q1, q3, Fr.of_below q3⟩
    · rintro e w' ⟨rfl, hx⟩
      exact ⟨rfl, fin w' hx⟩
end Go.Proofs.Ytninhjeiialbjaa
