/-
  A step of both queues: Push.
-/
import Derived.Test.YtninhjeiialbjaaPlh
namespace Go.Proofs.Ytninhjeiialbjaa
open Go.RowKit
set_option linter.unusedSimpArgs false
set_option linter.unusedVariables false

theorem jstep_push (B D R o room f n D2 : Nat) (dr : Int) (ob : Option Nat) (v : Value) (E F : Nat → PkE) (k num t c : Int) (a : Option Addr) (ln ca b oo : Nat) (X : Nat → Nat) (w : World) (h : JQ w D R o room f n dr D2 ob v E F) (hl : ByIn w a ln ca b oo X) (hbB : 0 < ln → b < B) (hln : ln ≤ 3000) (hdr : 0 ≤ dr ∧ dr ≤ 1000000) (hBw : B ≤ w.heap.size) (hBD : B ≤ D ∧ B ≤ R ∧ B ≤ D2) (hBo : ∀ g, ob = some g → B ≤ g) :
    Calls Try.prog 37 #[.pointer (some ⟨D, 0, none⟩), .pointer (some ⟨D2, 0, none⟩), .agg #[.int .i64 0, .int .i64 k, .int .i64 num, .int .i64 t, .int .i64 c, .slice a ln ca]] w fun e w' => e = .returned (.bool true) ∧ ∃ dr', (dr' = dr ∨ dr' = dr + 1) ∧ JP B D R o room D2 dr' w w' := by
  have hDl := h.q.own.lt
  have hRl : R < w.heap.size := by obtain ⟨_, h1, _⟩ := h.q.ring; exact h1.lt
  have hD2l := h.r.own.lt
  have hol : ∀ g, ob = some g → g < w.heap.size := fun g hg => by have hr := h.r.row; subst hg; exact hr.lt
  have hr64 := h.q.r64
  have hnl := h.q.nl
  by_cases h14 : 1492 < ln
  · refine (step_push D D2 k num t c a ln ca 2 w [] [] (by simp) (by simp) (fun W W1 => Below W.heap.size W W1) (fun _ W1 W2 => Below W1.heap.size W1 W2) (fun W hW => ?_) (fun W W1 hW h1 => ?_)).mono ?_
    · refine (fpush_long D num t c a ln ca W h14 (by omega)).mono ?_
      rintro e W1 ⟨rfl, hb⟩
      exact ⟨rfl, hb, Fr.of_below hb⟩
    · refine (rpush_long D2 num t c a ln ca W1 h14 (by omega)).mono ?_
      rintro e W2 ⟨rfl, hb⟩
      exact ⟨rfl, hb, Fr.of_below hb⟩
    · rintro e w' ⟨rfl, W, W1, g1, g2, g3⟩
      have hall : Below w.heap.size w w' := by
        have a1 := g1.size
        have a2 := g2.size
        exact (g1.trans (g2.mono a1)).trans (g3.mono (by omega))
      exact ⟨rfl, dr, .inl rfl, f, n, ob, v, E, F, h.below hall, hBo, hall.mono hBw⟩
  · by_cases hfull : n = room
    · refine (step_push D D2 k num t c a ln ca 100 w [D, R] [D2] (by simp; omega) (by simp; omega)
        (fun W W1 => QIn W1 D R o room f n (sumB E n : Nat) (dr + 1) E ∧ Fr [D, R] W W1) (fun _ W1 W2 => RQ W2 D2 room n (dr + 1) ob v F ∧ Fr [D2] W1 W2) (fun W hW => ?_) (fun W W1 hW h1 => ?_)).mono ?_
      · refine (fpush_full D R o room f n _ dr E num t c a ln ca W (h.q.below hW) hfull b oo X (hl.below hW) (by omega) hdr).mono ?_
        rintro e W1 ⟨rfl, q1, q2⟩
        exact ⟨rfl, ⟨q1, q2⟩, q2⟩
      · refine (rpush_full D2 room n dr ob v F num t c a ln ca W1 ((h.below hW).mid h1.2) (by omega) (by omega) hdr).mono ?_
        rintro e W2 ⟨rfl, q1, q2⟩
        exact ⟨rfl, ⟨q1, q2⟩, q2⟩
      · rintro e w' ⟨rfl, W, W1, g1, ⟨g2, g2'⟩, g3, g3'⟩
        have a1 := g1.size
        have a2 := g2'.size
        have b2 : Below B W W1 := g2'.below (by omega) (by simp; omega)
        have b3 : Below B W1 w' := g3'.below (by omega) (by simp; omega)
        exact ⟨rfl, dr + 1, .inr rfl, f, n, ob, v, E, F, (h.below g1).full g2 (Below.refl _ _) g3 g3', hBo, ((g1.mono hBw).trans b2).trans b3⟩
    · refine (step_push D D2 k num t c a ln ca 0 w [D, R] (D2 :: ob.toList) (by simp; omega) (fun x hx => ?_)
        (fun W W1 => (∃ a' c' b', (0 < ln → W.heap.size ≤ b') ∧ QIn W1 D R o room f (n + 1) (((sumB E n : Nat) : Int) + (8 + (ln : Int))) dr (putE E n ⟨num, t, c, a', ln, c', b', 0, X⟩)) ∧ Fr [D, R] W W1)
        (fun _ W1 W2 => (∃ a' c' b' ob' v', RQ W2 D2 room (n + 1) dr (some ob') v' (putE F n ⟨num, t, c, a', ln, c', b', 0, X⟩) ∧ (ob = some ob' ∨ W1.heap.size ≤ ob') ∧ (0 < ln → W1.heap.size ≤ b')) ∧ Fr (D2 :: ob.toList) W1 W2) (fun W hW => ?_) (fun W W1 hW h1 => ?_)).mono ?_
      · rcases List.mem_cons.1 hx with rfl | hx
        · exact hD2l
        · exact hol x (by cases ob with
            | none => simp at hx
            | some g => simp at hx; rw [hx])
      · have hs := sumB_le E n (fun j hj => (h.q.ld j hj).le)
        refine (fpush_any2 D R o room f n _ dr E num t c a ln ca W (h.q.below hW) (by omega) b oo X (hl.below hW) (by omega) ⟨by omega, by omega⟩).mono ?_
        rintro e W1 ⟨rfl, q1, q2⟩
        exact ⟨rfl, ⟨q1, q2⟩, q2⟩
      · have hlW : ByIn W1 a ln ca b oo X := ⟨hl.le, hl.max, fun hk => ⟨(hl.at_ hk).1, by have := (hl.at_ hk).2; have := hW.size; have := h1.2.size; omega⟩, fun j hj => by
          have h0 : b < B := hbB (by omega)
          have h2 := (hl.at_ (by omega)).2
          exact (cell_congr (h1.2.block b (by have := hW.size; omega) (by simp; omega)) _).trans (((hl.below hW).cell j hj)), hl.bd⟩
        refine (rpush_any D2 room n dr ob v F num t c a ln ca b oo X W1 ((h.below hW).mid h1.2) hlW (by omega) (by omega) (by omega)).mono ?_
        rintro e W2 ⟨rfl, a', c', b', ob', v', q1, q2, q3, q4⟩
        exact ⟨rfl, ⟨⟨a', c', b', ob', v', q1, q2, q3⟩, q4⟩, q4⟩
      · rintro e w' ⟨rfl, W, W1, g1, ⟨⟨a1, c1, b1, k1, k2⟩, g2'⟩, ⟨a2, c2, b2, ob', v', k3, k4, k5⟩, g3'⟩
        have s1 := g1.size
        have s2 := g2'.size
        have p2 : Below B W W1 := g2'.below (by omega) (by simp; omega)
        have p3 : Below B W1 w' := g3'.below (by omega) (fun x hx => by
          rcases List.mem_cons.1 hx with rfl | hx
          · exact hBD.2.2
          · exact hBo x (by cases ob with
              | none => simp at hx
              | some g => simp at hx; rw [hx]))
        refine ⟨rfl, dr, .inl rfl, f, n + 1, some ob', v', _, _, (h.below g1).push (y := ⟨num, t, c, a1, ln, c1, b1, 0, X⟩) (z := ⟨num, t, c, a2, ln, c2, b2, 0, X⟩) k2 g2' (Below.refl _ _) k3 g3' k4 ⟨rfl, rfl, rfl, rfl, fun _ _ => rfl⟩ k1 k5, fun g hg => ?_, ((g1.mono hBw).trans p2).trans p3⟩
        obtain rfl := Option.some.inj hg
        rcases k4 with e | e
        · exact hBo _ e
        · omega
end Go.Proofs.Ytninhjeiialbjaa
