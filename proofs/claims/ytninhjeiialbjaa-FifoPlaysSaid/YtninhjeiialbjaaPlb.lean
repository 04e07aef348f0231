/-
  Head of a queue without packets; both queues beside one another.
-/
import Derived.Test.YtninhjeiialbjaaPla
namespace Go.Proofs.Ytninhjeiialbjaa
open Go.RowKit
set_option linter.unusedSimpArgs false
set_option linter.unusedVariables false

set_option maxRecDepth 100000 in
set_option maxHeartbeats 4000000 in
theorem zhead_any (D R o room f : Nat) (by_ dr : Int) (E : Nat → PkE) (w : World) (hq : QIn w D R o room f 0 by_ dr E) : Calls Try.prog 44 #[.pointer (some ⟨D, 0, none⟩)] w fun e w' => e = .returned (.tuple #[.agg #[.int .i64 0, .int .i64 0, .int .i64 0, .slice none 0 0], .bool false]) ∧ Below w.heap.size w w' := by
  have HQ := Lib.hid (hq.below ((Below.refl w.heap.size w).alloc (Nat.le_refl _) (.cells #[.int .i64 0, .int .i64 0, .int .i64 0, .slice none 0 0] 57)))
  clear hq
  go_enter Try.func44, Try.ntmps44
  go_wp2_with (go_at_call 38; refine (flen_any D R o room f 0 by_ dr E _ HQ.out).mono ?_; rintro e W ⟨rfl, rfl⟩)
  exact bodyPost_ret (v := .tuple #[.agg #[.int .i64 0, .int .i64 0, .int .i64 0, .slice none 0 0], .bool false]) (by simp [results, Try.results44, go_sem]) rfl ⟨rfl, (Below.refl _ _).alloc (Nat.le_refl _) _⟩

theorem RQ.fr {W W' : World} {D : Nat} {room : Int} {n : Nat} {lost : Int} {ob : Option Nat} {v : Value} {E : Nat → PkE} (h : RQ W D room n lost ob v E) {l : List Nat} (hF : Fr l W W') (hD : D ∉ l) (ho : ∀ g, ob = some g → g ∉ l) (hb : ∀ j, j < n → 0 < (E j).n → (E j).b ∉ l) : RQ W' D room n lost ob v E :=
  ⟨(hF.block D h.own.lt hD).trans h.own, h.row.congr (fun g hg => hF.block g (by have hr := h.row; subst hg; exact hr.lt) (ho g hg)), h.ne, fun j hj => by
    have hx := h.ld j hj
    exact ⟨hx.le, hx.max, fun hk => ⟨(hx.at_ hk).1, by have := (hx.at_ hk).2; have := hF.size; omega⟩, fun k hk => (cell_congr (hF.block _ (hx.at_ (by omega)).2 (hb j hj (by omega))) _).trans (hx.cell k hk), hx.bd⟩, h.le, h.d⟩
theorem QIn.fr {W W' : World} {D R o room f n : Nat} {by_ dr : Int} {E : Nat → PkE} (h : QIn W D R o room f n by_ dr E) {l : List Nat} (hF : Fr l W W') (hD : D ∉ l) (hR : R ∉ l) (hb : ∀ j, j < n → 0 < (E j).n → (E j).b ∉ l) : QIn W' D R o room f n by_ dr E := by
  obtain ⟨cur, h1, h2, h3⟩ := h.ring
  refine ⟨(hF.block D h.own.lt hD).trans h.own, ⟨cur, (hF.block R h1.lt hR).trans h1, h2, h3⟩, h.ne, h.r1, h.r64, h.fl, h.nl, fun j hj => ?_⟩
  have hx := h.ld j hj
  exact ⟨⟨hx.by_.le, hx.by_.max, fun hk => ⟨(hx.by_.at_ hk).1, by have := (hx.by_.at_ hk).2; have := hF.size; omega⟩, fun k hk => (cell_congr (hF.block _ (hx.by_.at_ (by omega)).2 (hb j hj (by omega))) _).trans (hx.by_.cell k hk), hx.by_.bd⟩, hx.le, hx.d, hx.r⟩

/-- the same packet, wherever its load lies -/
def PkE.sim (x y : PkE) : Prop := x.num = y.num ∧ x.t = y.t ∧ x.c = y.c ∧ x.n = y.n ∧ ∀ j, j < x.n → x.X j = y.X j
theorem sameP_sim {x y : PkE} (h : x.sim y) : sameP x y = true := by
  obtain ⟨h1, h2, h3, h4, h5⟩ := h
  unfold sameP markB
  simp only [Bool.and_eq_true, beq_iff_eq]
  exact ⟨⟨h1, h2, h3⟩, h4, (eqB_iff _ _ _).2 h5⟩
/-- the program's queue and the document's, with the same packets -/
structure JQ (W : World) (D R o room f n : Nat) (dr : Int) (D2 : Nat) (ob : Option Nat) (v : Value) (E F : Nat → PkE) : Prop where
  q : QIn W D R o room f n (sumB E n : Nat) dr E
  r : RQ W D2 room n dr ob v F
  sim : ∀ j, j < n → (E j).sim (F j)
  ne : D2 ≠ D ∧ D2 ≠ R
  neo : ∀ g, ob = some g → g ≠ D ∧ g ≠ R
  eb : ∀ j, j < n → 0 < (E j).n → (E j).b ≠ D2 ∧ ∀ g, ob = some g → (E j).b ≠ g
  fb : ∀ j, j < n → 0 < (F j).n → (F j).b ≠ D ∧ (F j).b ≠ R
theorem JQ.below {W W' : World} {D R o room f n : Nat} {dr : Int} {D2 : Nat} {ob : Option Nat} {v : Value} {E F : Nat → PkE} (h : JQ W D R o room f n dr D2 ob v E F) (hB : Below W.heap.size W W') : JQ W' D R o room f n dr D2 ob v E F :=
  ⟨h.q.below hB, h.r.below hB, h.sim, h.ne, h.neo, h.eb, h.fb⟩
theorem JQ.sums {W : World} {D R o room f n : Nat} {dr : Int} {D2 : Nat} {ob : Option Nat} {v : Value} {E F : Nat → PkE} (h : JQ W D R o room f n dr D2 ob v E F) : sumB E n = sumB F n := sumB_congr fun k hk => (h.sim k hk).2.2.2.1
end Go.Proofs.Ytninhjeiialbjaa
