/-
  What is newer: the program's answer, and the document's.
-/
import Derived.Test.YtcadinoijclfnaaRw5
namespace Go.Proofs.Ytcadinoijclfnaa
open Go.RowKit
set_option linter.unusedSimpArgs false
set_option linter.unusedVariables false

theorem rowsB_head {base term : Int} {len : Nat} {E : Nat → Ent} (h : rowsB base term len E = true) : 0 ≤ base ∧ base ≤ 1099511627776 - len ∧ len ≤ 4096 ∧ 0 ≤ term := by
  unfold rowsB headB at h
  simp at h
  omega
theorem rowsE_ok {base term : Int} {len : Nat} {E : Nat → Ent} (h : rowsB base term len E = true) : rowsE base term len E = 0 := by unfold rowsE; rw [h]; rfl
theorem rowsE_bad {base term : Int} {len : Nat} {E : Nat → Ent} (h : rowsB base term len E = false) : rowsE base term len E = 90 := by unfold rowsE; rw [h]; rfl

/-- the box of rows, behind calls that make memory -/
def Box (w : World) (base term : Int) (v : Value) (W : World) : Prop :=
  (W.cell? ⟨w.heap.size, 0, none⟩ = some (.int .i64 base) ∧ W.cell? ⟨w.heap.size, 1, none⟩ = some (.int .i64 term) ∧ W.cell? ⟨w.heap.size, 2, none⟩ = some v) ∧ w.heap.size < W.heap.size ∧ Below w.heap.size w W
theorem Box.mk0 (w : World) (base term : Int) (v : Value) : Box w base term v (w.alloc (.cells #[.int .i64 base, .int .i64 term, v] 24)) :=
  ⟨⟨by go_simp, by go_simp, by go_simp⟩, by simp, (Below.refl _ _).alloc (Nat.le_refl _) _⟩
theorem Box.step {w A B : World} {base term : Int} {v : Value} (q : Box w base term v A) (h : Below A.heap.size A B) : Box w base term v B := by
  obtain ⟨⟨q0, q1, q2⟩, q3, q4⟩ := q
  exact ⟨⟨(h.cell (p := ⟨_, 0, none⟩) q3).trans q0, (h.cell (p := ⟨_, 1, none⟩) q3).trans q1, (h.cell (p := ⟨_, 2, none⟩) q3).trans q2⟩, by have := h.size; omega, q4.trans (h.mono q4.size)⟩
theorem Box.drew {w A : World} {base term : Int} {v : Value} (q : Box w base term v A) : Box w base term v A.drew := ⟨q.1, q.2.1, q.2.2.drew⟩

set_option maxRecDepth 100000 in
set_option maxHeartbeats 2000000 in
theorem rlast_ok (base term : Int) (a : Option Addr) (len cap b o : Nat) (E : Nat → Ent) (w : World) (hs : EntsIn w a len cap b o E) (hk : rowsB base term len E = true) :
    Calls Try.prog 22 #[.agg #[.int .i64 base, .int .i64 term, .slice a len cap]] w fun e w' => e = .returned (.tuple #[.int .i64 (base + len), .int .i64 (lastT term len E)]) ∧ Below w.heap.size w w' := by
  obtain ⟨b0, b1, h1, t0⟩ := rowsB_head hk
  have hm := hs.max
  have hl := hs.le
  unfold maxLen at hm
  have HS := Lib.hid hs
  have he := rowsE_ok hk
  clear hs hk
  have cur := Box.mk0 w base term (.slice a len cap)
  by_cases hz : len = 0
  · have e1 : base + (len : Int) = base := by omega
    have e2 : lastT term len E = term := by unfold lastT; rw [if_pos hz]
    rw [e1, e2]
    have d1 : ((len : Int) == 0) = true := by rw [beq_iff_eq]; omega
    clear e1 e2 hz
    go_enter Try.func22, Try.ntmps22
    go_wp2_with (go_at_call 21; refine (rcheck_any _ _ _ _ _ _ _ _ _ (HS.out.below cur.2.2)).mono ?_; rw [he]; rintro e W ⟨rfl, hW⟩; have cur := cur.step hW; obtain ⟨⟨f0, f1, f2⟩, f3, f4⟩ := id cur)
    all_goals
      try go_quiet (fail)
      try go_wp2_with fail
      go_ret2
      exact ⟨rfl, by first | exact f4 | exact f4.drew | exact belowN f4 _⟩
  · obtain ⟨n, hn⟩ : ∃ n, n = len - 1 := ⟨_, rfl⟩
    have e2 : lastT term len E = (E n).t := by unfold lastT; rw [if_neg hz, hn]
    rw [e2]
    have d1 : ((len : Int) == 0) = false := by rw [beq_eq_false_iff_ne]; omega
    have s1 : IntKind.i64.wrap (base + len) = base + len := IntWalk.i64_in _ (by omega)
    have s2 : IntKind.i64.wrap ((len : Int) - 1) = n := (IntWalk.i64_in _ (by omega)).trans (by omega)
    have s3 : n < len := by omega
    obtain ⟨e0, e1⟩ := HS.out.at_ (by omega)
    subst e0
    clear e2 hn hz
    go_enter Try.func22, Try.ntmps22
    go_wp2_with (go_at_call 21; refine (rcheck_any _ _ _ _ _ _ _ _ _ (HS.out.below cur.2.2)).mono ?_; rw [he]; rintro e W ⟨rfl, hW⟩; have cur := cur.step hW; obtain ⟨⟨f0, f1, f2⟩, f3, f4⟩ := id cur; obtain ⟨c0, _⟩ := (HS.out.below f4).cell n s3)
    all_goals
      try go_quiet (fail)
      try go_wp2_with fail
      go_ret2
      exact ⟨rfl, by first | exact f4 | exact f4.drew | exact belowN f4 _⟩

/-- is it at least as new? -/
def newB (term : Int) (base : Int) (len : Nat) (E : Nat → Ent) (idx t : Int) : Bool := decide (lastT term len E < t) || (t == lastT term len E && decide (base + len ≤ idx))
def newerB (base term : Int) (len : Nat) (E : Nat → Ent) (idx t : Int) : Bool := rowsB base term len E && newB term base len E idx t

set_option maxRecDepth 100000 in
set_option maxHeartbeats 4000000 in
theorem newer_any (base term idx t : Int) (a : Option Addr) (len cap b o : Nat) (E : Nat → Ent) (w : World) (hs : EntsIn w a len cap b o E) :
    Calls Try.prog 27 #[.agg #[.int .i64 base, .int .i64 term, .slice a len cap], .int .i64 idx, .int .i64 t] w fun e w' => e = .returned (.bool (newerB base term len E idx t)) ∧ Below w.heap.size w w' := by
  have hm := hs.max
  have hl := hs.le
  have HS := Lib.hid hs
  have cur := Box.mk0 w base term (.slice a len cap)
  unfold newerB
  cases hk : rowsB base term len E
  · have he := rowsE_bad hk
    rw [Bool.false_and]
    clear hs hk
    go_enter Try.func27, Try.ntmps27
    go_wp2_with (go_at_call 25; refine (check_any _ _ _ _ _ _ _ _ _ (HS.out.below cur.2.2)).mono ?_; rw [he]; rintro e W ⟨rfl, hW⟩; have cur := cur.step hW; obtain ⟨⟨f0, f1, f2⟩, f3, f4⟩ := id cur)
    go_ret
    exact ⟨rfl, f4⟩
  · obtain ⟨b0, b1, h1, t0⟩ := rowsB_head hk
    have he := rowsE_ok hk
    rw [Bool.true_and]
    obtain ⟨C, hC⟩ : ∃ C, C = newB term base len E idx t := ⟨_, rfl⟩
    rw [← hC]
    unfold newB at hC
    obtain ⟨l, hl0⟩ : ∃ l, l = lastT term len E := ⟨_, rfl⟩
    rw [← hl0] at hC
    have HL := Lib.hid hl0
    have hcases : (l < t ∧ C = true) ∨ (t < l ∧ C = false) ∨ (t = l ∧ base + len ≤ idx ∧ C = true) ∨ (t = l ∧ idx < base + len ∧ C = false) := by
      rcases (show l < t ∨ t < l ∨ (t = l ∧ base + len ≤ idx) ∨ (t = l ∧ idx < base + len) by omega) with h | h | ⟨rfl, h⟩ | ⟨rfl, h⟩
      · exact .inl ⟨h, by rw [hC]; simp [h]⟩
      · exact .inr (.inl ⟨h, by rw [hC]; simp; omega⟩)
      · exact .inr (.inr (.inl ⟨rfl, h, by rw [hC]; simp [h]⟩))
      · exact .inr (.inr (.inr ⟨rfl, h, by rw [hC]; simp; omega⟩))
    clear hs hk hC hl0
    rcases hcases with ⟨h, rfl⟩ | ⟨h, rfl⟩ | ⟨rfl, h, rfl⟩ | ⟨rfl, h, rfl⟩
    all_goals
      try
        have n1 : (t == l) = false := by rw [beq_eq_false_iff_ne]; omega
        have n2 : (t != l) = true := by rw [bne_iff_ne]; omega
      go_enter Try.func27, Try.ntmps27
      go_wp2_with (first
        | (go_at_call 25; refine (check_any _ _ _ _ _ _ _ _ _ (HS.out.below cur.2.2)).mono ?_; rw [he]; rintro e W ⟨rfl, hW⟩; have cur := cur.step hW; obtain ⟨⟨f0, f1, f2⟩, f3, f4⟩ := id cur)
        | (go_at_call 44; refine (last_any _ _ _ _ _ _ _ _ _ (HS.out.below f4) b0 (by omega) h1).mono ?_; rw [← HL.out]; rintro e W ⟨rfl, hW⟩; have cur := cur.step hW; obtain ⟨⟨f0, f1, f2⟩, f3, f4⟩ := id cur))
      go_ret
      first
        | exact ⟨rfl, f4⟩
        | exact ⟨congrArg (fun b => Ending.returned (.bool b)) (decide_eq_true (by omega)), f4⟩
        | exact ⟨congrArg (fun b => Ending.returned (.bool b)) (decide_eq_false (by omega)), f4⟩

end Go.Proofs.Ytcadinoijclfnaa
