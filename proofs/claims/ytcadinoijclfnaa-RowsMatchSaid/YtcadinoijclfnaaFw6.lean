/-
  Package rows, as package follow asks it: Last, and the term of an index.
-/
import Derived.Test.YtcadinoijclfnaaRw5
import Derived.Test.YtcadinoijclfnaaFw2
import Derived.Test.YtcadinoijclfnaaRg
namespace Go.Proofs.Ytcadinoijclfnaa
open Go.RowKit
set_option linter.unusedSimpArgs false
set_option linter.unusedVariables false

theorem rB_head {base term : Int} {len : Nat} {E : Nat → Ent} (h : rowsB base term len E = true) : 0 ≤ base ∧ base ≤ 1099511627776 - len ∧ len ≤ 4096 ∧ 0 ≤ term := by
  unfold rowsB headB at h
  simp at h
  omega
theorem rE_ok {base term : Int} {len : Nat} {E : Nat → Ent} (h : rowsB base term len E = true) : rowsE base term len E = 0 := by unfold rowsE; rw [h]; rfl
theorem rE_bad {base term : Int} {len : Nat} {E : Nat → Ent} (h : rowsB base term len E = false) : rowsE base term len E = 90 := by unfold rowsE; rw [h]; rfl
/-- the box of rows, behind calls that make memory -/
def RBox (w : World) (base term : Int) (v : Value) (W : World) : Prop :=
  (W.cell? ⟨w.heap.size, 0, none⟩ = some (.int .i64 base) ∧ W.cell? ⟨w.heap.size, 1, none⟩ = some (.int .i64 term) ∧ W.cell? ⟨w.heap.size, 2, none⟩ = some v) ∧ w.heap.size < W.heap.size ∧ Below w.heap.size w W
theorem RBox.mk0 (w : World) (base term : Int) (v : Value) : RBox w base term v (w.alloc (.cells #[.int .i64 base, .int .i64 term, v] 24)) :=
  ⟨⟨by go_simp, by go_simp, by go_simp⟩, by simp, (Below.refl _ _).alloc (Nat.le_refl _) _⟩
theorem RBox.step {w A B : World} {base term : Int} {v : Value} (q : RBox w base term v A) (h : Below A.heap.size A B) : RBox w base term v B := by
  obtain ⟨⟨q0, q1, q2⟩, q3, q4⟩ := q
  exact ⟨⟨(h.cell (p := ⟨_, 0, none⟩) q3).trans q0, (h.cell (p := ⟨_, 1, none⟩) q3).trans q1, (h.cell (p := ⟨_, 2, none⟩) q3).trans q2⟩, by have := h.size; omega, q4.trans (h.mono q4.size)⟩

set_option maxRecDepth 100000 in
set_option maxHeartbeats 4000000 in
theorem rowsLast_any (base term : Int) (a : Option Addr) (len cap b o : Nat) (E : Nat → Ent) (w : World) (hs : EntsIn w a len cap b o E) :
    Calls Try.prog 26 #[.agg #[.int .i64 base, .int .i64 term, .slice a len cap]] w fun e w' => e = .returned (.tuple #[.int .i64 (if rowsB base term len E then base + len else 0), .int .i64 (if rowsB base term len E then lastT term len E else 0)]) ∧ Below w.heap.size w w' := by
  have HS := Lib.hid hs
  have cur := RBox.mk0 w base term (.slice a len cap)
  have CUR := Lib.hid cur
  clear hs cur
  cases hk : rowsB base term len E with
  | false =>
    have he := rE_bad hk
    have C1 := Lib.hid (check_any base term a len cap b o E _ (HS.out.below CUR.out.2.2))
    rw [he] at C1
    simp only [Bool.false_eq_true, if_false]
    clear hk he
    go_enter Try.func26, Try.ntmps26
    go_wp2_with fail
    go_at_call 25
    refine C1.out.mono ?_
    rintro e W ⟨rfl, hW⟩
    have C2 := Lib.hid (CUR.out.step hW)
    clear hW
    go_wp2_with fail
    go_ret2
    exact ⟨rfl, C2.out.2.2⟩
  | true =>
    obtain ⟨b0, b1, h1, t0⟩ := rB_head hk
    have he := rE_ok hk
    have C1 := Lib.hid (check_any base term a len cap b o E _ (HS.out.below CUR.out.2.2))
    rw [he] at C1
    simp only [if_true]
    have CL := Lib.hid (fun W (h : Below w.heap.size w W) => last_any base term a len cap b o E W (HS.out.below h) b0 (by omega) h1)
    clear hk he
    obtain ⟨lt, hlt⟩ : ∃ lt, lt = lastT term len E := ⟨_, rfl⟩
    rw [← hlt] at CL ⊢
    clear hlt
    go_enter Try.func26, Try.ntmps26
    go_wp2_with fail
    go_at_call 25
    refine C1.out.mono ?_
    rintro e W ⟨rfl, hW⟩
    have C2 := Lib.hid (CUR.out.step hW)
    clear hW
    obtain ⟨⟨f0, f1, f2⟩, f3, _⟩ := id C2.out
    go_wp2_with fail
    go_at_call 44
    refine (CL.out _ C2.out.2.2).mono ?_
    rintro e W2 ⟨rfl, hW2⟩
    have C3 := Lib.hid (C2.out.step hW2)
    clear hW2
    go_wp2_with fail
    go_ret2
    exact ⟨rfl, C3.out.2.2⟩

/-- the term of an index from Base to the last one -/
def termI (base term : Int) (E : Nat → Ent) (idx : Int) : Int := if idx = base then term else (E (idx - base - 1).toNat).t

set_option maxRecDepth 100000 in
set_option maxHeartbeats 1000000 in
theorem term_any (base term idx : Int) (a : Option Addr) (len cap b o : Nat) (E : Nat → Ent) (w : World) (hs : EntsIn w a len cap b o E) (b0 : 0 ≤ base) (b1 : base ≤ 1099511627776) (h1 : len ≤ 4096) (hi : base ≤ idx ∧ idx ≤ base + len) :
    Calls Try.prog 35 #[.agg #[.int .i64 base, .int .i64 term, .slice a len cap], .int .i64 idx] w fun e w' => e = .returned (.int .i64 (termI base term E idx)) ∧ Below w.heap.size w w' := by
  have hm := hs.max
  have hl := hs.le
  unfold maxLen at hm
  unfold termI
  by_cases hz : idx = base
  · rw [if_pos hz]
    have d1 : (idx == base) = true := by rw [beq_iff_eq]; omega
    have d2 : (idx != base) = false := by rw [bne_eq_false_iff_eq]; omega
    clear hs hi hz
    go_enter Try.func35, Try.ntmps35
    go_wp2_with fail
    go_ret
    exact ⟨rfl, (Below.refl _ _).alloc (Nat.le_refl _) _⟩
  · rw [if_neg hz]
    have d1 : (idx == base) = false := by rw [beq_eq_false_iff_ne]; omega
    have d2 : (idx != base) = true := by rw [bne_iff_ne]; omega
    obtain ⟨n, hn⟩ : ∃ n, n = (idx - base - 1).toNat := ⟨_, rfl⟩
    rw [← hn]
    obtain ⟨e0, e1⟩ := hs.at_ (by omega)
    have hB : Below w.heap.size w (w.alloc (.cells #[.int .i64 base, .int .i64 term, .slice a len cap] 24)) := (Below.refl _ _).alloc (Nat.le_refl _) _
    obtain ⟨c0, _⟩ := (hs.below hB).cell n (by omega)
    subst e0
    obtain ⟨q, hq⟩ : ∃ q, q = idx - base := ⟨_, rfl⟩
    have s1 : IntKind.i64.wrap (idx - base) = q := (IntWalk.i64_in _ (by omega)).trans (by omega)
    have s2 : IntKind.i64.wrap (q - 1) = n := (IntWalk.i64_in _ (by omega)).trans (by omega)
    have s3 : n < len := by omega
    clear hs hB hi hn hz hq
    go_enter Try.func35, Try.ntmps35
    go_wp2_with fail
    go_ret
    exact ⟨rfl, (Below.refl _ _).alloc (Nat.le_refl _) _⟩
end Go.Proofs.Ytcadinoijclfnaa
