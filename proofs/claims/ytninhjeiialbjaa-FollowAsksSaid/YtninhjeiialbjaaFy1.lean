/-
  More than half go up to what is reached; the document's Term.
-/
import Derived.Test.YtninhjeiialbjaaFx5
namespace Go.Proofs.Ytninhjeiialbjaa
open Go.RowKit
set_option linter.unusedSimpArgs false
set_option linter.unusedVariables false

theorem sorted_pair (l : List Int) : (sortedI l).Pairwise (fun x y => x ≤ y) := by
  unfold sortedI
  have h := List.pairwise_mergeSort (le := fun x y : Int => decide (x ≤ y)) (by intro a b c; simp; omega) (by intro a b; simp; omega) l
  exact h.imp (by intro a b h; simpa using h)
theorem fall_pair (l : List Int) : (fallI l).Pairwise (fun x y => y ≤ x) := by
  unfold fallI
  rw [List.pairwise_reverse]
  exact sorted_pair l
theorem fall_count (l : List Int) (f : Int → Bool) : (fallI l).countP f = l.countP f := by
  unfold fallI sortedI
  rw [List.countP_reverse]
  exact (List.mergeSort_perm l _).countP_eq f
/-- of so many more than half are at least what is reached -/
theorem reach_count (l : List Int) (n : Int) (h : 0 < l.length) (hn : n ≤ reachI l) : l.length < 2 * l.countP (fun x => decide (n ≤ x)) := by
  rw [← fall_count]
  have hl := fallI_len l
  have hm : l.length / 2 < (fallI l).length := by omega
  have h1 : (fallI l)[l.length / 2]'hm = reachI l := by
    unfold reachI
    rw [List.getElem?_eq_getElem hm]
    rfl
  have hall : ∀ x ∈ (fallI l).take (l.length / 2 + 1), decide (n ≤ x) = true := by
    intro x hx
    obtain ⟨i, hi, rfl⟩ := List.mem_iff_getElem.1 hx
    rw [List.getElem_take]
    rw [List.length_take] at hi
    have h2 : reachI l ≤ (fallI l)[i]'(by omega) := by
      rw [← h1]
      by_cases he : i = l.length / 2
      · subst he; exact Int.le_refl _
      · exact List.pairwise_iff_getElem.1 (fall_pair l) i (l.length / 2) (by omega) hm (by omega)
    simp
    omega
  have h3 : ((fallI l).take (l.length / 2 + 1)).countP (fun x => decide (n ≤ x)) = l.length / 2 + 1 := by
    rw [List.countP_eq_length.2 hall, List.length_take]
    omega
  have h4 : ((fallI l).take (l.length / 2 + 1)).countP (fun x => decide (n ≤ x)) ≤ (fallI l).countP (fun x => decide (n ≤ x)) := (List.take_sublist _ _).countP_le
  omega

/-- what is made has this term, and is reached -/
theorem madeI_cases (base : Int) (E : Nat → Ent) (t : Int) : ∀ d, madeI base E t d = 0 ∨ ∃ j, j < d ∧ madeI base E t d = base + ((j + 1 : Nat) : Int) ∧ (E j).t = t
  | 0 => .inl rfl
  | d + 1 => by
    unfold madeI
    split
    · split
      · next h => exact .inr ⟨d, by omega, rfl, h⟩
      · exact .inl rfl
    · rcases madeI_cases base E t d with h | ⟨j, h1, h2, h3⟩
      · exact .inl h
      · exact .inr ⟨j, by omega, h2, h3⟩

set_option maxRecDepth 100000 in
set_option maxHeartbeats 4000000 in
theorem rterm_ok (base term : Int) (j : Nat) (a : Option Addr) (len cap b o : Nat) (E : Nat → Ent) (w : World) (hs : EntsIn w a len cap b o E) (hk : rowsB base term len E = true) (hj : j < len) :
    Calls Try.prog 33 #[.agg #[.int .i64 base, .int .i64 term, .slice a len cap], .int .i64 (base + ((j + 1 : Nat) : Int))] w fun e w' => e = .returned (.tuple #[.int .i64 (E j).t, .bool true]) ∧ Below w.heap.size w w' := by
  have hm := hs.max
  have hl := hs.le
  unfold maxLen at hm
  have HS := Lib.hid hs
  have CUR := Lib.hid (RBox.mk0 w base term (.slice a len cap))
  obtain ⟨b0, b1, h4, t0⟩ := rB_head hk
  have CL := Lib.hid (fun W (h : Below w.heap.size w W) => rlast_ok base term a len cap b o E W (hs.below h) hk)
  have CC := Lib.hid (fun W (h : Below w.heap.size w W) => rcheck_any base term a len cap b o E W (hs.below h))
  rw [rE_ok hk] at CC
  obtain ⟨lt, hlt⟩ : ∃ lt, lt = lastT term len E := ⟨_, rfl⟩
  rw [← hlt] at CL
  obtain ⟨la, hla⟩ : ∃ la, la = base + (len : Int) := ⟨_, rfl⟩
  rw [← hla] at CL
  obtain ⟨x, hx⟩ : ∃ x, x = base + ((j + 1 : Nat) : Int) := ⟨_, rfl⟩
  rw [← hx]
  have d1 : decide (x < base) = false := by simp; omega
  have d2 : decide (la < x) = false := by simp; omega
  have d3 : (x == base) = false := by rw [beq_eq_false_iff_ne]; omega
  have x1 : base < x := by omega
  have x2 : x ≤ 1099511627776 := by omega
  obtain ⟨y, hy⟩ : ∃ y, y = x - base := ⟨_, rfl⟩
  have s1 : IntKind.i64.wrap (x - base) = y := (IntWalk.i64_in _ (by omega)).trans hy.symm
  have s2 : IntKind.i64.wrap (y - 1) = j := (IntWalk.i64_in _ (by omega)).trans (by omega)
  obtain ⟨e0, e1⟩ := hs.at_ (by omega)
  subst e0
  clear hs hk hlt hla hx hy
  go_enter Try.func33, Try.ntmps33
  go_wp2_with fail
  go_at_call 32
  refine (CL.out _ CUR.out.2.2).mono ?_
  rintro e W2 ⟨rfl, hW2⟩
  have C3 := Lib.hid (CUR.out.step hW2)
  clear hW2
  obtain ⟨⟨f0, f1, f2⟩, f3, _⟩ := id C3.out
  go_wp2_with fail
  go_at_call 31
  refine (CC.out _ C3.out.2.2).mono ?_
  rintro e W3 ⟨rfl, hW3⟩
  have C4 := Lib.hid (C3.out.step hW3)
  clear hW3 f0 f1 f2 f3
  obtain ⟨⟨f0, f1, f2⟩, f3, _⟩ := id C4.out
  obtain ⟨c0, _⟩ := (HS.out.below C4.out.2.2).cell j hj
  have hz := (HS.out.below C4.out.2.2).at_ (by omega)
  have hz2 := hz.2
  clear hz
  go_wp2_with fail
  go_ret2
  exact ⟨rfl, C4.out.2.2⟩

theorem u8_all (P : Int → Prop) (h : ∀ n : Fin 256, P (n.val : Int)) (s : Int) (h0 : 0 ≤ s) (h1 : s ≤ 255) : P s := by
  obtain ⟨n, rfl⟩ := Int.eq_ofNat_of_zero_le h0
  exact h ⟨n, by omega⟩
theorem nb0 (s : Int) (h0 : 0 ≤ s) (h1 : s ≤ 255) : (bits .and .u8 s 1 == 0) = !bitB s 0 := u8_all (fun s => (bits .and .u8 s 1 == 0) = !bitB s 0) (by decide +kernel) s h0 h1
theorem nb1 (s : Int) (h0 : 0 ≤ s) (h1 : s ≤ 255) : (bits .and .u8 (s / 2) 1 == 0) = !bitB s 1 := u8_all (fun s => (bits .and .u8 (s / 2) 1 == 0) = !bitB s 1) (by decide +kernel) s h0 h1
theorem nb2 (s : Int) (h0 : 0 ≤ s) (h1 : s ≤ 255) : (bits .and .u8 (s / 4) 1 == 0) = !bitB s 2 := u8_all (fun s => (bits .and .u8 (s / 4) 1 == 0) = !bitB s 2) (by decide +kernel) s h0 h1
theorem nb3 (s : Int) (h0 : 0 ≤ s) (h1 : s ≤ 255) : (bits .and .u8 (s / 8) 1 == 0) = !bitB s 3 := u8_all (fun s => (bits .and .u8 (s / 8) 1 == 0) = !bitB s 3) (by decide +kernel) s h0 h1
theorem nb4 (s : Int) (h0 : 0 ≤ s) (h1 : s ≤ 255) : (bits .and .u8 (s / 16) 1 == 0) = !bitB s 4 := u8_all (fun s => (bits .and .u8 (s / 16) 1 == 0) = !bitB s 4) (by decide +kernel) s h0 h1
theorem nb5 (s : Int) (h0 : 0 ≤ s) (h1 : s ≤ 255) : (bits .and .u8 (s / 32) 1 == 0) = !bitB s 5 := u8_all (fun s => (bits .and .u8 (s / 32) 1 == 0) = !bitB s 5) (by decide +kernel) s h0 h1
theorem nb6 (s : Int) (h0 : 0 ≤ s) (h1 : s ≤ 255) : (bits .and .u8 (s / 64) 1 == 0) = !bitB s 6 := u8_all (fun s => (bits .and .u8 (s / 64) 1 == 0) = !bitB s 6) (by decide +kernel) s h0 h1
end Go.Proofs.Ytninhjeiialbjaa
