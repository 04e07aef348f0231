/-
  Pieces of rows that were cut: pure.
-/
import Derived.Test.YtcadinoijclfnaaRoj
import Derived.Test.YtcadinoijclfnaaRob
import Derived.Test.YtcadinoijclfnaaRoa
import Derived.Test.YtcadinoijclfnaaRw6
import Derived.Deep.DeepFit
namespace Go.Proofs.Ytcadinoijclfnaa
open Go.RowKit
set_option linter.unusedSimpArgs false
set_option linter.unusedVariables false

theorem chkR_drop : ∀ (L : List EnD) (t : Int) (m : Nat), chkR t L = true → chkR (match m with | 0 => t | k + 1 => match L[k]? with | some x => x.t | none => t) (L.drop m) = true
  | L, t, 0, h => by simpa using h
  | [], t, m + 1, _ => by simp [chkR]
  | x :: r, t, 1, h => by
    unfold chkR at h
    simp only [Bool.and_eq_true] at h
    simpa using h.2
  | x :: r, t, m + 2, h => by
    unfold chkR at h
    simp only [Bool.and_eq_true] at h
    have := chkR_drop r x.t (m + 1) h.2
    simp only [List.drop_succ_cons, List.getElem?_cons_succ] at this ⊢
    cases hk : r[m]? with
    | none =>
      have : r.drop (m + 1) = [] := List.drop_of_length_le (by have := List.getElem?_eq_none_iff.1 hk; omega)
      rw [this]
      rfl
    | some y => rw [hk] at this; exact this
theorem chkR_t : ∀ (L : List EnD) (t : Int) (k : Nat) (x : EnD), chkR t L = true → L[k]? = some x → t ≤ x.t
  | [], _, _, _, _, h => by simp at h
  | y :: r, t, 0, x, h, hx => by
    obtain rfl : y = x := by simpa using hx
    unfold chkR at h
    simp only [Bool.and_eq_true, decide_eq_true_eq] at h
    exact h.1.1
  | y :: r, t, k + 1, x, h, hx => by
    unfold chkR at h
    simp only [Bool.and_eq_true, decide_eq_true_eq] at h
    have := chkR_t r y.t k x h.2 (by simpa using hx)
    omega
theorem cut_ok {base term : Int} {L : List EnD} {at_ : Int} (hk : okE base term L = 0) (h1 : base ≤ at_) (h2 : at_ ≤ base + L.length) : okE at_ (termL base term L at_) (L.drop (at_ - base).toNat) = 0 := by
  obtain ⟨m, hm⟩ := Int.eq_ofNat_of_zero_le (show 0 ≤ at_ - base by omega)
  obtain rfl : at_ = base + (m : Int) := by omega
  rw [show (base + (m : Int) - base).toNat = m by omega]
  obtain ⟨b0, b1, b2, b3⟩ := okE_head hk
  have ho := okR_of hk
  unfold okR headB at ho
  simp only [Bool.and_eq_true, decide_eq_true_eq, beq_iff_eq] at ho
  obtain ⟨⟨⟨⟨⟨c0, c1⟩, c2⟩, c3⟩, c4⟩, c5⟩ := ho
  have hd := chkR_drop L (max term 1) m c5
  have hlen : (L.drop m).length = L.length - m := by simp
  suffices hs : okR (base + (m : Int)) (termL base term L (base + (m : Int))) (L.drop m) = true by unfold okE; rw [hs]; rfl
  unfold okR headB
  rw [hlen]
  rcases Nat.eq_zero_or_pos m with rfl | hp
  · have ht : termL base term L (base + ((0 : Nat) : Int)) = term := by unfold termL; rw [if_pos (by omega)]
    rw [ht]
    simp only [List.drop_zero, Int.natCast_zero, Int.add_zero] at hd ⊢
    rw [c5, c4]
    simp [c0, c2, c3]
    omega
  · obtain ⟨k, rfl⟩ : ∃ k, m = k + 1 := ⟨m - 1, by omega⟩
    have hkl : k < L.length := by omega
    obtain ⟨x, hx⟩ : ∃ x, L[k]? = some x := ⟨_, List.getElem?_eq_getElem hkl⟩
    have ht : termL base term L (base + ((k + 1 : Nat) : Int)) = x.t := by
      unfold termL
      rw [if_neg (by omega), show (base + ((k + 1 : Nat) : Int) - base - 1).toNat = k by omega, hx]
    have hx1 := chkR_t L (max term 1) k x c5 hx
    rw [ht]
    simp only [hx] at hd
    have e1 : max x.t 1 = x.t := by omega
    rw [e1, hd]
    have e2 : (base + ((k + 1 : Nat) : Int) == 0) = false := by rw [beq_eq_false_iff_ne]; omega
    have e3 : (x.t == 0) = false := by rw [beq_eq_false_iff_ne]; omega
    rw [e2, e3]
    simp
    omega
def newL (base term : Int) (L : List EnD) (idx t : Int) : Bool := decide (termL base term L (base + L.length) < t) || (t == termL base term L (base + L.length) && decide (base + L.length ≤ idx))
theorem newerR_any (base term idx t : Int) (v : Value) (L : List EnD) (w : World) (h : RV w v L) (hk : okE base term L = 0) : Calls Try.prog 27 #[.agg #[.int .i64 base, .int .i64 term, v], .int .i64 idx, .int .i64 t] w fun e w' => e = .returned (.bool (newL base term L idx t)) ∧ Below w.heap.size w w' := by
  obtain ⟨a, c, g, o, F, rfl, h1, h2, h3, h4⟩ := h
  have := newer_any base term idx t a L.length c g o (fun k => (F k).ent) w (rv_ents h1 rfl h2 h3 h4)
  have e : lastT term L.length (fun k => (F k).ent) = termL base term L (base + L.length) := by
    rw [← termL_I base term _ h2 (by omega) (Int.le_refl _)]
    unfold lastT termI
    by_cases h0 : L.length = 0
    · rw [if_pos h0, if_pos (by omega)]
    · rw [if_neg h0, if_neg (by omega), show (base + (L.length : Int) - base - 1).toNat = L.length - 1 by omega]
  unfold newerB newB at this
  rw [okR_rows base term h2, okR_of hk, e] at this
  exact this
theorem new_two (i t j u : Int) (A B : Bool) (hA : A = (decide (t < u) || (u == t && decide (i ≤ j)))) (hB : B = (decide (u < t) || (t == u && decide (j ≤ i)))) : (A = true ∧ B = false) ∨ (A = false ∧ B = true) ∨ (A = true ∧ B = true ∧ i = j ∧ t = u) := by
  rcases Int.lt_trichotomy t u with h | h | h
  · left
    rw [hA, hB, decide_eq_true h, decide_eq_false (show ¬ u < t by omega), beq_eq_false_iff_ne.2 (show t ≠ u by omega)]
    simp
  · subst h
    rw [decide_eq_false (show ¬ t < t by omega), beq_self_eq_true, Bool.false_or, Bool.true_and] at hA hB
    rcases Int.lt_trichotomy i j with h | h | h
    · left
      rw [hA, hB, decide_eq_true (show i ≤ j by omega), decide_eq_false (show ¬ j ≤ i by omega)]
      simp
    · right; right
      subst h
      rw [hA, hB, decide_eq_true (Int.le_refl i)]
      simp
    · right; left
      rw [hA, hB, decide_eq_true (show j ≤ i by omega), decide_eq_false (show ¬ i ≤ j by omega)]
      simp
  · right; left
    rw [hA, hB, decide_eq_true h, decide_eq_false (show ¬ t < u by omega), beq_eq_false_iff_ne.2 (show u ≠ t by omega)]
    simp
theorem fromF_cases (base term : Int) (L : List EnD) (idx most : Int) : (fromF base term L idx most).e = 0 ∨ (fromF base term L idx most).e = 90 ∨ (fromF base term L idx most).e = 4 := by
  unfold fromF
  split
  · simp
  · split
    · simp
    · split <;> simp
/-- pieces of rows that were cut are pieces of the rows -/
theorem pieces {base term : Int} {L : List EnD} {at_ idx most : Int} (hk : okE base term L = 0) (hc : (cutF base term L at_).e = 0) :
    let X := cutF base term L at_
    ((fromF X.b X.t X.l idx most).e = 0 → fromF X.b X.t X.l idx most = fromF base term L idx most) ∧ ((fromF X.b X.t X.l idx most).e ≠ 0 → at_ < idx → (fromF base term L idx most).e ≠ 0) := by
  unfold cutF at hc ⊢
  rw [if_neg (by simp [hk])] at hc ⊢
  by_cases h1 : at_ < base
  · rw [if_pos h1] at hc; cases hc
  · rw [if_neg h1] at hc ⊢
    by_cases h2 : base + L.length < at_
    · rw [if_pos h2] at hc; cases hc
    · rw [if_neg h2]
      simp only
      have ho := cut_ok (at_ := at_) hk (by omega) (by omega)
      obtain ⟨m, hm⟩ := Int.eq_ofNat_of_zero_le (show 0 ≤ at_ - base by omega)
      rw [hm, Int.toNat_natCast] at ho ⊢
      have hlen : (L.drop m).length = L.length - m := by simp
      have hml : m ≤ L.length := by omega
      unfold fromF
      rw [if_neg (show ¬ okE at_ (termL base term L at_) (L.drop m) ≠ 0 by simp [ho]), if_neg (show ¬ okE base term L ≠ 0 by simp [hk]), hlen]
      by_cases h3 : idx ≤ at_
      · rw [if_pos h3]
        exact ⟨(fun h => by cases h), fun _ h => by omega⟩
      · rw [if_neg h3]
        by_cases h4 : at_ + ((L.length - m : Nat) : Int) + 1 < idx
        · rw [if_pos h4]
          refine ⟨fun h => (by cases h), fun _ _ => ?_⟩
          rw [if_neg (by omega), if_pos (by omega)]
          simp
        · rw [if_neg h4, if_neg (by omega), if_neg (by omega)]
          refine ⟨fun _ => ?_, fun h => absurd rfl h⟩
          rw [List.drop_drop, show m + (idx - at_ - 1).toNat = (idx - base - 1).toNat by omega, show L.length - m - (idx - at_ - 1).toNat = L.length - (idx - base - 1).toNat by omega]
end Go.Proofs.Ytcadinoijclfnaa
