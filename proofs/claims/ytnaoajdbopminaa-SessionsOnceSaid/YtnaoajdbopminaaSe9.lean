/-
  What Keep leaves may be, and answers as it should; two rows, the same or not.
-/
import Derived.Test.YtnaoajdbopminaaSe8
namespace Go.Proofs.Ytnaoajdbopminaa
open Go.RowKit
set_option linter.unusedSimpArgs false
set_option linter.unusedVariables false

theorem chkS_of {S : Nat → SeE} : ∀ {n : Nat}, (∀ j, j < n → lastS S j < (S j).client ∧ (S j).client ≤ 16 ∧ 1 ≤ (S j).number) → chkS S n = true
  | 0, _ => rfl
  | n + 1, h => by
    simp only [chkS, okS, Bool.and_eq_true, decide_eq_true_eq]
    exact ⟨chkS_of fun j hj => h j (by omega), h n (by omega)⟩
theorem chkS_ge {S : Nat → SeE} {n : Nat} (h : chkS S n = true) : ∀ {j : Nat}, j < n → (j : Int) + 1 ≤ (S j).client
  | 0, hj => by have := chkS_pos hj h; omega
  | j + 1, hj => by
    have h1 := chkS_ge h (j := j) (by omega)
    have h2 := chkS_lt h (i := j) (j := j + 1) (by omega) hj
    omega
theorem chkS_n {S : Nat → SeE} {n : Nat} (h : chkS S n = true) : n ≤ 16 := by
  cases n with
  | zero => omega
  | succ n =>
    have h1 := chkS_ge h (j := n) (by omega)
    have h2 := (chkS_ok (k := n) (by omega) h).2.1
    omega
theorem ofE_hit {S : Nat → SeE} {n j : Nat} (h : chkS S n = true) (hj : j < n) : ofE S (S j).client n = S j := by
  unfold ofE
  cases hl : lastI S (S j).client n with
  | none => exact absurd rfl (lastI_none hl j hj)
  | some i =>
    obtain ⟨h1, h2⟩ := lastI_some hl
    by_cases hij : i = j
    · rw [hij]; rfl
    · rcases Nat.lt_or_gt_of_ne hij with h3 | h3
      · have := chkS_lt h h3 hj; omega
      · have := chkS_lt h h3 h1; omega
theorem ofE_miss {S : Nat → SeE} {c : Int} {n : Nat} (h : ∀ j, j < n → (S j).client ≠ c) : ofE S c n = zeroE := by
  unfold ofE
  cases hl : lastI S c n with
  | none => rfl
  | some i => exact absurd (lastI_some hl).2 (h i (lastI_some hl).1)
theorem ofE_cases {S : Nat → SeE} (c : Int) {n : Nat} (h : chkS S n = true) : (∃ j, j < n ∧ (S j).client = c ∧ ofE S c n = S j) ∨ ((∀ j, j < n → (S j).client ≠ c) ∧ ofE S c n = zeroE) := by
  cases hl : lastI S c n with
  | none => exact .inr ⟨lastI_none hl, ofE_miss (lastI_none hl)⟩
  | some i =>
    obtain ⟨h1, h2⟩ := lastI_some hl
    exact .inl ⟨i, h1, h2, by rw [← h2]; exact ofE_hit h h1⟩

section
variable {S : Nat → SeE} {n : Nat} {x : SeE}
theorem tk_low {j : Nat} (hj : j < cutS S x.client n) : TK S n x.client x j = S j := by unfold TK keepT; rw [if_pos hj]
theorem tk_mid : TK S n x.client x (cutS S x.client n) = x := by unfold TK keepT; rw [if_neg (by omega), if_pos rfl]
theorem tk_high {j : Nat} (hj : cutS S x.client n < j) : TK S n x.client x j = S (j - 1 + dS S n x.client) := by unfold TK keepT; rw [if_neg (by omega), if_neg (by omega)]

theorem tk_chk (h : chkS S n = true) (h1 : 1 ≤ x.client) (h2 : x.client ≤ 16) (h3 : 1 ≤ x.number) : chkS (TK S n x.client x) (mK S n x.client) = true := by
  obtain ⟨q1, q2, q3⟩ := cut_spec S x.client n
  have hd := dS_le S n x.client
  have hd1 : dS S n x.client = 1 → cutS S x.client n < n ∧ (S (cutS S x.client n)).client = x.client := fun e => by
    unfold dS at e
    split at e
    · assumption
    · cases e
  have hd0 : dS S n x.client = 0 → ¬(cutS S x.client n < n ∧ (S (cutS S x.client n)).client = x.client) := fun e => by
    unfold dS at e
    split at e
    · cases e
    · assumption
  refine chkS_of fun j hj => ?_
  unfold mK at hj
  rcases Nat.lt_trichotomy j (cutS S x.client n) with hlt | heq | hgt
  · rw [tk_low hlt]
    have hk := chkS_ok (k := j) (n := n) (by omega) h
    refine ⟨?_, hk.2⟩
    cases j with
    | zero => exact hk.1
    | succ j => simp only [lastS] at hk ⊢; rw [tk_low (by omega)]; exact hk.1
  · subst heq
    rw [tk_mid]
    refine ⟨?_, h2, h3⟩
    cases hc : cutS S x.client n with
    | zero => simp only [lastS]; omega
    | succ k => simp only [lastS]; rw [tk_low (by omega)]; exact q2 k (by omega)
  · rw [tk_high hgt]
    have hk := chkS_ok (k := j - 1 + dS S n x.client) (n := n) (by omega) h
    refine ⟨?_, hk.2⟩
    obtain ⟨i, rfl⟩ : ∃ i, j = i + 1 := ⟨j - 1, by omega⟩
    simp only [lastS, Nat.add_sub_cancel] at hk ⊢
    by_cases hi : i = cutS S x.client n
    · rw [hi, tk_mid]
      rcases (show dS S n x.client = 0 ∨ dS S n x.client = 1 by omega) with e | e
      · rw [e, Nat.add_zero]
        have h5 := q3 (by omega)
        have h6 := hd0 e
        have : (S (cutS S x.client n)).client ≠ x.client := fun h9 => h6 ⟨by omega, h9⟩
        omega
      · rw [e]
        have h5 := (hd1 e).2
        have h6 := chkS_lt h (i := cutS S x.client n) (j := cutS S x.client n + 1) (by omega) (by omega)
        omega
    · rw [tk_high (by omega)]
      exact chkS_lt h (by omega) (by omega)

theorem tk_own (h : chkS S n = true) (h1 : 1 ≤ x.client) (h2 : x.client ≤ 16) (h3 : 1 ≤ x.number) : ofE (TK S n x.client x) x.client (mK S n x.client) = x := by
  have hc := tk_chk h h1 h2 h3
  have := ofE_hit (j := cutS S x.client n) hc (by unfold mK; omega)
  rw [tk_mid] at this
  exact this
theorem tk_other (h : chkS S n = true) (h1 : 1 ≤ x.client) (h2 : x.client ≤ 16) (h3 : 1 ≤ x.number) {c : Int} (hc : c ≠ x.client) : ofE (TK S n x.client x) c (mK S n x.client) = ofE S c n := by
  have hck := tk_chk h h1 h2 h3
  obtain ⟨q1, q2, q3⟩ := cut_spec S x.client n
  have hd := dS_le S n x.client
  have hd1 : dS S n x.client = 1 → cutS S x.client n < n ∧ (S (cutS S x.client n)).client = x.client := fun e => by
    unfold dS at e
    split at e
    · assumption
    · cases e
  rcases ofE_cases c h with ⟨j, hj, hjc, he⟩ | ⟨hno, he⟩
  · rw [he]
    by_cases hlt : j < cutS S x.client n
    · have h9 := ofE_hit (j := j) hck (by unfold mK; omega)
      rw [tk_low hlt, hjc] at h9
      exact h9
    · have hjd : cutS S x.client n + dS S n x.client ≤ j := by
        rcases (show dS S n x.client = 0 ∨ dS S n x.client = 1 by omega) with e | e
        · omega
        · have h5 := (hd1 e).2
          have : j ≠ cutS S x.client n := fun e2 => hc (by rw [← hjc, e2, h5])
          omega
      have h9 := ofE_hit (j := j + 1 - dS S n x.client) hck (by unfold mK; omega)
      rw [tk_high (by omega), show j + 1 - dS S n x.client - 1 + dS S n x.client = j by omega, hjc] at h9
      exact h9
  · rw [he]
    refine ofE_miss fun j hj => ?_
    unfold mK at hj
    rcases Nat.lt_trichotomy j (cutS S x.client n) with hlt | heq | hgt
    · rw [tk_low hlt]; exact hno j (by omega)
    · subst heq; rw [tk_mid]; exact fun e => hc e.symm
    · rw [tk_high hgt]; exact hno _ (by omega)
theorem tk_ok (hS : ∀ j, j < n → (S j).ok) (hx : x.ok) : ∀ j, j < mK S n x.client → (TK S n x.client x j).ok := by
  intro j hj
  have hd := dS_le S n x.client
  obtain ⟨q1, _, _⟩ := cut_spec S x.client n
  unfold mK at hj
  rcases Nat.lt_trichotomy j (cutS S x.client n) with hlt | heq | hgt
  · rw [tk_low hlt]; exact hS j (by omega)
  · subst heq; rw [tk_mid]; exact hx
  · rw [tk_high hgt]; exact hS _ (by omega)
end

theorem keepE_may {S : Nat → SeE} {n : Nat} {c num : Int} (h : keepE S n c num = 0) : chkS S n = true ∧ 1 ≤ c ∧ c ≤ 16 ∧ 1 ≤ num ∧ (ofE S c n).number < num := by
  unfold keepE at h
  split at h
  · rename_i hm
    unfold mayB at hm
    simp only [Bool.and_eq_true, decide_eq_true_eq] at hm
    split at h
    · cases h
    · rename_i hn
      exact ⟨hm.1, hm.2.1, hm.2.2.1, hm.2.2.2, by omega⟩
  · cases h

theorem ans_eql (p q r s t : Int) (w : World) : (binOp .eql 73 (.agg #[.int .i64 p, .int .i64 q, .int .i64 r, .int .i64 s, .int .i64 t]) (.agg #[.int .i64 p, .int .i64 q, .int .i64 r, .int .i64 s, .int .i64 t])).run Try.prog w = .ok (.bool true) w := by
  have hf : Try.prog.fieldsOf 73 = #[⟨"E", 25, 0, false, "", "", 0⟩, ⟨"Rate", 3, 1, false, "", "", 8⟩, ⟨"Burst", 3, 2, false, "", "", 16⟩, ⟨"Lease", 3, 3, false, "", "", 24⟩, ⟨"Size", 3, 4, false, "", "", 32⟩] := by kernel_rfl
  rw [run_eql_struct, show (10000 : Nat) = 9998 + 1 + 1 from rfl, run_equalIn_struct w _ _ _ _ (by kernel_rfl) (by kernel_rfl), hf]
  have e1 : ∀ a b : Int, (Op.equalIn (9998 + 1) 3 (.int .i64 a) (.int .i64 b)).run Try.prog w = .ok (a == b) w := fun a b => run_equalIn_int w 9998 _ .i64 .i64 a b (by kernel_rfl)
  have e2 : ∀ a b : Int, (Op.equalIn (9998 + 1) 25 (.int .i64 a) (.int .i64 b)).run Try.prog w = .ok (a == b) w := fun a b => run_equalIn_int w 9998 _ .i64 .i64 a b (by kernel_rfl)
  simp [Op.eqFields, part, e1, e2, go_sem]
theorem se_neq (x : SeE) (w : World) : (binOp .neq 113 (.agg #[.int .i64 x.client, .int .i64 x.number, .int .i64 x.e, .int .i64 x.rate, .int .i64 x.burst, .int .i64 x.lease, .int .i64 x.size]) (.agg #[.int .i64 x.client, .int .i64 x.number, .int .i64 x.e, .int .i64 x.rate, .int .i64 x.burst, .int .i64 x.lease, .int .i64 x.size])).run Try.prog w = .ok (.bool false) w := by
  have hg : Try.prog.fieldsOf 113 = #[⟨"Client", 3, 0, false, "", "", 0⟩, ⟨"Number", 3, 1, false, "", "", 8⟩, ⟨"Answer", 73, 2, false, "", "", 16⟩] := by kernel_rfl
  have hf : Try.prog.fieldsOf 73 = #[⟨"E", 25, 0, false, "", "", 0⟩, ⟨"Rate", 3, 1, false, "", "", 8⟩, ⟨"Burst", 3, 2, false, "", "", 16⟩, ⟨"Lease", 3, 3, false, "", "", 24⟩, ⟨"Size", 3, 4, false, "", "", 32⟩] := by kernel_rfl
  have e1 : ∀ (d : Nat) (a b : Int), (Op.equalIn (d + 1) 3 (.int .i64 a) (.int .i64 b)).run Try.prog w = .ok (a == b) w := fun d a b => run_equalIn_int w d _ .i64 .i64 a b (by kernel_rfl)
  have e2 : ∀ a b : Int, (Op.equalIn (9997 + 1) 25 (.int .i64 a) (.int .i64 b)).run Try.prog w = .ok (a == b) w := fun a b => run_equalIn_int w 9997 _ .i64 .i64 a b (by kernel_rfl)
  have e3 : (Op.equalIn (9998 + 1) 73 (.agg #[.int .i64 x.e, .int .i64 x.rate, .int .i64 x.burst, .int .i64 x.lease, .int .i64 x.size]) (.agg #[.int .i64 x.e, .int .i64 x.rate, .int .i64 x.burst, .int .i64 x.lease, .int .i64 x.size])).run Try.prog w = .ok true w := by
    rw [show 9998 + 1 = 9997 + 1 + 1 from rfl, run_equalIn_struct w _ _ _ _ (by kernel_rfl) (by kernel_rfl), hf]
    simp [Op.eqFields, part, e1, e2, go_sem]
  have e4 : (Op.equal 113 (.agg #[.int .i64 x.client, .int .i64 x.number, .int .i64 x.e, .int .i64 x.rate, .int .i64 x.burst, .int .i64 x.lease, .int .i64 x.size]) (.agg #[.int .i64 x.client, .int .i64 x.number, .int .i64 x.e, .int .i64 x.rate, .int .i64 x.burst, .int .i64 x.lease, .int .i64 x.size])).run Try.prog w = .ok true w := by
    show (Op.equalIn (9998 + 1 + 1) _ _ _).run _ w = _
    rw [run_equalIn_struct w _ _ _ _ (by kernel_rfl) (by kernel_rfl), hg]
    have hsz : (Try.prog.info? 73).map (fun i => i.size) = some 5 := by kernel_rfl
    simp [Op.eqFields, part, e1, e3, go_sem]
  simp only [binOp]
  simp [e4, Result.andThen]
end Go.Proofs.Ytnaoajdbopminaa
