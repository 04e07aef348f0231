/-
  Tables, calls, orders: the pure answers.
-/
import Derived.Test.YthmjlomlceljkaaHiF
import Derived.Test.YthmjlomlceljkaaHiC
namespace Go.Proofs.Ythmjlomlceljkaa
open Go.RowKit
set_option linter.unusedSimpArgs false
set_option linter.unusedVariables false

def tenB (n : Int) : Bool := decide (1 ≤ n) && decide (n ≤ 16)
def mayR (r b : Int) : Bool := decide (0 ≤ r) && decide (r ≤ 1000000) && decide (0 ≤ b) && decide (b ≤ 1000000)
def cmdB (k n : Int) : Bool := decide (1 ≤ k) && decide (k ≤ 3) && tenB n
def frcB (last : Int) (f : FcE) : Bool := decide (f.tick = 0) && decide (last < f.tenant) && tenB f.tenant && mayR f.rate f.burst
/-- may a table be, behind a row of tenant last? -/
def tblB : Int → List FcE → Bool
  | _, [] => true
  | last, f :: l => frcB last f && tblB f.tenant l
structure DoA where
  l : List FcE
  e : Int
  r : Int
  b : Int
def doF (t : List FcE) (k n r b : Int) : DoA :=
  if (tblB 0 t && cmdB k n) = false then ⟨t, 2, 0, 0⟩
  else if k = 1 then (if mayR r b = true then ⟨t.filter (fun f => decide (f.tenant < n)) ++ [⟨0, n, r, b⟩] ++ t.filter (fun f => decide (n < f.tenant)), 0, r, b⟩ else ⟨t, 160, 0, 0⟩)
  else match t.find? (fun f => decide (f.tenant = n)) with
    | none => ⟨t, 161, 0, 0⟩
    | some f => if k = 2 then ⟨t, 0, f.rate, f.burst⟩ else ⟨t.filter (fun f => decide (f.tenant < n)) ++ t.filter (fun f => decide (n < f.tenant)), 0, 0, 0⟩

theorem tblB_mem : ∀ {L : List FcE} {last : Int}, tblB last L = true → ∀ f ∈ L, last < f.tenant ∧ f.tick = 0 ∧ 1 ≤ f.tenant ∧ f.tenant ≤ 16 ∧ mayR f.rate f.burst = true
  | [], _, _, f, hf => by simp at hf
  | x :: l, last, h, f, hf => by
    simp only [tblB, frcB, tenB, Bool.and_eq_true, decide_eq_true_eq] at h
    rcases List.mem_cons.1 hf with rfl | hf
    · exact ⟨h.1.1.1.2, h.1.1.1.1, h.1.1.2.1, h.1.1.2.2, h.1.2⟩
    · obtain ⟨h1, h2⟩ := tblB_mem h.2 f hf
      exact ⟨by omega, h2⟩
theorem tblB_cons {L : List FcE} {last : Int} {f : FcE} : tblB last (f :: L) = (frcB last f && tblB f.tenant L) := rfl
/-- a table, parted at a tenant -/
theorem tbl_split : ∀ {L : List FcE} {last : Int} (n : Int), tblB last L = true → L = L.filter (fun f => decide (f.tenant < n)) ++ (match L.find? (fun f => decide (f.tenant = n)) with | some f => [f] | none => []) ++ L.filter (fun f => decide (n < f.tenant))
  | [], _, _, _ => rfl
  | x :: l, last, n, h => by
    have h' := h
    rw [tblB_cons, Bool.and_eq_true] at h'
    have hm := tblB_mem h'.2
    rcases Int.lt_trichotomy x.tenant n with h1 | h1 | h1
    · have ih := tbl_split n h'.2
      rw [List.filter_cons_of_pos (by simpa using h1), List.filter_cons_of_neg (by simp; omega), List.find?_cons_of_neg (by simp; omega), List.cons_append, List.cons_append, ← ih]
    · have f1 : l.filter (fun f => decide (f.tenant < n)) = [] := List.filter_eq_nil_iff.2 fun f hf => by have := (hm f hf).1; simp; omega
      have f2 : l.filter (fun f => decide (n < f.tenant)) = l := List.filter_eq_self.2 fun f hf => by have := (hm f hf).1; simp; omega
      rw [List.filter_cons_of_neg (by simp; omega), List.filter_cons_of_neg (by simp; omega), List.find?_cons_of_pos (by simpa using h1), f1, f2]
      rfl
    · have f1 : l.filter (fun f => decide (f.tenant < n)) = [] := List.filter_eq_nil_iff.2 fun f hf => by have := (hm f hf).1; simp; omega
      have f2 : l.filter (fun f => decide (n < f.tenant)) = l := List.filter_eq_self.2 fun f hf => by have := (hm f hf).1; simp; omega
      have f3 : l.find? (fun f => decide (f.tenant = n)) = none := List.find?_eq_none.2 fun f hf => by have := (hm f hf).1; simp; omega
      rw [List.filter_cons_of_neg (by simp; omega), List.filter_cons_of_pos (by simpa using h1), List.find?_cons_of_neg (by simp; omega), f1, f2, f3]
      rfl
theorem tbl_append : ∀ {A B : List FcE} {last : Int}, tblB last A = true → (∀ m : Int, (m = last ∨ ∃ f ∈ A, f.tenant = m) → tblB m B = true) → tblB last (A ++ B) = true
  | [], B, last, _, h => h last (.inl rfl)
  | x :: A, B, last, h, hB => by
    rw [List.cons_append, tblB_cons, Bool.and_eq_true]
    rw [tblB_cons, Bool.and_eq_true] at h
    refine ⟨h.1, tbl_append h.2 fun m hm => hB m (.inr ?_)⟩
    rcases hm with rfl | ⟨f, hf, rfl⟩
    · exact ⟨x, List.mem_cons_self, rfl⟩
    · exact ⟨f, List.mem_cons_of_mem _ hf, rfl⟩
theorem tbl_weaken : ∀ {A : List FcE} {last m : Int}, tblB last A = true → (∀ f ∈ A, m < f.tenant) → tblB m A = true
  | [], _, _, _, _ => rfl
  | x :: A, last, m, h, hm => by
    rw [tblB_cons, Bool.and_eq_true] at h ⊢
    refine ⟨?_, h.2⟩
    have h1 := h.1
    simp only [frcB, Bool.and_eq_true, decide_eq_true_eq] at h1 ⊢
    exact ⟨⟨⟨h1.1.1.1, hm x List.mem_cons_self⟩, h1.1.2⟩, h1.2⟩
theorem tbl_filter : ∀ {A : List FcE} {last : Int} (p : FcE → Bool), tblB last A = true → tblB last (A.filter p) = true
  | [], _, _, _ => rfl
  | x :: A, last, p, h => by
    have h' := h
    rw [tblB_cons, Bool.and_eq_true] at h'
    by_cases hp : p x = true
    · rw [List.filter_cons_of_pos hp, tblB_cons, Bool.and_eq_true]
      exact ⟨h'.1, tbl_filter p h'.2⟩
    · rw [List.filter_cons_of_neg hp]
      refine tbl_filter p (tbl_weaken h'.2 fun f hf => ?_)
      have := (tblB_mem h'.2 f hf).1
      have h2 := (tblB_mem h x List.mem_cons_self).1
      omega
theorem tbl_do {t : List FcE} (k n r b : Int) (h : tblB 0 t = true) : tblB 0 (doF t k n r b).l = true := by
  unfold doF
  by_cases hc : cmdB k n = true
  · have hten : 1 ≤ n ∧ n ≤ 16 := by simp only [cmdB, tenB, Bool.and_eq_true, decide_eq_true_eq] at hc; omega
    rw [if_neg (by rw [h, hc]; simp)]
    have hgt : tblB n (t.filter (fun f => decide (n < f.tenant))) = true := tbl_weaken (tbl_filter _ h) fun f hf => by simpa using (List.mem_filter.1 hf).2
    by_cases h1 : k = 1
    · rw [if_pos h1]
      by_cases hm : mayR r b = true
      · rw [if_pos hm]
        show tblB 0 (_ ++ _ ++ _) = true
        rw [List.append_assoc]
        refine tbl_append (tbl_filter _ h) fun m hmm => ?_
        show tblB m (_ :: _) = true
        rw [tblB_cons, Bool.and_eq_true]
        refine ⟨?_, hgt⟩
        have hmn : m < n := by
          rcases hmm with rfl | ⟨f, hf, rfl⟩
          · omega
          · simpa using (List.mem_filter.1 hf).2
        simp only [frcB, tenB, Bool.and_eq_true, decide_eq_true_eq]
        exact ⟨⟨⟨trivial, hmn⟩, hten⟩, hm⟩
      · rw [if_neg hm]; exact h
    · rw [if_neg h1]
      cases hf : t.find? (fun f => decide (f.tenant = n)) with
      | none => exact h
      | some f =>
        simp only
        by_cases h2 : k = 2
        · rw [if_pos h2]; exact h
        · rw [if_neg h2]
          show tblB 0 (_ ++ _) = true
          refine tbl_append (tbl_filter _ h) fun m hmm => ?_
          refine tbl_weaken hgt fun g hg => ?_
          have hg2 : n < g.tenant := by simpa using (List.mem_filter.1 hg).2
          rcases hmm with rfl | ⟨f, hf, rfl⟩
          · omega
          · have : f.tenant < n := by simpa using (List.mem_filter.1 hf).2
            omega
  · rw [if_pos (by rw [Bool.eq_false_iff.2 hc]; simp)]
    exact h
theorem do_len {t : List FcE} (k n r b : Int) : (doF t k n r b).l.length ≤ 2 * t.length + 1 := by
  have h1 := List.length_filter_le (fun f => decide (f.tenant < n)) t
  have h2 := List.length_filter_le (fun f => decide (n < f.tenant)) t
  unfold doF
  split
  · simp only; omega
  · split
    · split
      · simp only [List.length_append, List.length_singleton]; omega
      · simp only; omega
    · split
      · simp only; omega
      · split
        · simp only; omega
        · simp only [List.length_append]; omega
theorem tbl_len : ∀ {L : List FcE} {last : Int}, 0 ≤ last → tblB last L = true → (L.length : Int) ≤ max (16 - last) 0
  | [], last, _, _ => by simp; omega
  | x :: l, last, h0, h => by
    have h' := h
    rw [tblB_cons, Bool.and_eq_true] at h'
    have hx := tblB_mem h x List.mem_cons_self
    have ih := tbl_len (by omega) h'.2
    simp only [List.length_cons]
    omega
theorem tbl_len16 {L : List FcE} (h : tblB 0 L = true) : L.length ≤ 16 := by have := tbl_len (Int.le_refl 0) h; omega

/-! calls -/
def mayC (c : CaE) : Bool := cmdB c.kind c.tenant && decide (1 ≤ c.fr) && (decide (c.til = 0) || decide (c.fr < c.til))
def allC : List CaE → Bool
  | [] => true
  | c :: l => mayC c && allC l
def ckB (L : List CaE) : Bool := decide (L.length ≤ 12) && allC L
theorem allC_mem : ∀ {L : List CaE}, allC L = true → ∀ c ∈ L, mayC c = true
  | [], _, c, hc => by simp at hc
  | x :: l, h, c, hc => by
    simp only [allC, Bool.and_eq_true] at h
    rcases List.mem_cons.1 hc with rfl | hc
    · exact h.1
    · exact allC_mem h.2 c hc
/-- are all answered calls in the row? -/
def alB (D : Nat) : Nat → List CaE → Bool
  | _, [] => true
  | k, c :: l => !(decide (0 < c.til) && !D.testBit k) && alB D (k + 1) l
/-- was nobody that is still to come answered ahead of fr? -/
def stB (D : Nat) (fr : Int) : Nat → List CaE → Bool
  | _, [] => true
  | k, c :: l => !(decide (0 < c.til) && !D.testBit k && decide (c.til < fr)) && stB D fr (k + 1) l
/-- is an answer another one than the call's? -/
def neA (c : CaE) (a : DoA) : Bool := decide (0 < c.til) && !(decide (a.e = c.e) && decide (a.r = c.rate) && decide (a.b = c.burst) && decide (0 = c.lease) && decide (0 = c.size))
def doC (t : List FcE) (c : CaE) : DoA := doF t c.kind c.tenant c.crate c.cburst
def srL (f : Nat → List FcE → Option (List Int)) (L : List CaE) (D : Nat) (t : List FcE) : Nat → List CaE → Option (List Int)
  | _, [] => none
  | k, c :: l =>
    if (D.testBit k || !stB D c.fr 0 L) = true then srL f L D t (k + 1) l
    else if neA c (doC t c) = true then srL f L D t (k + 1) l
    else match f (D ||| 2 ^ k) (doC t c).l with
      | some r => some ((k : Int) :: r)
      | none => srL f L D t (k + 1) l
def srF (L : List CaE) : Nat → Nat → List FcE → Option (List Int)
  | 0, _, _ => none
  | n + 1, D, t => if alB D 0 L = true then some [] else srL (srF L n) L D t 0 L
def free (D n : Nat) : Nat := ((List.range n).filter fun k => !D.testBit k).length
/-- the rest of an order, place by place the least -/
def sr (L : List CaE) (D : Nat) (t : List FcE) : Option (List Int) := srF L (free D L.length + 1) D t
theorem bit_or (D k j : Nat) : (D ||| 2 ^ k).testBit j = (D.testBit j || decide (k = j)) := by rw [Nat.testBit_or, Nat.testBit_two_pow]
theorem free_or {D k n : Nat} (hk : k < n) (hb : D.testBit k = false) : free (D ||| 2 ^ k) n + 1 = free D n := by
  unfold free
  induction n with
  | zero => omega
  | succ n ih =>
    rw [List.range_succ, List.filter_append, List.filter_append, List.length_append, List.length_append]
    by_cases h : k = n
    · subst h
      have e1 : (List.range k).filter (fun j => !(D ||| 2 ^ k).testBit j) = (List.range k).filter (fun j => !D.testBit j) := List.filter_congr fun j hj => by
        have := List.mem_range.1 hj
        rw [bit_or, show decide (k = j) = false from decide_eq_false (by omega), Bool.or_false]
      rw [e1]
      simp [hb, bit_or]
    · have := ih (by omega)
      have e2 : (D ||| 2 ^ k).testBit n = D.testBit n := by rw [bit_or, show decide (k = n) = false from decide_eq_false h, Bool.or_false]
      simp only [List.filter_cons, List.filter_nil, e2]
      omega
theorem srL_congr {f g : Nat → List FcE → Option (List Int)} {L : List CaE} {D : Nat} {t : List FcE} : ∀ (l : List CaE) (k : Nat), (∀ j, k ≤ j → j < k + l.length → D.testBit j = false → ∀ t', f (D ||| 2 ^ j) t' = g (D ||| 2 ^ j) t') → srL f L D t k l = srL g L D t k l
  | [], _, _ => rfl
  | c :: l, k, h => by
    have ih := srL_congr (f := f) (g := g) (L := L) (D := D) (t := t) l (k + 1) fun j h1 h2 => h j (by omega) (by simp only [List.length_cons]; omega)
    simp only [srL]
    by_cases hc : (D.testBit k || !stB D c.fr 0 L) = true
    · rw [if_pos hc, if_pos hc, ih]
    · rw [if_neg hc, if_neg hc]
      by_cases hn : neA c (doC t c) = true
      · rw [if_pos hn, if_pos hn, ih]
      · rw [if_neg hn, if_neg hn, h k (Nat.le_refl _) (by simp) (by simp at hc; exact hc.1), ih]
theorem sr_eq (L : List CaE) (D : Nat) (t : List FcE) : sr L D t = if alB D 0 L = true then some [] else srL (sr L) L D t 0 L := by
  unfold sr
  rw [srF]
  by_cases h : alB D 0 L = true
  · rw [if_pos h, if_pos h]
  · rw [if_neg h, if_neg h]
    refine srL_congr L 0 fun j _ h2 hb t' => ?_
    show srF L (free D L.length) _ _ = srF L (free (D ||| 2 ^ j) L.length + 1) _ _
    rw [free_or (by omega) hb]
def tryL (L : List CaE) : Nat → List FcE → List Int → Bool
  | D, _, [] => alB D 0 L
  | D, t, k :: r => if k < 0 ∨ (L.length : Int) ≤ k then false else
    if (D.testBit k.toNat || !stB D (gCa L k.toNat).fr 0 L) = true then false
    else if neA (gCa L k.toNat) (doC t (gCa L k.toNat)) = true then false
    else tryL L (D ||| 2 ^ k.toNat) (doC t (gCa L k.toNat)).l r
end Go.Proofs.Ythmjlomlceljkaa
