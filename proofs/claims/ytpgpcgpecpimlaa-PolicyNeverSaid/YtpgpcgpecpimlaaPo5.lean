/-
  Tenants: where one stands, what becomes of the row (no memory).
-/
import Derived.Test.YtpgpcgpecpimlaaPo2
import Derived.Deep.RegionLaw
namespace Go.Proofs.Ytpgpcgpecpimlaa
open Go.RowKit
set_option linter.unusedSimpArgs false
set_option linter.unusedVariables false

theorem gt_zero (y : TnE) (r : List TnE) : gt (y :: r) 0 = y := rfl
theorem gt_succ (y : TnE) (r : List TnE) (j : Nat) : gt (y :: r) (j + 1) = gt r j := rfl
def plc (key : Int) : List TnE → Nat
  | [] => 0
  | y :: r => if y.id < key then plc key r + 1 else 0
def isAt (key : Int) : List TnE → Bool
  | [] => false
  | y :: r => if y.id < key then isAt key r else decide (y.id = key)
theorem plc_le (key : Int) : ∀ L, plc key L ≤ L.length
  | [] => Nat.le_refl _
  | y :: r => by
    have := plc_le key r
    unfold plc
    split
    · simp; exact this
    · exact Nat.zero_le _
theorem plc_lt (key : Int) : ∀ (L : List TnE) (j : Nat), j < plc key L → (gt L j).id < key
  | [], j, h => absurd h (by simp [plc])
  | y :: r, j, h => by
    unfold plc at h
    by_cases hy : y.id < key
    · rw [if_pos hy] at h
      cases j with
      | zero => exact hy
      | succ j => rw [gt_succ]; exact plc_lt key r j (by omega)
    · rw [if_neg hy] at h
      omega
theorem plc_at (key : Int) : ∀ (L : List TnE), plc key L < L.length → ¬ (gt L (plc key L)).id < key
  | [], h => absurd h (by simp)
  | y :: r, h => by
    unfold plc at h ⊢
    by_cases hy : y.id < key
    · rw [if_pos hy] at h ⊢
      rw [gt_succ]
      exact plc_at key r (by simpa using h)
    · rw [if_neg hy]
      exact hy
theorem isAt_eq (key : Int) : ∀ (L : List TnE), isAt key L = (decide (plc key L < L.length) && decide ((gt L (plc key L)).id = key))
  | [] => by simp [isAt]
  | y :: r => by
    unfold isAt plc
    by_cases hy : y.id < key
    · rw [if_pos hy, if_pos hy, isAt_eq key r, gt_succ]
      simp
    · rw [if_neg hy, if_neg hy, gt_zero]
      simp
def layL (x : TnE) (L : List TnE) : List TnE := L.take (plc x.id L) ++ x :: L.drop (plc x.id L + if isAt x.id L then 1 else 0)
def layR (x : TnE) : List TnE → List TnE
  | [] => [x]
  | y :: r => if y.id < x.id then y :: layR x r else if y.id = x.id then x :: r else x :: y :: r
theorem layL_eq (x : TnE) : ∀ L, layL x L = layR x L
  | [] => rfl
  | y :: r => by
    have ih := layL_eq x r
    unfold layL at ih ⊢
    unfold layR plc isAt
    by_cases hy : y.id < x.id
    · simp only [hy, if_true, List.take_succ_cons, List.cons_append, ← ih]
      rw [show plc x.id r + 1 + (if isAt x.id r = true then 1 else 0) = (plc x.id r + if isAt x.id r = true then 1 else 0) + 1 by omega, List.drop_succ_cons]
    · simp only [hy, if_false, List.take_zero, List.nil_append]
      by_cases he : y.id = x.id
      · simp [he]
      · simp [he]
def fnd (key : Int) (L : List TnE) : Option TnE := L.find? fun y => decide (y.id = key)
theorem chkF_gt : ∀ (L : List TnE) (last : Int), chkF last L = true → ∀ z ∈ L, last < z.id
  | [], _, _, z, h => absurd h (by simp)
  | y :: r, last, h, z, hz => by
    unfold chkF at h
    simp only [Bool.and_eq_true, decide_eq_true_eq] at h
    rcases List.mem_cons.1 hz with rfl | hz
    · exact h.1.1
    · have := chkF_gt r y.id h.2 z hz
      omega
theorem fnd_at (key : Int) : ∀ (L : List TnE) (last : Int), chkF last L = true → fnd key L = if isAt key L then some (gt L (plc key L)) else none
  | [], _, _ => rfl
  | y :: r, last, h => by
    unfold chkF at h
    simp only [Bool.and_eq_true, decide_eq_true_eq] at h
    unfold fnd isAt plc
    by_cases hy : y.id < key
    · have ih := fnd_at key r y.id h.2
      unfold fnd at ih
      rw [if_pos hy, if_pos hy, List.find?_cons_of_neg (by simp; omega), ih, gt_succ]
    · rw [if_neg hy, if_neg hy]
      by_cases he : y.id = key
      · rw [List.find?_cons_of_pos (by simp [he])]
        simp [he, gt_zero]
      · rw [List.find?_cons_of_neg (by simp [he])]
        simp only [he, decide_false]
        refine List.find?_eq_none.2 fun z hz => ?_
        have := chkF_gt r y.id h.2 z hz
        simp
        omega
def withF (x : TnE) : Bool → List TnE → List TnE
  | d, [] => if d then [] else [x]
  | d, y :: r => if y.id = x.id then withF x d r else if x.id < y.id ∧ d = false then x :: y :: withF x true r else y :: withF x d r
theorem withF_true (x : TnE) : ∀ (L : List TnE) (last : Int), chkF last L = true → x.id ≤ last → withF x true L = L
  | [], _, _, _ => rfl
  | y :: r, last, h, hx => by
    unfold chkF at h
    simp only [Bool.and_eq_true, decide_eq_true_eq] at h
    unfold withF
    rw [if_neg (by omega), if_neg (by simp), withF_true x r y.id h.2 (by omega)]
theorem withF_lay (x : TnE) : ∀ (L : List TnE) (last : Int), chkF last L = true → withF x false L = layR x L
  | [], _, _ => rfl
  | y :: r, last, h => by
    unfold chkF at h
    simp only [Bool.and_eq_true, decide_eq_true_eq] at h
    unfold withF layR
    by_cases hy : y.id < x.id
    · rw [if_neg (by omega), if_neg (by omega), if_pos hy, withF_lay x r y.id h.2]
    · rw [if_neg hy]
      by_cases he : y.id = x.id
      · rw [if_pos he, if_pos he]
        cases r with
        | nil => rfl
        | cons z q =>
          have h2 := h.2
          unfold chkF at h2
          simp only [Bool.and_eq_true, decide_eq_true_eq] at h2
          unfold withF
          rw [if_neg (by omega), if_pos (by constructor; omega; rfl), withF_true x q z.id h2.2 (by omega)]
      · rw [if_neg he, if_neg he, if_pos (by constructor; omega; rfl), withF_true x r y.id h.2 (by omega)]
theorem chk_lay (x : TnE) : ∀ (L : List TnE) (last : Int), chkF last L = true → chkF last (layR x L) = (decide (last < x.id) && mayT x)
  | [], last, _ => by simp [layR, chkF]
  | y :: r, last, h => by
    unfold chkF at h
    simp only [Bool.and_eq_true, decide_eq_true_eq] at h
    obtain ⟨⟨h1, h2⟩, h3⟩ := h
    unfold layR
    by_cases hy : y.id < x.id
    · rw [if_pos hy]
      unfold chkF
      rw [chk_lay x r y.id h3, h2]
      simp [hy, h1]
      intro _; omega
    · rw [if_neg hy]
      by_cases he : y.id = x.id
      · rw [if_pos he]
        unfold chkF
        rw [← he, h3]
        simp
      · rw [if_neg he]
        unfold chkF
        unfold chkF
        rw [h2, h3]
        simp [show x.id < y.id by omega]
end Go.Proofs.Ytpgpcgpecpimlaa
