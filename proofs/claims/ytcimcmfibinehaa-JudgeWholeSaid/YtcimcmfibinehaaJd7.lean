/-
  Package judge: sums: what went out of a tenant, tick by tick.
-/
import Derived.Deep.RegionLaw
import Derived.StillTailTactics
import Derived.Test.YtcimcmfibinehaaJd6
namespace Go.Proofs.Ytcimcmfibinehaa
open Go.RowKit
set_option linter.unusedSimpArgs false
set_option linter.unusedVariables false

/-- a cell of a row of the call's own is written -/
theorem row_put {W : World} {v : Value} {ob n : Nat} {e : TypeId} {size : Nat} {xs : List Value} (h : Row W v (some ob) e size n xs) (i : Nat) (hi : i < n * size) (u : Value) : Row (W.setCell ⟨ob, i, none⟩ u) v (some ob) e size n (xs.set i u) := by
  rcases h.cases with ⟨h1, _, _, _⟩ | ⟨g, cap, cur, hob, rfl, hg, hnc, hcm, hcs, htake⟩
  · cases h1
  · obtain rfl := Option.some.inj hob
    refine Row.mk (heap_setCell_same hg i _) hnc hcm (by simp [hcs]) ?_
    rw [Array.toList_setIfInBounds, List.take_set, htake]

def upd {α : Type} (f : Nat → α) (i : Nat) (v : α) : Nat → α := fun j => if j = i then v else f j
theorem upd_same {α : Type} (f : Nat → α) (i : Nat) (v : α) : upd f i v i = v := by simp [upd]
theorem upd_ne {α : Type} (f : Nat → α) {i j : Nat} (v : α) (h : j ≠ i) : upd f i v j = f j := by simp [upd, h]

theorem sumL_set (E : Nat → SumE) (n k : Nat) (hk : k < n) (z : Int) : (sumL E n).set (k * 2 + 1) (.int .i64 z) = sumL (upd E k ⟨(E k).t, z⟩) n := by
  refine List.ext_getElem? fun i => ?_
  have hl := sumL_len E n
  have hl' := sumL_len (upd E k ⟨(E k).t, z⟩) n
  rw [List.getElem?_set]
  by_cases hi : i < n * 2
  · have h1 := sumL_at E n (i / 2) (i % 2) (by omega) (by omega)
    have h2 := sumL_at (upd E k ⟨(E k).t, z⟩) n (i / 2) (i % 2) (by omega) (by omega)
    rw [show i / 2 * 2 + i % 2 = i by omega] at h1 h2
    rw [h1, h2]
    by_cases e : k * 2 + 1 = i
    · rw [if_pos e, if_pos (by omega), show i / 2 = k by omega, show i % 2 = 1 by omega, upd_same]
      rfl
    · rw [if_neg e]
      by_cases ek : i / 2 = k
      · rw [ek, upd_same, show i % 2 = 0 by omega]
        rfl
      · rw [upd_ne _ _ ek]
  · rw [if_neg (by omega), List.getElem?_eq_none (by omega), List.getElem?_eq_none (by omega)]

/-- how many sums, and which -/
def sumC (L : Nat → SentE) (T : Int) : Nat → Nat × (Nat → SumE)
  | 0 => (0, fun _ => ⟨0, 0⟩)
  | n + 1 =>
    let p := sumC L T n
    if (L n).ten = T then
      if 0 < p.1 ∧ (p.2 (p.1 - 1)).t = (L n).t then (p.1, upd p.2 (p.1 - 1) ⟨(p.2 (p.1 - 1)).t, (p.2 (p.1 - 1)).sz + (L n).sz⟩)
      else (p.1 + 1, upd p.2 p.1 ⟨(L n).t, (L n).sz⟩)
    else p
theorem sumC_le (L : Nat → SentE) (T : Int) : ∀ n, (sumC L T n).1 ≤ n
  | 0 => by simp [sumC]
  | n + 1 => by
    have := sumC_le L T n
    simp only [sumC]
    split
    · split <;> simp only <;> omega
    · omega
theorem sumC_bd {L : Nat → SentE} {T : Int} : ∀ {n : Nat}, chkS L n = true → ∀ k, k < (sumC L T n).1 → (1 ≤ ((sumC L T n).2 k).sz ∧ ((sumC L T n).2 k).sz ≤ 1500 * n) ∧ 1 ≤ ((sumC L T n).2 k).t ∧ ((sumC L T n).2 k).t ≤ 1099511627776
  | 0, _, k, hk => by simp [sumC] at hk
  | n + 1, h, k, hk => by
    have ih := sumC_bd (T := T) (chkS_pre h n (by omega))
    have hn := chkS_le h n (by omega)
    have hl1 : 1 ≤ (L n).t := by
      have : ∀ m, m ≤ n → 1 ≤ lastS L m := by
        intro m
        induction m with
        | zero => intro _; simp [lastS]
        | succ m im => intro hm; rw [lastS_succ]; have := (chkS_le h m (by omega)).2.2.2.1; have := im (by omega); omega
      have := this n (Nat.le_refl _)
      omega
    simp only [sumC] at hk ⊢
    split at hk
    · rename_i e1
      rw [if_pos e1]
      split at hk
      · rename_i e2
        rw [if_pos e2]
        simp only at hk ⊢
        by_cases e : k = (sumC L T n).1 - 1
        · have i1 := ih k (by omega)
          subst e
          rw [upd_same]
          simp only
          omega
        · rw [upd_ne _ _ e]
          have i1 := ih k (by omega)
          omega
      · rename_i e2
        rw [if_neg e2]
        simp only at hk ⊢
        by_cases e : k = (sumC L T n).1
        · subst e
          rw [upd_same]
          simp only
          omega
        · rw [upd_ne _ _ e]
          have i1 := ih k (by omega)
          omega
    · rename_i e1
      rw [if_neg e1]
      have i1 := ih k hk
      omega
theorem infoSum : (Try.prog.info? 76).map (fun i => (i.zero, i.size, i.bytes)) = some (some (.agg #[.int .i64 0, .int .i64 0]), 2, 16) := by kernel_rfl
end Go.Proofs.Ytcimcmfibinehaa
