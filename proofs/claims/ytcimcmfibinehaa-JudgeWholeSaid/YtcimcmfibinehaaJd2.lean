/-
  Package judge: may a record be?
-/
import Derived.Deep.QuietTactic
import Derived.BigRegion
import Derived.BigQuiet
import Derived.RegionTactic
import Derived.Lib.Small
import Derived.Lib.Hide
import Derived.Test.YtcimcmfibinehaaJd1
namespace Go.Proofs.Ytcimcmfibinehaa
open Go.RowKit
set_option linter.unusedSimpArgs false
set_option linter.unusedVariables false

def Blk (W : World) (B : Nat) (cs : Array Value) (t : TypeId) : Prop := W.heap[B]? = some (.cells cs t (0, 0))
theorem Blk.lt {W : World} {B : Nat} {cs : Array Value} {t : TypeId} (h : Blk W B cs t) : B < W.heap.size := (Array.getElem?_eq_some_iff.1 h).1
theorem Blk.step {A B : World} {n : Nat} {c : Array Value} {t : TypeId} (h : Blk A n c t) (hB : Below A.heap.size A B) : Blk B n c t := (hB.block n h.lt).trans h
theorem Blk.ne {A : World} {n : Nat} {c : Array Value} {t : TypeId} (h : Blk A n c t) (p : Addr) (hp : n ≠ p.block) (u : Value) : Blk (A.setCell p u) n c t := (heap_setCell_ne _ _ _ _ hp).trans h
theorem Blk.set {A : World} {n : Nat} {c : Array Value} {t : TypeId} (h : Blk A n c t) (j : Nat) (u : Value) : Blk (A.setCell ⟨n, j, none⟩ u) n (c.setIfInBounds j u) t := heap_setCell_same h j u
theorem blk_new (A : World) (c : Array Value) (t : TypeId) : Blk (A.alloc (.cells c t)) A.heap.size c t := heap_alloc_new A _
theorem Blk.alloc {A : World} {n : Nat} {c : Array Value} {t : TypeId} (h : Blk A n c t) (o : Obj) : Blk (A.alloc o) n c t := (Below.heap_alloc _ _ _ h.lt).trans h

def isT (n : Int) : Bool := decide (1 ≤ n ∧ n ≤ 16)
theorem isTenant_any (n : Int) (w : World) : Calls Try.prog 29 #[.int .i64 n] w fun e w' => e = .returned (.bool (isT n)) ∧ w = w' := by
  by_cases h1 : 1 ≤ n
  · by_cases h2 : n ≤ 16
    · have HT : Hid (isT n = true) := Lib.hid (decide_eq_true ⟨h1, h2⟩)
      go_enter Try.func29, Try.ntmps29
      go_wp2_with fail
      go_ret
      exact ⟨by rw [HT.out]; rfl, rfl⟩
    · have HT : Hid (isT n = false) := Lib.hid (decide_eq_false (by omega))
      go_enter Try.func29, Try.ntmps29
      go_wp2_with fail
      go_ret
      exact ⟨by rw [HT.out]; rfl, rfl⟩
  · have HT : Hid (isT n = false) := Lib.hid (decide_eq_false (by omega))
    go_enter Try.func29, Try.ntmps29
    go_wp2_with fail
    go_ret
    exact ⟨by rw [HT.out]; rfl, rfl⟩

def mayB (r u : Int) : Bool := decide (0 ≤ r ∧ r ≤ 1000000 ∧ 0 ≤ u ∧ u ≤ 1000000)
theorem may_any (r u : Int) (w : World) : Calls Try.prog 30 #[.int .i64 r, .int .i64 u] w fun e w' => e = .returned (.bool (mayB r u)) ∧ w = w' := by
  by_cases h : 0 ≤ r ∧ r ≤ 1000000 ∧ 0 ≤ u ∧ u ≤ 1000000
  · have HT : Hid (mayB r u = true) := Lib.hid (decide_eq_true h)
    obtain ⟨h1, h2, h3, h4⟩ := h
    go_enter Try.func30, Try.ntmps30
    go_wp2_with fail
    go_ret
    exact ⟨by rw [HT.out]; rfl, rfl⟩
  · have HT : Hid (mayB r u = false) := Lib.hid (decide_eq_false h)
    have hc : r < 0 ∨ (0 ≤ r ∧ 1000000 < r) ∨ (0 ≤ r ∧ r ≤ 1000000 ∧ u < 0) ∨ (0 ≤ r ∧ r ≤ 1000000 ∧ 0 ≤ u ∧ 1000000 < u) := by omega
    clear h
    rcases hc with h1 | ⟨h1, h2⟩ | ⟨h1, h2, h3⟩ | ⟨h1, h2, h3, h4⟩
    all_goals
      go_enter Try.func30, Try.ntmps30
      go_wp2_with fail
      go_ret
      exact ⟨by rw [HT.out]; rfl, rfl⟩
/-! ### May a record be? -/
def sentOk (last : Int) (x : SentE) : Bool := decide (last ≤ x.t ∧ x.t ≤ 1099511627776 ∧ 1 ≤ x.sz ∧ x.sz ≤ 1500) && isT x.ten
def forceOk (last : Int) (x : ForceE) : Bool := decide (last ≤ x.t ∧ x.t ≤ 1099511627776) && (isT x.ten && mayB x.r x.b)
def lastS (L : Nat → SentE) (k : Nat) : Int := if k = 0 then 1 else (L (k - 1)).t
def lastF (F : Nat → ForceE) (k : Nat) : Int := if k = 0 then 0 else (F (k - 1)).t
theorem lastS_succ (L : Nat → SentE) (k : Nat) : lastS L (k + 1) = (L k).t := by simp [lastS]
theorem lastF_succ (F : Nat → ForceE) (k : Nat) : lastF F (k + 1) = (F k).t := by simp [lastF]
def chkS (L : Nat → SentE) : Nat → Bool
  | 0 => true
  | n + 1 => chkS L n && sentOk (lastS L n) (L n)
def chkF (F : Nat → ForceE) : Nat → Bool
  | 0 => true
  | n + 1 => chkF F n && forceOk (lastF F n) (F n)
theorem chkS_false {L : Nat → SentE} {k : Nat} (h : sentOk (lastS L k) (L k) = false) : ∀ n, k < n → chkS L n = false
  | 0, hk => by omega
  | n + 1, hk => by
    unfold chkS
    by_cases e : k = n
    · subst e; rw [h, Bool.and_false]
    · rw [chkS_false h n (by omega), Bool.false_and]
theorem chkF_false {F : Nat → ForceE} {k : Nat} (h : forceOk (lastF F k) (F k) = false) : ∀ n, k < n → chkF F n = false
  | 0, hk => by omega
  | n + 1, hk => by
    unfold chkF
    by_cases e : k = n
    · subst e; rw [h, Bool.and_false]
    · rw [chkF_false h n (by omega), Bool.false_and]
theorem sentOk_no {l : Int} {x : SentE} (h : sentOk l x = false) : x.t < l ∨ (l ≤ x.t ∧ 1099511627776 < x.t) ∨ (l ≤ x.t ∧ x.t ≤ 1099511627776 ∧ x.sz < 1) ∨ (l ≤ x.t ∧ x.t ≤ 1099511627776 ∧ 1 ≤ x.sz ∧ 1500 < x.sz) ∨ (l ≤ x.t ∧ x.t ≤ 1099511627776 ∧ 1 ≤ x.sz ∧ x.sz ≤ 1500 ∧ isT x.ten = false) := by
  unfold sentOk at h
  cases hT : isT x.ten
  · simp only [and_true]
    omega
  · rw [hT] at h
    simp at h
    omega
theorem sentOk_yes {l : Int} {x : SentE} (h : sentOk l x = true) : l ≤ x.t ∧ x.t ≤ 1099511627776 ∧ 1 ≤ x.sz ∧ x.sz ≤ 1500 ∧ isT x.ten = true := by
  unfold sentOk at h
  simp only [Bool.and_eq_true, decide_eq_true_eq] at h
  exact ⟨h.1.1, h.1.2.1, h.1.2.2.1, h.1.2.2.2, h.2⟩
theorem forceOk_no {l : Int} {x : ForceE} (h : forceOk l x = false) : x.t < l ∨ (l ≤ x.t ∧ 1099511627776 < x.t) ∨ (l ≤ x.t ∧ x.t ≤ 1099511627776 ∧ isT x.ten = false) ∨ (l ≤ x.t ∧ x.t ≤ 1099511627776 ∧ isT x.ten = true ∧ mayB x.r x.b = false) := by
  unfold forceOk at h
  cases hT : isT x.ten <;> cases hM : mayB x.r x.b <;> rw [hT, hM] at h <;> simp at h <;> first | omega | (simp; omega)
theorem forceOk_yes {l : Int} {x : ForceE} (h : forceOk l x = true) : l ≤ x.t ∧ x.t ≤ 1099511627776 ∧ isT x.ten = true ∧ mayB x.r x.b = true := by
  unfold forceOk at h
  simp only [Bool.and_eq_true, decide_eq_true_eq] at h
  exact ⟨h.1.1, h.1.2, h.2.1, h.2.2⟩
end Go.Proofs.Ytcimcmfibinehaa
