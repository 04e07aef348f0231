/-
  Package virtual: two times that are the same; a tag set.
-/
import Derived.Test.YtnainlemnkfpkaaVu6
namespace Go.Proofs.Ytnainlemnkfpkaa
open Go.RowKit
set_option linter.unusedSimpArgs false
set_option linter.unusedVariables false

theorem ret_int {k : IntKind} {a b : Int} (h : a = b) : Ending.returned (.int k a) = .returned (.int k b) := by rw [h]
theorem below_drewN {B : Nat} {w X : World} (h : Below B w X) (n : Nat) : Below B w (X.drewN n) := ⟨h.os, h.tape, h.output, h.size, h.block⟩
theorem Holds.step {A B : World} {n : Nat} {c : Array Value} (h : Holds A n c) (hB : Below A.heap.size A B) : Holds B n c :=
  ⟨fun j => (hB.cell (p := ⟨n, j, none⟩) h.2.2).trans (h.1 j), fun j => (hB.frozen (p := ⟨n, j, none⟩) h.2.2).trans (h.2.1 j), by have := hB.size; have := h.2.2; omega⟩
theorem Row.set {w : World} {v : Value} {g : Nat} {e : TypeId} {size n : Nat} {xs : List Value} (h : Row w v (some g) e size n xs) (j : Nat) (u : Value) : Row (w.setCell ⟨g, j, none⟩ u) v (some g) e size n (xs.set j u) := by
  rcases h.cases with ⟨h1, _⟩ | ⟨g', cap, cur, hg, rfl, h3, h4, h5, h6, h7⟩
  · cases h1
  · obtain rfl := Option.some.inj hg
    refine Row.mk (heap_setCell_same h3 j u) h4 h5 (by simpa using h6) ?_
    rw [← h7, Array.toList_setIfInBounds, ← List.take_set]
def updT (T : Nat → TagsE) (k : Nat) (t : TagsE) : Nat → TagsE := fun j => if j = k then t else T j
theorem set_append_len {A : Type} (l m : List A) (x : A) (j n : Nat) (h : l.length = n) : (l ++ m).set (n + j) x = l ++ m.set j x := by
  subst h
  rw [List.set_append_right _ _ (by omega)]
  congr 2
  omega
theorem tagsL_upd (T : Nat → TagsE) (k : Nat) (s f : Int) : ∀ n : Nat, k < n → ((tagsL T n).set (k * 2) (.int .i64 s)).set (k * 2 + 1) (.int .i64 f) = tagsL (updT T k ⟨s, f⟩) n
  | 0, h => by omega
  | n + 1, h => by
    have hl := tagsL_len T n
    rw [tagsL_succ, tagsL_succ]
    by_cases hk : k < n
    · rw [List.set_append_left _ _ (by omega), List.set_append_left _ _ (by rw [List.length_set]; omega), tagsL_upd T k s f n hk]
      congr 2
      unfold updT
      rw [if_neg (by omega)]
    · obtain rfl : k = n := by omega
      have e0 := set_append_len (tagsL T k) (T k).cells (.int .i64 s) 0 (k * 2) hl
      rw [Nat.add_zero] at e0
      rw [e0, set_append_len (tagsL T k) _ (.int .i64 f) 1 (k * 2) hl, tagsL_congr (E := updT T k ⟨s, f⟩) (E' := T) (fun j hj => by unfold updT; rw [if_neg (by omega)])]
      congr 1
      unfold updT
      rw [if_pos rfl]
      rfl

set_option maxHeartbeats 1000000 in
theorem wake1_any (s f V : Int) (g : Nat) (w : World) (hg : w.cell? ⟨g, 0, none⟩ = some (.int .i64 V)) (hlt : g < w.heap.size) :
    Calls Try.prog 56 #[.agg #[.int .i64 s, .int .i64 f], .pointer (some ⟨g, 0, none⟩)] w fun e w' => e = .returned (.int .i64 (max f V)) ∧ w.alloc (.cells #[.int .i64 s, .int .i64 f] 80) = w' := by
  have hne : (w.heap.size = g) = False := eq_false (by omega)
  have hne2 : (g = w.heap.size) = False := eq_false (by omega)
  go_enter Try.func56, Try.ntmps56
  go_wp2_with fail
  all_goals
    go_ret
    exact ⟨ret_int (by omega), rfl⟩
set_option maxHeartbeats 1000000 in
theorem next1_any (s f : Int) (w : World) :
    Calls Try.prog 55 #[.agg #[.int .i64 s, .int .i64 f]] w fun e w' => e = .returned (.int .i64 f) ∧ w.alloc (.cells #[.int .i64 s, .int .i64 f] 80) = w' := by
  go_enter Try.func55, Try.ntmps55
  go_wp2_with fail
  go_ret
  exact ⟨rfl, rfl⟩
theorem Row.own {w : World} {a : Option Addr} {g c n : Nat} {e : TypeId} {size : Nat} {xs : List Value} (h : Row w (.slice a n c) (some g) e size n xs) : a = some ⟨g, 0, none⟩ := by
  rcases h.cases with ⟨h1, _⟩ | ⟨g', cap, cur, hg, hv, _⟩
  · cases h1
  · obtain rfl := Option.some.inj hg
    injection hv
/-- two boxes of the call's own -/
def VB2 (w : World) (c1 c2 : Array Value) (W : World) : Prop := Holds W w.heap.size c1 ∧ Holds W (w.heap.size + 1) c2 ∧ Below w.heap.size w W
theorem VB2.step {w A B : World} {c1 c2 : Array Value} (h : VB2 w c1 c2 A) (hB : Below A.heap.size A B) : VB2 w c1 c2 B := ⟨Holds.step h.1 hB, Holds.step h.2.1 hB, h.2.2.trans (hB.mono h.2.2.size)⟩
theorem VB2.mk0 (w : World) (c1 c2 : Array Value) (t1 t2 : TypeId) : VB2 w c1 c2 ((w.alloc (.cells c1 t1)).alloc (.cells c2 t2)) := by
  obtain ⟨h1, h2⟩ := tw2 (Below.refl _ ((w.alloc (.cells c1 t1)).alloc (.cells c2 t2))) rfl
  exact ⟨h1, h2, ((Below.refl _ _).alloc (Nat.le_refl _) _).alloc (by simp) _⟩
theorem VB2.alloc {w A : World} {c1 c2 : Array Value} (h : VB2 w c1 c2 A) (o : Obj) : VB2 w c1 c2 (A.alloc o) := h.step ((Below.refl _ _).alloc (Nat.le_refl _) o)
end Go.Proofs.Ytnainlemnkfpkaa
