/-
  Package virtual: two times that are the same; a tag set.
-/
import Derived.Test.YtpgpcgpecpimlaaVu6
namespace Go.Proofs.Ytpgpcgpecpimlaa
open Go.RowKit
set_option linter.unusedSimpArgs false
set_option linter.unusedVariables false

theorem ret_int {k : IntKind} {a b : Int} (h : a = b) : Ending.returned (.int k a) = .returned (.int k b) := by rw [h]
theorem below_drewN {B : Nat} {w X : World} (h : Below B w X) (n : Nat) : Below B w (X.drewN n) := ⟨h.os, h.tape, h.output, h.size, h.block⟩
theorem Holds.step {A B : World} {n : Nat} {c : Array Value} (h : Holds A n c) (hB : Below A.heap.size A B) : Holds B n c :=
  ⟨fun j => (hB.cell (p := ⟨n, j, none⟩) h.2.2).trans (h.1 j), fun j => (hB.frozen (p := ⟨n, j, none⟩) h.2.2).trans (h.2.1 j), by have := hB.size; have := h.2.2; omega⟩
set_option maxRecDepth 100000 in
set_option maxHeartbeats 4000000 in
theorem vsame_any (V : Int) (a : Option Addr) (n c b o : Nat) (T : Nat → TagsE) (a' : Option Addr) (c' b' o' : Nat) (T' : Nat → TagsE) (w : World) (hs : TagsIn w a n c b o T) (hs' : TagsIn w a' n c' b' o' T') (he : ∀ k, k < n → T k = T' k) :
    Calls Try.prog 18 #[.agg #[.int .i64 V, .slice a n c], .agg #[.int .i64 V, .slice a' n c']] w fun e w' => e = .returned (.bool true) ∧ Below w.heap.size w w' := by
  have HS := Lib.hid hs
  have HS' := Lib.hid hs'
  have HE := Lib.hid he
  have hm := hs.max
  have hl := hs.le
  unfold maxLen at hm
  have HT := Lib.hid (tw2 (n := w.heap.size) (Below.refl _ ((w.alloc (.cells #[.int .i64 V, .slice a n c] 24)).alloc (.cells #[.int .i64 V, .slice a' n c'] 24))) rfl)
  have HB0 : Hid (Below w.heap.size w ((w.alloc (.cells #[.int .i64 V, .slice a n c] 24)).alloc (.cells #[.int .i64 V, .slice a' n c'] 24))) := Lib.hid (((Below.refl _ _).alloc (Nat.le_refl _) _).alloc (by simp) _)
  clear hs hs' he
  go_enter Try.func18, Try.ntmps18
  go_wp2_with fail
  go_loopw [5] (fun i wr => ∃ k : Nat, k ≤ n ∧ i = .int .i64 k ∧ Below w.heap.size w wr ∧ Holds wr w.heap.size #[.int .i64 V, .slice a n c] ∧ Holds wr (w.heap.size + 1) #[.int .i64 V, .slice a' n c']) (fun i _ => n - (intOf i).toNat)
  case atStart => exact ⟨0, Nat.zero_le _, rfl, HB0.out, HT.out.1, HT.out.2⟩
  case round =>
    obtain ⟨k, hk, rfl, hbel, h1, h2⟩ := hrel
    obtain ⟨r1, y1, z1⟩ := id h1
    obtain ⟨r2, y2, z2⟩ := id h2
    have HH1 := Lib.hid h1
    have HH2 := Lib.hid h2
    by_cases hlt : k < n
    · obtain ⟨e0, e1⟩ := HS.out.at_ (by omega)
      obtain ⟨e0', e1'⟩ := HS'.out.at_ (by omega)
      subst e0 e0'
      obtain ⟨k0, k1⟩ := (HS.out.below hbel).cell k hlt
      obtain ⟨l0, l1⟩ := (HS'.out.below hbel).cell k hlt
      rw [← HE.out k hlt] at l0 l1
      obtain ⟨s, hs⟩ : ∃ s, s = (T k).s := ⟨_, rfl⟩
      obtain ⟨f, hf⟩ : ∃ f, f = (T k).f := ⟨_, rfl⟩
      rw [← hs] at k0 l0
      rw [← hf] at k1 l1
      clear hs hf h1 h2
      go_wp2_with fail
      go_quiet (fail)
      go_wp2_with fail
      go_roundw
      case rel => exact ⟨k + 1, by omega, by go_num, below_drewN hbel _, Holds.step HH1.out (below_drewN (Below.refl _ _) _), Holds.step HH2.out (below_drewN (Below.refl _ _) _)⟩
      case measure => simp [intOf]; omega
    · obtain rfl : k = n := by omega
      clear h1 h2
      go_wp2_with fail
      go_ret
      exact ⟨rfl, hbel⟩

theorem Row.set {w : World} {v : Value} {g : Nat} {e : TypeId} {size n : Nat} {xs : List Value} (h : Row w v (some g) e size n xs) (j : Nat) (u : Value) : Row (w.setCell ⟨g, j, none⟩ u) v (some g) e size n (xs.set j u) := by
  rcases h.cases with ⟨h1, _⟩ | ⟨g', cap, cur, hg, rfl, h3, h4, h5, h6, h7⟩
  · cases h1
  · obtain rfl := Option.some.inj hg
    refine Row.mk (heap_setCell_same h3 j u) h4 h5 (by simpa using h6) ?_
    rw [← h7, Array.toList_setIfInBounds, ← List.take_set]
def updT (T : Nat → TagsE) (k : Nat) (t : TagsE) : Nat → TagsE := fun j => if j = k then t else T j
theorem set_append_len {A : Type} (l m : List A) (x : A) (j n : Nat) (h : l.length = n) : (l ++ m).set (n + j) x = l ++ m.set j x := by
  subst h
  rw [List.set_append_right _ _ (by omega)]
  congr 2
  omega
theorem tagsL_upd (T : Nat → TagsE) (k : Nat) (s f : Int) : ∀ n : Nat, k < n → ((tagsL T n).set (k * 2) (.int .i64 s)).set (k * 2 + 1) (.int .i64 f) = tagsL (updT T k ⟨s, f⟩) n
  | 0, h => by omega
  | n + 1, h => by
    have hl := tagsL_len T n
    rw [tagsL_succ, tagsL_succ]
    by_cases hk : k < n
    · rw [List.set_append_left _ _ (by omega), List.set_append_left _ _ (by rw [List.length_set]; omega), tagsL_upd T k s f n hk]
      congr 2
      unfold updT
      rw [if_neg (by omega)]
    · obtain rfl : k = n := by omega
      have e0 := set_append_len (tagsL T k) (T k).cells (.int .i64 s) 0 (k * 2) hl
      rw [Nat.add_zero] at e0
      rw [e0, set_append_len (tagsL T k) _ (.int .i64 f) 1 (k * 2) hl, tagsL_congr (E := updT T k ⟨s, f⟩) (E' := T) (fun j hj => by unfold updT; rw [if_neg (by omega)])]
      congr 1
      unfold updT
      rw [if_pos rfl]
      rfl

set_option maxHeartbeats 1000000 in
theorem wake1_any (s f V : Int) (g : Nat) (w : World) (hg : w.cell? ⟨g, 0, none⟩ = some (.int .i64 V)) (hlt : g < w.heap.size) :
    Calls Try.prog 62 #[.agg #[.int .i64 s, .int .i64 f], .pointer (some ⟨g, 0, none⟩)] w fun e w' => e = .returned (.int .i64 (max f V)) ∧ w.alloc (.cells #[.int .i64 s, .int .i64 f] 41) = w' := by
  have hne : (w.heap.size = g) = False := eq_false (by omega)
  have hne2 : (g = w.heap.size) = False := eq_false (by omega)
  go_enter Try.func62, Try.ntmps62
  go_wp2_with fail
  all_goals
    go_ret
    exact ⟨ret_int (by omega), rfl⟩
set_option maxHeartbeats 1000000 in
theorem next1_any (s f : Int) (w : World) :
    Calls Try.prog 64 #[.agg #[.int .i64 s, .int .i64 f]] w fun e w' => e = .returned (.int .i64 f) ∧ w.alloc (.cells #[.int .i64 s, .int .i64 f] 41) = w' := by
  go_enter Try.func64, Try.ntmps64
  go_wp2_with fail
  go_ret
  exact ⟨rfl, rfl⟩
theorem Row.own {w : World} {a : Option Addr} {g c n : Nat} {e : TypeId} {size : Nat} {xs : List Value} (h : Row w (.slice a n c) (some g) e size n xs) : a = some ⟨g, 0, none⟩ := by
  rcases h.cases with ⟨h1, _⟩ | ⟨g', cap, cur, hg, hv, _⟩
  · cases h1
  · obtain rfl := Option.some.inj hg
    injection hv
/-- two boxes of the call's own -/
def VB2 (w : World) (c1 c2 : Array Value) (W : World) : Prop := Holds W w.heap.size c1 ∧ Holds W (w.heap.size + 1) c2 ∧ Below w.heap.size w W
theorem VB2.step {w A B : World} {c1 c2 : Array Value} (h : VB2 w c1 c2 A) (hB : Below A.heap.size A B) : VB2 w c1 c2 B := ⟨Holds.step h.1 hB, Holds.step h.2.1 hB, h.2.2.trans (hB.mono h.2.2.size)⟩
theorem VB2.mk0 (w : World) (c1 c2 : Array Value) (t1 t2 : TypeId) : VB2 w c1 c2 ((w.alloc (.cells c1 t1)).alloc (.cells c2 t2)) := by
  obtain ⟨h1, h2⟩ := tw2 (Below.refl _ ((w.alloc (.cells c1 t1)).alloc (.cells c2 t2))) rfl
  exact ⟨h1, h2, ((Below.refl _ _).alloc (Nat.le_refl _) _).alloc (by simp) _⟩
theorem VB2.alloc {w A : World} {c1 c2 : Array Value} (h : VB2 w c1 c2 A) (o : Obj) : VB2 w c1 c2 (A.alloc o) := h.step ((Below.refl _ _).alloc (Nat.le_refl _) o)
end Go.Proofs.Ytpgpcgpecpimlaa
