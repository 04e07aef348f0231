/-
  Package vote: nodes, terms that rise, and the three questions of an answer; the document's answers beside them.
-/
import Derived.Test.YtidheicmaodfgaaVt2
import Derived.Deep.RegionWith
import Derived.Deep.RegionHeld3
namespace Go.Proofs.Ytidheicmaodfgaa
open Go.RowKit

def nodeB (n : Int) : Bool := decide (1 ≤ n) && decide (n ≤ 7)
theorem node_rel (n : Int) : (n < 1 ∧ nodeB n = false) ∨ (1 ≤ n ∧ n ≤ 7 ∧ nodeB n = true) ∨ (1 ≤ n ∧ 7 < n ∧ nodeB n = false) := by
  rcases (show n < 1 ∨ (1 ≤ n ∧ n ≤ 7) ∨ (1 ≤ n ∧ 7 < n) by omega) with h | ⟨h, h2⟩ | ⟨h, h2⟩
  · exact .inl ⟨h, by unfold nodeB; simp; omega⟩
  · exact .inr (.inl ⟨h, h2, by unfold nodeB; simp; omega⟩)
  · exact .inr (.inr ⟨h, h2, by unfold nodeB; simp; omega⟩)
theorem isNode_any (n : Int) (w : World) : Calls Try.prog 29 #[.int .i64 n] w fun e w' => e = .returned (.bool (nodeB n)) ∧ w = w' := by
  rcases node_rel n with ⟨h, hb⟩ | ⟨h, h2, hb⟩ | ⟨h, h2, hb⟩
  all_goals
    rw [hb]
    clear hb
    go_enter Try.func29, Try.ntmps29
    go_wp2_with fail
    go_ret
    exact ⟨by first | rfl | exact congrArg (fun b => Ending.returned (.bool b)) (by simp; omega), rfl⟩
theorem rnode_any (n : Int) (w : World) : Calls Try.prog 38 #[.int .i64 n] w fun e w' => e = .returned (.bool (nodeB n)) ∧ w = w' := by
  rcases node_rel n with ⟨h, hb⟩ | ⟨h, h2, hb⟩ | ⟨h, h2, hb⟩
  all_goals
    rw [hb]
    clear hb
    go_enter Try.func38, Try.ntmps38
    go_wp2_with fail
    go_ret
    exact ⟨by first | rfl | exact congrArg (fun b => Ending.returned (.bool b)) (by simp; omega), rfl⟩

def riseT (t term : Int) : Int := if t < term then term else t
def riseV (t v term : Int) : Int := if t < term then 0 else v
set_option maxHeartbeats 1000000 in
theorem rise_any (t v b term : Int) (w : World) : Calls Try.prog 18 #[.agg #[.int .i64 t, .int .i64 v, .int .i64 b], .int .i64 term] w fun e w' => e = .returned (.agg #[.int .i64 (riseT t term), .int .i64 (riseV t v term), .int .i64 b]) ∧ Below w.heap.size w w' := by
  unfold riseT riseV
  rcases (show t < term ∨ term ≤ t by omega) with h | h
  · rw [if_pos h, if_pos h]
    go_enter Try.func18, Try.ntmps18
    go_wp2_with fail
    exact bodyPost_ret (v := .agg #[.int .i64 term, .int .i64 0, .int .i64 b]) (by simp [results, Try.results18, go_sem]) rfl ⟨rfl, by first | exact ((Below.refl _ _).alloc (Nat.le_refl _) _).alloc (by simp) _ | exact (((Below.refl _ _).alloc (Nat.le_refl _) _).alloc (by simp) _).setCell (by simp) _⟩
  · rw [if_neg (by omega), if_neg (by omega)]
    go_enter Try.func18, Try.ntmps18
    go_wp2_with fail
    exact bodyPost_ret (v := .agg #[.int .i64 t, .int .i64 v, .int .i64 b]) (by simp [results, Try.results18, go_sem]) rfl ⟨rfl, by first | exact ((Below.refl _ _).alloc (Nat.le_refl _) _).alloc (by simp) _ | exact (((Below.refl _ _).alloc (Nat.le_refl _) _).alloc (by simp) _).setCell (by simp) _⟩
set_option maxHeartbeats 1000000 in
theorem rrise_any (t v b term : Int) (w : World) : Calls Try.prog 19 #[.agg #[.int .i64 t, .int .i64 v, .int .i64 b], .int .i64 term] w fun e w' => e = .returned (.agg #[.int .i64 (riseT t term), .int .i64 (riseV t v term), .int .i64 b]) ∧ Below w.heap.size w w' := by
  unfold riseT riseV
  rcases (show t < term ∨ term ≤ t by omega) with h | h
  · rw [if_pos h, if_pos h]
    go_enter Try.func19, Try.ntmps19
    go_wp2_with fail
    exact bodyPost_ret (v := .agg #[.int .i64 term, .int .i64 0, .int .i64 b]) (by simp [results, Try.results19, go_sem]) rfl ⟨rfl, by first | exact ((Below.refl _ _).alloc (Nat.le_refl _) _).alloc (by simp) _ | exact (((Below.refl _ _).alloc (Nat.le_refl _) _).alloc (by simp) _).setCell (by simp) _⟩
  · rw [if_neg (by omega), if_neg (by omega)]
    go_enter Try.func19, Try.ntmps19
    go_wp2_with fail
    exact bodyPost_ret (v := .agg #[.int .i64 t, .int .i64 v, .int .i64 b]) (by simp [results, Try.results19, go_sem]) rfl ⟨rfl, by first | exact ((Below.refl _ _).alloc (Nat.le_refl _) _).alloc (by simp) _ | exact (((Below.refl _ _).alloc (Nat.le_refl _) _).alloc (by simp) _).setCell (by simp) _⟩

theorem ask1_any (M H : Nat) (mt t : Int) (w : World) (c0 : w.cell? ⟨M, 3, none⟩ = some (.int .i64 mt)) (c1 : w.cell? ⟨H, 0, none⟩ = some (.int .i64 t)) :
    Calls Try.prog 34 #[.pointer (some ⟨M, 0, none⟩), .pointer (some ⟨H, 0, none⟩)] w fun e w' => e = .returned (.bool (decide (t ≤ mt))) ∧ w = w' := by
  go_enter Try.func34, Try.ntmps34
  go_wp2_with fail
  go_ret
  exact ⟨rfl, rfl⟩
def freeB (ov f : Int) : Bool := ov == 0 || ov == f
theorem ask2_any (O M : Nat) (ov f : Int) (w : World) (c0 : w.cell? ⟨O, 1, none⟩ = some (.int .i64 ov)) (c1 : w.cell? ⟨M, 1, none⟩ = some (.int .i64 f)) :
    Calls Try.prog 35 #[.pointer (some ⟨O, 0, none⟩), .pointer (some ⟨M, 0, none⟩)] w fun e w' => e = .returned (.bool (freeB ov f)) ∧ w = w' := by
  by_cases h : ov = 0
  · subst h
    have HB : Hid (freeB 0 f = true) := Lib.hid (by unfold freeB; simp)
    go_enter Try.func35, Try.ntmps35
    go_wp2_with fail
    go_ret
    exact ⟨by rw [HB.out]; rfl, rfl⟩
  · have b1 : (ov == 0) = false := by rw [beq_eq_false_iff_ne]; exact h
    have HB : Hid (freeB ov f = (ov == f)) := Lib.hid (by unfold freeB; rw [b1, Bool.false_or])
    clear h
    go_enter Try.func35, Try.ntmps35
    go_wp2_with fail
    go_ret
    exact ⟨by rw [HB.out]; rfl, rfl⟩
set_option maxHeartbeats 1000000 in
theorem ask3_any (R M : Nat) (base term idx lt : Int) (a : Option Addr) (len cap b o : Nat) (E : Nat → Ent) (w : World) (hs : EntsIn w a len cap b o E)
    (r0 : w.cell? ⟨R, 0, none⟩ = some (.int .i64 base)) (r1 : w.cell? ⟨R, 1, none⟩ = some (.int .i64 term)) (r2 : w.cell? ⟨R, 2, none⟩ = some (.slice a len cap))
    (c0 : w.cell? ⟨M, 4, none⟩ = some (.int .i64 idx)) (c1 : w.cell? ⟨M, 5, none⟩ = some (.int .i64 lt)) :
    Calls Try.prog 36 #[.pointer (some ⟨R, 0, none⟩), .pointer (some ⟨M, 0, none⟩)] w fun e w' => e = .returned (.bool (newerB base term len E idx lt)) ∧ Below w.heap.size w w' := by
  have HS := Lib.hid hs
  obtain ⟨C, hC⟩ : ∃ C, C = newerB base term len E idx lt := ⟨_, rfl⟩
  have HC := Lib.hid hC
  rw [← hC]
  clear hs hC
  go_enter Try.func36, Try.ntmps36
  go_wp2_with (refine (newer_any _ _ _ _ _ _ _ _ _ _ _ HS.out).mono ?_; rw [← HC.out]; rintro e W ⟨rfl, hW⟩)
  go_ret
  exact ⟨rfl, hW⟩
end Go.Proofs.Ytidheicmaodfgaa
