/-
  The places of an agent's leases, the soonest ahead: at most one.
-/
import Derived.Test.YtlgjdiadohhleaaAg7
namespace Go.Proofs.Ytlgjdiadohhleaa
open Go.RowKit
set_option linter.unusedSimpArgs false
set_option linter.unusedVariables false

set_option maxRecDepth 100000 in
set_option maxHeartbeats 4000000 in
theorem insF_any (a : Option Addr) (n c : Nat) (fv : Value) (w : World) (hn : n ≤ 1) :
    Calls Try.prog 130 #[.slice a n c, .int .i64 0, .int .i64 (n : Int), fv] w fun e w' => e = .returned (.tuple #[]) ∧ w = w' := by
  have h1 : decide ((1 : Int) < (n : Int)) = false := decide_eq_false (by omega)
  go_enter Try.func130, Try.ntmps130
  go_wp2_with fail
  refine wp_loop_rounds 1 ?_
  rw [rounds_succ]
  go_wp2_with fail
  go_end0
  exact ⟨rfl, rfl⟩

set_option maxRecDepth 100000 in
set_option maxHeartbeats 4000000 in
theorem stableF_any (a : Option Addr) (n c : Nat) (fv : Value) (w : World) (hn : n ≤ 1) :
    Calls Try.prog 128 #[.slice a n c, .int .i64 (n : Int), fv] w fun e w' => e = .returned (.tuple #[]) ∧ w = w' := by
  have h1 : decide ((20 : Int) ≤ (n : Int)) = false := decide_eq_false (by omega)
  have h2 : decide ((20 : Int) < (n : Int)) = false := decide_eq_false (by omega)
  have HI := Lib.hid (fun W => insF_any a n c fv W hn)
  go_enter Try.func128, Try.ntmps128
  go_wp2_with fail
  refine wp_loop_rounds 1 ?_
  rw [rounds_succ]
  go_wp2_with (go_at_call 130; refine (HI.out _).mono ?_; rintro e w' ⟨rfl, rfl⟩)
  refine wp_loop_rounds 1 ?_
  rw [rounds_succ]
  go_wp2_with fail
  go_end0
  exact ⟨rfl, rfl⟩

set_option maxRecDepth 100000 in
set_option maxHeartbeats 4000000 in
theorem sorted_any (a : Option Addr) (n c : Nat) (fv : Value) (w : World) (hn : n ≤ 1) (hc : n ≤ c) (hm : c ≤ maxLen) :
    Calls Try.prog 92 #[.agg #[fv], .slice a n c] w fun e w' => e = .returned (.slice a n c) ∧ Below w.heap.size w w' := by
  unfold maxLen at hm
  have HI := Lib.hid (fun W => stableF_any a n c fv W hn)
  have HS : Hid (∀ W, Calls Try.prog 121 #[.slice a n c, fv] W fun e w' => e = .returned (.tuple #[]) ∧ W = w') := Lib.hid (fun W => by
    go_enter Try.func121, Try.ntmps121
    go_wp2_with (go_at_call 128; refine (HI.out _).mono ?_; rintro e w' ⟨rfl, rfl⟩)
    go_end0
    exact ⟨rfl, rfl⟩)
  have HT : Hid (∀ W, Calls Try.prog 108 #[.slice a n c, fv] W fun e w' => e = .returned (.slice a n c) ∧ W = w') := Lib.hid (fun W => by
    go_enter Try.func108, Try.ntmps108
    go_wp2_with (go_at_call 121; refine (HS.out _).mono ?_; rintro e w' ⟨rfl, rfl⟩)
    go_ret
    exact ⟨rfl, rfl⟩)
  go_enter Try.func92, Try.ntmps92
  go_wp2_with (go_at_call 108; refine (HT.out _).mono ?_; rintro e w' ⟨rfl, rfl⟩)
  go_ret
  first | exact ⟨rfl, Below.refl _ _⟩ | exact ⟨rfl, (Below.refl _ _).alloc (Nat.le_refl _) _⟩

theorem agInt : (Try.prog.info? 3).map (fun i => (i.zero, i.size, i.bytes)) = some (some (.int .i64 0), 1, 8) := by kernel_rfl
/-- the places, as a slice -/
def SoonP (H : Hd) (w' : World) (e : Ending) : Prop := match H with
  | .gone _ _ => e = .returned (.slice none 0 0)
  | .one _ _ _ => ∃ r c, e = .returned (.slice (some ⟨r, 0, none⟩) 1 c) ∧ 1 ≤ c ∧ c ≤ maxLen ∧ r < w'.heap.size ∧ w'.cell? ⟨r, 0, none⟩ = some (.int .i64 0)

set_option maxRecDepth 100000 in
set_option maxHeartbeats 8000000 in
theorem soonest_any (g : Nat) (s : Ag) (H : Hd) (w : World) (h : AgAt w g s H) :
    Calls Try.prog 53 #[.pointer (some ⟨g, 0, none⟩)] w fun e w' => SoonP H w' e ∧ Below w.heap.size w w' := by
  have hB1 : ∀ o, Below w.heap.size w (w.alloc o) := fun o => (Below.refl _ _).alloc (Nat.le_refl _) _
  have HB1 := Lib.hid hB1
  have c11 : w.cell? ⟨g, 11, none⟩ = some H.val := cell_at h.blk 11
  have hl : g < w.heap.size := h.blk.lt
  cases H with
  | gone a c =>
    have hm : c ≤ maxLen := h.held
    unfold maxLen at hm
    simp only [Hd.val] at c11
    have HS := Lib.hid (fun W fv => sorted_any none 0 0 fv W (by omega) (Nat.le_refl _) (by unfold maxLen; omega))
    clear h hB1
    go_enter Try.func53, Try.ntmps53
    go_wp2_with fail
    refine wp_loop_rounds 1 ?_
    rw [rounds_succ]
    go_wp2_with (go_at_call 92; refine (HS.out _ _).mono ?_; rintro e w' ⟨rfl, hB⟩)
    go_ret
    exact ⟨rfl, (HB1.out _).trans (hB.mono (by simp))⟩
  | one b c x =>
    have hm := h.held.1.max
    unfold maxLen at hm
    simp only [Hd.val] at c11
    obtain ⟨i0, hi, hz0, hz1, hz2⟩ := info_parts agInt
    have HI := Lib.hid hi
    have HZ0 := Lib.hid hz0
    have HZ1 := Lib.hid hz1
    have HZ2 := Lib.hid hz2
    have HS := Lib.hid (fun W fv a c (h1 : 1 ≤ c) (h2 : c ≤ maxLen) => sorted_any a 1 c fv W (by omega) h1 h2)
    clear h hB1 hi hz0 hz1 hz2
    go_enter Try.func53, Try.ntmps53
    go_wp2_with fail
    refine wp_loop_rounds 2 ?_
    rw [rounds_succ]
    obtain ⟨W1, hW1⟩ : ∃ W1, W1 = w.alloc (.cells #[.pointer (some ⟨g, 0, none⟩)] 27) := ⟨_, rfl⟩
    have hBW1 : Below w.heap.size w W1 := by rw [hW1]; exact HB1.out _
    rw [← hW1]
    clear hW1
    go_wp2_with (at_builtin; refine wpList_append_row _ rfl (.tmp 13) (.tmp 15) 29 rfl 3 i0 _ 1 8 Try.underlying29 HI.out HZ0.out HZ1.out HZ2.out rfl (by decide) _ none 0 [] rfl (Row.nil _ _ _) ⟨W1.heap.size, 0, none⟩ 1 1 [.int .i64 0] rfl (by decide) rfl ?c1 ?c2 ?c3 ?c4 ?_)
    case c1 =>
      intro j u hu
      have hj : j = 0 := by have := (List.getElem?_eq_some_iff.1 hu).1; simpa using this
      subst hj
      obtain rfl : Value.int .i64 0 = u := by simpa using hu
      exact cell_at (heap_alloc_new W1 _) 0
    case c2 => intro u hu; exact (List.all_eq_true (p := fun u : Value => u.oneCell')).1 rfl u hu
    case c3 => unfold maxLen; omega
    case c4 => omega
    intro v' ob' W4 hrow4 hg4 hob4
    obtain ⟨a4, c4, rfl, k1, k2, rfl⟩ := hrow4.shape
    obtain ⟨_, e4, hc4, _⟩ := hrow4.cell 0 (by omega)
    obtain rfl := Option.some.inj e4
    have HC4 : Hid (W4.cell? ⟨ob', 0, none⟩ = some (.int .i64 0) ∧ ob' < W4.heap.size) := Lib.hid ⟨hc4, hrow4.lt⟩
    have HB4 : Hid (Below w.heap.size w W4) := Lib.hid (by
      exact (hBW1.alloc hBW1.size _).grown hg4 (by have := hBW1.size; simp; omega) (by intro k hk; cases hk))
    have HK : Hid (1 ≤ c4 ∧ c4 ≤ maxLen) := Lib.hid ⟨by omega, k2⟩
    unfold maxLen at k2
    clear hrow4 hg4 hob4 hc4 hBW1 e4
    go_wp2_with fail
    rw [rounds_succ]
    go_wp2_with fail
    go_at_call 92
    refine (HS.out _ _ _ _ HK.out.1 HK.out.2).mono ?_
    rintro e w' ⟨rfl, hB⟩
    have HBW := Lib.hid hB
    clear hB
    go_wp2_with fail
    go_ret
    exact ⟨⟨_, _, rfl, HK.out.1, HK.out.2, by have := HC4.out.2; have := HBW.out.size; omega, (HBW.out.cell (p := ⟨ob', 0, none⟩) HC4.out.2).trans HC4.out.1⟩, HB4.out.trans (HBW.out.mono HB4.out.size)⟩
end Go.Proofs.Ytlgjdiadohhleaa
