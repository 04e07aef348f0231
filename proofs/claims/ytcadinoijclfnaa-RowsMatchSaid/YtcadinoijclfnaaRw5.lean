/-
  The last entry of rows that may be.
-/
import Derived.Test.YtcadinoijclfnaaRw4
import Derived.StillTailTactics
namespace Go.Proofs.Ytcadinoijclfnaa
open Go.RowKit
set_option linter.unusedSimpArgs false
set_option linter.unusedVariables false
set_option linter.unusedVariables false

/-- the term of the last entry -/
def lastT (term : Int) (len : Nat) (E : Nat → Ent) : Int := if len = 0 then term else (E (len - 1)).t

theorem end_any (base term : Int) (a : Option Addr) (len cap : Nat) (w : World) (b0 : 0 ≤ base) (b1 : base ≤ 1099511627776) (hl : len ≤ cap) (hm : cap ≤ maxLen) (h1 : len ≤ 4096) :
    Calls Try.prog 34 #[.agg #[.int .i64 base, .int .i64 term, .slice a len cap]] w fun e w' => e = .returned (.int .i64 (base + len)) ∧ Below w.heap.size w w' := by
  unfold maxLen at hm
  go_enter Try.func34, Try.ntmps34
  go_wp2_with fail
  go_ret
  exact ⟨rfl, (Below.refl _ _).alloc (Nat.le_refl _) _⟩

set_option maxRecDepth 100000 in
set_option maxHeartbeats 1000000 in
theorem term_end (base term idx : Int) (a : Option Addr) (len cap b o : Nat) (E : Nat → Ent) (w : World) (hs : EntsIn w a len cap b o E) (b0 : 0 ≤ base) (b1 : base ≤ 1099511627776) (h1 : len ≤ 4096) (hi : idx = base + len) :
    Calls Try.prog 35 #[.agg #[.int .i64 base, .int .i64 term, .slice a len cap], .int .i64 idx] w fun e w' => e = .returned (.int .i64 (lastT term len E)) ∧ Below w.heap.size w w' := by
  have hm := hs.max
  have hl := hs.le
  unfold maxLen at hm
  unfold lastT
  by_cases hz : len = 0
  · rw [if_pos hz]
    have d1 : (idx == base) = true := by rw [beq_iff_eq]; omega
    have d2 : (idx != base) = false := by rw [bne_eq_false_iff_eq]; omega
    clear hs hi
    go_enter Try.func35, Try.ntmps35
    go_wp2_with fail
    go_ret
    exact ⟨rfl, (Below.refl _ _).alloc (Nat.le_refl _) _⟩
  · rw [if_neg hz]
    have d1 : (idx == base) = false := by rw [beq_eq_false_iff_ne]; omega
    have d2 : (idx != base) = true := by rw [bne_iff_ne]; omega
    obtain ⟨n, hn⟩ : ∃ n, n = len - 1 := ⟨_, rfl⟩
    rw [← hn]
    obtain ⟨e0, e1⟩ := hs.at_ (by omega)
    have hB : Below w.heap.size w (w.alloc (.cells #[.int .i64 base, .int .i64 term, .slice a len cap] 24)) := (Below.refl _ _).alloc (Nat.le_refl _) _
    obtain ⟨c0, _⟩ := (hs.below hB).cell n (by omega)
    subst e0
    have s1 : IntKind.i64.wrap (idx - base) = len := (IntWalk.i64_in _ (by omega)).trans (by omega)
    have s2 : IntKind.i64.wrap ((len : Int) - 1) = n := (IntWalk.i64_in _ (by omega)).trans (by omega)
    have s3 : n < len := by omega
    clear hs hB hi hn hz
    go_enter Try.func35, Try.ntmps35
    go_wp2_with fail
    go_outline
    go_ret
    exact ⟨rfl, (Below.refl _ _).alloc (Nat.le_refl _) _⟩

set_option maxRecDepth 100000 in
set_option maxHeartbeats 2000000 in
theorem last_any (base term : Int) (a : Option Addr) (len cap b o : Nat) (E : Nat → Ent) (w : World) (hs : EntsIn w a len cap b o E) (b0 : 0 ≤ base) (b1 : base ≤ 1099511627776) (h1 : len ≤ 4096) :
    Calls Try.prog 44 #[.agg #[.int .i64 base, .int .i64 term, .slice a len cap]] w fun e w' => e = .returned (.tuple #[.int .i64 (base + len), .int .i64 (lastT term len E)]) ∧ Below w.heap.size w w' := by
  have hm := hs.max
  have hl := hs.le
  have HS := Lib.hid hs
  clear hs
  obtain ⟨Q, hQ⟩ : ∃ Q : World → Prop, Q = fun W => (W.cell? ⟨w.heap.size, 0, none⟩ = some (.int .i64 base) ∧ W.cell? ⟨w.heap.size, 1, none⟩ = some (.int .i64 term) ∧ W.cell? ⟨w.heap.size, 2, none⟩ = some (.slice a len cap)) ∧ w.heap.size < W.heap.size ∧ Below w.heap.size w W := ⟨_, rfl⟩
  have hstep : ∀ A B, Below A.heap.size A B → Q A → Q B := fun A B h q => by
    rw [hQ] at q ⊢
    obtain ⟨⟨q0, q1, q2⟩, q3, q4⟩ := q
    exact ⟨⟨(h.cell (p := ⟨_, 0, none⟩) q3).trans q0, (h.cell (p := ⟨_, 1, none⟩) q3).trans q1, (h.cell (p := ⟨_, 2, none⟩) q3).trans q2⟩, by have := h.size; omega, q4.trans (h.mono q4.size)⟩
  have cur : Q (w.alloc (.cells #[.int .i64 base, .int .i64 term, .slice a len cap] 24)).drew := by
    rw [hQ]
    exact ⟨⟨by go_simp, by go_simp, by go_simp⟩, by simp, ((Below.refl _ _).alloc (Nat.le_refl _) _).drew⟩
  obtain ⟨⟨f0, f1, f2⟩, f3, f4⟩ := (show _ ∧ _ by have := cur; rw [hQ] at this; exact this)
  go_enter Try.func44, Try.ntmps44
  go_wp2_with fail
  go_region_held3 (fun W => W.cell? ⟨w.heap.size, 0, none⟩ = some (.int .i64 base) ∧ W.cell? ⟨w.heap.size, 1, none⟩ = some (.int .i64 term) ∧ W.cell? ⟨w.heap.size, 2, none⟩ = some (.slice a len cap)) (first | exact ⟨f0, f1, f2⟩ | go_keep)
    (first
    | (go_at_call 34; refine (end_any _ _ _ _ _ _ b0 b1 hl hm h1).mono ?_; rintro e W ⟨rfl, hW⟩; have cur := hstep _ _ hW cur; obtain ⟨⟨f0, f1, f2⟩, f3, f4⟩ := (show _ ∧ _ by have := cur; rw [hQ] at this; exact this))
    | (go_at_call 35; refine (term_end _ _ _ _ _ _ _ _ _ _ (HS.out.below f4) b0 b1 h1 rfl).mono ?_; rintro e W ⟨rfl, hW⟩; have cur := hstep _ _ hW cur; obtain ⟨⟨f0, f1, f2⟩, f3, f4⟩ := (show _ ∧ _ by have := cur; rw [hQ] at this; exact this)))
  all_goals
    go_wp2_with fail
    go_ret2
    exact ⟨rfl, f4⟩
end Go.Proofs.Ytcadinoijclfnaa
