/-
  Check of the document; the last entry; what is newer.
-/
import Derived.Test.YtcadinoijclfnaaRw3
import Derived.Deep.RegionHeld3
namespace Go.Proofs.Ytcadinoijclfnaa
open Go.RowKit
set_option linter.unusedSimpArgs false
set_option linter.unusedVariables false

set_option maxRecDepth 100000 in
set_option maxHeartbeats 4000000 in
theorem rcheck_head (base term : Int) (a : Option Addr) (len cap b o : Nat) (E : Nat → Ent) (w : World) (hs : EntsIn w a len cap b o E) (h1 : len ≤ 4096)
    (h : (base = 0 ∧ term = 0) ∨ (0 < base ∧ base ≤ 1099511627776 - len ∧ 1 ≤ term)) :
    Calls Try.prog 21 #[.agg #[.int .i64 base, .int .i64 term, .slice a len cap]] w fun e w' => e = .returned (.int .i64 (if chk E len 0 (max term 1) then 0 else 90)) ∧ Below w.heap.size w w' := by
  have hm := hs.max
  have hl := hs.le
  have HS := Lib.hid hs
  unfold maxLen at hm
  obtain ⟨C, hC⟩ : ∃ C, C = chk E len 0 (max term 1) := ⟨_, rfl⟩
  rw [← hC]
  have HC := Lib.hid hC
  clear hC hs
  rcases h with ⟨rfl, rfl⟩ | ⟨h3, h4, h5⟩
  rotate_left
  have b1 : (term != 0) = true := by rw [bne_iff_ne]; omega
  have b2 : (term == 0) = false := by rw [beq_eq_false_iff_ne]; omega
  have b3 : (base != 0) = true := by rw [bne_iff_ne]; omega
  have b4 : (base == 0) = false := by rw [beq_eq_false_iff_ne]; omega
  rotate_right
  all_goals
    go_enter Try.func21, Try.ntmps21
    go_wp2_with fail
    first
      | (obtain ⟨w0, hw0⟩ : ∃ w0, w0 = w.alloc (.cells #[.int .i64 base, .int .i64 term, .slice a len cap] 24) := ⟨_, rfl⟩
         rw [← hw0])
      | (obtain ⟨w0, hw0⟩ : ∃ w0, w0 = w.alloc (.cells #[.int .i64 0, .int .i64 0, .slice a len cap] 24) := ⟨_, rfl⟩
         rw [← hw0])
    have hz : w0.heap.size = w.heap.size + 1 := by rw [hw0]; simp
    have hB0 : Below w.heap.size w w0 := by rw [hw0]; exact (Below.refl _ _).alloc (Nat.le_refl _) _
    have x2 : w0.cell? ⟨w.heap.size, 2, none⟩ = some (.slice a len cap) := by rw [hw0]; go_simp
    clear hw0
    go_loopw [3, 4] (fun vt vi wr => ∃ (k : Nat) (t : Int), k ≤ len ∧ vi = .int .i64 k ∧ vt = .int .i64 t ∧ chk E (len - k) k (max t 1) = C ∧ Below (w.heap.size + 1) w0 wr) (fun _ vi _ => len - (intOf vi).toNat)
    case atStart => exact ⟨0, _, Nat.zero_le _, rfl, rfl, HC.out.symm, Below.refl _ _⟩
    case round =>
      obtain ⟨k, t, hk, rfl, rfl, hch, hB1⟩ := hrel
      have hB := hB0.trans (hB1.mono (by omega))
      have y2 : wr.cell? ⟨w.heap.size, 2, none⟩ = some (.slice a len cap) := (hB1.cell (p := ⟨w.heap.size, 2, none⟩) (by simp)).trans x2
      have hz1 : w.heap.size < wr.heap.size := by have := hB1.size; omega
      by_cases hlt : k < len
      · obtain ⟨e0, e1⟩ := HS.out.at_ (by omega)
        obtain ⟨c0, c1, c2, c3, c4⟩ := (HS.out.below hB).cell k hlt
        obtain ⟨_, _, _, _, _, _, _, _, d1, d2⟩ := HS.out.bd k hlt
        rw [chk_step E _ hlt] at hch
        subst e0
        have ed : (decide (1 ≤ (E k).t) && decide (t ≤ (E k).t) && entB (E k).k (E k).s (E k).st (E k).dl) = (decide (max t 1 ≤ (E k).t) && entB (E k).k (E k).s (E k).st (E k).dl) := by
          congr 1
          rw [Bool.eq_iff_iff]; simp; omega
        obtain ⟨B, hB2⟩ : ∃ B, B = (decide (max t 1 ≤ (E k).t) && entB (E k).k (E k).s (E k).st (E k).dl) := ⟨_, rfl⟩
        rw [← hB2] at hch ed
        have HB2 := Lib.hid ed
        cases B
        · obtain rfl : C = false := by simpa using hch.symm
          clear hch ed hB2
          go_wp2_with (go_at_call 41; refine (entry_any _ _ _ _ _ _ _ _ _ d1 d2).mono ?_; rw [HB2.out]; rintro e w1 ⟨rfl, hB3⟩)
          go_ret
          exact ⟨rfl, hB.trans (hB3.mono hB.size)⟩
        · rw [Bool.true_and] at hch
          have ht : 1 ≤ (E k).t := by
            simp at hB2; omega
          rw [show (E k).t = max (E k).t 1 by omega] at hch
          have HCH := Lib.hid hch
          clear hch ed hB2
          go_wp2_with (go_at_call 41; refine (entry_any _ _ _ _ _ _ _ _ _ d1 d2).mono ?_; rw [HB2.out]; rintro e w1 ⟨rfl, hB3⟩; have y3 : w1.cell? ⟨w.heap.size, 2, none⟩ = some (.slice (some ⟨b, o, none⟩) len cap) := (hB3.cell (p := ⟨w.heap.size, 2, none⟩) hz1).trans y2; have c5 : w1.cell? ⟨b, o + k * 5, none⟩ = some (.int .i64 (E k).t) := (hB3.cell (p := ⟨b, o + k * 5, none⟩) (by have := hB.size; show b < wr.heap.size; omega)).trans c0)
          go_roundw
          case rel => exact ⟨k + 1, (E k).t, by omega, by go_num, rfl, HCH.out, hB1.trans (hB3.mono (by omega))⟩
          case measure => simp [intOf]; omega
      · obtain rfl : k = len := by omega
        obtain rfl : C = true := by rw [Nat.sub_self] at hch; exact hch.symm
        clear hch
        go_wp2_with fail
        go_ret
        exact ⟨rfl, hB⟩

theorem rcheck_any (base term : Int) (a : Option Addr) (len cap b o : Nat) (E : Nat → Ent) (w : World) (hs : EntsIn w a len cap b o E) :
    Calls Try.prog 21 #[.agg #[.int .i64 base, .int .i64 term, .slice a len cap]] w fun e w' => e = .returned (.int .i64 (rowsE base term len E)) ∧ Below w.heap.size w w' := by
  unfold rowsE rowsB
  rcases head_cases base term len with ⟨h, h1⟩ | ⟨h, h1, h2⟩
  · rw [h, Bool.false_and]
    exact rcheck_bad base term a len cap w hs.le hs.max (by omega)
  · rw [h, Bool.true_and]
    exact rcheck_head base term a len cap b o E w hs h1 h2
end Go.Proofs.Ytcadinoijclfnaa
