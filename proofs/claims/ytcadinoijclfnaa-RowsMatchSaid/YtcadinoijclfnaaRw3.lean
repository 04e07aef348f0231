/-
  Check of rows: the program's, and the document's.
-/
import Derived.Test.YtcadinoijclfnaaRw2
namespace Go.Proofs.Ytcadinoijclfnaa
open Go.RowKit
set_option linter.unusedSimpArgs false
set_option linter.unusedVariables false
set_option linter.unusedVariables false

set_option maxRecDepth 100000 in
set_option maxHeartbeats 4000000 in
theorem check_bad (base term : Int) (a : Option Addr) (len cap : Nat) (w : World) (hl : len ≤ cap) (hm : cap ≤ maxLen)
    (h : base < 0 ∨ (4096 < len ∧ 1099511627776 < len ∧ ((base = 0 ∧ term ≠ 0) ∨ (base = 0 ∧ term = 0) ∨ 0 < base)) ∨
      (4096 < len ∧ len ≤ 1099511627776 ∧ ((base = 0 ∧ term ≠ 0) ∨ (base = 0 ∧ term = 0) ∨ (0 < base ∧ 1099511627776 - len < base) ∨ (0 < base ∧ base ≤ 1099511627776 - len ∧ term < 1) ∨ (0 < base ∧ base ≤ 1099511627776 - len ∧ 1 ≤ term))) ∨
      (len ≤ 4096 ∧ ((0 < base ∧ 1099511627776 - len < base) ∨ (base = 0 ∧ term ≠ 0) ∨ (0 < base ∧ base ≤ 1099511627776 - len ∧ term < 1)))) :
    Calls Try.prog 25 #[.agg #[.int .i64 base, .int .i64 term, .slice a len cap]] w fun e w' => e = .returned (.int .i64 90) ∧ Below w.heap.size w w' := by
  unfold maxLen at hm
  rcases h with h | ⟨h1, h2, ⟨rfl, h3⟩ | ⟨rfl, rfl⟩ | h3⟩ | ⟨h1, h2, ⟨rfl, h3⟩ | ⟨rfl, rfl⟩ | ⟨h3, h4⟩ | ⟨h3, h4, h5⟩ | ⟨h3, h4, h5⟩⟩ | ⟨h1, ⟨h3, h4⟩ | ⟨rfl, h3⟩ | ⟨h3, h4, h5⟩⟩
  all_goals
    try
      have b1 : (term != 0) = true := by rw [bne_iff_ne]; exact h3
      have b2 : (term == 0) = false := by rw [beq_eq_false_iff_ne]; exact h3
    try
      have b3 : (base != 0) = true := by rw [bne_iff_ne]; omega
      have b4 : (base == 0) = false := by rw [beq_eq_false_iff_ne]; omega
    go_enter Try.func25, Try.ntmps25
    go_wp2_with fail
    all_goals
      go_ret
      exact ⟨rfl, (Below.refl _ _).alloc (Nat.le_refl _) _⟩

set_option maxRecDepth 100000 in
set_option maxHeartbeats 4000000 in
theorem check_head (base term : Int) (a : Option Addr) (len cap b o : Nat) (E : Nat → Ent) (w : World) (hs : EntsIn w a len cap b o E) (h1 : len ≤ 4096)
    (h : (base = 0 ∧ term = 0) ∨ (0 < base ∧ base ≤ 1099511627776 - len ∧ 1 ≤ term)) :
    Calls Try.prog 25 #[.agg #[.int .i64 base, .int .i64 term, .slice a len cap]] w fun e w' => e = .returned (.int .i64 (if chk E len 0 (max term 1) then 0 else 90)) ∧ Below w.heap.size w w' := by
  have hm := hs.max
  have hl := hs.le
  have HS := Lib.hid hs
  unfold maxLen at hm
  obtain ⟨C, hC⟩ : ∃ C, C = chk E len 0 (max term 1) := ⟨_, rfl⟩
  rw [← hC]
  obtain ⟨t0, ht0⟩ : ∃ t0, t0 = max term 1 := ⟨_, rfl⟩
  rw [← ht0] at hC
  have HC := Lib.hid hC
  have ht1 : (term ≤ 1 ∧ t0 = 1) ∨ (1 ≤ term ∧ t0 = term) := by omega
  clear hC ht0 hs
  rcases h with ⟨rfl, rfl⟩ | ⟨h3, h4, h5⟩
  · obtain rfl : t0 = 1 := by omega
    clear ht1
    go_enter Try.func25, Try.ntmps25
    go_wp2_with fail
    go_loopw [4, 50] (fun vt vi wr => ∃ (k : Nat) (t : Int), k ≤ len ∧ vi = .int .i64 k ∧ vt = .int .i64 t ∧ chk E (len - k) k t = C ∧ Below w.heap.size w wr) (fun _ vi _ => len - (intOf vi).toNat)
    case atStart => exact ⟨0, _, Nat.zero_le _, rfl, rfl, HC.out.symm, (Below.refl _ _).alloc (Nat.le_refl _) _⟩
    case round =>
      obtain ⟨k, t, hk, rfl, rfl, hch, hB⟩ := hrel
      by_cases hlt : k < len
      · obtain ⟨e0, e1⟩ := HS.out.at_ (by omega)
        obtain ⟨c0, c1, c2, c3, c4⟩ := (HS.out.below hB).cell k hlt
        obtain ⟨_, _, _, _, _, _, _, _, d1, d2⟩ := HS.out.bd k hlt
        rw [chk_step E t hlt] at hch
        subst e0
        by_cases ht : t ≤ (E k).t
        · rw [decide_eq_true ht, Bool.true_and] at hch
          obtain ⟨B, hB2⟩ : ∃ B, B = entB (E k).k (E k).s (E k).st (E k).dl := ⟨_, rfl⟩
          rw [← hB2] at hch
          have HB2 := Lib.hid hB2
          clear hB2
          cases B
          · obtain rfl : C = false := by simpa using hch.symm
            clear hch
            go_wp2_with (go_at_call 43; refine (may_any _ _ _ _ _ _ _ _ d1 d2).mono ?_; rw [← HB2.out]; rintro e w1 ⟨rfl, hB1⟩)
            go_ret
            exact ⟨rfl, hB.trans ((((Below.refl _ _).alloc (Nat.le_refl _) _).trans (hB1.mono (by simp))).mono hB.size)⟩
          · rw [Bool.true_and] at hch
            have HCH := Lib.hid hch
            clear hch
            go_wp2_with (go_at_call 43; refine (may_any _ _ _ _ _ _ _ _ d1 d2).mono ?_; rw [← HB2.out]; rintro e w1 ⟨rfl, hB1⟩; have x0 : w1.cell? ⟨wr.heap.size, 0, none⟩ = some (.int .i64 (E k).t) := (hB1.cell (p := ⟨wr.heap.size, 0, none⟩) (by simp)).trans (by go_simp))
            go_roundw
            case rel => exact ⟨k + 1, (E k).t, by omega, by go_num, rfl, HCH.out, hB.trans ((((Below.refl _ _).alloc (Nat.le_refl _) _).trans (hB1.mono (by simp))).mono hB.size)⟩
            case measure => simp [intOf]; omega
        · obtain rfl : C = false := by rw [decide_eq_false ht] at hch; simpa using hch.symm
          clear hch
          go_wp2_with fail
          go_ret
          exact ⟨rfl, hB.trans (((Below.refl _ _).alloc (Nat.le_refl _) _).mono hB.size)⟩
      · obtain rfl : k = len := by omega
        obtain rfl : C = true := by rw [Nat.sub_self] at hch; exact hch.symm
        clear hch
        go_wp2_with fail
        go_ret
        exact ⟨rfl, hB⟩
  · obtain rfl : t0 = term := by omega
    clear ht1
    have b3 : (base != 0) = true := by rw [bne_iff_ne]; omega
    have b4 : (base == 0) = false := by rw [beq_eq_false_iff_ne]; omega
    go_enter Try.func25, Try.ntmps25
    go_wp2_with fail
    go_loopw [4, 50] (fun vt vi wr => ∃ (k : Nat) (t : Int), k ≤ len ∧ vi = .int .i64 k ∧ vt = .int .i64 t ∧ chk E (len - k) k t = C ∧ Below w.heap.size w wr) (fun _ vi _ => len - (intOf vi).toNat)
    case atStart => exact ⟨0, _, Nat.zero_le _, rfl, rfl, HC.out.symm, (Below.refl _ _).alloc (Nat.le_refl _) _⟩
    case round =>
      obtain ⟨k, t, hk, rfl, rfl, hch, hB⟩ := hrel
      by_cases hlt : k < len
      · obtain ⟨e0, e1⟩ := HS.out.at_ (by omega)
        obtain ⟨c0, c1, c2, c3, c4⟩ := (HS.out.below hB).cell k hlt
        obtain ⟨_, _, _, _, _, _, _, _, d1, d2⟩ := HS.out.bd k hlt
        rw [chk_step E t hlt] at hch
        subst e0
        by_cases ht : t ≤ (E k).t
        · rw [decide_eq_true ht, Bool.true_and] at hch
          obtain ⟨B, hB2⟩ : ∃ B, B = entB (E k).k (E k).s (E k).st (E k).dl := ⟨_, rfl⟩
          rw [← hB2] at hch
          have HB2 := Lib.hid hB2
          clear hB2
          cases B
          · obtain rfl : C = false := by simpa using hch.symm
            clear hch
            go_wp2_with (go_at_call 43; refine (may_any _ _ _ _ _ _ _ _ d1 d2).mono ?_; rw [← HB2.out]; rintro e w1 ⟨rfl, hB1⟩)
            go_ret
            exact ⟨rfl, hB.trans ((((Below.refl _ _).alloc (Nat.le_refl _) _).trans (hB1.mono (by simp))).mono hB.size)⟩
          · rw [Bool.true_and] at hch
            have HCH := Lib.hid hch
            clear hch
            go_wp2_with (go_at_call 43; refine (may_any _ _ _ _ _ _ _ _ d1 d2).mono ?_; rw [← HB2.out]; rintro e w1 ⟨rfl, hB1⟩; have x0 : w1.cell? ⟨wr.heap.size, 0, none⟩ = some (.int .i64 (E k).t) := (hB1.cell (p := ⟨wr.heap.size, 0, none⟩) (by simp)).trans (by go_simp))
            go_roundw
            case rel => exact ⟨k + 1, (E k).t, by omega, by go_num, rfl, HCH.out, hB.trans ((((Below.refl _ _).alloc (Nat.le_refl _) _).trans (hB1.mono (by simp))).mono hB.size)⟩
            case measure => simp [intOf]; omega
        · obtain rfl : C = false := by rw [decide_eq_false ht] at hch; simpa using hch.symm
          clear hch
          go_wp2_with fail
          go_ret
          exact ⟨rfl, hB.trans (((Below.refl _ _).alloc (Nat.le_refl _) _).mono hB.size)⟩
      · obtain rfl : k = len := by omega
        obtain rfl : C = true := by rw [Nat.sub_self] at hch; exact hch.symm
        clear hch
        go_wp2_with fail
        go_ret
        exact ⟨rfl, hB⟩

theorem check_any (base term : Int) (a : Option Addr) (len cap b o : Nat) (E : Nat → Ent) (w : World) (hs : EntsIn w a len cap b o E) :
    Calls Try.prog 25 #[.agg #[.int .i64 base, .int .i64 term, .slice a len cap]] w fun e w' => e = .returned (.int .i64 (rowsE base term len E)) ∧ Below w.heap.size w w' := by
  unfold rowsE rowsB
  rcases head_cases base term len with ⟨h, h1⟩ | ⟨h, h1, h2⟩
  · rw [h, Bool.false_and]
    exact check_bad base term a len cap w hs.le hs.max h1
  · rw [h, Bool.true_and]
    exact check_head base term a len cap b o E w hs h1 h2

set_option maxRecDepth 100000 in
set_option maxHeartbeats 4000000 in
theorem rcheck_bad (base term : Int) (a : Option Addr) (len cap : Nat) (w : World) (hl : len ≤ cap) (hm : cap ≤ maxLen)
    (h : 4096 < len ∨ (len ≤ 4096 ∧ (base < 0 ∨ (0 ≤ base ∧ 1099511627776 - len < base) ∨ (0 ≤ base ∧ base ≤ 1099511627776 - len ∧ (term < 0 ∨ (base = 0 ∧ 0 < term) ∨ (0 < base ∧ term = 0)))))) :
    Calls Try.prog 21 #[.agg #[.int .i64 base, .int .i64 term, .slice a len cap]] w fun e w' => e = .returned (.int .i64 90) ∧ Below w.heap.size w w' := by
  unfold maxLen at hm
  rcases h with h | ⟨h1, h | ⟨h2, h3⟩ | ⟨h2, h3, h4 | ⟨rfl, h4⟩ | ⟨h4, rfl⟩⟩⟩
  all_goals
    try
      have b1 : (term != 0) = true := by rw [bne_iff_ne]; omega
      have b2 : (term == 0) = false := by rw [beq_eq_false_iff_ne]; omega
    try
      have b3 : (base != 0) = true := by rw [bne_iff_ne]; omega
      have b4 : (base == 0) = false := by rw [beq_eq_false_iff_ne]; omega
    go_enter Try.func21, Try.ntmps21
    go_wp2_with fail
    all_goals
      go_ret
      exact ⟨rfl, (Below.refl _ _).alloc (Nat.le_refl _) _⟩
end Go.Proofs.Ytcadinoijclfnaa
