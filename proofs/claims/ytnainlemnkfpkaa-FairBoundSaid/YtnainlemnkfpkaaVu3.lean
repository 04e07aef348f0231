/-
  The document's answer: may a virtual time be?
-/
import Derived.Test.YtnainlemnkfpkaaVu2
namespace Go.Proofs.Ytnainlemnkfpkaa
open Go.RowKit
set_option linter.unusedSimpArgs false
set_option linter.unusedVariables false

theorem tag_cases (t : TagsE) : (t.s < 0 ∧ tagB t = false) ∨ (0 ≤ t.s ∧ t.f < t.s ∧ tagB t = false) ∨ (0 ≤ t.s ∧ t.s ≤ t.f ∧ 1152921504606846976 < t.f ∧ tagB t = false) ∨ (0 ≤ t.s ∧ t.s ≤ t.f ∧ t.f ≤ 1152921504606846976 ∧ tagB t = true) := by
  rcases (show t.s < 0 ∨ (0 ≤ t.s ∧ t.f < t.s) ∨ (0 ≤ t.s ∧ t.s ≤ t.f ∧ 1152921504606846976 < t.f) ∨ (0 ≤ t.s ∧ t.s ≤ t.f ∧ t.f ≤ 1152921504606846976) by omega) with h | ⟨h, h2⟩ | ⟨h, h2, h3⟩ | ⟨h, h2, h3⟩
  · exact .inl ⟨h, by unfold tagB timeB; simp; omega⟩
  · exact .inr (.inl ⟨h, h2, by unfold tagB timeB; simp; omega⟩)
  · exact .inr (.inr (.inl ⟨h, h2, h3, by unfold tagB timeB; simp; omega⟩))
  · exact .inr (.inr (.inr ⟨h, h2, h3, by unfold tagB timeB; simp; omega⟩))

set_option maxRecDepth 100000 in
set_option maxHeartbeats 4000000 in
theorem rcheck_any (V : Int) (a : Option Addr) (n c b o : Nat) (T : Nat → TagsE) (w : World) (hs : TagsIn w a n c b o T) :
    Calls Try.prog 51 #[.agg #[.int .i64 V, .slice a n c]] w fun e w' => e = .returned (.bool (vokB V n T)) ∧ Below w.heap.size w w' := by
  have hm := hs.max
  have hl := hs.le
  unfold maxLen at hm
  obtain ⟨C, hC⟩ : ∃ C, C = vokB V n T := ⟨_, rfl⟩
  rw [← hC]
  unfold vokB timeB at hC
  rcases (show V < 0 ∨ (0 ≤ V ∧ 1152921504606846976 < V) ∨ (0 ≤ V ∧ V ≤ 1152921504606846976 ∧ 8 < n) ∨ (0 ≤ V ∧ V ≤ 1152921504606846976 ∧ n ≤ 8) by omega) with h | ⟨h, h2⟩ | ⟨h, h2, h3⟩ | ⟨h, h2, h3⟩
  · have HC : Hid (C = false) := Lib.hid (by rw [hC]; simp; omega)
    clear hC hs
    go_enter Try.func51, Try.ntmps51
    go_wp2_with fail
    go_ret
    exact ⟨by rw [HC.out]; rfl, (Below.refl _ _).alloc (Nat.le_refl _) _⟩
  · have HC : Hid (C = false) := Lib.hid (by rw [hC]; simp; omega)
    clear hC hs
    go_enter Try.func51, Try.ntmps51
    go_wp2_with fail
    go_ret
    exact ⟨by rw [HC.out]; rfl, (Below.refl _ _).alloc (Nat.le_refl _) _⟩
  · have HC : Hid (C = false) := Lib.hid (by rw [hC]; simp; omega)
    clear hC hs
    go_enter Try.func51, Try.ntmps51
    go_wp2_with fail
    go_ret
    exact ⟨by rw [HC.out]; rfl, (Below.refl _ _).alloc (Nat.le_refl _) _⟩
  · have HC : Hid (C = okN T n) := Lib.hid (by rw [hC]; simp; omega)
    have HS := Lib.hid hs
    have HB0 : Hid (w.heap.size < (w.alloc (.cells #[.int .i64 V, .slice a n c] 39)).heap.size ∧ (w.alloc (.cells #[.int .i64 V, .slice a n c] 39)).cell? ⟨w.heap.size, 1, none⟩ = some (.slice a n c)) := Lib.hid ⟨by simp, by go_simp⟩
    clear hC hs
    go_enter Try.func51, Try.ntmps51
    go_wp2_with fail
    go_loopw [3] (fun i wr => ∃ k : Nat, k ≤ n ∧ i = .int .i64 k ∧ (∀ j, j < k → tagB (T j) = true) ∧ w.heap.size < wr.heap.size ∧ wr.cell? ⟨w.heap.size, 1, none⟩ = some (.slice a n c) ∧ Below w.heap.size w wr) (fun i _ => n - (intOf i).toNat)
    case atStart => exact ⟨0, Nat.zero_le _, rfl, (fun j hj => by omega), HB0.out.1, HB0.out.2, (Below.refl _ _).alloc (Nat.le_refl _) _⟩
    case round =>
      obtain ⟨k, hk, rfl, hall, hsz, hcv, hbel⟩ := hrel
      by_cases hlt : k < n
      · obtain ⟨e0, e1⟩ := HS.out.at_ (by omega)
        subst e0
        obtain ⟨c0, c1⟩ := (HS.out.below hbel).cell k hlt
        have ht := tag_cases (T k)
        obtain ⟨x, hx⟩ : ∃ x, x = (T k).s := ⟨_, rfl⟩
        obtain ⟨y, hy⟩ : ∃ y, y = (T k).f := ⟨_, rfl⟩
        obtain ⟨B, hB⟩ : ∃ B, B = tagB (T k) := ⟨_, rfl⟩
        rw [← hx] at c0
        rw [← hy] at c1
        rw [← hx, ← hy, ← hB] at ht
        have HT := Lib.hid hB
        have HA := Lib.hid hall
        clear hall hx hy hB
        have hbel1 : ∀ o, Below w.heap.size w (wr.alloc o) := fun o => hbel.alloc hbel.size o
        have HB1 := Lib.hid hbel1
        clear hbel1
        rcases ht with ⟨h4, rfl⟩ | ⟨h4, h5, rfl⟩ | ⟨h4, h5, h6, rfl⟩ | ⟨h4, h5, h6, rfl⟩
        · have HN : Hid (C = false) := Lib.hid (by rw [HC.out]; exact okN_no hlt HT.out.symm)
          go_wp2_with fail
          go_ret
          exact ⟨by rw [HN.out]; rfl, HB1.out _⟩
        · have HN : Hid (C = false) := Lib.hid (by rw [HC.out]; exact okN_no hlt HT.out.symm)
          go_wp2_with fail
          go_ret
          exact ⟨by rw [HN.out]; rfl, HB1.out _⟩
        · have HN : Hid (C = false) := Lib.hid (by rw [HC.out]; exact okN_no hlt HT.out.symm)
          go_wp2_with fail
          go_ret
          exact ⟨by rw [HN.out]; rfl, HB1.out _⟩
        · have HA2 : Hid (∀ j, j < k + 1 → tagB (T j) = true) := Lib.hid (fun j hj => by
            rcases Nat.lt_or_ge j k with h | h
            · exact HA.out j h
            · obtain rfl : j = k := by omega
              exact HT.out.symm)
          go_wp2_with fail
          go_roundw
          case rel => exact ⟨k + 1, by omega, by go_num, HA2.out, by simp; omega, by go_simp, HB1.out _⟩
          case measure => simp [intOf]; omega
      · obtain rfl : k = n := by omega
        have HN : Hid (C = true) := Lib.hid (by rw [HC.out]; exact (okN_iff T k).2 hall)
        go_wp2_with fail
        go_ret
        exact ⟨by rw [HN.out]; rfl, hbel⟩
end Go.Proofs.Ytnainlemnkfpkaa
