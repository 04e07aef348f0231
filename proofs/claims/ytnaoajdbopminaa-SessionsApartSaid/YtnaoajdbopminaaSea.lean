/-
  The document's Same; wakes.
-/
import Derived.Test.YtnaoajdbopminaaSe9
namespace Go.Proofs.Ytnaoajdbopminaa
open Go.RowKit
set_option linter.unusedSimpArgs false
set_option linter.unusedVariables false

set_option maxRecDepth 100000 in
set_option maxHeartbeats 4000000 in
theorem same_any (a a' : Option Addr) (n cap b o cap' b' o' : Nat) (S : Nat → SeE) (w : World) (h1 : SeIn w a n cap b o S) (h2 : SeIn w a' n cap' b' o' S) :
    Calls Try.prog 57 #[.slice a n cap, .slice a' n cap'] w fun e w' => e = .returned (.bool true) ∧ Below w.heap.size w w' := by
  have m1 := h1.le
  have m2 := h1.max
  have m3 := h2.le
  have m4 := h2.max
  unfold maxLen at m2 m4
  have H1 := Lib.hid h1
  have H2 := Lib.hid h2
  clear h1 h2
  go_enter Try.func57, Try.ntmps57
  go_wp2_with fail
  go_loopw [5] (fun i wr => ∃ k : Nat, k ≤ n ∧ i = .int .i64 k ∧ Below w.heap.size w wr) (fun i _ => n - (intOf i).toNat)
  case atStart => exact ⟨0, Nat.zero_le _, rfl, Below.refl _ _⟩
  case round =>
    obtain ⟨k, hk, rfl, hB⟩ := hrel
    have HB := Lib.hid hB
    clear hB
    by_cases hlt : k < n
    · have hs1 := H1.out.below HB.out
      have hs2 := H2.out.below HB.out
      obtain ⟨e0, e1⟩ := hs1.at_ (by omega)
      obtain ⟨f0, f1⟩ := hs2.at_ (by omega)
      subst e0 f0
      obtain ⟨c0, c1, c2, c3, c4, c5, c6⟩ := hs1.cell k hlt
      obtain ⟨d0, d1, d2, d3, d4, d5, d6⟩ := hs2.cell k hlt
      obtain ⟨x, hx⟩ : ∃ x, x = S k := ⟨_, rfl⟩
      rw [← hx] at c0 c1 c2 c3 c4 c5 c6 d0 d1 d2 d3 d4 d5 d6
      have hne := se_neq x
      clear hs1 hs2 hx
      go_wp2_with fail
      (refine wp_region_quiet_lit (by kernel_rfl) (by kernel_rfl) ?_; (repeat (first | go_big_quiet_step (fail) | (refine BigFrame.wpQuiet_skip (by rfl) ?_; try simp only [Act.put, List.setIfInBounds_toArray, List.set_cons_zero, List.set_cons_succ]))); refine wpQuiet_nil ?_; intro _ hw9; obtain ⟨nq, hw8⟩ := hw9; subst hw8)
      go_wp2_with fail
      go_roundw
      case rel => exact ⟨k + 1, by omega, by go_num, below_dN HB.out nq⟩
      case measure => first | (simp [intOf]; done) | (simp [intOf]; omega)
    · obtain rfl : k = n := by omega
      go_wp2_with fail
      go_ret
      exact ⟨rfl, HB.out⟩

theorem se_none (W : World) (S : Nat → SeE) : SeIn W none 0 0 0 0 S := ⟨Nat.le_refl _, Nat.zero_le _, fun h => by omega, fun k hk => by omega, fun k hk => by omega⟩

/-- the row behind a Keep that went well -/
theorem keepP_in {S : Nat → SeE} {n : Nat} {x : SeE} {w w' : World} {v : Value} (h : KeepP S n x w w' v) (h0 : keepE S n x.client x.number = 0) (hS : ∀ j, j < n → (S j).ok) (hx : x.ok) :
    ∃ a cap ob, v = .slice a (mK S n x.client) cap ∧ SeIn w' a (mK S n x.client) cap ob 0 (TK S n x.client x) ∧ w.heap.size ≤ ob := by
  obtain ⟨ob, hr, ho⟩ := h.2 h0
  obtain ⟨a, cap, hv, hs⟩ := se_row hr (tk_ok hS hx)
  exact ⟨a, cap, ob, hv, hs, ho⟩

def wS0 : Nat → SeE := fun _ => zeroE
def wX1 : SeE := ⟨1, 1, 0, 0, 0, 5, 0⟩
def wX2 : SeE := ⟨1, 3, 0, 0, 0, 0, 0⟩
def wS1 : Nat → SeE := TK wS0 0 1 wX1
def wS2 : Nat → SeE := TK wS1 1 1 wX2

theorem keep_good (x : SeE) (a : Option Addr) (n cap b o : Nat) (S : Nat → SeE) (w : World) (hs : SeIn w a n cap b o S) (hn : n ≤ 200) (h0 : keepE S n x.client x.number = 0) (hx : x.ok) :
    Calls Try.prog 55 #[.slice a n cap, .int .i64 x.client, .int .i64 x.number, .agg #[.int .i64 x.e, .int .i64 x.rate, .int .i64 x.burst, .int .i64 x.lease, .int .i64 x.size]] w fun e w' => ∃ a' cap' b', e = .returned (.tuple #[.slice a' (mK S n x.client) cap', .int .i64 0]) ∧ SeIn w' a' (mK S n x.client) cap' b' 0 (TK S n x.client x) ∧ Below w.heap.size w w' := by
  refine (keep_any x a n cap b o S w hs hn).mono ?_
  rintro e w' ⟨v, rfl, hk, hB⟩
  obtain ⟨a', c', b', rfl, h1, _⟩ := keepP_in hk h0 hs.bd hx
  rw [h0]
  exact ⟨a', c', b', rfl, h1, hB⟩

set_option maxRecDepth 100000 in
set_option maxHeartbeats 8000000 in
theorem wakes_any (w : World) : Calls Try.prog 48 #[] w fun e w' => e = .returned (.bool true) ∧ Below w.heap.size w w' := by
  have ok1 : wX1.ok := by unfold SeE.ok wX1; simp
  have ok2 : wX2.ok := by unfold SeE.ok wX2; simp
  have K1 : Hid (Calls Try.prog 55 #[.slice none 0 0, .int .i64 1, .int .i64 1, .agg #[.int .i64 0, .int .i64 0, .int .i64 0, .int .i64 5, .int .i64 0]] w fun e w' => ∃ a' cap' b', e = .returned (.tuple #[.slice a' 1 cap', .int .i64 0]) ∧ SeIn w' a' 1 cap' b' 0 wS1 ∧ Below w.heap.size w w') := Lib.hid (keep_good wX1 none 0 0 0 0 wS0 w (se_none w wS0) (by omega) rfl ok1)
  have K2 : Hid (∀ (W : World) (a : Option Addr) (c b : Nat), SeIn W a 1 c b 0 wS1 → Calls Try.prog 55 #[.slice a 1 c, .int .i64 1, .int .i64 3, .agg #[.int .i64 0, .int .i64 0, .int .i64 0, .int .i64 0, .int .i64 0]] W fun e w' => ∃ a' cap' b', e = .returned (.tuple #[.slice a' 1 cap', .int .i64 0]) ∧ SeIn w' a' 1 cap' b' 0 wS2 ∧ Below W.heap.size W w') := Lib.hid (fun W a c b h => keep_good wX2 a 1 c b 0 wS1 W h (by omega) rfl ok2)
  have A1 : Hid (∀ (W : World) (a : Option Addr) (c b : Nat), SeIn W a 1 c b 0 wS1 → Calls Try.prog 49 #[.slice a 1 c, .int .i64 1, .int .i64 1] W fun e w' => e = .returned (.tuple #[.agg #[.int .i64 0, .int .i64 0, .int .i64 0, .int .i64 5, .int .i64 0], .bool false, .int .i64 0]) ∧ Below W.heap.size W w') := Lib.hid (fun W a c b h => ask_any 1 1 a 1 c b 0 wS1 W h)
  have A2 : Hid (∀ (W : World) (a : Option Addr) (c b : Nat), SeIn W a 1 c b 0 wS1 → Calls Try.prog 49 #[.slice a 1 c, .int .i64 1, .int .i64 3] W fun e w' => e = .returned (.tuple #[.agg #[.int .i64 0, .int .i64 0, .int .i64 0, .int .i64 0, .int .i64 0], .bool true, .int .i64 0]) ∧ Below W.heap.size W w') := Lib.hid (fun W a c b h => ask_any 1 3 a 1 c b 0 wS1 W h)
  have A3 : Hid (∀ (W : World) (a : Option Addr) (c b : Nat), SeIn W a 1 c b 0 wS2 → Calls Try.prog 49 #[.slice a 1 c, .int .i64 1, .int .i64 2] W fun e w' => e = .returned (.tuple #[.agg #[.int .i64 0, .int .i64 0, .int .i64 0, .int .i64 0, .int .i64 0], .bool false, .int .i64 150]) ∧ Below W.heap.size W w') := Lib.hid (fun W a c b h => ask_any 1 2 a 1 c b 0 wS2 W h)
  have L3 : Hid (∀ (W : World) (a : Option Addr) (c b : Nat), SeIn W a 1 c b 0 wS2 → Calls Try.prog 53 #[.slice a 1 c, .int .i64 1] W fun e w' => e = .returned (.int .i64 3) ∧ Below W.heap.size W w') := Lib.hid (fun W a c b h => last_any 1 a 1 c b 0 wS2 W h)
  clear ok1 ok2
  go_enter Try.func48, Try.ntmps48
  go_wp2_with fail
  go_at_call 55
  refine Calls.mono K1.out ?_
  rintro e W1 ⟨a1, c1, b1, rfl, hs1, hB1⟩
  have HS1 := Lib.hid hs1
  have HB1 := Lib.hid hB1
  clear hs1 hB1
  go_wp2_with fail
  go_at_call 49
  refine Calls.mono (A1.out _ _ _ _ HS1.out) ?_
  rintro e W2 ⟨rfl, hB2⟩
  obtain ⟨M, hM⟩ : ∃ M, M = W2.heap.size := ⟨_, rfl⟩
  obtain ⟨W3, hW3⟩ : ∃ W3, W3 = W2.alloc (.cells #[.int .i64 0, .int .i64 0, .int .i64 0, .int .i64 5, .int .i64 0] 73) := ⟨_, rfl⟩
  have hB3 : Below W2.heap.size W2 W3 := by rw [hW3]; exact (Below.refl _ _).alloc (Nat.le_refl _) _
  have HM3 : Hid (Blk W3 M #[.int .i64 0, .int .i64 0, .int .i64 0, .int .i64 5, .int .i64 0] 73) := Lib.hid (by rw [hW3, hM]; exact blk_new _ _ _)
  have HS3 := Lib.hid ((HS1.out.below hB2).below hB3)
  have HB3 := Lib.hid ((HB1.out.trans (hB2.mono HB1.out.size)).trans (hB3.mono (by have := HB1.out.size; have := hB2.size; omega)))
  go_upto_region 5 with fail
  rw [← hW3, ← hM]
  clear hW3 hM hB2 hB3
  go_wp2_with fail
  go_at_call 49
  refine Calls.mono (A2.out _ _ _ _ HS3.out) ?_
  rintro e W4 ⟨rfl, hB4⟩
  obtain ⟨W5, hW5⟩ : ∃ W5, W5 = W4.alloc (.cells #[.int .i64 0, .int .i64 0, .int .i64 0, .int .i64 0, .int .i64 0] 73) := ⟨_, rfl⟩
  have hB5 : Below W4.heap.size W4 W5 := by rw [hW5]; exact (Below.refl _ _).alloc (Nat.le_refl _) _
  have HM5 := Lib.hid ((HM3.out.step hB4).step hB5)
  have HS5 := Lib.hid ((HS3.out.below hB4).below hB5)
  have HB5 := Lib.hid ((HB3.out.trans (hB4.mono HB3.out.size)).trans (hB5.mono (by have := HB3.out.size; have := hB4.size; omega)))
  go_upto_region 6 with fail
  rw [← hW5]
  clear hW5 hB4 hB5
  go_wp2_with fail
  go_at_call 55
  refine Calls.mono (K2.out _ _ _ _ HS5.out) ?_
  rintro e W6 ⟨a2, c2, b2, rfl, hs6, hB6⟩
  have HM6 := Lib.hid (HM5.out.step hB6)
  have HS6 := Lib.hid hs6
  have HB6 := Lib.hid (HB5.out.trans (hB6.mono HB5.out.size))
  clear hs6 hB6
  go_wp2_with fail
  go_at_call 49
  refine Calls.mono (A3.out _ _ _ _ HS6.out) ?_
  rintro e W7 ⟨rfl, hB7⟩
  obtain ⟨W8, hW8⟩ : ∃ W8, W8 = W7.alloc (.cells #[.int .i64 0, .int .i64 0, .int .i64 0, .int .i64 0, .int .i64 0] 73) := ⟨_, rfl⟩
  have hB8 : Below W7.heap.size W7 W8 := by rw [hW8]; exact (Below.refl _ _).alloc (Nat.le_refl _) _
  have hm8 := (HM6.out.step hB7).step hB8
  have HS8 := Lib.hid ((HS6.out.below hB7).below hB8)
  have HB8 := Lib.hid ((HB6.out.trans (hB7.mono HB6.out.size)).trans (hB8.mono (by have := HB6.out.size; have := hB7.size; omega)))
  have l3 : W8.cell? ⟨M, 3, none⟩ = some (.int .i64 5) := cell_at hm8 3
  have lm := hm8.lt
  go_upto_region 8 with fail
  rw [← hW8]
  clear hW8 hB7 hB8 hm8
  go_wp2_with fail
  go_at_call 53
  refine Calls.mono (L3.out _ _ _ _ HS8.out) ?_
  rintro e W9 ⟨rfl, hB9⟩
  have HB9 := Lib.hid (HB8.out.trans (hB9.mono HB8.out.size))
  clear hB9
  go_wp2_with fail
  go_ret
  exact ⟨rfl, HB9.out⟩
end Go.Proofs.Ytnaoajdbopminaa
