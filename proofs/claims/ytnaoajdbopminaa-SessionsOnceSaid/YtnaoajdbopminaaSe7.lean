/-
  Keep: the program's.
-/
import Derived.Test.YtnaoajdbopminaaSe6
namespace Go.Proofs.Ytnaoajdbopminaa
open Go.RowKit
set_option linter.unusedSimpArgs false
set_option linter.unusedVariables false

def keepE (S : Nat → SeE) (n : Nat) (c num : Int) : Int := if mayB S n c num then (if num ≤ (ofE S c n).number then 150 else 0) else 2
def mK (S : Nat → SeE) (n : Nat) (c : Int) : Nat := cutS S c n + 1 + (n - cutS S c n - dS S n c)
def TK (S : Nat → SeE) (n : Nat) (c : Int) (x : SeE) : Nat → SeE := keepT S (cutS S c n) (dS S n c) x
/-- what Keep leaves -/
def KeepP (S : Nat → SeE) (n : Nat) (x : SeE) (w w' : World) (v : Value) : Prop :=
  (keepE S n x.client x.number ≠ 0 → v = .slice none 0 0) ∧ (keepE S n x.client x.number = 0 → ∃ ob, Row w' v (some ob) 113 7 (mK S n x.client) (seL (TK S n x.client x) (mK S n x.client)) ∧ w.heap.size ≤ ob)

theorem keepP_err {S : Nat → SeE} {n : Nat} {x : SeE} (w w' : World) {R : Int} (h : R = keepE S n x.client x.number) (h0 : R ≠ 0) : KeepP S n x w w' (.slice none 0 0) := ⟨fun _ => rfl, fun h1 => absurd (h.trans h1) h0⟩
theorem keepP_ok {S : Nat → SeE} {n : Nat} {x : SeE} {w w' : World} {v : Value} (ob : Nat) (h : (0 : Int) = keepE S n x.client x.number) (hr : Row w' v (some ob) 113 7 (mK S n x.client) (seL (TK S n x.client x) (mK S n x.client))) (ho : w.heap.size ≤ ob) : KeepP S n x w w' v := ⟨fun h1 => absurd h.symm h1, fun _ => ⟨ob, hr, ho⟩⟩

set_option maxRecDepth 100000 in
set_option maxHeartbeats 8000000 in
theorem keep_any (x : SeE) (a : Option Addr) (n cap b o : Nat) (S : Nat → SeE) (w : World) (hs : SeIn w a n cap b o S) (hn : n ≤ 200) :
    Calls Try.prog 55 #[.slice a n cap, .int .i64 x.client, .int .i64 x.number, .agg #[.int .i64 x.e, .int .i64 x.rate, .int .i64 x.burst, .int .i64 x.lease, .int .i64 x.size]] w fun e w' => ∃ v, e = .returned (.tuple #[v, .int .i64 (keepE S n x.client x.number)]) ∧ KeepP S n x w w' v ∧ Below w.heap.size w w' := by
  obtain ⟨N, hN⟩ : ∃ N, N = w.heap.size := ⟨_, rfl⟩
  obtain ⟨W1, hW1⟩ : ∃ W1, W1 = w.alloc (.cells #[.int .i64 x.e, .int .i64 x.rate, .int .i64 x.burst, .int .i64 x.lease, .int .i64 x.size] 73) := ⟨_, rfl⟩
  have hB1 : Below w.heap.size w W1 := by rw [hW1]; exact (Below.refl _ _).alloc (Nat.le_refl _) _
  have hb1 : Blk W1 N #[.int .i64 x.e, .int .i64 x.rate, .int .i64 x.burst, .int .i64 x.lease, .int .i64 x.size] 73 := by rw [hW1, hN]; exact blk_new _ _ _
  have H1 := Lib.hid (may_any x.client x.number a n cap b o S W1 (hs.below hB1))
  have H2 := Lib.hid (fun W (h : Below w.heap.size w W) => of_any x.client a n cap b o S W (hs.below h))
  have H3 := Lib.hid (fun W (h : Below w.heap.size w W) => lay_any x a n cap b o S W (hs.below h) hn)
  obtain ⟨y, hy⟩ : ∃ y, y = ofE S x.client n := ⟨_, rfl⟩
  have hr0 : keepE S n x.client x.number = if mayB S n x.client x.number then (if x.number ≤ y.number then 150 else 0) else 2 := by rw [hy]; rfl
  rw [← hy] at H2
  obtain ⟨C, hC⟩ : ∃ C, C = mayB S n x.client x.number := ⟨_, rfl⟩
  rw [← hC] at H1 hr0
  obtain ⟨R, hR⟩ : ∃ R, R = keepE S n x.client x.number := ⟨_, rfl⟩
  rw [← hR] at hr0 ⊢
  have HR := Lib.hid hr0
  have HRE := Lib.hid hR
  unfold SeE.agg at H2
  have hfd := field_num y
  have HB1 := Lib.hid hB1
  have HK1 := Lib.hid hb1
  have HN := Lib.hid hN
  clear hs hy hC hB1 hb1 hr0 hR
  go_enter Try.func55, Try.ntmps55
  go_upto_region 1 with fail
  rw [← hN, ← hW1]
  clear hN hW1
  go_wp2_with fail
  go_at_call 78
  refine Calls.mono H1.out ?_
  rintro e W2 ⟨rfl, hB2⟩
  have HK2 := Lib.hid (HK1.out.step hB2)
  have HB2 := Lib.hid (HB1.out.trans (hB2.mono HB1.out.size))
  clear hB2 HB1 HK1 H1
  cases C
  · have hr : R = 2 := HR.out
    subst hr
    go_wp2_with fail
    exact bodyPost_ret (v := .tuple #[.slice none 0 0, .int .i64 2]) (by simp [results, Try.results55, go_sem]) rfl ⟨_, rfl, keepP_err _ _ HRE.out (by decide), HB2.out⟩
  · go_wp2_with fail
    go_at_call 79
    refine Calls.mono (H2.out _ HB2.out) ?_
    rintro e W3 ⟨rfl, hB3⟩
    have HK3 := Lib.hid (HK2.out.step hB3)
    have HB3 := Lib.hid (HB2.out.trans (hB3.mono HB2.out.size))
    clear hB3
    by_cases h1 : x.number ≤ y.number
    · have hr : R = 150 := by rw [HR.out]; simp [h1]
      subst hr
      go_wp2_with fail
      exact bodyPost_ret (v := .tuple #[.slice none 0 0, .int .i64 150]) (by simp [results, Try.results55, go_sem]) rfl ⟨_, rfl, keepP_err _ _ HRE.out (by decide), HB3.out⟩
    · have hr : R = 0 := by rw [HR.out]; simp [h1]
      subst hr
      have hk3 := HK3.out
      have a0 : W3.cell? ⟨N, 0, none⟩ = some (.int .i64 x.e) := cell_at hk3 0
      have a1 : W3.cell? ⟨N, 1, none⟩ = some (.int .i64 x.rate) := cell_at hk3 1
      have a2 : W3.cell? ⟨N, 2, none⟩ = some (.int .i64 x.burst) := cell_at hk3 2
      have a3 : W3.cell? ⟨N, 3, none⟩ = some (.int .i64 x.lease) := cell_at hk3 3
      have a4 : W3.cell? ⟨N, 4, none⟩ = some (.int .i64 x.size) := cell_at hk3 4
      have hl := hk3.lt
      clear hk3
      go_upto_region 6 with fail
      obtain ⟨W4, hW4⟩ : ∃ W4, W4 = W3.alloc (.cells #[.int .i64 x.client, .int .i64 x.number, .int .i64 x.e, .int .i64 x.rate, .int .i64 x.burst, .int .i64 x.lease, .int .i64 x.size] 113) := ⟨_, rfl⟩
      obtain ⟨M, hM⟩ : ∃ M, M = W3.heap.size := ⟨_, rfl⟩
      have hB4 : Below W3.heap.size W3 W4 := by rw [hW4]; exact (Below.refl _ _).alloc (Nat.le_refl _) _
      have hx4 : Blk W4 M #[.int .i64 x.client, .int .i64 x.number, .int .i64 x.e, .int .i64 x.rate, .int .i64 x.burst, .int .i64 x.lease, .int .i64 x.size] 113 := by rw [hW4, hM]; exact blk_new _ _ _
      have HB4 := Lib.hid (HB3.out.trans (hB4.mono HB3.out.size))
      rw [← hW4, ← hM]
      have x0 : W4.cell? ⟨M, 0, none⟩ = some (.int .i64 x.client) := cell_at hx4 0
      have x1 : W4.cell? ⟨M, 1, none⟩ = some (.int .i64 x.number) := cell_at hx4 1
      have x2 : W4.cell? ⟨M, 2, none⟩ = some (.int .i64 x.e) := cell_at hx4 2
      have x3 : W4.cell? ⟨M, 3, none⟩ = some (.int .i64 x.rate) := cell_at hx4 3
      have x4 : W4.cell? ⟨M, 4, none⟩ = some (.int .i64 x.burst) := cell_at hx4 4
      have x5 : W4.cell? ⟨M, 5, none⟩ = some (.int .i64 x.lease) := cell_at hx4 5
      have x6 : W4.cell? ⟨M, 6, none⟩ = some (.int .i64 x.size) := cell_at hx4 6
      have hl4 := hx4.lt
      clear hW4 hM hB4 hx4 a0 a1 a2 a3 a4 hl
      go_wp2_with fail
      go_at_call 82
      refine Calls.mono (H3.out _ HB4.out) ?_
      rintro e W5 ⟨v, ob, k, d, rfl, rfl, rfl, h5, h6, h7⟩
      have H5 := Lib.hid h5
      have H6 : Hid (w.heap.size ≤ ob) := Lib.hid (by have := HB4.out.size; omega)
      have H7 := Lib.hid (HB4.out.trans (h7.mono HB4.out.size))
      obtain ⟨av9, cv9, hv9, _, _, h69⟩ := h5.shape
      have h79 : av9 = some ⟨ob, 0, none⟩ := h69
      subst hv9 h79
      clear h5 h6 h7 h69
      go_wp2_with fail
      exact bodyPost_ret (v := .tuple #[.slice (some ⟨ob, 0, none⟩) (cutS S x.client n + 1 + (n - cutS S x.client n - dS S n x.client)) cv9, .int .i64 0]) (by simp [results, Try.results55, go_sem]) rfl ⟨_, rfl, keepP_ok ob HRE.out H5.out H6.out, H7.out⟩
end Go.Proofs.Ytnaoajdbopminaa
