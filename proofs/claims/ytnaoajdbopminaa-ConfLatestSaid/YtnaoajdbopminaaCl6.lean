/-
  Package conf: may a change begin? The law ConfLatest, walked.
-/
import Derived.Test.YtnaoajdbopminaaCl5
namespace Go.Proofs.Ytnaoajdbopminaa
open Go.RowKit
set_option linter.unusedSimpArgs false
set_option linter.unusedVariables false

theorem freeS_cases (base bt : Int) (len : Nat) (E : Nat → Ent) (t c : Int) (hr : rowsB base bt len E = true) : (c < latI base bt len E ∧ freeS base bt len E t c = 130) ∨ (¬ c < latI base bt len E ∧ freeS base bt len E t c = if begunB base bt len E t c = true then 0 else 130) := by
  unfold freeS
  rw [if_pos hr]
  by_cases h : c < latI base bt len E
  · exact .inl ⟨h, by rw [if_pos (by simp [h])]⟩
  · refine .inr ⟨h, ?_⟩
    cases begunB base bt len E t c <;> simp [h]

set_option maxRecDepth 100000 in
set_option maxHeartbeats 8000000 in
theorem free_any (base bt : Int) (a : Option Addr) (len cap b o : Nat) (E : Nat → Ent) (s0 t c : Int) (w : World) (hs : EntsIn w a len cap b o E) :
    Calls Try.prog 46 #[.agg #[.int .i64 base, .int .i64 bt, .slice a len cap], .int .u8 s0, .int .i64 t, .int .i64 c] w fun e w' => e = .returned (.int .i64 (freeS base bt len E t c)) ∧ Below w.heap.size w w' := by
  have HS := Lib.hid hs
  have HQ := Lib.hid (Box.mk0 w base bt (.slice a len cap))
  have HB0 : Hid (Below w.heap.size w (w.alloc (.cells #[.int .i64 base, .int .i64 bt, .slice a len cap] 63))) := Lib.hid ((Below.refl _ _).alloc (Nat.le_refl _) _)
  obtain ⟨S, hS⟩ : ∃ S, S = latS base bt len E s0 := ⟨_, rfl⟩
  obtain ⟨I, hI⟩ : ∃ I, I = latI base bt len E := ⟨_, rfl⟩
  cases hr : rowsB base bt len E
  · have C1 : Hid (∀ W, EntsIn W a len cap b o E → Calls Try.prog 44 #[.agg #[.int .i64 base, .int .i64 bt, .slice a len cap], .int .u8 s0] W fun e w' => e = .returned (.tuple #[.int .u8 S, .int .i64 I, .int .i64 90]) ∧ Below W.heap.size W w') := Lib.hid (fun W h => by have := latest_any base bt a len cap b o E s0 W h; rwa [rowsE_bad hr, ← hS, ← hI] at this)
    unfold freeS
    rw [if_neg (by rw [hr]; simp)]
    clear hs hr hS hI
    go_enter Try.func46, Try.ntmps46
    go_wp2_with (go_at_call 44; refine Calls.mono (C1.out _ (HS.out.below HB0.out)) ?_; rintro e W1 ⟨rfl, hW1⟩)
    go_ret
    exact ⟨rfl, HB0.out.trans (hW1.mono HB0.out.size)⟩
  · obtain ⟨b0, b1, h1, t0⟩ := rowsB_head hr
    have C1 : Hid (∀ W, EntsIn W a len cap b o E → Calls Try.prog 44 #[.agg #[.int .i64 base, .int .i64 bt, .slice a len cap], .int .u8 s0] W fun e w' => e = .returned (.tuple #[.int .u8 S, .int .i64 I, .int .i64 0]) ∧ Below W.heap.size W w') := Lib.hid (fun W h => by have := latest_any base bt a len cap b o E s0 W h; rwa [rowsE_ok hr, ← hS, ← hI] at this)
    have hfc := freeS_cases base bt len E t c hr
    obtain ⟨F, hF⟩ : ∃ F, F = freeS base bt len E t c := ⟨_, rfl⟩
    obtain ⟨G, hG⟩ : ∃ G, G = begunB base bt len E t c := ⟨_, rfl⟩
    have C2 : Hid (∀ W, EntsIn W a len cap b o E → Calls Try.prog 77 #[.agg #[.int .i64 base, .int .i64 bt, .slice a len cap], .int .i64 t, .int .i64 c] W fun e w' => e = .returned (.bool G) ∧ Below W.heap.size W w') := Lib.hid (fun W h => by rw [hG]; exact began_any base bt a len cap b o E t c ⟨b0, b1, h1⟩ W h)
    rw [← hF, ← hI, ← hG] at hfc
    rw [← hF]
    clear hs hr hS hI hF hG
    rcases hfc with ⟨hlt, rfl⟩ | ⟨hlt, hF⟩
    · have d1 : decide (c < I) = true := by simpa using hlt
      go_enter Try.func46, Try.ntmps46
      go_wp2_with (go_at_call 44; refine Calls.mono (C1.out _ (HS.out.below HB0.out)) ?_; rintro e W1 ⟨rfl, hW1⟩)
      go_ret
      exact ⟨rfl, HB0.out.trans (hW1.mono HB0.out.size)⟩
    · have d1 : decide (c < I) = false := by simpa using hlt
      have HF := Lib.hid hF
      clear hF hlt
      go_enter Try.func46, Try.ntmps46
      go_wp2_with (first
        | (go_at_call 44; refine Calls.mono (C1.out _ (HS.out.below HB0.out)) ?_; rintro e W1 ⟨rfl, hW1⟩; have HQ1 := Lib.hid (HQ.out.step hW1); obtain ⟨⟨f0, f1, f2⟩, f3, _⟩ := id HQ1.out; have HB1 := Lib.hid (HB0.out.trans (hW1.mono HB0.out.size)); clear hW1)
        | (go_at_call 77; refine Calls.mono (C2.out _ (HS.out.below HB1.out)) ?_; rintro e W2 ⟨rfl, hW2⟩; have HB2 := Lib.hid (HB1.out.trans (hW2.mono HB1.out.size))))
      all_goals
        go_ret
        exact ⟨by rw [HF.out]; simp_all, HB2.out⟩

set_option maxRecDepth 100000 in
set_option maxHeartbeats 8000000 in
theorem confLatest_any (base bt : Int) (a : Option Addr) (len cap b o : Nat) (E : Nat → Ent) (s0 t c : Int) (w : World) (hs : EntsIn w a len cap b o E) :
    Calls Try.prog 7 #[.agg #[.int .i64 base, .int .i64 bt, .slice a len cap], .int .u8 s0, .int .i64 t, .int .i64 c] w fun e w' => e = .returned (.bool true) ∧ Below w.heap.size w w' := by
  have HS := Lib.hid hs
  have HQ := Lib.hid (Box.mk0 w base bt (.slice a len cap))
  have HB0 : Hid (Below w.heap.size w (w.alloc (.cells #[.int .i64 base, .int .i64 bt, .slice a len cap] 63))) := Lib.hid ((Below.refl _ _).alloc (Nat.le_refl _) _)
  obtain ⟨S, hS⟩ : ∃ S, S = latS base bt len E s0 := ⟨_, rfl⟩
  obtain ⟨I, hI⟩ : ∃ I, I = latI base bt len E := ⟨_, rfl⟩
  obtain ⟨e0, he⟩ : ∃ e0, e0 = rowsE base bt len E := ⟨_, rfl⟩
  obtain ⟨F, hF⟩ : ∃ F, F = freeS base bt len E t c := ⟨_, rfl⟩
  have CG : Hid (∀ W, EntsIn W a len cap b o E → Calls Try.prog 43 #[.agg #[.int .i64 base, .int .i64 bt, .slice a len cap]] W (SomeBoolB W)) := Lib.hid (fun W h => great_any base bt a len cap b o E W h)
  have C1 : Hid (∀ W, EntsIn W a len cap b o E → Calls Try.prog 44 #[.agg #[.int .i64 base, .int .i64 bt, .slice a len cap], .int .u8 s0] W fun e w' => e = .returned (.tuple #[.int .u8 S, .int .i64 I, .int .i64 e0]) ∧ Below W.heap.size W w') := Lib.hid (fun W h => by rw [hS, hI, he]; exact latest_any base bt a len cap b o E s0 W h)
  have C2 : Hid (∀ W, EntsIn W a len cap b o E → Calls Try.prog 45 #[.agg #[.int .i64 base, .int .i64 bt, .slice a len cap], .int .u8 s0] W fun e w' => e = .returned (.tuple #[.int .u8 S, .int .i64 I, .int .i64 e0]) ∧ Below W.heap.size W w') := Lib.hid (fun W h => by rw [hS, hI, he]; exact rlatest_any base bt a len cap b o E s0 W h)
  have C3 : Hid (∀ W, EntsIn W a len cap b o E → Calls Try.prog 46 #[.agg #[.int .i64 base, .int .i64 bt, .slice a len cap], .int .u8 s0, .int .i64 t, .int .i64 c] W fun e w' => e = .returned (.int .i64 F) ∧ Below W.heap.size W w') := Lib.hid (fun W h => by rw [hF]; exact free_any base bt a len cap b o E s0 t c W h)
  have C4 : Hid (∀ W, EntsIn W a len cap b o E → Calls Try.prog 47 #[.agg #[.int .i64 base, .int .i64 bt, .slice a len cap], .int .u8 s0, .int .i64 t, .int .i64 c] W fun e w' => e = .returned (.int .i64 F) ∧ Below W.heap.size W w') := Lib.hid (fun W h => by rw [hF]; exact rfree_any base bt a len cap b o E s0 t c W h)
  clear hs hS hI he hF
  go_enter Try.func7, Try.ntmps7
  go_wp2_with fail
  go_at_call 43
  refine Calls.mono (CG.out _ (HS.out.below HB0.out)) ?_
  rintro e W1 ⟨q, rfl, hW1⟩
  have HQ1 := Lib.hid (HQ.out.step hW1)
  have HB1 := Lib.hid (HB0.out.trans (hW1.mono HB0.out.size))
  obtain ⟨⟨f0, f1, f2⟩, f3, _⟩ := id HQ1.out
  clear hW1
  cases q
  · go_wp2_with fail
    go_at_call 44
    refine Calls.mono (C1.out _ (HS.out.below HB1.out)) ?_
    rintro e W2 ⟨rfl, hW2⟩
    have HQ2 := Lib.hid (HQ1.out.step hW2)
    have HB2 := Lib.hid (HB1.out.trans (hW2.mono HB1.out.size))
    clear f0 f1 f2 f3 hW2
    obtain ⟨⟨f0, f1, f2⟩, f3, _⟩ := id HQ2.out
    go_wp2_with fail
    go_at_call 45
    refine Calls.mono (C2.out _ (HS.out.below HB2.out)) ?_
    rintro e W3 ⟨rfl, hW3⟩
    have HQ3 := Lib.hid (HQ2.out.step hW3)
    have HB3 := Lib.hid (HB2.out.trans (hW3.mono HB2.out.size))
    clear f0 f1 f2 f3 hW3
    obtain ⟨⟨f0, f1, f2⟩, f3, _⟩ := id HQ3.out
    have g1 : (S == S) = true := by simp
    have g2 : (I == I) = true := by simp
    have g3 : (e0 == e0) = true := by simp
    have cur := Lib.hid (HQ3.out.drew)
    go_wp2_with fail
    go_region_held3 (fun X => X.cell? ⟨w.heap.size, 0, none⟩ = some (.int .i64 base) ∧ X.cell? ⟨w.heap.size, 1, none⟩ = some (.int .i64 bt) ∧ X.cell? ⟨w.heap.size, 2, none⟩ = some (.slice a len cap)) (first | exact ⟨f0, f1, f2⟩ | go_keep) (first
      | (go_at_call 46; refine Calls.mono (C3.out _ (HS.out.below cur.out.2.2)) ?_; rintro e X4 ⟨rfl, hX4⟩; have cur := Lib.hid (cur.out.step hX4); obtain ⟨⟨f0, f1, f2⟩, f3, _⟩ := id cur.out)
      | (go_at_call 47; refine Calls.mono (C4.out _ (HS.out.below cur.out.2.2)) ?_; rintro e X5 ⟨rfl, hX5⟩; have cur := Lib.hid (cur.out.step hX5); obtain ⟨⟨f0, f1, f2⟩, f3, _⟩ := id cur.out)
      | (go_at_call 38; refine Calls.mono (cwakes_any _) ?_; rintro e X6 ⟨rfl, hX6⟩; have cur := Lib.hid (cur.out.step hX6); obtain ⟨⟨f0, f1, f2⟩, f3, _⟩ := id cur.out))
    all_goals
      go_wp2_with fail
      go_ret
      exact ⟨rfl, cur.out.2.2⟩
  · go_wp2_with (go_at_call 38; refine (cwakes_any _).mono ?_; rintro e WK ⟨rfl, hWK⟩)
    go_ret
    exact ⟨rfl, HB1.out.trans (hWK.mono HB1.out.size)⟩
end Go.Proofs.Ytnaoajdbopminaa
