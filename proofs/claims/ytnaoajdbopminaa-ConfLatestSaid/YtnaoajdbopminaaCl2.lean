/-
  Package conf: the document's answer: may a change begin?
-/
import Derived.Test.YtnaoajdbopminaaCl1
namespace Go.Proofs.Ytnaoajdbopminaa
open Go.RowKit
set_option linter.unusedSimpArgs false
set_option linter.unusedVariables false

/-- does one of the first entries of a term stand at most at an index? -/
def begB (base : Int) (E : Nat → Ent) (t c : Int) : Nat → Bool
  | 0 => false
  | m + 1 => begB base E t c m || (decide (base + m + 1 ≤ c) && ((E m).t == t))
theorem begB_up {base : Int} {E : Nat → Ent} {t c : Int} : ∀ {n k : Nat}, k < n → (decide (base + k + 1 ≤ c) && ((E k).t == t)) = true → begB base E t c n = true
  | 0, k, hk, _ => by omega
  | n + 1, k, hk, h => by
    unfold begB
    by_cases hkn : k = n
    · subst hkn; rw [h]; simp
    · rw [begB_up (n := n) (k := k) (by omega) h]; rfl
def headT (base bt t c : Int) : Bool := decide (base ≤ c) && decide (0 < base) && (bt == t)
def begunB (base bt : Int) (len : Nat) (E : Nat → Ent) (t c : Int) : Bool := headT base bt t c || begB base E t c len
def freeS (base bt : Int) (len : Nat) (E : Nat → Ent) (t c : Int) : Int := if rowsB base bt len E = true then (if decide (c < latI base bt len E) || !begunB base bt len E t c then 130 else 0) else 90

set_option maxRecDepth 100000 in
set_option maxHeartbeats 8000000 in
theorem rfree_any (base bt : Int) (a : Option Addr) (len cap b o : Nat) (E : Nat → Ent) (s0 t c : Int) (w : World) (hs : EntsIn w a len cap b o E) :
    Calls Try.prog 47 #[.agg #[.int .i64 base, .int .i64 bt, .slice a len cap], .int .u8 s0, .int .i64 t, .int .i64 c] w fun e w' => e = .returned (.int .i64 (freeS base bt len E t c)) ∧ Below w.heap.size w w' := by
  have hm := hs.max
  have hl := hs.le
  unfold maxLen at hm
  have HS := Lib.hid hs
  have HQ := Lib.hid (Box.mk0 w base bt (.slice a len cap))
  have HB0 : Hid (Below w.heap.size w (w.alloc (.cells #[.int .i64 base, .int .i64 bt, .slice a len cap] 63))) := Lib.hid ((Below.refl _ _).alloc (Nat.le_refl _) _)
  obtain ⟨S, hS⟩ : ∃ S, S = latS base bt len E s0 := ⟨_, rfl⟩
  obtain ⟨I, hI⟩ : ∃ I, I = latI base bt len E := ⟨_, rfl⟩
  cases hr : rowsB base bt len E
  · have C1 : Hid (∀ W, EntsIn W a len cap b o E → Calls Try.prog 45 #[.agg #[.int .i64 base, .int .i64 bt, .slice a len cap], .int .u8 s0] W fun e w' => e = .returned (.tuple #[.int .u8 S, .int .i64 I, .int .i64 90]) ∧ Below W.heap.size W w') := Lib.hid (fun W h => by have := rlatest_any base bt a len cap b o E s0 W h; rwa [rowsE_bad hr, ← hS, ← hI] at this)
    unfold freeS
    rw [if_neg (by rw [hr]; simp)]
    clear hs hr hS hI
    go_enter Try.func47, Try.ntmps47
    go_wp2_with (go_at_call 45; refine Calls.mono (C1.out _ (HS.out.below HB0.out)) ?_; rintro e W1 ⟨rfl, hW1⟩)
    go_ret
    exact ⟨rfl, HB0.out.trans (hW1.mono HB0.out.size)⟩
  · obtain ⟨b0, b1, h1, t0⟩ := rowsB_head hr
    have C1 : Hid (∀ W, EntsIn W a len cap b o E → Calls Try.prog 45 #[.agg #[.int .i64 base, .int .i64 bt, .slice a len cap], .int .u8 s0] W fun e w' => e = .returned (.tuple #[.int .u8 S, .int .i64 I, .int .i64 0]) ∧ Below W.heap.size W w') := Lib.hid (fun W h => by have := rlatest_any base bt a len cap b o E s0 W h; rwa [rowsE_ok hr, ← hS, ← hI] at this)
    obtain ⟨F, hF⟩ : ∃ F, F = freeS base bt len E t c := ⟨_, rfl⟩
    rw [← hF]
    unfold freeS at hF
    rw [if_pos hr, ← hI] at hF
    by_cases hlt : c < I
    · have HF : Hid (F = 130) := Lib.hid (by rw [hF, if_pos (by simp [hlt])])
      clear hs hr hS hI hF
      go_enter Try.func47, Try.ntmps47
      go_wp2_with (go_at_call 45; refine Calls.mono (C1.out _ (HS.out.below HB0.out)) ?_; rintro e W1 ⟨rfl, hW1⟩)
      go_ret
      exact ⟨by rw [HF.out]; rfl, HB0.out.trans (hW1.mono HB0.out.size)⟩
    · have HF : Hid (F = if begunB base bt len E t c = true then 0 else 130) := Lib.hid (by rw [hF]; cases begunB base bt len E t c <;> simp [hlt])
      clear hs hr hS hI hF
      go_enter Try.func47, Try.ntmps47
      go_wp2_with (go_at_call 45; refine Calls.mono (C1.out _ (HS.out.below HB0.out)) ?_; rintro e W1 ⟨rfl, hW1⟩; have HQ1 := Lib.hid (HQ.out.step hW1); obtain ⟨⟨f0, f1, f2⟩, f3, _⟩ := id HQ1.out)
      have HB1 := Lib.hid (HB0.out.trans (hW1.mono HB0.out.size))
      clear hW1
      go_loop [12] (fun i => ∃ k : Nat, k ≤ len ∧ i = .int .i64 k ∧ begB base E t c k = false) (fun i => len - (intOf i).toNat)
      case atStart => exact ⟨0, Nat.zero_le _, rfl, rfl⟩
      case round =>
        obtain ⟨k, hk, rfl, hbk⟩ := hrel
        by_cases hkl : k < len
        · obtain ⟨e0, e1⟩ := HS.out.at_ (by omega)
          subst e0
          have k0 := ((HS.out.below HB1.out).cell k hkl).1
          obtain ⟨et, het⟩ : ∃ et, et = (E k).t := ⟨_, rfl⟩
          rw [← het] at k0
          by_cases hd : base + k + 1 ≤ c
          · have bd : decide (base + (k : Int) + 1 ≤ c) = true := by simpa using hd
            by_cases he : et = t
            · have HF2 : Hid (F = 0) := Lib.hid (by rw [HF.out, if_pos]; unfold begunB; rw [begB_up hkl (by rw [bd, ← het, he]; simp)]; simp)
              subst he
              clear hbk het
              go_wp2_with fail
              go_ret
              exact ⟨by rw [HF2.out]; rfl, HB1.out⟩
            · have HB2 : Hid (begB base E t c (k + 1) = false) := Lib.hid (by show (begB base E t c k || _) = false; rw [hbk, ← het]; simp [he])
              have be : (et == t) = false := by simpa using he
              clear hbk het
              go_wp2_with fail
              go_round
              case rel => exact ⟨k + 1, by omega, by go_num, HB2.out⟩
              case measure => first | (simp [intOf]; done) | (simp [intOf]; omega)
          · have bd : decide (base + (k : Int) + 1 ≤ c) = false := by simpa using hd
            have HB2 : Hid (begB base E t c (k + 1) = false) := Lib.hid (by show (begB base E t c k || _) = false; rw [hbk, bd]; simp)
            clear hbk het
            go_wp2_with fail
            go_round
            case rel => exact ⟨k + 1, by omega, by go_num, HB2.out⟩
            case measure => first | (simp [intOf]; done) | (simp [intOf]; omega)
        · obtain rfl : k = len := by omega
          have HF2 : Hid (F = if headT base bt t c = true then 0 else 130) := Lib.hid (by rw [HF.out]; unfold begunB; rw [hbk, Bool.or_false])
          unfold headT at HF2
          clear hbk
          have hcs : (decide (base ≤ c) = false) ∨ (decide (base ≤ c) = true ∧ decide (0 < base) = false) ∨ (decide (base ≤ c) = true ∧ decide (0 < base) = true ∧ (bt == t) = false) ∨ (decide (base ≤ c) = true ∧ decide (0 < base) = true ∧ (bt == t) = true) := by
            cases decide (base ≤ c) <;> cases decide (0 < base) <;> cases (bt == t) <;> simp
          rcases hcs with h | ⟨h, h2⟩ | ⟨h, h2, h3⟩ | ⟨h, h2, h3⟩
          · have HF3 : Hid (F = 130) := Lib.hid (by rw [HF2.out, h]; simp)
            go_wp2_with fail
            go_ret
            exact ⟨by rw [HF3.out]; rfl, HB1.out⟩
          · have HF3 : Hid (F = 130) := Lib.hid (by rw [HF2.out, h, h2]; simp)
            go_wp2_with fail
            go_ret
            exact ⟨by rw [HF3.out]; rfl, HB1.out⟩
          · have HF3 : Hid (F = 130) := Lib.hid (by rw [HF2.out, h, h2, h3]; simp)
            go_wp2_with fail
            go_ret
            exact ⟨by rw [HF3.out]; rfl, HB1.out⟩
          · have HF3 : Hid (F = 0) := Lib.hid (by rw [HF2.out, h, h2, h3]; simp)
            go_wp2_with fail
            go_ret
            exact ⟨by rw [HF3.out]; rfl, HB1.out⟩
end Go.Proofs.Ytnaoajdbopminaa
