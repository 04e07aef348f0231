/-
  weirlaw09.Great: are rows too great to be tried?
-/
import Derived.Test.YtnaoajdbopminaaCl2
namespace Go.Proofs.Ytnaoajdbopminaa
open Go.RowKit
set_option linter.unusedSimpArgs false
set_option linter.unusedVariables false

def SomeBool (w : World) (e : Ending) (w' : World) : Prop := ∃ q : Bool, e = .returned (.bool q) ∧ w = w'
def SomeBoolB (w : World) (e : Ending) (w' : World) : Prop := ∃ q : Bool, e = .returned (.bool q) ∧ Below w.heap.size w w'

set_option maxRecDepth 100000 in
set_option maxHeartbeats 4000000 in
theorem long_any (a : Option Addr) (len cap b o : Nat) (E : Nat → Ent) (w : World) (hs : EntsIn w a len cap b o E) :
    Calls Try.prog 74 #[.slice a len cap] w (SomeBool w) := by
  have hm := hs.max
  have hl := hs.le
  unfold maxLen at hm
  have HS := Lib.hid hs
  clear hs
  go_enter Try.func74, Try.ntmps74
  go_wp2_with fail
  go_loop [3, 7] (fun n i => ∃ (k : Nat) (N : Int), k ≤ len ∧ i = .int .i64 k ∧ n = .int .i64 N) (fun _ i => len - (intOf i).toNat)
  case atStart => exact ⟨0, 0, Nat.zero_le _, rfl, rfl⟩
  case round =>
    obtain ⟨k, N, hk, rfl, rfl⟩ := hrel
    by_cases hlt : k < len
    · obtain ⟨e0, e1⟩ := HS.out.at_ (by omega)
      subst e0
      obtain ⟨_, _, _, _, k4⟩ := HS.out.cell k hlt
      obtain ⟨_, _, _, _, _, _, _, _, hd1, hd2⟩ := HS.out.bd k hlt
      unfold maxLen at hd2
      obtain ⟨dl, hdl⟩ : ∃ dl, dl = (E k).dl := ⟨_, rfl⟩
      have hd3 : dl ≤ 9223372036854775807 := by omega
      rw [← hdl] at k4
      clear hdl hd1 hd2
      obtain ⟨M, hM⟩ : ∃ M, IntKind.i64.wrap (N + dl) = M := ⟨_, rfl⟩
      by_cases h150 : 150 ≤ k
      · have b1 : decide (150 ≤ k) = true := by simpa using h150
        go_wp2_with fail
        go_ret
        exact ⟨true, rfl, rfl⟩
      · have b1 : decide (150 ≤ k) = false := by simpa using h150
        by_cases hbig : 20000 < M
        · have b2 : decide (20000 < M) = true := by simpa using hbig
          go_wp2_with fail
          go_ret
          exact ⟨true, rfl, rfl⟩
        · have b2 : decide (20000 < M) = false := by simpa using hbig
          go_wp2_with fail
          go_round
          case rel => exact ⟨k + 1, M, by omega, by go_num, rfl⟩
          case measure => first | (simp [intOf]; done) | (simp [intOf]; omega)
    · obtain rfl : k = len := by omega
      go_wp2_with fail
      go_ret
      exact ⟨false, rfl, rfl⟩

theorem great_any (base bt : Int) (a : Option Addr) (len cap b o : Nat) (E : Nat → Ent) (w : World) (hs : EntsIn w a len cap b o E) :
    Calls Try.prog 43 #[.agg #[.int .i64 base, .int .i64 bt, .slice a len cap]] w (SomeBoolB w) := by
  have HB0 : Hid (Below w.heap.size w (w.alloc (.cells #[.int .i64 base, .int .i64 bt, .slice a len cap] 63))) := Lib.hid ((Below.refl _ _).alloc (Nat.le_refl _) _)
  have HC := Lib.hid (fun W h => long_any a len cap b o E W h)
  have HS := Lib.hid hs
  clear hs
  go_enter Try.func43, Try.ntmps43
  go_wp2_with (go_at_call 74; refine Calls.mono (HC.out _ (HS.out.below HB0.out)) ?_; rintro e W1 ⟨q, rfl, rfl⟩)
  go_ret
  exact ⟨q, rfl, HB0.out⟩
end Go.Proofs.Ytnaoajdbopminaa
