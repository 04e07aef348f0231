/-
  JudgeKept, walked.
-/
import Derived.Test.YtninhjeiialbjaaJdj
namespace Go.Proofs.Ytninhjeiialbjaa
open Go.RowKit
set_option linter.unusedSimpArgs false
set_option linter.unusedVariables false

/-- what Kept answers, in five parts -/
theorem KeptP.form {w : World} {L : Nat → SentE} {n : Nat} {F : Nat → ForceE} {m : Nat} {H : Int} {e : Ending} {w' : World} (h : KeptP w L n F m H e w') : ∃ (x1 x2 x3 : Int) (x4 : Bool) (x5 : Int), e = .returned (.tuple #[.int .i64 x1, .int .i64 x2, .int .i64 x3, .bool x4, .int .i64 x5]) ∧ Below w.heap.size w w' := by
  obtain ⟨hB, ⟨_, he⟩ | ⟨_, _, he⟩ | ⟨_, T, k, c, _, _, _, _, he⟩⟩ := h
  · exact ⟨_, _, _, _, _, he, hB⟩
  · exact ⟨_, _, _, _, _, he, hB⟩
  · exact ⟨_, _, _, _, _, he, hB⟩

set_option maxRecDepth 100000 in
set_option maxHeartbeats 16000000 in
theorem judgeKept_any (h : Int) (a : Option Addr) (n c b o : Nat) (L : Nat → SentE) (a' : Option Addr) (m c' b' o' : Nat) (F : Nat → ForceE) (w : World) (h1 : SentIn w a n c b o L) (h2 : ForceIn w a' m c' b' o' F) (hh : h ≤ 9223372036854775807) :
    Calls Try.prog 11 #[.slice a n c, .slice a' m c', .int .i64 h] w fun e w' => e = .returned (.bool true) ∧ Below w.heap.size w w' := by
  have hm1 := h1.max
  have hl1 := h1.le
  have hm2 := h2.max
  have hl2 := h2.le
  unfold maxLen at hm1 hm2
  have HGR : Hid (∀ W, Calls Try.prog 48 #[.slice a n c, .slice a' m c'] W fun e w' => e = .returned (.bool (decide (60 < n) || decide (60 < m))) ∧ W = w') := Lib.hid (fun W => great_any a n c a' m c' W (by omega) (by omega))
  by_cases hbig : 60 < n ∨ 60 < m
  · have hG : (decide (60 < n) || decide (60 < m)) = true := by simpa using hbig
    rw [hG] at HGR
    clear hG h1 h2 hbig
    go_enter Try.func11, Try.ntmps11
    go_wp2_with (first
      | (go_at_call 48; refine (HGR.out _).mono ?_; rintro e W ⟨rfl, rfl⟩)
      | (go_at_call 49; refine (jwakes_any _).mono ?_; rintro e W ⟨rfl, hW⟩))
    go_ret
    exact ⟨rfl, hW⟩
  · have hG : (decide (60 < n) || decide (60 < m)) = false := by simp; omega
    rw [hG] at HGR
    have HK := Lib.hid (kept_any h a n c b o L a' m c' b' o' F w h1 h2 (by omega) (by omega) hh)
    have HR : Hid (∀ W, Below w.heap.size w W → Calls Try.prog 51 #[.slice a n c, .slice a' m c', .int .i64 h] W (RKeptP W L n F m (min (max h 0) 1099511627776))) := Lib.hid (fun W hW => rkept_any h a n c b o L a' m c' b' o' F W (h1.below hW) (h2.below hW) (by omega) (by omega) hh)
    clear hG h1 h2 hbig
    go_enter Try.func11, Try.ntmps11
    go_wp2_with (go_at_call 48; refine (HGR.out _).mono ?_; rintro e W ⟨rfl, rfl⟩)
    go_at_call 50
    refine Calls.mono HK.out ?_
    intro e W1 hK
    obtain ⟨x1, x2, x3, x4, x5, rfl, hB1⟩ := hK.form
    have HK2 := Lib.hid hK
    have HB1 := Lib.hid hB1
    clear hB1 hK
    go_wp2_with fail
    go_at_call 51
    refine Calls.mono (HR.out _ HB1.out) ?_
    intro e W2 hR
    obtain rfl := kept_same (by omega) HK2.out hR
    have HB2 := Lib.hid (HB1.out.trans (hR.1.mono HB1.out.size))
    clear hR
    go_wp2_with (go_at_call 49; refine (jwakes_any _).mono ?_; rintro e W ⟨rfl, hW⟩)
    go_ret
    exact ⟨rfl, HB2.out.trans (hW.mono HB2.out.size)⟩
theorem judgeKept_walk (h : Int) (a : Option Addr) (n c : Nat) (xs : List Dt) (a' : Option Addr) (m c' : Nat) (ys : List Dt) (w : World) (h1 : SliceFits Try.prog w 129 a n c xs) (h2 : SliceFits Try.prog w 127 a' m c' ys) (hh : -9223372036854775808 ≤ h ∧ h ≤ 9223372036854775807) :
    Calls Try.prog 11 #[.slice a n c, .slice a' m c', .int .i64 h] w fun e w' => e = .returned (.bool true) ∧ Below w.heap.size w w' := by
  obtain ⟨b, o, L, hs⟩ := sent_cells w h1
  obtain ⟨b', o', F, hf⟩ := force_cells w h2
  exact judgeKept_any h a n c b o L a' m c' b' o' F w hs hf hh.2
end Go.Proofs.Ytninhjeiialbjaa
