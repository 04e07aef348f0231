/-
  JudgeFair, walked.
-/
import Derived.Test.YtninhjeiialbjaaJdn
import Derived.Test.YtninhjeiialbjaaJdk
namespace Go.Proofs.Ytninhjeiialbjaa
open Go.RowKit

set_option maxRecDepth 100000 in
theorem rfair30_any (fl le mo : Int) (a : Option Addr) (q c b o : Nat) (E : Nat → FlowE) (a' : Option Addr) (n c' b' o' : Nat) (L : Nat → SentE) (w : World) (hf : FlowIn w a q c b o E) (hs : SentIn w a' n c' b' o' L) (hn : n ≤ 60) (hq : q ≤ 60) :
    Calls Try.prog 55 #[.slice a q c, .slice a' n c', .int .i64 fl, .int .i64 le, .int .i64 mo] w fun e w' => e = .returned (.bool (fairQ E q L n fl le mo)) ∧ w = w' := by
  have HR := Lib.hid (rfair_any fl le mo a q c b o E a' n c' b' o' L w hf hs hn hq)
  obtain ⟨Q, hQ⟩ : ∃ Q, Q = fairQ E q L n fl le mo := ⟨_, rfl⟩
  rw [← hQ] at HR ⊢
  clear hf hs hQ
  go_enter Try.func55, Try.ntmps55
  go_wp2_with (go_at_call 92; refine (HR.out).mono ?_; rintro e W ⟨rfl, rfl⟩)
  go_ret
  exact ⟨rfl, rfl⟩

set_option maxRecDepth 100000 in
set_option maxHeartbeats 16000000 in
theorem judgeFair_any (fl le mo : Int) (a : Option Addr) (q c b o : Nat) (E : Nat → FlowE) (a' : Option Addr) (n c' b' o' : Nat) (L : Nat → SentE) (w : World) (hf : FlowIn w a q c b o E) (hs : SentIn w a' n c' b' o' L) :
    Calls Try.prog 13 #[.slice a q c, .slice a' n c', .int .i64 fl, .int .i64 le, .int .i64 mo] w fun e w' => e = .returned (.bool true) ∧ Below w.heap.size w w' := by
  have hm1 := hf.max
  have hl1 := hf.le
  have hm2 := hs.max
  have hl2 := hs.le
  unfold maxLen at hm1 hm2
  by_cases hbig : 60 < q
  · clear hf hs
    go_enter Try.func13, Try.ntmps13
    go_wp2_with (go_at_call 49; refine (jwakes_any _).mono ?_; rintro e W ⟨rfl, hW⟩)
    go_ret
    exact ⟨rfl, hW⟩
  · by_cases hbig2 : 60 < n
    · clear hf hs
      go_enter Try.func13, Try.ntmps13
      go_wp2_with (go_at_call 49; refine (jwakes_any _).mono ?_; rintro e W ⟨rfl, hW⟩)
      go_ret
      exact ⟨rfl, hW⟩
    · have HK := Lib.hid (fair_any fl le mo a q c b o E a' n c' b' o' L w hf hs (by omega))
      have HR : Hid (∀ W, Below w.heap.size w W → Calls Try.prog 55 #[.slice a q c, .slice a' n c', .int .i64 fl, .int .i64 le, .int .i64 mo] W fun e w' => e = .returned (.bool (fairQ E q L n fl le mo)) ∧ W = w') := Lib.hid (fun W hW => rfair30_any fl le mo a q c b o E a' n c' b' o' L W (hf.below hW) (hs.below hW) (by omega) (by omega))
      obtain ⟨Q, hQ⟩ : ∃ Q, Q = fairQ E q L n fl le mo := ⟨_, rfl⟩
      rw [← hQ] at HK HR
      clear hf hs hQ
      go_enter Try.func13, Try.ntmps13
      cases Q
      all_goals
        go_wp2_with (go_at_call 54; refine (HK.out).mono ?_; rintro e W1 ⟨rfl, hB1⟩; have HB1 := Lib.hid hB1; clear hB1)
        go_at_call 55
        refine (HR.out _ HB1.out).mono ?_
        rintro e W ⟨rfl, rfl⟩
        go_wp2_with (go_at_call 49; refine (jwakes_any _).mono ?_; rintro e W ⟨rfl, hW⟩)
        go_ret
        exact ⟨rfl, HB1.out.trans (hW.mono HB1.out.size)⟩
theorem judgeFair_walk (fl le mo : Int) (a : Option Addr) (n c : Nat) (xs : List Dt) (a' : Option Addr) (m c' : Nat) (ys : List Dt) (w : World) (h1 : SliceFits Try.prog w 144 a n c xs) (h2 : SliceFits Try.prog w 129 a' m c' ys) :
    Calls Try.prog 13 #[.slice a n c, .slice a' m c', .int .i64 fl, .int .i64 le, .int .i64 mo] w fun e w' => e = .returned (.bool true) ∧ Below w.heap.size w w' := by
  obtain ⟨b, o, E, hf⟩ := flow_cells w h1
  obtain ⟨b', o', L, hs⟩ := sent_cells w h2
  exact judgeFair_any fl le mo a n c b o E a' m c' b' o' L w hf hs
end Go.Proofs.Ytninhjeiialbjaa
