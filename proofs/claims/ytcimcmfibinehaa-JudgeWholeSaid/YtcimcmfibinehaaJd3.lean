/-
  Package judge: Check, the program's and the document's.
-/
import Derived.Test.YtcimcmfibinehaaJd2
namespace Go.Proofs.Ytcimcmfibinehaa
open Go.RowKit
set_option linter.unusedSimpArgs false
set_option linter.unusedVariables false

set_option maxRecDepth 100000 in
set_option maxHeartbeats 8000000 in
theorem check_any (a : Option Addr) (n c b o : Nat) (L : Nat → SentE) (a' : Option Addr) (m c' b' o' : Nat) (F : Nat → ForceE) (w : World) (h1 : SentIn w a n c b o L) (h2 : ForceIn w a' m c' b' o' F) :
    Calls Try.prog 17 #[.slice a n c, .slice a' m c'] w fun e w' => e = .returned (.bool (chkS L n && chkF F m)) ∧ Below w.heap.size w w' := by
  have hm1 := h1.max
  have hl1 := h1.le
  have hm2 := h2.max
  have hl2 := h2.le
  unfold maxLen at hm1 hm2
  have HS := Lib.hid h1
  have HF := Lib.hid h2
  obtain ⟨Q, hQ⟩ : ∃ Q, Q = (chkS L n && chkF F m) := ⟨_, rfl⟩
  have HQ := Lib.hid hQ
  rw [← hQ]
  clear h1 h2 hQ
  go_enter Try.func17, Try.ntmps17
  go_wp2_with fail
  go_loopw [5, 12] (fun l i wr => ∃ k : Nat, k ≤ n ∧ i = .int .i64 k ∧ l = .int .i64 (lastS L k) ∧ chkS L k = true ∧ Below w.heap.size w wr) (fun _ i _ => n - (intOf i).toNat)
  case atStart => exact ⟨0, Nat.zero_le _, rfl, rfl, rfl, Below.refl _ _⟩
  case round =>
    obtain ⟨k, hk, rfl, rfl, hch, hB⟩ := hrel
    have HB := Lib.hid hB
    have HCH := Lib.hid hch
    clear hB hch
    by_cases hlt : k < n
    · obtain ⟨e0, e1⟩ := HS.out.at_ (by omega)
      subst e0
      obtain ⟨c0, c1, c2, c3, c4, c5⟩ := (HS.out.below HB.out).cell k hlt
      have HBA : Hid (∀ o, Below w.heap.size w (wr.alloc o)) := Lib.hid (fun o => HB.out.alloc HB.out.size o)
      have HLS := Lib.hid (lastS_succ L k)
      obtain ⟨ls, hls⟩ : ∃ ls, ls = lastS L k := ⟨_, rfl⟩
      cases hok : sentOk (lastS L k) (L k)
      · have HQ2 : Hid (Q = false) := Lib.hid (by rw [HQ.out, chkS_false hok n hlt, Bool.false_and])
        have hc := sentOk_no hok
        rw [← hls] at hc ⊢
        clear hok hls
        rcases hc with d1 | ⟨d1, d2⟩ | ⟨d1, d2, d3⟩ | ⟨d1, d2, d3, d4⟩ | ⟨d1, d2, d3, d4, d5⟩
        all_goals
          try have HD5 := Lib.hid d5
          try clear d5
          go_wp2_with (go_at_call 29; refine (isTenant_any _ _).mono ?_; rw [HD5.out]; rintro e W ⟨rfl, rfl⟩)
          go_ret
          exact ⟨by rw [HQ2.out]; rfl, HBA.out _⟩
      · obtain ⟨d1, d2, d3, d4, d5⟩ := sentOk_yes hok
        have HCH2 : Hid (chkS L (k + 1) = true) := Lib.hid (by unfold chkS; rw [HCH.out, hok]; rfl)
        have HD5 := Lib.hid d5
        rw [← hls] at d1 ⊢
        clear hok hls d5
        go_wp2_with (go_at_call 29; refine (isTenant_any _ _).mono ?_; rw [HD5.out]; rintro e W ⟨rfl, rfl⟩)
        go_roundw
        case rel => exact ⟨k + 1, by omega, by go_num, by rw [HLS.out], HCH2.out, HBA.out _⟩
        case measure => first | (simp [intOf]; done) | (simp [intOf]; omega)
    · obtain rfl : k = n := by omega
      have HQ3 : Hid (Q = chkF F m) := Lib.hid (by rw [HQ.out, HCH.out, Bool.true_and])
      go_wp2_with fail
      go_loopw [5, 46] (fun l i wr => ∃ k : Nat, k ≤ m ∧ i = .int .i64 k ∧ l = .int .i64 (lastF F k) ∧ chkF F k = true ∧ Below w.heap.size w wr) (fun _ i _ => m - (intOf i).toNat)
      case atStart => exact ⟨0, Nat.zero_le _, rfl, rfl, rfl, HB.out⟩
      case round =>
        clear HB HCH
        obtain ⟨j, hj, rfl, rfl, hch, hB⟩ := hrel
        have HB := Lib.hid hB
        have HCH := Lib.hid hch
        clear hB hch
        by_cases hlt2 : j < m
        · obtain ⟨e0, e1⟩ := HF.out.at_ (by omega)
          subst e0
          obtain ⟨c0, c1, c2, c3⟩ := (HF.out.below HB.out).cell j hlt2
          have HBA : Hid (∀ o, Below w.heap.size w (wr.alloc o)) := Lib.hid (fun o => HB.out.alloc HB.out.size o)
          have HLS := Lib.hid (lastF_succ F j)
          obtain ⟨ls, hls⟩ : ∃ ls, ls = lastF F j := ⟨_, rfl⟩
          cases hok : forceOk (lastF F j) (F j)
          · have HQ2 : Hid (Q = false) := Lib.hid (by rw [HQ3.out, chkF_false hok m hlt2])
            have hc := forceOk_no hok
            rw [← hls] at hc ⊢
            clear hok hls
            rcases hc with d1 | ⟨d1, d2⟩ | ⟨d1, d2, d5⟩ | ⟨d1, d2, d5, d6⟩
            all_goals
              try have HD5 := Lib.hid d5
              try have HD6 := Lib.hid d6
              try clear d5
              try clear d6
              go_wp2_with (first
                | (go_at_call 29; refine (isTenant_any _ _).mono ?_; rw [HD5.out]; rintro e W ⟨rfl, rfl⟩)
                | (go_at_call 30; refine (may_any _ _ _).mono ?_; rw [HD6.out]; rintro e W ⟨rfl, rfl⟩))
              go_ret
              exact ⟨by rw [HQ2.out]; rfl, HBA.out _⟩
          · obtain ⟨d1, d2, d5, d6⟩ := forceOk_yes hok
            have HCH2 : Hid (chkF F (j + 1) = true) := Lib.hid (by unfold chkF; rw [HCH.out, hok]; rfl)
            have HD5 := Lib.hid d5
            have HD6 := Lib.hid d6
            rw [← hls] at d1 ⊢
            clear hok hls d5 d6
            go_wp2_with (first
              | (go_at_call 29; refine (isTenant_any _ _).mono ?_; rw [HD5.out]; rintro e W ⟨rfl, rfl⟩)
              | (go_at_call 30; refine (may_any _ _ _).mono ?_; rw [HD6.out]; rintro e W ⟨rfl, rfl⟩))
            go_roundw
            case rel => exact ⟨j + 1, by omega, by go_num, by rw [HLS.out], HCH2.out, HBA.out _⟩
            case measure => first | (simp [intOf]; done) | (simp [intOf]; omega)
        · obtain rfl : j = m := by omega
          have HQ4 : Hid (Q = true) := Lib.hid (by rw [HQ3.out, HCH.out])
          go_wp2_with fail
          go_ret
          exact ⟨by rw [HQ4.out]; rfl, HB.out⟩
end Go.Proofs.Ytcimcmfibinehaa
