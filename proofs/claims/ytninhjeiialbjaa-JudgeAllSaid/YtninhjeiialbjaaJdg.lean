/-
  JudgeAll, walked.
-/
import Derived.Test.YtninhjeiialbjaaJdf
namespace Go.Proofs.Ytninhjeiialbjaa
open Go.RowKit
set_option linter.unusedSimpArgs false
set_option linter.unusedVariables false

theorem SentIn.pre {W : World} {a : Option Addr} {n c b o : Nat} {L : Nat → SentE} (h : SentIn W a n c b o L) (k : Nat) (hk : k ≤ n) : SentIn W a k c b o L :=
  ⟨by have := h.le; omega, h.max, fun h0 => h.at_ (by omega), fun j hj => h.cell j (by omega), fun j hj => h.bd j (by omega)⟩

set_option maxRecDepth 100000 in
set_option maxHeartbeats 16000000 in
theorem judgeAll_any (h T s t cu mo : Int) (a : Option Addr) (n c b o : Nat) (L : Nat → SentE) (a' : Option Addr) (m c' b' o' : Nat) (F : Nat → ForceE) (w : World) (h1 : SentIn w a n c b o L) (h2 : ForceIn w a' m c' b' o' F) (hh : h ≤ 9223372036854775807) (hmo : mo ≤ 9223372036854775807) :
    Calls Try.prog 12 #[.slice a n c, .slice a' m c', .int .i64 h, .int .i64 T, .int .i64 s, .int .i64 t, .int .i64 cu, .int .i64 mo] w fun e w' => e = .returned (.bool true) ∧ Below w.heap.size w w' := by
  have hm1 := h1.max
  have hl1 := h1.le
  have hm2 := h2.max
  have hl2 := h2.le
  unfold maxLen at hm1 hm2
  have HGR : Hid (∀ W, Calls Try.prog 48 #[.slice a n c, .slice a' m c'] W fun e w' => e = .returned (.bool (decide (60 < n) || decide (60 < m))) ∧ W = w') := Lib.hid (fun W => great_any a n c a' m c' W (by omega) (by omega))
  by_cases hbig : 60 < n ∨ 60 < m
  · have hG : (decide (60 < n) || decide (60 < m)) = true := by simpa using hbig
    rw [hG] at HGR
    clear hG h1 h2 hbig
    go_enter Try.func12, Try.ntmps12
    go_wp2_with (first
      | (go_at_call 48; refine (HGR.out _).mono ?_; rintro e W ⟨rfl, rfl⟩)
      | (go_at_call 49; refine (jwakes_any _).mono ?_; rintro e W ⟨rfl, hW⟩))
    go_ret
    exact ⟨rfl, hW⟩
  · have hG : (decide (60 < n) || decide (60 < m)) = false := by simp; omega
    rw [hG] at HGR
    have hn : n ≤ 60 := by omega
    have hm : m ≤ 60 := by omega
    have HK := Lib.hid (kept_any h a n c b o L a' m c' b' o' F w h1 h2 hn hm hh)
    have HS := Lib.hid h1
    have HF := Lib.hid h2
    clear hG h1 h2 hbig
    go_enter Try.func12, Try.ntmps12
    go_wp2_with (go_at_call 48; refine (HGR.out _).mono ?_; rintro e W ⟨rfl, rfl⟩)
    go_at_call 50
    refine Calls.mono HK.out ?_
    rintro e W1 ⟨hB1, ⟨_, rfl⟩ | ⟨hck, hnone, rfl⟩ | ⟨_, T9, k9, c9, _, _, _, _, rfl⟩⟩
    · have HB1 := Lib.hid hB1
      clear hB1
      go_wp2_with (go_at_call 49; refine (jwakes_any _).mono ?_; rintro e W ⟨rfl, hW⟩)
      go_ret
      exact ⟨rfl, HB1.out.trans (hW.mono HB1.out.size)⟩
    · obtain ⟨hcs, hcf⟩ := Bool.and_eq_true_iff.1 hck
      have hgood := good_of_none hcs hcf hnone
      have HB1 := Lib.hid hB1
      have HCS := Lib.hid hcs
      have HCF := Lib.hid hcf
      have HGO := Lib.hid hgood
      have HSP : Hid (∀ (W : World) (k : Nat), k ≤ n → Below w.heap.size w W → Calls Try.prog 50 #[.slice a k c, .slice a' m c', .int .i64 h] W fun e w' => e = .returned (.tuple #[.int .i64 0, .int .i64 0, .int .i64 0, .bool true, .int .i64 0]) ∧ Below W.heap.size W w') := Lib.hid (fun W k hk hW => kept_good h a k c b o L a' m c' b' o' F W ((HS.out.below hW).pre k hk) (HF.out.below hW) (by omega) hm hh (chkS_pre hcs k hk) hcf (hgood.pre hcs k hk))
      have HSM : Hid (h ≤ mo → ∀ (W : World), Below w.heap.size w W → Calls Try.prog 50 #[.slice a n c, .slice a' m c', .int .i64 mo] W fun e w' => e = .returned (.tuple #[.int .i64 0, .int .i64 0, .int .i64 0, .bool true, .int .i64 0]) ∧ Below W.heap.size W w') := Lib.hid (fun hmm W hW => kept_good mo a n c b o L a' m c' b' o' F W (HS.out.below hW) (HF.out.below hW) hn hm hmo hcs hcf (hgood.more hcf (by omega)))
      clear hB1 hck hnone hcs hcf hgood
      go_upto_region 6 with fail
      go_cut [87] (fun v W => v = .bool false ∧ Below w.heap.size w W)
      case first =>
        by_cases hc : 0 ≤ s ∧ s < t ∧ t ≤ 1099511627776 ∧ 1 ≤ T ∧ T ≤ 16
        · obtain ⟨y1, y2, y3, y4, y5⟩ := hc
          have hg := HGO.out T y4 y5 s t y1 y2 y3
          obtain ⟨o1, o2⟩ := outS_bd (T := T) (s := s) (t := t) HCS.out
          have HO : Hid (∀ (W : World), Below w.heap.size w W → Calls Try.prog 52 #[.slice a n c, .int .i64 T, .int .i64 s, .int .i64 t] W fun e w' => e = .returned (.int .i64 (outS L T s t n)) ∧ Below W.heap.size W w') := Lib.hid (fun W hW => out_any T s t a n c b o L W (HS.out.below hW) HCS.out hn)
          have HBO : Hid (∀ (W : World), Below w.heap.size w W → Calls Try.prog 53 #[.slice a' m c', .int .i64 T, .int .i64 s, .int .i64 t, .int .i64 h] W fun e w' => e = .returned (.int .i64 (boundC (spanC F T m).2 (spanC F T m).1 s t (s - max h 0))) ∧ Below W.heap.size W w') := Lib.hid (fun W hW => by
            have hb := bound_any T s t h a' m c' b' o' F W (HF.out.below hW) hm HCF.out y1 (by omega) (by omega) y3 hh
            rw [if_neg (by omega)] at hb
            exact hb)
          obtain ⟨X, hX⟩ : ∃ X, X = outS L T s t n := ⟨_, rfl⟩
          obtain ⟨Y, hY⟩ : ∃ Y, Y = boundC (spanC F T m).2 (spanC F T m).1 s t (s - max h 0) := ⟨_, rfl⟩
          rw [← hX] at HO hg o1 o2
          rw [← hY] at HBO hg
          have b9 : decide (Y < 1000 * X) = false := decide_eq_false (by omega)
          have o3 : X ≤ 90000 := by omega
          clear hX hY hg o2
          go_wp2_with fail
          go_at_call 52
          refine Calls.mono (HO.out _ HB1.out) ?_
          rintro e W2 ⟨rfl, hB2⟩
          have HB2 := Lib.hid (HB1.out.trans (hB2.mono HB1.out.size))
          clear hB2
          go_wp2_with fail
          go_at_call 53
          refine Calls.mono (HBO.out _ HB2.out) ?_
          rintro e W3 ⟨rfl, hB3⟩
          have HB3 := Lib.hid (HB2.out.trans (hB3.mono HB2.out.size))
          clear hB3
          go_wp2_with fail
          go_meet
          exact ⟨rfl, HB3.out⟩
        · have hcc : s < 0 ∨ (0 ≤ s ∧ t ≤ s) ∨ (0 ≤ s ∧ s < t ∧ 1099511627776 < t) ∨ (0 ≤ s ∧ s < t ∧ t ≤ 1099511627776 ∧ T < 1) ∨ (0 ≤ s ∧ s < t ∧ t ≤ 1099511627776 ∧ 1 ≤ T ∧ 16 < T) := by omega
          clear hc
          rcases hcc with y1 | ⟨y1, y2⟩ | ⟨y1, y2, y3⟩ | ⟨y1, y2, y3, y4⟩ | ⟨y1, y2, y3, y4, y5⟩
          all_goals
            go_wp2_with fail
            go_meet
            exact ⟨rfl, HB1.out⟩
      case rest =>
        obtain ⟨rfl, hB⟩ := hcut
        have HB := Lib.hid hB
        clear hB
        have hK : ∃ K : Nat, K ≤ n ∧ ((cu < 0 ∧ K = 0) ∨ (0 ≤ cu ∧ cu ≤ n ∧ cu = K) ∨ (n < cu ∧ K = n)) := by
          by_cases e1 : cu < 0
          · exact ⟨0, by omega, .inl ⟨e1, rfl⟩⟩
          · by_cases e2 : cu ≤ n
            · exact ⟨cu.toNat, by omega, .inr (.inl ⟨by omega, e2, by omega⟩)⟩
            · exact ⟨n, by omega, .inr (.inr ⟨by omega, rfl⟩)⟩
        obtain ⟨K, hK1, hK2⟩ := hK
        rcases hK2 with ⟨z1, rfl⟩ | ⟨z1, z2, rfl⟩ | ⟨z1, rfl⟩
        all_goals
          have HKP := Lib.hid (HSP.out wc _ hK1 HB.out)
          go_wp2_with fail
          go_at_call 50
          refine Calls.mono HKP.out ?_
          rintro e W2 ⟨rfl, hB2⟩
          have HB2 := Lib.hid (HB.out.trans (hB2.mono HB.out.size))
          clear hB2
          by_cases hmm : mo < h
          · have b9 : decide (mo < h) = true := decide_eq_true hmm
            go_wp2_with (go_at_call 49; refine (jwakes_any _).mono ?_; rintro e W ⟨rfl, hW⟩)
            go_ret
            exact ⟨rfl, HB2.out.trans (hW.mono HB2.out.size)⟩
          · have b9 : decide (mo < h) = false := decide_eq_false hmm
            have HKM := Lib.hid (HSM.out (by omega) W2 HB2.out)
            go_wp2_with fail
            go_at_call 50
            refine Calls.mono HKM.out ?_
            rintro e W3 ⟨rfl, hB3⟩
            have HB3 := Lib.hid (HB2.out.trans (hB3.mono HB2.out.size))
            clear hB3
            go_wp2_with (go_at_call 49; refine (jwakes_any _).mono ?_; rintro e W ⟨rfl, hW⟩)
            go_ret
            exact ⟨rfl, HB3.out.trans (hW.mono HB3.out.size)⟩
    · have HB1 := Lib.hid hB1
      clear hB1
      go_wp2_with (go_at_call 49; refine (jwakes_any _).mono ?_; rintro e W ⟨rfl, hW⟩)
      go_ret
      exact ⟨rfl, HB1.out.trans (hW.mono HB1.out.size)⟩
theorem judgeAll_walk (h T s t cu mo : Int) (a : Option Addr) (n c : Nat) (xs : List Dt) (a' : Option Addr) (m c' : Nat) (ys : List Dt) (w : World) (h1 : SliceFits Try.prog w 129 a n c xs) (h2 : SliceFits Try.prog w 127 a' m c' ys) (hh : -9223372036854775808 ≤ h ∧ h ≤ 9223372036854775807) (hmo : -9223372036854775808 ≤ mo ∧ mo ≤ 9223372036854775807) :
    Calls Try.prog 12 #[.slice a n c, .slice a' m c', .int .i64 h, .int .i64 T, .int .i64 s, .int .i64 t, .int .i64 cu, .int .i64 mo] w fun e w' => e = .returned (.bool true) ∧ Below w.heap.size w w' := by
  obtain ⟨b, o, L, hs⟩ := sent_cells w h1
  obtain ⟨b', o', F, hf⟩ := force_cells w h2
  exact judgeAll_any h T s t cu mo a n c b o L a' m c' b' o' F w hs hf hh.2 hmo.2
end Go.Proofs.Ytninhjeiialbjaa
