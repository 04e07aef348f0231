/-
  PacketClasses, walked.
-/
import Derived.Test.YtpgpcgpecpimlaaPkg
namespace Go.Proofs.Ytpgpcgpecpimlaa
open Go.RowKit
set_option linter.unusedSimpArgs false
set_option linter.unusedVariables false

def lastI (L : List Nat) (k : Nat) : Int := if k = 0 then -1 else ((L.getD (k - 1) 0 : Nat) : Int)
theorem lastI_succ (L : List Nat) (k : Nat) : lastI L (k + 1) = ((L.getD k 0 : Nat) : Int) := by simp [lastI]
theorem lastI_lt {L : List Nat} (hL : L.Pairwise (· < ·)) {k : Nat} (hk : k < L.length) : lastI L k < ((L.getD k 0 : Nat) : Int) := by
  unfold lastI
  split
  · omega
  · have := List.pairwise_iff_getElem.1 hL (k - 1) k (by omega) hk (by omega)
    rw [List.getD_eq_getElem?_getD, List.getD_eq_getElem?_getD, List.getElem?_eq_getElem hk, List.getElem?_eq_getElem (by omega)]
    simpa using this
theorem lastI_bd (L : List Nat) (k : Nat) : -1 ≤ lastI L k := by unfold lastI; split <;> omega

set_option maxRecDepth 100000 in
set_option maxHeartbeats 8000000 in
theorem packetClasses_any (t c : Int) (a : Option Addr) (len cap b o : Nat) (E : Nat → FlowE) (w : World) (hs : FlowIn w a len cap b o E) :
    Calls Try.prog 9 #[.slice a len cap, .int .i64 t, .int .i64 c] w fun e w' => e = .returned (.bool true) ∧ Below w.heap.size w w' := by
  have hm := hs.max
  have hl := hs.le
  unfold maxLen at hm
  by_cases h60 : 60 < len
  · have d1 : decide ((60 : Int) < len) = true := by simp; omega
    clear hs
    go_enter Try.func9, Try.ntmps9
    go_wp2_with (go_at_call 33; refine (pwakes_any _).mono ?_; rintro e W ⟨rfl, hW⟩)
    go_ret
    exact ⟨rfl, hW⟩
  · have d1 : decide ((60 : Int) < len) = false := by simp; omega
    by_cases hc0 : c < 0
    · have d2 : decide (c < 0) = true := by simpa using hc0
      clear hs
      go_enter Try.func9, Try.ntmps9
      go_wp2_with (go_at_call 33; refine (pwakes_any _).mono ?_; rintro e W ⟨rfl, hW⟩)
      go_ret
      exact ⟨rfl, hW⟩
    · have d2 : decide (c < 0) = false := by simpa using hc0
      by_cases hc1 : 1099511627776 < c
      · have d3 : decide (1099511627776 < c) = true := by simpa using hc1
        clear hs
        go_enter Try.func9, Try.ntmps9
        go_wp2_with (go_at_call 33; refine (pwakes_any _).mono ?_; rintro e W ⟨rfl, hW⟩)
        go_ret
        exact ⟨rfl, hW⟩
      · have d3 : decide (1099511627776 < c) = false := by simpa using hc1
        have hcp : 0 ≤ c := by omega
        have hcm : c ≤ 1099511627776 := by omega
        have hpl := plcs_len t E len
        obtain ⟨L, hL⟩ : ∃ L, L = plcs t E len := ⟨_, rfl⟩
        obtain ⟨f, hf⟩ : ∃ f, f = L.length := ⟨_, rfl⟩
        have hfl : f ≤ len := by rw [hf, hL]; exact hpl
        have HS := Lib.hid hs
        have HL := Lib.hid hL
        have HF := Lib.hid hf
        have HUP : Hid (L.Pairwise (· < ·)) := Lib.hid (by rw [hL]; exact plcs_up t E len)
        have HME : Hid (∀ k, k < f → L.getD k 0 < len ∧ (E (L.getD k 0)).t = t) := Lib.hid (fun k hk => by
          have : L.getD k 0 ∈ plcs t E len := by
            rw [List.getD_eq_getElem?_getD, List.getElem?_eq_getElem (by omega), ← hL]
            exact List.getElem_mem _
          exact plcs_mem t E len _ this)
        have HCF : Hid (∀ (W : World) (M q : Int) (k : Nat), Below w.heap.size w W → k < f → M = q * f → 0 ≤ M → Calls Try.prog 34 #[.slice a len cap, .agg #[.int .i64 0, .int .i64 t, .int .i64 (M + k), .slice none 0 0]] W fun e w' => e = .returned (.tuple #[.int .i64 (L.getD k 0 : Nat), .int .i64 0]) ∧ Below W.heap.size W w') := Lib.hid (fun W M q k hB hk hM h0 => by
          have h := flow_any 0 t (M + k) none 0 0 a len cap b o E W (hs.below hB)
          obtain ⟨h1, h2⟩ := flow_at (t := t) (E := E) (len := len) (by rw [← hL, ← hf]) hk hM h0
          rw [h1, h2, ← hL] at h
          exact h)
        have HCE : Hid (∀ (W : World), Below w.heap.size w W → Calls Try.prog 34 #[.slice a len cap, .agg #[.int .i64 0, .int .i64 t, .int .i64 c, .slice none 0 0]] W fun e w' => ∃ k : Int, e = .returned (.tuple #[.int .i64 k, .int .i64 (if f = 0 then 161 else 0)]) ∧ Below W.heap.size W w') := Lib.hid (fun W hB => by
          have h := flow_any 0 t c none 0 0 a len cap b o E W (hs.below hB)
          have e2 : flowE t c E len = if f = 0 then 161 else 0 := by unfold flowE; rw [← hL, ← hf, if_neg hc0]
          rw [e2] at h
          exact h.mono fun e w' ⟨h1, h2⟩ => ⟨_, h1, h2⟩)
        clear hs hL hf hpl
        go_enter Try.func9, Try.ntmps9
        go_wp2_with fail
        go_loop [7, 31] (fun n i => ∃ k : Nat, k ≤ len ∧ i = .int .i64 k ∧ n = .int .i64 ((plcs t E k).length : Nat)) (fun _ i => len - (intOf i).toNat)
        case atStart => exact ⟨0, Nat.zero_le _, rfl, rfl⟩
        case round =>
          obtain ⟨k, hk, rfl, rfl⟩ := hrel
          have hpk := plcs_len t E k
          by_cases hlt : k < len
          · obtain ⟨e0, e1⟩ := HS.out.at_ (by omega)
            subst e0
            obtain ⟨k0, _, _⟩ := HS.out.cell k hlt
            obtain ⟨et, het⟩ : ∃ et, et = (E k).t := ⟨_, rfl⟩
            rw [← het] at k0
            obtain ⟨q, hq⟩ : ∃ q, q = (et == t) := ⟨_, rfl⟩
            have HT : Hid ((plcs t E (k + 1)).length = (plcs t E k).length + if q then 1 else 0) := Lib.hid (by
              rw [plcs, List.length_append, ← het, ← hq]
              cases q <;> rfl)
            have hq2 := hq.symm
            obtain ⟨m, hm2⟩ : ∃ m, m = (plcs t E k).length := ⟨_, rfl⟩
            rw [← hm2] at HT hpk ⊢
            clear hq het hm2
            cases q
            · go_wp2_with fail
              go_round
              case rel => exact ⟨k + 1, by omega, by go_num, by rw [HT.out]; rfl⟩
              case measure => first | (simp [intOf]; done) | (simp [intOf]; omega)
            · go_wp2_with fail
              go_round
              case rel => exact ⟨k + 1, by omega, by go_num, by rw [HT.out]; go_num⟩
              case measure => first | (simp [intOf]; done) | (simp [intOf]; omega)
          · obtain rfl : len = k := by omega
            have e9 : (plcs t E len).length = f := by rw [HF.out, HL.out]
            rw [e9]
            clear e9 hpk
            go_wp2_with fail
            go_loopw [9, 45] (fun l i wr => ∃ j : Nat, j ≤ f ∧ i = .int .i64 j ∧ l = .int .i64 (lastI L j) ∧ Below w.heap.size w wr) (fun _ i _ => f - (intOf i).toNat)
            case atStart => exact ⟨0, Nat.zero_le _, rfl, rfl, Below.refl _ _⟩
            case round =>
              obtain ⟨j, hj, rfl, rfl, hB⟩ := hrel
              have HB := Lib.hid hB
              clear hB
              by_cases hjf : j < f
              · obtain ⟨hy1, hy2⟩ := HME.out j hjf
                have hy3 : lastI L j < ((L.getD j 0 : Nat) : Int) := lastI_lt HUP.out (by rw [← HF.out]; exact hjf)
                have hy4 := lastI_bd L j
                have HLS := Lib.hid (lastI_succ L j)
                obtain ⟨ls, hls⟩ : ∃ ls, ls = lastI L j := ⟨_, rfl⟩
                obtain ⟨y, hy⟩ : ∃ y, y = L.getD j 0 := ⟨_, rfl⟩
                obtain ⟨q, hq⟩ : ∃ q, q = c / (f : Int) := ⟨_, rfl⟩
                obtain ⟨M, hM⟩ : ∃ M, M = q * (f : Int) := ⟨_, rfl⟩
                have hq0 : 0 ≤ q := by rw [hq]; exact Int.ediv_nonneg hcp (by omega)
                have hqc : q ≤ c := by rw [hq]; exact Int.ediv_le_self _ hcp
                have hM0 : 0 ≤ M := by rw [hM]; exact Int.mul_nonneg hq0 (by omega)
                have hMc : M ≤ c := by rw [hM, hq]; exact Int.ediv_mul_le _ (by omega)
                have HC1 : Hid (∀ (W : World), Below w.heap.size w W → Calls Try.prog 34 #[.slice a len cap, .agg #[.int .i64 0, .int .i64 t, .int .i64 (M + j), .slice none 0 0]] W fun e w' => e = .returned (.tuple #[.int .i64 (y : Nat), .int .i64 0]) ∧ Below W.heap.size W w') := Lib.hid (fun W h => by rw [hy]; exact HCF.out W M q j h hjf hM hM0)
                have HC2 : Hid (∀ (W : World), Below w.heap.size w W → Calls Try.prog 34 #[.slice a len cap, .agg #[.int .i64 0, .int .i64 t, .int .i64 (M + f + j), .slice none 0 0]] W fun e w' => e = .returned (.tuple #[.int .i64 (y : Nat), .int .i64 0]) ∧ Below W.heap.size W w') := Lib.hid (fun W h => by rw [hy]; exact HCF.out W (M + f) (q + 1) j h hjf (by rw [hM, Int.add_mul, Int.one_mul]) (by omega))
                rw [← hls, ← hy] at hy3
                rw [← hls] at hy4 ⊢
                rw [← hy] at hy1 hy2 HLS
                have hq' : c / (f : Int) = q := hq.symm
                have hM' : q * (f : Int) = M := hM.symm
                have b1 : decide ((y : Int) ≤ ls) = false := by simp; omega
                have b2 : decide ((len : Int) ≤ (y : Int)) = false := by simp; omega
                have i1 : (y : Int) < (len : Int) := by omega
                clear hls hy hq hM
                go_wp2_with fail
                go_at_call 34
                refine Calls.mono (HC1.out _ HB.out) ?_
                rintro e W1 ⟨rfl, hB1⟩
                have HB1 := Lib.hid (HB.out.trans (hB1.mono HB.out.size))
                clear hB1
                go_wp2_with fail
                go_at_call 34
                refine Calls.mono (HC2.out _ HB1.out) ?_
                rintro e W2 ⟨rfl, hB2⟩
                have HB2 := Lib.hid (HB1.out.trans (hB2.mono HB1.out.size))
                obtain ⟨e0, e1⟩ := HS.out.at_ (by omega)
                subst e0
                obtain ⟨k0, _, _⟩ := (HS.out.below HB2.out).cell y hy1
                rw [hy2] at k0
                clear hB2 hy2
                go_wp2_with fail
                go_roundw
                case rel => exact ⟨j + 1, by omega, by go_num, by rw [HLS.out], HB2.out⟩
                case measure => first | (simp [intOf]; done) | (simp [intOf]; omega)
              · obtain rfl : j = f := by omega
                go_wp2_with fail
                go_at_call 34
                refine Calls.mono (HCE.out _ HB.out) ?_
                rintro e W1 ⟨k9, rfl, hB1⟩
                have HB1 := Lib.hid (HB.out.trans (hB1.mono HB.out.size))
                clear hB1
                by_cases hz : j = 0
                · rw [if_pos hz]
                  subst hz
                  go_wp2_with (go_at_call 33; refine (pwakes_any _).mono ?_; rintro e W ⟨rfl, hW⟩)
                  go_ret
                  exact ⟨rfl, HB1.out.trans (hW.mono HB1.out.size)⟩
                · rw [if_neg hz]
                  have b1 : decide ((0 : Int) < (j : Int)) = true := by simp; omega
                  go_wp2_with (go_at_call 33; refine (pwakes_any _).mono ?_; rintro e W ⟨rfl, hW⟩)
                  go_ret
                  exact ⟨rfl, HB1.out.trans (hW.mono HB1.out.size)⟩
theorem packetClasses_walk (t c : Int) (a : Option Addr) (len cap : Nat) (xs : List Dt) (w : World) (h : SliceFits Try.prog w 58 a len cap xs) :
    Calls Try.prog 9 #[.slice a len cap, .int .i64 t, .int .i64 c] w fun e w' => e = .returned (.bool true) ∧ Below w.heap.size w w' := by
  obtain ⟨b, o, E, hs⟩ := flow_cells w h
  exact packetClasses_any t c a len cap b o E w hs
end Go.Proofs.Ytpgpcgpecpimlaa
