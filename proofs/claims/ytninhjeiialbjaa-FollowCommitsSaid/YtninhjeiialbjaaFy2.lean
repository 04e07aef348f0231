/-
  The law FollowCounts, walked.
-/
import Derived.Test.YtninhjeiialbjaaFy1
namespace Go.Proofs.Ytninhjeiialbjaa
open Go.RowKit
set_option linter.unusedSimpArgs false
set_option linter.unusedVariables false

theorem commit_any (base term : Int) (a : Option Addr) (len cap b o : Nat) (E : Nat → Ent) (set self t commit : Int) (pa : Option Addr) (pn pc pb po : Nat) (P : Nat → PgE) (w : World) (hs : EntsIn w a len cap b o E) (hp : PgIn w pa pn pc pb po P) (h0 : 0 ≤ set) (h1 : set ≤ 255) (hk : rowsB base term len E = true) :
    ∃ n e : Int, (∀ W, Below w.heap.size w W → Calls Try.prog 26 #[.agg #[.int .i64 base, .int .i64 term, .slice a len cap], .int .u8 set, .int .i64 self, .int .i64 t, .int .i64 commit, .slice pa pn pc] W fun e' w' => e' = .returned (.tuple #[.int .i64 n, .int .i64 e]) ∧ Below W.heap.size W w') ∧
      (e = 2 ∨ (e = 0 ∧ commit ≤ n ∧ n ≤ base + len ∧ (n = commit ∨ (commit < n ∧ ∃ j, j < len ∧ n = base + ((j + 1 : Nat) : Int) ∧ (E j).t = t ∧ 0 < (memF set 7).length ∧ n ≤ reachI (matL P pn self (base + len) (memF set 7)))))) := by
  obtain ⟨b0, b1, h4, t0⟩ := rB_head hk
  by_cases hc : commit < 0 ∨ base + len < commit ∨ t < 1 ∨ (memF set 7).length = 0
  · refine ⟨0, 2, fun W h => commit_arg base term a len cap b o E set self t commit pa pn pc W (hs.below h) h0 h1 hk ?_, .inl rfl⟩
    omega
  · obtain ⟨mv, hmv⟩ : ∃ mv, mv = madeI base E t (min (base + len) (reachI (matL P pn self (base + len) (memF set 7))) - base).toNat := ⟨_, rfl⟩
    refine ⟨max commit mv, 0, fun W h => by rw [hmv]; exact commit_ok base term a len cap b o E set self t commit pa pn pc pb po P W (hs.below h) (hp.below h) h0 h1 hk (by omega), .inr ⟨rfl, by omega, ?_⟩⟩
    rcases madeI_cases base E t (min (base + len) (reachI (matL P pn self (base + len) (memF set 7))) - base).toNat with h | ⟨j, h1, h2, h3⟩
    · rw [← hmv] at h
      exact ⟨by omega, .inl (by omega)⟩
    · rw [← hmv] at h2
      refine ⟨by omega, ?_⟩
      by_cases hle : mv ≤ commit
      · exact .inl (by omega)
      · exact .inr ⟨by omega, j, by omega, by omega, h3, by omega, by omega⟩

/-- is one at that index, by what is told of it? -/
def hasI2 (P : Nat → PgE) (pn : Nat) (self n : Int) (k : Nat) : Bool := ((k : Int) == self) || decide (n ≤ (foundE P k pn).match_)
theorem has_count (P : Nat → PgE) (pn : Nat) (self n la : Int) (L : List Nat) (hn : n ≤ la) : (matL P pn self la L).countP (fun x => decide (n ≤ x)) = L.countP (hasI2 P pn self n) := by
  unfold matL
  rw [List.countP_map]
  congr 1
  funext k
  rw [Bool.eq_iff_iff]
  simp only [Function.comp, decide_eq_true_eq, hasI2, Bool.or_eq_true, beq_iff_eq]
  unfold matV
  split
  · next h => exact ⟨fun _ => .inl h, fun _ => hn⟩
  · next h => exact ⟨fun x => .inr x, fun x => x.resolve_left h⟩

set_option maxRecDepth 100000 in
set_option maxHeartbeats 20000000 in
theorem counts_any (base term : Int) (a : Option Addr) (len cap b o : Nat) (E : Nat → Ent) (set self t commit : Int) (pa : Option Addr) (pn pc pb po : Nat) (P : Nat → PgE) (w : World) (hs : EntsIn w a len cap b o E) (hp : PgIn w pa pn pc pb po P) (h0 : 0 ≤ set) (h1 : set ≤ 255) :
    Calls Try.prog 6 #[.agg #[.int .i64 base, .int .i64 term, .slice a len cap], .int .u8 set, .int .i64 self, .int .i64 t, .int .i64 commit, .slice pa pn pc] w fun e w' => e = .returned (.bool true) ∧ Below w.heap.size w w' := by
  have hm := hp.max
  have hl := hp.le
  unfold maxLen at hm
  have CUR := Lib.hid (RBox.mk0 w base term (.slice a len cap))
  have HG := Lib.hid (fun W (h : Below w.heap.size w W) => great_any base term a len cap b o E W (hs.below h))
  have CC := Lib.hid (fun W (h : Below w.heap.size w W) => rcheck_any base term a len cap b o E W (hs.below h))
  obtain ⟨⟨f0, f1, f2⟩, f3, _⟩ := id CUR.out
  have HS := Lib.hid hs
  have HP := Lib.hid hp
  clear hs hp
  go_enter Try.func6, Try.ntmps6
  go_wp2_with fail
  go_at_call 15
  refine (HG.out _ CUR.out.2.2).mono ?_
  rintro e W2 ⟨g, rfl, hB2⟩
  have C2 := Lib.hid (CUR.out.step hB2)
  clear hB2 f0 f1 f2 f3 HG CUR
  obtain ⟨⟨f0, f1, f2⟩, f3, _⟩ := id C2.out
  cases g
  · by_cases hn : 100 < pn
    · go_wp2_with fail
      go_at_call 16
      refine (wwakes_any _).mono ?_
      rintro e WK ⟨rfl, hWK⟩
      have HK := Lib.hid (C2.out.step hWK)
      clear hWK
      go_wp2_with fail
      go_ret
      exact ⟨rfl, HK.out.2.2⟩
    · go_wp2_with fail
      go_at_call 31
      refine (CC.out _ C2.out.2.2).mono ?_
      rintro e W3 ⟨rfl, hW3⟩
      have C3 := Lib.hid (C2.out.step hW3)
      clear hW3 f0 f1 f2 f3 CC
      obtain ⟨⟨f0, f1, f2⟩, f3, _⟩ := id C3.out
      cases hk : rowsB base term len E with
      | false =>
        rw [rE_bad hk]
        go_wp2_with fail
        go_at_call 16
        refine (wwakes_any _).mono ?_
        rintro e WK ⟨rfl, hWK⟩
        have HK := Lib.hid (C3.out.step hWK)
        clear hWK
        go_wp2_with fail
        go_ret
        exact ⟨rfl, HK.out.2.2⟩
      | true =>
        rw [rE_ok hk]
        obtain ⟨b0, b1, h4, t0⟩ := rB_head hk
        obtain ⟨n, er, hcm, hfacts⟩ := commit_any base term a len cap b o E set self t commit pa pn pc pb po P w HS.out HP.out h0 h1 hk
        have HCM := Lib.hid hcm
        have CL := Lib.hid (fun W (h : Below w.heap.size w W) => rlast_ok base term a len cap b o E W (HS.out.below h) hk)
        have CT := Lib.hid (fun j W (h : Below w.heap.size w W) (hj : j < len) => rterm_ok base term j a len cap b o E W (HS.out.below h) hk hj)
        have CF := Lib.hid (fun k W (h : Below w.heap.size w W) => rfind_any k pa pn pc pb po P W (HP.out.below h))
        obtain ⟨lt, hlt⟩ : ∃ lt, lt = lastT term len E := ⟨_, rfl⟩
        rw [← hlt] at CL
        obtain ⟨la, hla⟩ : ∃ la, la = base + (len : Int) := ⟨_, rfl⟩
        rw [← hla] at CL hfacts
        have hla1 : 0 ≤ la := by omega
        have hla2 : la ≤ 1099511627776 := by omega
        have HFA := Lib.hid hfacts
        clear hcm hlt hla hk hfacts HS HP
        go_wp2_with fail
        go_at_call 26
        refine (HCM.out _ C3.out.2.2).mono ?_
        rintro e W4 ⟨rfl, hW4⟩
        have C4 := Lib.hid (C3.out.step hW4)
        clear hW4 f0 f1 f2 f3 HCM
        rcases HFA.out with rfl | ⟨rfl, n1, n2, hcase⟩
        · go_wp2_with fail
          go_at_call 16
          refine (wwakes_any _).mono ?_
          rintro e WK ⟨rfl, hWK⟩
          have HK := Lib.hid (C4.out.step hWK)
          clear hWK
          go_wp2_with fail
          go_ret
          exact ⟨rfl, HK.out.2.2⟩
        · obtain ⟨⟨f0, f1, f2⟩, f3, _⟩ := id C4.out
          go_wp2_with fail
          go_at_call 32
          refine (CL.out _ C4.out.2.2).mono ?_
          rintro e W5 ⟨rfl, hW5⟩
          have C5 := Lib.hid (C4.out.step hW5)
          clear hW5 f0 f1 f2 f3 CL
          have d1 : decide (n < commit) = false := by simp; omega
          have d2 : decide (la < n) = false := by simp; omega
          rcases hcase with rfl | ⟨n3, j, hj, hnj, htj, hL0, hrc⟩
          · go_wp2_with fail
            go_at_call 16
            refine (wwakes_any _).mono ?_
            rintro e WK ⟨rfl, hWK⟩
            have HK := Lib.hid (C5.out.step hWK)
            clear hWK
            go_wp2_with fail
            go_ret
            exact ⟨rfl, HK.out.2.2⟩
          · have d3 : (n == commit) = false := by rw [beq_eq_false_iff_ne]; omega
            have hmaj := reach_count _ n (by unfold matL; rw [List.length_map]; exact hL0) hrc
            rw [has_count P pn self n la _ n2] at hmaj
            unfold matL at hmaj
            rw [List.length_map] at hmaj
            have HMAJ := Lib.hid hmaj
            have HCT := Lib.hid (CT.out j)
            rw [← hnj, htj] at HCT
            obtain ⟨⟨f0, f1, f2⟩, f3, _⟩ := id C5.out
            clear hrc hL0 hmaj hnj htj CT HFA n1
            go_wp2_with fail
            go_at_call 33
            refine (HCT.out _ C5.out.2.2 hj).mono ?_
            rintro e W6 ⟨rfl, hW6⟩
            have C6 := Lib.hid (C5.out.step hW6)
            clear hW6 f0 f1 f2 f3 HCT
            obtain ⟨f, hf⟩ : ∃ f, f = hasI2 P pn self n := ⟨_, rfl⟩
            rw [← hf] at HMAJ
            have HFD := Lib.hid hf
            clear hf C2 C3 C4 C5
            go_wp2_with fail
            go_loopw [19, 20, 21] (fun vy va vi wr => ∃ k : Nat, k ≤ 7 ∧ vi = .int .i64 ((k + 1 : Nat) : Int) ∧ vy = .int .i64 (((memF set k).countP f : Nat) : Int) ∧ va = .int .i64 (((memF set k).length : Nat) : Int) ∧ Below w.heap.size w wr) (fun _ _ vi _ => 8 - (intOf vi).toNat)
            case atStart => exact ⟨0, by omega, rfl, rfl, rfl, C6.out.2.2⟩
            case round =>
              obtain ⟨k, hk7, rfl, rfl, rfl, hB⟩ := hrel
              have HB := Lib.hid hB
              clear hB
              by_cases hlt : k < 7
              · have hstep : memF set (k + 1) = memF set k ++ if bitB set k = true then [k + 1] else [] := rfl
                have hfk : f (k + 1) = (((k + 1 : Nat) : Int) == self || decide (n ≤ (foundE P ((k + 1 : Nat) : Int) pn).match_)) := by rw [HFD.out]; rfl
                have HF1 := Lib.hid (CF.out ((k + 1 : Nat) : Int))
                obtain ⟨fe, hfe⟩ : ∃ fe, fe = foundE P ((k + 1 : Nat) : Int) pn := ⟨_, rfl⟩
                obtain ⟨fb, hfb⟩ : ∃ fb, fb = foundB P ((k + 1 : Nat) : Int) pn := ⟨_, rfl⟩
                rw [← hfe] at hfk HF1
                rw [← hfb] at HF1
                obtain ⟨fn, fm, fx⟩ := fe
                simp only at hfk HF1
                have hy := List.countP_le_length (p := f) (l := memF set k)
                have hl7 := memF_len set k
                obtain ⟨y, hyy⟩ : ∃ y, y = (memF set k).countP f := ⟨_, rfl⟩
                obtain ⟨z, hzz⟩ : ∃ z, z = (memF set k).length := ⟨_, rfl⟩
                have hcnt : (memF set (k + 1)).countP f = y + if bitB set k = true ∧ f (k + 1) = true then 1 else 0 := by
                  rw [hstep, List.countP_append, hyy]
                  cases hb : bitB set k
                  · simp
                  · cases hf2 : f (k + 1) <;> simp [hf2]
                have hlen : (memF set (k + 1)).length = z + if bitB set k = true then 1 else 0 := by
                  rw [hstep, List.length_append, hzz]
                  cases hb : bitB set k <;> simp
                rw [← hyy, ← hzz] at hy
                rw [← hzz] at hl7
                rw [← hyy, ← hzz]
                have HCN := Lib.hid hcnt
                have HLN := Lib.hid hlen
                have HFK := Lib.hid hfk
                clear hstep hfk hfe hfb hyy hzz hcnt hlen
                have hcs : k = 0 ∨ k = 1 ∨ k = 2 ∨ k = 3 ∨ k = 4 ∨ k = 5 ∨ k = 6 := by omega
                rcases hcs with rfl | rfl | rfl | rfl | rfl | rfl | rfl
                · have hnb := nb0 set h0 h1
                  cases hb : bitB set 0 with
                  | false =>
                    have e1 := HCN.out
                    have e2 := HLN.out
                    rw [if_neg (fun h => by rw [hb] at h; cases h.1)] at e1
                    rw [if_neg (fun h => by rw [hb] at h; cases h)] at e2
                    have E1 := Lib.hid e1
                    have E2 := Lib.hid e2
                    have d5 : (bits .and .u8 set 1 == 0) = true := by rw [hnb, hb]; rfl
                    clear e1 e2 hnb hb
                    go_wp2_with fail
                    go_roundw
                    case rel => exact ⟨0 + 1, by omega, by go_num, by rw [E1.out]; go_num, by rw [E2.out]; go_num, HB.out⟩
                    case measure => simp [intOf]
                  | true =>
                    have e2 := HLN.out
                    rw [if_pos hb] at e2
                    have E2 := Lib.hid e2
                    have d5 : (bits .and .u8 set 1 == 0) = false := by rw [hnb, hb]; rfl
                    cases hf2 : f (0 + 1) with
                    | false =>
                      have e1 := HCN.out
                      rw [if_neg (fun h => by rw [hf2] at h; cases h.2)] at e1
                      have E1 := Lib.hid e1
                      have h8 := HFK.out
                      rw [hf2] at h8
                      have d6 : ((1 : Int) == self) = false := by
                        cases h : ((1 : Int) == self)
                        · rfl
                        · rw [show ((0 + 1 : Nat) : Int) = 1 from rfl, h] at h8; cases h8
                      have d7 : decide (n ≤ fm) = false := by
                        cases h : decide (n ≤ fm)
                        · rfl
                        · rw [h, Bool.or_true] at h8; cases h8
                      clear e1 e2 hnb hb hf2 h8
                      go_wp2_with fail
                      go_at_call 18
                      refine (HF1.out _ HB.out).mono ?_
                      rintro e W7 ⟨rfl, hW7⟩
                      have HB7 := Lib.hid (HB.out.trans (hW7.mono HB.out.size))
                      clear hW7
                      go_wp2_with fail
                      go_roundw
                      case rel => exact ⟨0 + 1, by omega, by go_num, by rw [E1.out]; go_num, by rw [E2.out]; go_num, HB7.out.alloc HB7.out.size _⟩
                      case measure => simp [intOf]
                    | true =>
                      have e1 := HCN.out
                      rw [if_pos ⟨hb, hf2⟩] at e1
                      have E1 := Lib.hid e1
                      have h8 := HFK.out
                      rw [hf2] at h8
                      have h9 : ((1 : Int) == self) = true ∨ (((1 : Int) == self) = false ∧ decide (n ≤ fm) = true) := by
                        rw [show ((0 + 1 : Nat) : Int) = 1 from rfl] at h8
                        cases h : ((1 : Int) == self)
                        · rw [h, Bool.false_or] at h8; exact .inr ⟨rfl, h8.symm⟩
                        · exact .inl rfl
                      clear e1 e2 hnb hb hf2 h8
                      rcases h9 with d6 | ⟨d6, d7⟩
                      all_goals
                        go_wp2_with fail
                        go_at_call 18
                        refine (HF1.out _ HB.out).mono ?_
                        rintro e W7 ⟨rfl, hW7⟩
                        have HB7 := Lib.hid (HB.out.trans (hW7.mono HB.out.size))
                        clear hW7
                        go_wp2_with fail
                        go_roundw
                        case rel => exact ⟨0 + 1, by omega, by go_num, by rw [E1.out]; go_num, by rw [E2.out]; go_num, HB7.out.alloc HB7.out.size _⟩
                        case measure => simp [intOf]
                · have hnb := nb1 set h0 h1
                  cases hb : bitB set 1 with
                  | false =>
                    have e1 := HCN.out
                    have e2 := HLN.out
                    rw [if_neg (fun h => by rw [hb] at h; cases h.1)] at e1
                    rw [if_neg (fun h => by rw [hb] at h; cases h)] at e2
                    have E1 := Lib.hid e1
                    have E2 := Lib.hid e2
                    have d5 : (bits .and .u8 (set / 2) 1 == 0) = true := by rw [hnb, hb]; rfl
                    clear e1 e2 hnb hb
                    go_wp2_with fail
                    go_roundw
                    case rel => exact ⟨1 + 1, by omega, by go_num, by rw [E1.out]; go_num, by rw [E2.out]; go_num, HB.out⟩
                    case measure => simp [intOf]
                  | true =>
                    have e2 := HLN.out
                    rw [if_pos hb] at e2
                    have E2 := Lib.hid e2
                    have d5 : (bits .and .u8 (set / 2) 1 == 0) = false := by rw [hnb, hb]; rfl
                    cases hf2 : f (1 + 1) with
                    | false =>
                      have e1 := HCN.out
                      rw [if_neg (fun h => by rw [hf2] at h; cases h.2)] at e1
                      have E1 := Lib.hid e1
                      have h8 := HFK.out
                      rw [hf2] at h8
                      have d6 : ((2 : Int) == self) = false := by
                        cases h : ((2 : Int) == self)
                        · rfl
                        · rw [show ((1 + 1 : Nat) : Int) = 2 from rfl, h] at h8; cases h8
                      have d7 : decide (n ≤ fm) = false := by
                        cases h : decide (n ≤ fm)
                        · rfl
                        · rw [h, Bool.or_true] at h8; cases h8
                      clear e1 e2 hnb hb hf2 h8
                      go_wp2_with fail
                      go_at_call 18
                      refine (HF1.out _ HB.out).mono ?_
                      rintro e W7 ⟨rfl, hW7⟩
                      have HB7 := Lib.hid (HB.out.trans (hW7.mono HB.out.size))
                      clear hW7
                      go_wp2_with fail
                      go_roundw
                      case rel => exact ⟨1 + 1, by omega, by go_num, by rw [E1.out]; go_num, by rw [E2.out]; go_num, HB7.out.alloc HB7.out.size _⟩
                      case measure => simp [intOf]
                    | true =>
                      have e1 := HCN.out
                      rw [if_pos ⟨hb, hf2⟩] at e1
                      have E1 := Lib.hid e1
                      have h8 := HFK.out
                      rw [hf2] at h8
                      have h9 : ((2 : Int) == self) = true ∨ (((2 : Int) == self) = false ∧ decide (n ≤ fm) = true) := by
                        rw [show ((1 + 1 : Nat) : Int) = 2 from rfl] at h8
                        cases h : ((2 : Int) == self)
                        · rw [h, Bool.false_or] at h8; exact .inr ⟨rfl, h8.symm⟩
                        · exact .inl rfl
                      clear e1 e2 hnb hb hf2 h8
                      rcases h9 with d6 | ⟨d6, d7⟩
                      all_goals
                        go_wp2_with fail
                        go_at_call 18
                        refine (HF1.out _ HB.out).mono ?_
                        rintro e W7 ⟨rfl, hW7⟩
                        have HB7 := Lib.hid (HB.out.trans (hW7.mono HB.out.size))
                        clear hW7
                        go_wp2_with fail
                        go_roundw
                        case rel => exact ⟨1 + 1, by omega, by go_num, by rw [E1.out]; go_num, by rw [E2.out]; go_num, HB7.out.alloc HB7.out.size _⟩
                        case measure => simp [intOf]
                · have hnb := nb2 set h0 h1
                  cases hb : bitB set 2 with
                  | false =>
                    have e1 := HCN.out
                    have e2 := HLN.out
                    rw [if_neg (fun h => by rw [hb] at h; cases h.1)] at e1
                    rw [if_neg (fun h => by rw [hb] at h; cases h)] at e2
                    have E1 := Lib.hid e1
                    have E2 := Lib.hid e2
                    have d5 : (bits .and .u8 (set / 4) 1 == 0) = true := by rw [hnb, hb]; rfl
                    clear e1 e2 hnb hb
                    go_wp2_with fail
                    go_roundw
                    case rel => exact ⟨2 + 1, by omega, by go_num, by rw [E1.out]; go_num, by rw [E2.out]; go_num, HB.out⟩
                    case measure => simp [intOf]
                  | true =>
                    have e2 := HLN.out
                    rw [if_pos hb] at e2
                    have E2 := Lib.hid e2
                    have d5 : (bits .and .u8 (set / 4) 1 == 0) = false := by rw [hnb, hb]; rfl
                    cases hf2 : f (2 + 1) with
                    | false =>
                      have e1 := HCN.out
                      rw [if_neg (fun h => by rw [hf2] at h; cases h.2)] at e1
                      have E1 := Lib.hid e1
                      have h8 := HFK.out
                      rw [hf2] at h8
                      have d6 : ((3 : Int) == self) = false := by
                        cases h : ((3 : Int) == self)
                        · rfl
                        · rw [show ((2 + 1 : Nat) : Int) = 3 from rfl, h] at h8; cases h8
                      have d7 : decide (n ≤ fm) = false := by
                        cases h : decide (n ≤ fm)
                        · rfl
                        · rw [h, Bool.or_true] at h8; cases h8
                      clear e1 e2 hnb hb hf2 h8
                      go_wp2_with fail
                      go_at_call 18
                      refine (HF1.out _ HB.out).mono ?_
                      rintro e W7 ⟨rfl, hW7⟩
                      have HB7 := Lib.hid (HB.out.trans (hW7.mono HB.out.size))
                      clear hW7
                      go_wp2_with fail
                      go_roundw
                      case rel => exact ⟨2 + 1, by omega, by go_num, by rw [E1.out]; go_num, by rw [E2.out]; go_num, HB7.out.alloc HB7.out.size _⟩
                      case measure => simp [intOf]
                    | true =>
                      have e1 := HCN.out
                      rw [if_pos ⟨hb, hf2⟩] at e1
                      have E1 := Lib.hid e1
                      have h8 := HFK.out
                      rw [hf2] at h8
                      have h9 : ((3 : Int) == self) = true ∨ (((3 : Int) == self) = false ∧ decide (n ≤ fm) = true) := by
                        rw [show ((2 + 1 : Nat) : Int) = 3 from rfl] at h8
                        cases h : ((3 : Int) == self)
                        · rw [h, Bool.false_or] at h8; exact .inr ⟨rfl, h8.symm⟩
                        · exact .inl rfl
                      clear e1 e2 hnb hb hf2 h8
                      rcases h9 with d6 | ⟨d6, d7⟩
                      all_goals
                        go_wp2_with fail
                        go_at_call 18
                        refine (HF1.out _ HB.out).mono ?_
                        rintro e W7 ⟨rfl, hW7⟩
                        have HB7 := Lib.hid (HB.out.trans (hW7.mono HB.out.size))
                        clear hW7
                        go_wp2_with fail
                        go_roundw
                        case rel => exact ⟨2 + 1, by omega, by go_num, by rw [E1.out]; go_num, by rw [E2.out]; go_num, HB7.out.alloc HB7.out.size _⟩
                        case measure => simp [intOf]
                · have hnb := nb3 set h0 h1
                  cases hb : bitB set 3 with
                  | false =>
                    have e1 := HCN.out
                    have e2 := HLN.out
                    rw [if_neg (fun h => by rw [hb] at h; cases h.1)] at e1
                    rw [if_neg (fun h => by rw [hb] at h; cases h)] at e2
                    have E1 := Lib.hid e1
                    have E2 := Lib.hid e2
                    have d5 : (bits .and .u8 (set / 8) 1 == 0) = true := by rw [hnb, hb]; rfl
                    clear e1 e2 hnb hb
                    go_wp2_with fail
                    go_roundw
                    case rel => exact ⟨3 + 1, by omega, by go_num, by rw [E1.out]; go_num, by rw [E2.out]; go_num, HB.out⟩
                    case measure => simp [intOf]
                  | true =>
                    have e2 := HLN.out
                    rw [if_pos hb] at e2
                    have E2 := Lib.hid e2
                    have d5 : (bits .and .u8 (set / 8) 1 == 0) = false := by rw [hnb, hb]; rfl
                    cases hf2 : f (3 + 1) with
                    | false =>
                      have e1 := HCN.out
                      rw [if_neg (fun h => by rw [hf2] at h; cases h.2)] at e1
                      have E1 := Lib.hid e1
                      have h8 := HFK.out
                      rw [hf2] at h8
                      have d6 : ((4 : Int) == self) = false := by
                        cases h : ((4 : Int) == self)
                        · rfl
                        · rw [show ((3 + 1 : Nat) : Int) = 4 from rfl, h] at h8; cases h8
                      have d7 : decide (n ≤ fm) = false := by
                        cases h : decide (n ≤ fm)
                        · rfl
                        · rw [h, Bool.or_true] at h8; cases h8
                      clear e1 e2 hnb hb hf2 h8
                      go_wp2_with fail
                      go_at_call 18
                      refine (HF1.out _ HB.out).mono ?_
                      rintro e W7 ⟨rfl, hW7⟩
                      have HB7 := Lib.hid (HB.out.trans (hW7.mono HB.out.size))
                      clear hW7
                      go_wp2_with fail
                      go_roundw
                      case rel => exact ⟨3 + 1, by omega, by go_num, by rw [E1.out]; go_num, by rw [E2.out]; go_num, HB7.out.alloc HB7.out.size _⟩
                      case measure => simp [intOf]
                    | true =>
                      have e1 := HCN.out
                      rw [if_pos ⟨hb, hf2⟩] at e1
                      have E1 := Lib.hid e1
                      have h8 := HFK.out
                      rw [hf2] at h8
                      have h9 : ((4 : Int) == self) = true ∨ (((4 : Int) == self) = false ∧ decide (n ≤ fm) = true) := by
                        rw [show ((3 + 1 : Nat) : Int) = 4 from rfl] at h8
                        cases h : ((4 : Int) == self)
                        · rw [h, Bool.false_or] at h8; exact .inr ⟨rfl, h8.symm⟩
                        · exact .inl rfl
                      clear e1 e2 hnb hb hf2 h8
                      rcases h9 with d6 | ⟨d6, d7⟩
                      all_goals
                        go_wp2_with fail
                        go_at_call 18
                        refine (HF1.out _ HB.out).mono ?_
                        rintro e W7 ⟨rfl, hW7⟩
                        have HB7 := Lib.hid (HB.out.trans (hW7.mono HB.out.size))
                        clear hW7
                        go_wp2_with fail
                        go_roundw
                        case rel => exact ⟨3 + 1, by omega, by go_num, by rw [E1.out]; go_num, by rw [E2.out]; go_num, HB7.out.alloc HB7.out.size _⟩
                        case measure => simp [intOf]
                · have hnb := nb4 set h0 h1
                  cases hb : bitB set 4 with
                  | false =>
                    have e1 := HCN.out
                    have e2 := HLN.out
                    rw [if_neg (fun h => by rw [hb] at h; cases h.1)] at e1
                    rw [if_neg (fun h => by rw [hb] at h; cases h)] at e2
                    have E1 := Lib.hid e1
                    have E2 := Lib.hid e2
                    have d5 : (bits .and .u8 (set / 16) 1 == 0) = true := by rw [hnb, hb]; rfl
                    clear e1 e2 hnb hb
                    go_wp2_with fail
                    go_roundw
                    case rel => exact ⟨4 + 1, by omega, by go_num, by rw [E1.out]; go_num, by rw [E2.out]; go_num, HB.out⟩
                    case measure => simp [intOf]
                  | true =>
                    have e2 := HLN.out
                    rw [if_pos hb] at e2
                    have E2 := Lib.hid e2
                    have d5 : (bits .and .u8 (set / 16) 1 == 0) = false := by rw [hnb, hb]; rfl
                    cases hf2 : f (4 + 1) with
                    | false =>
                      have e1 := HCN.out
                      rw [if_neg (fun h => by rw [hf2] at h; cases h.2)] at e1
                      have E1 := Lib.hid e1
                      have h8 := HFK.out
                      rw [hf2] at h8
                      have d6 : ((5 : Int) == self) = false := by
                        cases h : ((5 : Int) == self)
                        · rfl
                        · rw [show ((4 + 1 : Nat) : Int) = 5 from rfl, h] at h8; cases h8
                      have d7 : decide (n ≤ fm) = false := by
                        cases h : decide (n ≤ fm)
                        · rfl
                        · rw [h, Bool.or_true] at h8; cases h8
                      clear e1 e2 hnb hb hf2 h8
                      go_wp2_with fail
                      go_at_call 18
                      refine (HF1.out _ HB.out).mono ?_
                      rintro e W7 ⟨rfl, hW7⟩
                      have HB7 := Lib.hid (HB.out.trans (hW7.mono HB.out.size))
                      clear hW7
                      go_wp2_with fail
                      go_roundw
                      case rel => exact ⟨4 + 1, by omega, by go_num, by rw [E1.out]; go_num, by rw [E2.out]; go_num, HB7.out.alloc HB7.out.size _⟩
                      case measure => simp [intOf]
                    | true =>
                      have e1 := HCN.out
                      rw [if_pos ⟨hb, hf2⟩] at e1
                      have E1 := Lib.hid e1
                      have h8 := HFK.out
                      rw [hf2] at h8
                      have h9 : ((5 : Int) == self) = true ∨ (((5 : Int) == self) = false ∧ decide (n ≤ fm) = true) := by
                        rw [show ((4 + 1 : Nat) : Int) = 5 from rfl] at h8
                        cases h : ((5 : Int) == self)
                        · rw [h, Bool.false_or] at h8; exact .inr ⟨rfl, h8.symm⟩
                        · exact .inl rfl
                      clear e1 e2 hnb hb hf2 h8
                      rcases h9 with d6 | ⟨d6, d7⟩
                      all_goals
                        go_wp2_with fail
                        go_at_call 18
                        refine (HF1.out _ HB.out).mono ?_
                        rintro e W7 ⟨rfl, hW7⟩
                        have HB7 := Lib.hid (HB.out.trans (hW7.mono HB.out.size))
                        clear hW7
                        go_wp2_with fail
                        go_roundw
                        case rel => exact ⟨4 + 1, by omega, by go_num, by rw [E1.out]; go_num, by rw [E2.out]; go_num, HB7.out.alloc HB7.out.size _⟩
                        case measure => simp [intOf]
                · have hnb := nb5 set h0 h1
                  cases hb : bitB set 5 with
                  | false =>
                    have e1 := HCN.out
                    have e2 := HLN.out
                    rw [if_neg (fun h => by rw [hb] at h; cases h.1)] at e1
                    rw [if_neg (fun h => by rw [hb] at h; cases h)] at e2
                    have E1 := Lib.hid e1
                    have E2 := Lib.hid e2
                    have d5 : (bits .and .u8 (set / 32) 1 == 0) = true := by rw [hnb, hb]; rfl
                    clear e1 e2 hnb hb
                    go_wp2_with fail
                    go_roundw
                    case rel => exact ⟨5 + 1, by omega, by go_num, by rw [E1.out]; go_num, by rw [E2.out]; go_num, HB.out⟩
                    case measure => simp [intOf]
                  | true =>
                    have e2 := HLN.out
                    rw [if_pos hb] at e2
                    have E2 := Lib.hid e2
                    have d5 : (bits .and .u8 (set / 32) 1 == 0) = false := by rw [hnb, hb]; rfl
                    cases hf2 : f (5 + 1) with
                    | false =>
                      have e1 := HCN.out
                      rw [if_neg (fun h => by rw [hf2] at h; cases h.2)] at e1
                      have E1 := Lib.hid e1
                      have h8 := HFK.out
                      rw [hf2] at h8
                      have d6 : ((6 : Int) == self) = false := by
                        cases h : ((6 : Int) == self)
                        · rfl
                        · rw [show ((5 + 1 : Nat) : Int) = 6 from rfl, h] at h8; cases h8
                      have d7 : decide (n ≤ fm) = false := by
                        cases h : decide (n ≤ fm)
                        · rfl
                        · rw [h, Bool.or_true] at h8; cases h8
                      clear e1 e2 hnb hb hf2 h8
                      go_wp2_with fail
                      go_at_call 18
                      refine (HF1.out _ HB.out).mono ?_
                      rintro e W7 ⟨rfl, hW7⟩
                      have HB7 := Lib.hid (HB.out.trans (hW7.mono HB.out.size))
                      clear hW7
                      go_wp2_with fail
                      go_roundw
                      case rel => exact ⟨5 + 1, by omega, by go_num, by rw [E1.out]; go_num, by rw [E2.out]; go_num, HB7.out.alloc HB7.out.size _⟩
                      case measure => simp [intOf]
                    | true =>
                      have e1 := HCN.out
                      rw [if_pos ⟨hb, hf2⟩] at e1
                      have E1 := Lib.hid e1
                      have h8 := HFK.out
                      rw [hf2] at h8
                      have h9 : ((6 : Int) == self) = true ∨ (((6 : Int) == self) = false ∧ decide (n ≤ fm) = true) := by
                        rw [show ((5 + 1 : Nat) : Int) = 6 from rfl] at h8
                        cases h : ((6 : Int) == self)
                        · rw [h, Bool.false_or] at h8; exact .inr ⟨rfl, h8.symm⟩
                        · exact .inl rfl
                      clear e1 e2 hnb hb hf2 h8
                      rcases h9 with d6 | ⟨d6, d7⟩
                      all_goals
                        go_wp2_with fail
                        go_at_call 18
                        refine (HF1.out _ HB.out).mono ?_
                        rintro e W7 ⟨rfl, hW7⟩
                        have HB7 := Lib.hid (HB.out.trans (hW7.mono HB.out.size))
                        clear hW7
                        go_wp2_with fail
                        go_roundw
                        case rel => exact ⟨5 + 1, by omega, by go_num, by rw [E1.out]; go_num, by rw [E2.out]; go_num, HB7.out.alloc HB7.out.size _⟩
                        case measure => simp [intOf]
                · have hnb := nb6 set h0 h1
                  cases hb : bitB set 6 with
                  | false =>
                    have e1 := HCN.out
                    have e2 := HLN.out
                    rw [if_neg (fun h => by rw [hb] at h; cases h.1)] at e1
                    rw [if_neg (fun h => by rw [hb] at h; cases h)] at e2
                    have E1 := Lib.hid e1
                    have E2 := Lib.hid e2
                    have d5 : (bits .and .u8 (set / 64) 1 == 0) = true := by rw [hnb, hb]; rfl
                    clear e1 e2 hnb hb
                    go_wp2_with fail
                    go_roundw
                    case rel => exact ⟨6 + 1, by omega, by go_num, by rw [E1.out]; go_num, by rw [E2.out]; go_num, HB.out⟩
                    case measure => simp [intOf]
                  | true =>
                    have e2 := HLN.out
                    rw [if_pos hb] at e2
                    have E2 := Lib.hid e2
                    have d5 : (bits .and .u8 (set / 64) 1 == 0) = false := by rw [hnb, hb]; rfl
                    cases hf2 : f (6 + 1) with
                    | false =>
                      have e1 := HCN.out
                      rw [if_neg (fun h => by rw [hf2] at h; cases h.2)] at e1
                      have E1 := Lib.hid e1
                      have h8 := HFK.out
                      rw [hf2] at h8
                      have d6 : ((7 : Int) == self) = false := by
                        cases h : ((7 : Int) == self)
                        · rfl
                        · rw [show ((6 + 1 : Nat) : Int) = 7 from rfl, h] at h8; cases h8
                      have d7 : decide (n ≤ fm) = false := by
                        cases h : decide (n ≤ fm)
                        · rfl
                        · rw [h, Bool.or_true] at h8; cases h8
                      clear e1 e2 hnb hb hf2 h8
                      go_wp2_with fail
                      go_at_call 18
                      refine (HF1.out _ HB.out).mono ?_
                      rintro e W7 ⟨rfl, hW7⟩
                      have HB7 := Lib.hid (HB.out.trans (hW7.mono HB.out.size))
                      clear hW7
                      go_wp2_with fail
                      go_roundw
                      case rel => exact ⟨6 + 1, by omega, by go_num, by rw [E1.out]; go_num, by rw [E2.out]; go_num, HB7.out.alloc HB7.out.size _⟩
                      case measure => simp [intOf]
                    | true =>
                      have e1 := HCN.out
                      rw [if_pos ⟨hb, hf2⟩] at e1
                      have E1 := Lib.hid e1
                      have h8 := HFK.out
                      rw [hf2] at h8
                      have h9 : ((7 : Int) == self) = true ∨ (((7 : Int) == self) = false ∧ decide (n ≤ fm) = true) := by
                        rw [show ((6 + 1 : Nat) : Int) = 7 from rfl] at h8
                        cases h : ((7 : Int) == self)
                        · rw [h, Bool.false_or] at h8; exact .inr ⟨rfl, h8.symm⟩
                        · exact .inl rfl
                      clear e1 e2 hnb hb hf2 h8
                      rcases h9 with d6 | ⟨d6, d7⟩
                      all_goals
                        go_wp2_with fail
                        go_at_call 18
                        refine (HF1.out _ HB.out).mono ?_
                        rintro e W7 ⟨rfl, hW7⟩
                        have HB7 := Lib.hid (HB.out.trans (hW7.mono HB.out.size))
                        clear hW7
                        go_wp2_with fail
                        go_roundw
                        case rel => exact ⟨6 + 1, by omega, by go_num, by rw [E1.out]; go_num, by rw [E2.out]; go_num, HB7.out.alloc HB7.out.size _⟩
                        case measure => simp [intOf]
              · obtain rfl : k = 7 := by omega
                obtain ⟨y, hyy⟩ : ∃ y, y = (memF set 7).countP f := ⟨_, rfl⟩
                obtain ⟨z, hzz⟩ : ∃ z, z = (memF set 7).length := ⟨_, rfl⟩
                have hmaj := HMAJ.out
                have hl7 := memF_len set 7
                have hy7 := List.countP_le_length (p := f) (l := memF set 7)
                rw [← hyy, ← hzz] at hmaj ⊢
                rw [← hzz] at hl7 hy7
                rw [← hyy] at hy7
                have d8 : decide ((z : Int) < 2 * (y : Int)) = true := by simp; omega
                clear hyy hzz
                go_wp2_with fail
                go_at_call 16
                refine (wwakes_any _).mono ?_
                rintro e WK ⟨rfl, hWK⟩
                have HK := Lib.hid (HB.out.trans (hWK.mono HB.out.size))
                clear hWK
                go_wp2_with fail
                go_ret
                exact ⟨rfl, HK.out⟩
  · go_wp2_with fail
    go_at_call 16
    refine (wwakes_any _).mono ?_
    rintro e WK ⟨rfl, hWK⟩
    have HK := Lib.hid (C2.out.step hWK)
    clear hWK
    go_wp2_with fail
    go_ret
    exact ⟨rfl, HK.out.2.2⟩

theorem followCounts_dt (x : Dt) (set self t commit : Int) (pa : Option Addr) (n c : Nat) (xs : List Dt) (w : World) (hx : Fits Try.prog w 24 x) (h0 : 0 ≤ set ∧ set ≤ 255) (h : SliceFits Try.prog w 26 pa n c xs) :
    Calls Try.prog 6 #[.agg x.cells.toArray, .int .u8 set, .int .i64 self, .int .i64 t, .int .i64 commit, .slice pa n c] w fun e w' => e = .returned (.bool true) ∧ Below w.heap.size w w' := by
  obtain ⟨base, term, a, m, cc, es, e1, _, _, hS⟩ := rowsD_inv hx
  obtain ⟨b, o, E, hE⟩ := ents_cells w hS
  obtain ⟨pb, po, P, hP⟩ := pg_cells w h
  rw [e1]
  exact counts_any base term a m cc b o E set self t commit pa n c pb po P w hE hP h0.1 h0.2
end Go.Proofs.Ytninhjeiialbjaa
