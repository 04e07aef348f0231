/-
  The law FollowCommits, walked.
-/
import Derived.Test.YtninhjeiialbjaaFz1
namespace Go.Proofs.Ytninhjeiialbjaa
open Go.RowKit
set_option linter.unusedSimpArgs false
set_option linter.unusedVariables false

theorem commit_both (base term : Int) (a : Option Addr) (len cap b o : Nat) (E : Nat → Ent) (set self t commit : Int) (pa : Option Addr) (pn pc pb po : Nat) (P : Nat → PgE) (w : World) (hs : EntsIn w a len cap b o E) (hp : PgIn w pa pn pc pb po P) (h0 : 0 ≤ set) (h1 : set ≤ 255) :
    ∃ n e : Int, (∀ W, Below w.heap.size w W → Calls Try.prog 26 #[.agg #[.int .i64 base, .int .i64 term, .slice a len cap], .int .u8 set, .int .i64 self, .int .i64 t, .int .i64 commit, .slice pa pn pc] W fun e' w' => e' = .returned (.tuple #[.int .i64 n, .int .i64 e]) ∧ Below W.heap.size W w') ∧
      (∀ W, Below w.heap.size w W → Calls Try.prog 27 #[.agg #[.int .i64 base, .int .i64 term, .slice a len cap], .int .u8 set, .int .i64 self, .int .i64 t, .int .i64 commit, .slice pa pn pc] W fun e' w' => e' = .returned (.tuple #[.int .i64 n, .int .i64 e]) ∧ Below W.heap.size W w') := by
  cases hk : rowsB base term len E with
  | false => exact ⟨0, 90, fun W h => commit_bad base term a len cap b o E set self t commit pa pn pc W (hs.below h) h0 h1 hk, fun W h => rcommit_bad base term a len cap b o E set self t commit pa pn pc W (hs.below h) hk⟩
  | true =>
    obtain ⟨b0, b1, h4, t0⟩ := rB_head hk
    by_cases hc : commit < 0 ∨ base + len < commit ∨ t < 1 ∨ (memF set 7).length = 0
    · refine ⟨0, 2, fun W h => commit_arg base term a len cap b o E set self t commit pa pn pc W (hs.below h) h0 h1 hk (by omega), fun W h => ?_⟩
      have h5 := rcommit_ok base term a len cap b o E set self t commit pa pn pc pb po P W (hs.below h) (hp.below h) h0 h1 hk
      rw [if_pos hc] at h5
      exact h5
    · refine ⟨_, 0, fun W h => commit_ok base term a len cap b o E set self t commit pa pn pc pb po P W (hs.below h) (hp.below h) h0 h1 hk (by omega), fun W h => ?_⟩
      have h5 := rcommit_ok base term a len cap b o E set self t commit pa pn pc pb po P W (hs.below h) (hp.below h) h0 h1 hk
      rw [if_neg hc, outD_made base commit t (reachI (matL P pn self (base + len) (memF set 7))) E (majB P pn self (memF set 7)) len b0 (by omega) (rows_mono hk) (fun d hd => maj_iff P pn self (base + len) _ (memF set 7) (by omega) (by omega))] at h5
      exact h5

set_option maxRecDepth 100000 in
set_option maxHeartbeats 8000000 in
theorem commits_any (base term : Int) (a : Option Addr) (len cap b o : Nat) (E : Nat → Ent) (set self t commit : Int) (pa : Option Addr) (pn pc pb po : Nat) (P : Nat → PgE) (w : World) (hs : EntsIn w a len cap b o E) (hp : PgIn w pa pn pc pb po P) (h0 : 0 ≤ set) (h1 : set ≤ 255) :
    Calls Try.prog 4 #[.agg #[.int .i64 base, .int .i64 term, .slice a len cap], .int .u8 set, .int .i64 self, .int .i64 t, .int .i64 commit, .slice pa pn pc] w fun e w' => e = .returned (.bool true) ∧ Below w.heap.size w w' := by
  have hm := hp.max
  have hl := hp.le
  unfold maxLen at hm
  have CUR := Lib.hid (RBox.mk0 w base term (.slice a len cap))
  have HG := Lib.hid (fun W (h : Below w.heap.size w W) => great_any base term a len cap b o E W (hs.below h))
  obtain ⟨n, er, hc1, hc2⟩ := commit_both base term a len cap b o E set self t commit pa pn pc pb po P w hs hp h0 h1
  have H1 := Lib.hid hc1
  have H2 := Lib.hid hc2
  obtain ⟨⟨f0, f1, f2⟩, f3, _⟩ := id CUR.out
  clear hs hp hc1 hc2
  go_enter Try.func4, Try.ntmps4
  go_wp2_with fail
  go_at_call 15
  refine (HG.out _ CUR.out.2.2).mono ?_
  rintro e W2 ⟨g, rfl, hB2⟩
  have C2 := Lib.hid (CUR.out.step hB2)
  clear hB2 f0 f1 f2 f3 HG CUR
  obtain ⟨⟨f0, f1, f2⟩, f3, _⟩ := id C2.out
  cases g
  · by_cases hn : 100 < pn
    · go_wp2_with fail
      go_at_call 16
      refine (wwakes_any _).mono ?_
      rintro e WK ⟨rfl, hWK⟩
      have HK := Lib.hid (C2.out.step hWK)
      clear hWK
      go_wp2_with fail
      go_ret
      exact ⟨rfl, HK.out.2.2⟩
    · go_wp2_with fail
      go_at_call 26
      refine (H1.out _ C2.out.2.2).mono ?_
      rintro e W3 ⟨rfl, hW3⟩
      have C3 := Lib.hid (C2.out.step hW3)
      clear hW3 f0 f1 f2 f3
      obtain ⟨⟨f0, f1, f2⟩, f3, _⟩ := id C3.out
      go_wp2_with fail
      go_at_call 27
      refine (H2.out _ C3.out.2.2).mono ?_
      rintro e W4 ⟨rfl, hW4⟩
      have C4 := Lib.hid (C3.out.step hW4)
      clear hW4 f0 f1 f2 f3
      go_wp2_with fail
      go_at_call 16
      refine (wwakes_any _).mono ?_
      rintro e WK ⟨rfl, hWK⟩
      have HK := Lib.hid (C4.out.step hWK)
      clear hWK
      go_wp2_with fail
      go_ret
      exact ⟨rfl, HK.out.2.2⟩
  · go_wp2_with fail
    go_at_call 16
    refine (wwakes_any _).mono ?_
    rintro e WK ⟨rfl, hWK⟩
    have HK := Lib.hid (C2.out.step hWK)
    clear hWK
    go_wp2_with fail
    go_ret
    exact ⟨rfl, HK.out.2.2⟩

theorem followCommits_dt (x : Dt) (set self t commit : Int) (pa : Option Addr) (n c : Nat) (xs : List Dt) (w : World) (hx : Fits Try.prog w 24 x) (h0 : 0 ≤ set ∧ set ≤ 255) (h : SliceFits Try.prog w 26 pa n c xs) :
    Calls Try.prog 4 #[.agg x.cells.toArray, .int .u8 set, .int .i64 self, .int .i64 t, .int .i64 commit, .slice pa n c] w fun e w' => e = .returned (.bool true) ∧ Below w.heap.size w w' := by
  obtain ⟨base, term, a, m, cc, es, e1, _, _, hS⟩ := rowsD_inv hx
  obtain ⟨b, o, E, hE⟩ := ents_cells w hS
  obtain ⟨pb, po, P, hP⟩ := pg_cells w h
  rw [e1]
  exact commits_any base term a m cc b o E set self t commit pa n c pb po P w hE hP h0.1 h0.2
end Go.Proofs.Ytninhjeiialbjaa
