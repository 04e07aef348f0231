/-
  VoteBegins, walked.
-/
import Derived.Test.YtidheicmaodfgaaVp4
import Derived.Test.YtidheicmaodfgaaVh3
import Derived.Test.YtidheicmaodfgaaVinv
namespace Go.Proofs.Ytidheicmaodfgaa
open Go.RowKit

theorem begin_both (ht hv hb base term self : Int) (a : Option Addr) (len cap b o : Nat) (E : Nat → Ent) (s : Nat) (h8 : s < 256) : ∃ (t v bb : Int) (n : Nat) (f' t' N' L' : Int) (D : Nat → Int) (er : Int), n ≤ 7 ∧
    (∀ W, EntsIn W a len cap b o E → Calls Try.prog 12 #[.agg #[.int .i64 ht, .int .i64 hv, .int .i64 hb], .agg #[.int .i64 base, .int .i64 term, .slice a len cap], .int .u8 s, .int .i64 self] W (BegP W t v bb n (msgL (fun j => askM f' t' N' L' (D j)) n) er)) ∧
    (∀ W, EntsIn W a len cap b o E → Calls Try.prog 13 #[.agg #[.int .i64 ht, .int .i64 hv, .int .i64 hb], .agg #[.int .i64 base, .int .i64 term, .slice a len cap], .int .u8 s, .int .i64 self] W (BegP W t v bb n (msgL (fun j => askM f' t' N' L' (D j)) n) er)) := by
  have hnil : ∀ M : Nat → MsgE, msgL M 0 = [] := fun M => rfl
  have bad : ∀ er : Int, ((rowsB base term len E = false ∧ er = 90) ∨ (rowsB base term len E = true ∧ nodeB self = false ∧ er = 2) ∨ (rowsB base term len E = true ∧ nodeB self = true ∧ s.testBit (self.toNat - 1) = false ∧ er = 2)) → _ := fun er h =>
    (⟨0, 0, 0, 0, 0, 0, 0, 0, fun _ => 0, er, by omega, fun W hW => by rw [hnil]; exact begin_bad ht hv hb base term self a len cap b o E s W hW h8 er h, fun W hW => by rw [hnil]; exact rbegin_bad ht hv hb base term self a len cap b o E s W hW h8 er h⟩ :
      ∃ (t v bb : Int) (n : Nat) (f' t' N' L' : Int) (D : Nat → Int) (er : Int), n ≤ 7 ∧
    (∀ W, EntsIn W a len cap b o E → Calls Try.prog 12 #[.agg #[.int .i64 ht, .int .i64 hv, .int .i64 hb], .agg #[.int .i64 base, .int .i64 term, .slice a len cap], .int .u8 s, .int .i64 self] W (BegP W t v bb n (msgL (fun j => askM f' t' N' L' (D j)) n) er)) ∧
    (∀ W, EntsIn W a len cap b o E → Calls Try.prog 13 #[.agg #[.int .i64 ht, .int .i64 hv, .int .i64 hb], .agg #[.int .i64 base, .int .i64 term, .slice a len cap], .int .u8 s, .int .i64 self] W (BegP W t v bb n (msgL (fun j => askM f' t' N' L' (D j)) n) er)))
  cases hr : rowsB base term len E
  · exact bad 90 (.inl ⟨hr, rfl⟩)
  · cases hn : nodeB self
    · exact bad 2 (.inr (.inl ⟨hr, hn, rfl⟩))
    · cases hbit : s.testBit (self.toNat - 1)
      · exact bad 2 (.inr (.inr ⟨hr, hn, hbit, rfl⟩))
      · have h17 : 1 ≤ self ∧ self ≤ 7 := by
          rcases node_rel self with ⟨_, h⟩ | ⟨h, h2, _⟩ | ⟨_, _, h⟩
          · rw [hn] at h; cases h
          · exact ⟨h, h2⟩
          · rw [hn] at h; cases h
        obtain ⟨si, rfl⟩ : ∃ si : Nat, self = si := ⟨self.toNat, by omega⟩
        rw [Int.toNat_natCast] at hbit
        exact ⟨_, _, _, _, _, _, _, _, _, _, askN_le s si 7, fun W hW => begin_good ht hv hb base term a len cap b o E s si W hW hr h8 (by omega) (by omega) hbit, fun W hW => rbegin_good ht hv hb base term a len cap b o E s si W hW hr h8 (by omega) (by omega) hbit⟩

theorem holds_step {A B : World} {n : Nat} {c : Array Value} (h : Holds A n c) (hB : Below A.heap.size A B) : Holds B n c :=
  ⟨fun j => (hB.cell (p := ⟨n, j, none⟩) h.2.2).trans (h.1 j), fun j => (hB.frozen (p := ⟨n, j, none⟩) h.2.2).trans (h.2.1 j), by have := hB.size; have := h.2.2; omega⟩

set_option maxRecDepth 100000 in
set_option maxHeartbeats 8000000 in
theorem voteBegins_any (ht hv hb base term self : Int) (a : Option Addr) (len cap b o : Nat) (E : Nat → Ent) (s : Nat) (w : World) (hs : EntsIn w a len cap b o E) (h8 : s < 256) :
    Calls Try.prog 3 #[.agg #[.int .i64 ht, .int .i64 hv, .int .i64 hb], .agg #[.int .i64 base, .int .i64 term, .slice a len cap], .int .u8 s, .int .i64 self] w fun e w' => e = .returned (.bool true) ∧ Below w.heap.size w w' := by
  have T0 := tw2 (n := w.heap.size) (Below.refl _ ((w.alloc (.cells #[.int .i64 ht, .int .i64 hv, .int .i64 hb] 23)).alloc (.cells #[.int .i64 base, .int .i64 term, .slice a len cap] 26))) rfl
  have HB0 : Hid (Below w.heap.size w ((w.alloc (.cells #[.int .i64 ht, .int .i64 hv, .int .i64 hb] 23)).alloc (.cells #[.int .i64 base, .int .i64 term, .slice a len cap] 26))) := Lib.hid (((Below.refl _ _).alloc (Nat.le_refl _) _).alloc (by simp) _)
  have HT0 := Lib.hid T0
  clear T0
  by_cases hg : 300 < len
  · have G1 : Hid (decide (300 < len) = true) := Lib.hid (by simpa using hg)
    clear hg hs
    go_enter Try.func3, Try.ntmps3
    go_wp2_with (first
      | (go_at_call 10; refine (great_any _ _ _ _ _ _).mono ?_; rw [G1.out]; rintro e W ⟨rfl, rfl⟩)
      | (go_at_call 11; refine (vwakes_any _).mono ?_; rintro e WK ⟨rfl, hWK⟩))
    go_ret
    exact ⟨rfl, (HB0.out.alloc HB0.out.size _).trans (hWK.mono (HB0.out.alloc HB0.out.size _).size)⟩
  · have G1 : Hid (decide (300 < len) = false) := Lib.hid (by simpa using hg)
    obtain ⟨t, v, bb, n, f', t', N', L', D, er, hn7, hP1, hP2⟩ := begin_both ht hv hb base term self a len cap b o E s h8
    have HP1 := Lib.hid hP1
    have HP2 := Lib.hid hP2
    have HS := Lib.hid hs
    clear hP1 hP2 hs hg
    go_enter Try.func3, Try.ntmps3
    go_wp2_with (go_at_call 10; refine (great_any _ _ _ _ _ _).mono ?_; rw [G1.out]; rintro e W ⟨rfl, rfl⟩)
    have HB1 := Lib.hid (HB0.out.alloc HB0.out.size (.cells #[.int .i64 base, .int .i64 term, .slice a len cap] 26))
    go_at_call 12
    refine Calls.mono (HP1.out _ (HS.out.below HB1.out)) ?_
    rintro e W1 ⟨a1, c1, ob1, rfl, hR1, hO1, hb1⟩
    have hst : Below ((w.alloc (.cells #[.int .i64 ht, .int .i64 hv, .int .i64 hb] 23)).alloc (.cells #[.int .i64 base, .int .i64 term, .slice a len cap] 26)).heap.size ((w.alloc (.cells #[.int .i64 ht, .int .i64 hv, .int .i64 hb] 23)).alloc (.cells #[.int .i64 base, .int .i64 term, .slice a len cap] 26)) W1 := ((Below.refl _ _).alloc (Nat.le_refl _) _).trans (hb1.mono (by simp))
    have HH1 := Lib.hid (holds_step HT0.out.1 hst)
    have HH2 := Lib.hid (holds_step HT0.out.2 hst)
    have HC1 := Lib.hid (HB1.out.trans (hb1.mono HB1.out.size))
    have HR1 := Lib.hid hR1
    clear hR1 hO1 hb1 hst
    have r0 := HH1.out.1
    have r1 := HH2.out.1
    have z0 := HH1.out.2.2
    have z1 := HH2.out.2.2
    go_wp2_with fail
    go_at_call 13
    have HD1 := Lib.hid (HC1.out.alloc HC1.out.size (.cells #[.int .i64 t, .int .i64 v, .int .i64 bb] 23))
    refine Calls.mono (HP2.out _ (HS.out.below HD1.out)) ?_
    rintro e W2 ⟨a2, c2, ob2, rfl, hR2, hO2, hb2⟩
    have hx := tw1 (n := W1.heap.size) hb2 rfl
    have hY2 : Below W1.heap.size W1 W2 := ((Below.refl _ _).alloc (Nat.le_refl _) _).trans (hb2.mono (by simp))
    have HR12 := Lib.hid (show Row W2 (.slice a1 n c1) ob1 40 14 n (msgL (fun j => askM f' t' N' L' (D j)) n) from HR1.out.congr fun g e => by
      have hlg : g < W1.heap.size := by subst e; exact HR1.out.lt
      exact hY2.block g hlg)
    have HC2 := Lib.hid (HD1.out.trans (hb2.mono HD1.out.size))
    have HR2 := Lib.hid hR2
    clear r0 r1 z0 z1 hR2 hO2 hb2 hY2
    obtain ⟨x0, x1, x2⟩ := hx
    go_wp2_with fail
    go_at_call 14
    refine Calls.mono (sameAsks_any f' t' N' L' D n a1 c1 ob1 a2 c2 ob2 _ hn7 (HR12.out.alloc _) (HR2.out.alloc _)) ?_
    rintro e W3 ⟨rfl, hW3⟩
    have HC3 := Lib.hid ((HC2.out.alloc HC2.out.size (.cells #[.int .i64 t, .int .i64 v, .int .i64 bb] 23)).trans (hW3.mono (HC2.out.alloc HC2.out.size (.cells #[.int .i64 t, .int .i64 v, .int .i64 bb] 23)).size))
    clear hW3
    go_wp2_with (go_at_call 11; refine (vwakes_any _).mono ?_; rintro e WK ⟨rfl, hWK⟩)
    go_ret
    exact ⟨rfl, HC3.out.trans (hWK.mono HC3.out.size)⟩
theorem voteBegins_dt (x y : Dt) (s self : Int) (s0 : 0 ≤ s ∧ s ≤ 255) (w : World) (h : Fits Try.prog w 23 x) (h2 : Fits Try.prog w 26 y) :
    Calls Try.prog 3 #[.agg x.cells.toArray, .agg y.cells.toArray, .int .u8 s, .int .i64 self] w fun e w' => e = .returned (.bool true) ∧ Below w.heap.size w w' := by
  obtain ⟨ht, hv, hb, e, _⟩ := hard_inv h
  obtain ⟨base, term, a, m, cc, xs, e2, _, _, hS⟩ := rowsD_inv h2
  obtain ⟨b, o, E, hE⟩ := ents_cells w hS
  rw [e, e2]
  have := voteBegins_any ht hv hb base term self a m cc b o E s.toNat w hE (by omega)
  rwa [show ((s.toNat : Nat) : Int) = s by omega] at this
end Go.Proofs.Ytidheicmaodfgaa
