/-
  VoteTimeout, VoteOne, VoteCounts: with what the document says of three asks.
-/
import Derived.Test.YtidheicmaodfgaaVh3
import Derived.Test.YtidheicmaodfgaaVj
import Derived.Test.YtidheicmaodfgaaVinv
import Derived.Test.YtidheicmaodfgaaVn
namespace Go.Proofs.Ytidheicmaodfgaa
open Go.RowKit
theorem voteTimeout_walk (base draw : Int) (d0 : -9223372036854775808 ≤ draw) (d1 : draw ≤ 9223372036854775807) (w : World) :
    Calls Try.prog 9 #[.int .i64 base, .int .i64 draw] w fun e w' => e = .returned (.bool true) ∧ Below w.heap.size w w' := voteTimeout_any base draw d0 d1 w vwakes_any
theorem voteOne_walk (s a b : Int) (s0 : 0 ≤ s) (s1 : s ≤ 255) (a0 : 0 ≤ a) (a1 : a ≤ 255) (b0 : 0 ≤ b) (b1 : b ≤ 255) (w : World) :
    Calls Try.prog 7 #[.int .u8 s, .int .u8 a, .int .u8 b] w fun e w' => e = .returned (.bool true) ∧ Below w.heap.size w w' := by
  have h := voteOne_any s.toNat a.toNat b.toNat (by omega) (by omega) (by omega) w vwakes_any
  rwa [show ((s.toNat : Nat) : Int) = s by omega, show ((a.toNat : Nat) : Int) = a by omega, show ((b.toNat : Nat) : Int) = b by omega] at h
theorem voteCounts_walk (ht hv hb term s y base draw : Int) (s0 : 0 ≤ s) (s1 : s ≤ 255) (a0 : 0 ≤ y) (a1 : y ≤ 255) (d0 : -9223372036854775808 ≤ draw) (d1 : draw ≤ 9223372036854775807) (w : World) :
    Calls Try.prog 5 #[.agg #[.int .i64 ht, .int .i64 hv, .int .i64 hb], .int .i64 term, .int .u8 s, .int .u8 y, .int .i64 base, .int .i64 draw] w fun e w' => e = .returned (.bool true) ∧ Below w.heap.size w w' := by
  have h := voteCounts_any ht hv hb term s.toNat y.toNat (by omega) (by omega) base draw d0 d1 w vwakes_any
  rwa [show ((s.toNat : Nat) : Int) = s by omega, show ((y.toNat : Nat) : Int) = y by omega] at h
theorem voteCounts_dt (x : Dt) (term s y base draw : Int) (s0 : 0 ≤ s ∧ s ≤ 255) (a0 : 0 ≤ y ∧ y ≤ 255) (d0 : -9223372036854775808 ≤ draw ∧ draw ≤ 9223372036854775807) (w : World) (h : Fits Try.prog w 23 x) :
    Calls Try.prog 5 #[.agg x.cells.toArray, .int .i64 term, .int .u8 s, .int .u8 y, .int .i64 base, .int .i64 draw] w fun e w' => e = .returned (.bool true) ∧ Below w.heap.size w w' := by
  obtain ⟨ht, hv, hb, e, _⟩ := hard_inv h
  rw [e]
  exact voteCounts_walk ht hv hb term s y base draw s0.1 s0.2 a0.1 a0.2 d0.1 d0.2 w
theorem voteAnswers_dt (x y : Dt) (self : Int) (z : Dt) (w : World) (h : Fits Try.prog w 23 x) (h2 : Fits Try.prog w 26 y) (h3 : Fits Try.prog w 40 z) :
    Calls Try.prog 4 #[.agg x.cells.toArray, .agg y.cells.toArray, .int .i64 self, .agg z.cells.toArray] w fun e w' => e = .returned (.bool true) ∧ Below w.heap.size w w' := by
  obtain ⟨ht, hv, hb, e, _⟩ := hard_inv h
  obtain ⟨base, term, a, n, c, xs, e2, _, _, hS⟩ := rowsD_inv h2
  obtain ⟨b, o, E, hE⟩ := ents_cells w hS
  obtain ⟨k, f, tt, t, i, l, cc, ok, ea, en, ec, ex, si, st, ss, sa, sn, sc, sx, da, dn, dc, dx, e3, _⟩ := msg_inv h3
  rw [e, e2, e3]
  exact voteAnswers_any ht hv hb base term self a n c b o E k f tt t i l cc ok ea en ec si st ss sa sn sc da dn dc w hE vwakes_any
theorem voteNewer_dt (x y : Dt) (self : Int) (z : Dt) (w : World) (h : Fits Try.prog w 23 x) (h2 : Fits Try.prog w 26 y) (h3 : Fits Try.prog w 40 z) :
    Calls Try.prog 8 #[.agg x.cells.toArray, .agg y.cells.toArray, .int .i64 self, .agg z.cells.toArray] w fun e w' => e = .returned (.bool true) ∧ Below w.heap.size w w' := by
  obtain ⟨ht, hv, hb, e, _⟩ := hard_inv h
  obtain ⟨base, term, a, n, c, xs, e2, _, _, hS⟩ := rowsD_inv h2
  obtain ⟨b, o, E, hE⟩ := ents_cells w hS
  obtain ⟨k, f, tt, t, i, l, cc, ok, ea, en, ec, ex, si, st, ss, sa, sn, sc, sx, da, dn, dc, dx, e3, _⟩ := msg_inv h3
  rw [e, e2, e3]
  exact voteNewer_any ht hv hb base term self a n c b o E k f tt t i l cc ok ea en ec si st ss sa sn sc da dn dc w hE vwakes_any
end Go.Proofs.Ytidheicmaodfgaa
