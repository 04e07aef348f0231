/-
  VoteAnswers and VoteNewer, walked.
-/
import Derived.Test.YtidheicmaodfgaaVl
namespace Go.Proofs.Ytidheicmaodfgaa
open Go.RowKit

theorem Holds.step {A B : World} {n : Nat} {c : Array Value} (h : Holds A n c) (hB : Below A.heap.size A B) : Holds B n c :=
  ⟨fun j => (hB.cell (p := ⟨n, j, none⟩) h.2.2).trans (h.1 j), fun j => (hB.frozen (p := ⟨n, j, none⟩) h.2.2).trans (h.2.1 j), by have := hB.size; have := h.2.2; omega⟩
/-- three boxes of parameters -/
def Bx3 (w : World) (c1 c2 c3 : Array Value) (W : World) : Prop := Holds W w.heap.size c1 ∧ Holds W (w.heap.size + 1) c2 ∧ Holds W (w.heap.size + 1 + 1) c3 ∧ Below w.heap.size w W
theorem Bx3.step {w A B : World} {c1 c2 c3 : Array Value} (h : Bx3 w c1 c2 c3 A) (hB : Below A.heap.size A B) : Bx3 w c1 c2 c3 B :=
  ⟨h.1.step hB, h.2.1.step hB, h.2.2.1.step hB, h.2.2.2.trans (hB.mono h.2.2.2.size)⟩
theorem Bx3.mk0 (w : World) (c1 c2 c3 : Array Value) (t1 t2 t3 : TypeId) : Bx3 w c1 c2 c3 (((w.alloc (.cells c1 t1)).alloc (.cells c2 t2)).alloc (.cells c3 t3)) := by
  obtain ⟨h1, h2, h3⟩ := tw3 (Below.refl _ (((w.alloc (.cells c1 t1)).alloc (.cells c2 t2)).alloc (.cells c3 t3))) rfl
  exact ⟨h1, h2, h3, (((Below.refl _ _).alloc (Nat.le_refl _) _).alloc (by simp) _).alloc (by simp; omega) _⟩

set_option maxHeartbeats 400000 in
theorem great_any (base term : Int) (a : Option Addr) (len cap : Nat) (w : World) : Calls Try.prog 10 #[.agg #[.int .i64 base, .int .i64 term, .slice a len cap]] w fun e w' => e = .returned (.bool (decide (300 < len))) ∧ w.alloc (.cells #[.int .i64 base, .int .i64 term, .slice a len cap] 26) = w' := by
  go_enter Try.func10, Try.ntmps10
  go_wp2_with fail
  go_ret
  exact ⟨congrArg (fun b => Ending.returned (.bool b)) (by rw [Bool.eq_iff_iff]; simp; omega), rfl⟩

set_option maxRecDepth 100000 in
set_option maxHeartbeats 8000000 in
theorem voteAnswers_any (ht hv hb base term self : Int) (a : Option Addr) (len cap b o : Nat) (E : Nat → Ent) (k f tt t i l c : Int) (ok : Bool) (ea : Option Addr) (en ec : Nat) (si st ss : Int) (sa : Option Addr) (sn sc : Nat) (da : Option Addr) (dn dc : Nat) (w : World) (hs : EntsIn w a len cap b o E) (hwk : ∀ w, Calls Try.prog 11 #[] w fun e w' => e = .returned (.bool true) ∧ Below w.heap.size w w') :
    Calls Try.prog 4 #[.agg #[.int .i64 ht, .int .i64 hv, .int .i64 hb], .agg #[.int .i64 base, .int .i64 term, .slice a len cap], .int .i64 self, .agg #[.int .i8 k, .int .i64 f, .int .i64 tt, .int .i64 t, .int .i64 i, .int .i64 l, .int .i64 c, .bool ok, .slice ea en ec, .int .i64 si, .int .i64 st, .int .u8 ss, .slice sa sn sc, .slice da dn dc]] w fun e w' => e = .returned (.bool true) ∧ Below w.heap.size w w' := by
  have HS := Lib.hid hs
  have HWK := Lib.hid hwk
  have HQ := Lib.hid (Bx3.mk0 w #[.int .i64 ht, .int .i64 hv, .int .i64 hb] #[.int .i64 base, .int .i64 term, .slice a len cap] #[.int .i8 k, .int .i64 f, .int .i64 tt, .int .i64 t, .int .i64 i, .int .i64 l, .int .i64 c, .bool ok, .slice ea en ec, .int .i64 si, .int .i64 st, .int .u8 ss, .slice sa sn sc, .slice da dn dc] 23 26 40)
  obtain ⟨A, hA⟩ : ∃ A, ansS ht hv hb (rowsB base term len E) (newerB base term len E i l) self k f t = A := ⟨_, rfl⟩
  have A1 := Lib.hid (fun w hs => answer_any ht hv hb base term self a len cap b o E k f tt t i l c ok ea en ec si st ss sa sn sc da dn dc w hs A hA)
  have A2 := Lib.hid (fun w hs => ranswer_any ht hv hb base term self a len cap b o E k f tt t i l c ok ea en ec si st ss sa sn sc da dn dc w hs A hA)
  obtain ⟨ae, at_, av, ab, ak, af, att, at2, aok⟩ := A
  clear hs hwk hA
  by_cases hg : 300 < len
  · have G1 : Hid (decide (300 < len) = true) := Lib.hid (by simpa using hg)
    clear hg A1 A2
    go_enter Try.func4, Try.ntmps4
    go_wp2_with (first
      | (go_at_call 10; refine (great_any _ _ _ _ _ _).mono ?_; rw [G1.out]; rintro e W ⟨rfl, rfl⟩)
      | (go_at_call 11; refine (HWK.out _).mono ?_; rintro e WK ⟨rfl, hWK⟩))
    go_ret
    exact ⟨rfl, (HQ.out.2.2.2.alloc (by simp; omega) _).trans (hWK.mono (by simp; omega))⟩
  · have G1 : Hid (decide (300 < len) = false) := Lib.hid (by simpa using hg)
    clear hg
    go_enter Try.func4, Try.ntmps4
    go_wp2_with (first
      | (go_at_call 10; refine (great_any _ _ _ _ _ _).mono ?_; rw [G1.out]; rintro e W ⟨rfl, rfl⟩)
      | (go_at_call 15; refine Calls.mono (A1.out _ ?_) ?_; exact HS.out.below (HQ.out.2.2.2.alloc (by simp; omega) _); rintro e W1 ⟨rfl, hW1⟩; have HQ1 := Lib.hid ((HQ.out.step ((Below.refl _ _).alloc (Nat.le_refl _) _)).step hW1); have r0 := HQ1.out.1.1; have r1 := HQ1.out.2.1.1; have r2 := HQ1.out.2.2.1.1; have z0 := HQ1.out.1.2.2; have z1 := HQ1.out.2.1.2.2; have z2 := HQ1.out.2.2.1.2.2)
      | (go_at_call 16; refine Calls.mono (A2.out _ ?_) ?_; exact HS.out.below ((HQ1.out.2.2.2.alloc (by omega) _).alloc (by simp; omega) _); rintro e W2 ⟨rfl, hW2⟩; have T := tw2 (n := W1.heap.size) hW2 rfl; have HQ2 := Lib.hid (HQ1.out.step ((((Below.refl _ _).alloc (Nat.le_refl _) _).alloc (by simp) _).trans (hW2.mono (by simp; omega)))); clear r0 r1 r2 z0 z1 z2; obtain ⟨⟨r3, y3, z3⟩, ⟨r4, y4, z4⟩⟩ := T)
      | (go_at_call 17; refine (same_tell _ _ _ _ _ _).mono ?_; rintro e W3 ⟨rfl, hW3⟩)
      | (go_at_call 11; refine (HWK.out _).mono ?_; rintro e WK ⟨rfl, hWK⟩))
    go_ret
    refine ⟨rfl, ?_⟩
    have b2 := HQ2.out.2.2.2
    have s2 := b2.size
    have s3 := hW3.size
    simp at s3
    exact (((b2.alloc (by omega) _).alloc (by simp; omega) _).trans (hW3.mono (by simp; omega))).trans (hWK.mono (by omega))
end Go.Proofs.Ytidheicmaodfgaa
