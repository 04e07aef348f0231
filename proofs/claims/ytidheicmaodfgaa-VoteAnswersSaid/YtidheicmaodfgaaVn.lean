/-
  VoteNewer, walked.
-/
import Derived.Test.YtidheicmaodfgaaVm
namespace Go.Proofs.Ytidheicmaodfgaa
open Go.RowKit

theorem ans_given {ht hv hb : Int} {rb nb : Bool} {self k f t : Int} {A : Ans} (hA : ansS ht hv hb rb nb self k f t = A) (h : A.ok = true) : rb = true ∧ nb = true ∧ A.e = 0 ∧ A.tt = f := by
  subst hA
  unfold ansS at h ⊢
  cases rb
  · simp at h
  · cases hb2 : badAsk k self f t
    · rw [hb2] at h
      simp at h ⊢
      exact h.2
    · rw [hb2] at h
      simp at h

set_option maxRecDepth 100000 in
set_option maxHeartbeats 8000000 in
theorem voteNewer_any (ht hv hb base term self : Int) (a : Option Addr) (len cap b o : Nat) (E : Nat → Ent) (k f tt t i l c : Int) (ok : Bool) (ea : Option Addr) (en ec : Nat) (si st ss : Int) (sa : Option Addr) (sn sc : Nat) (da : Option Addr) (dn dc : Nat) (w : World) (hs : EntsIn w a len cap b o E) (hwk : ∀ w, Calls Try.prog 11 #[] w fun e w' => e = .returned (.bool true) ∧ Below w.heap.size w w') :
    Calls Try.prog 8 #[.agg #[.int .i64 ht, .int .i64 hv, .int .i64 hb], .agg #[.int .i64 base, .int .i64 term, .slice a len cap], .int .i64 self, .agg #[.int .i8 k, .int .i64 f, .int .i64 tt, .int .i64 t, .int .i64 i, .int .i64 l, .int .i64 c, .bool ok, .slice ea en ec, .int .i64 si, .int .i64 st, .int .u8 ss, .slice sa sn sc, .slice da dn dc]] w fun e w' => e = .returned (.bool true) ∧ Below w.heap.size w w' := by
  have HS := Lib.hid hs
  have HWK := Lib.hid hwk
  have HQ := Lib.hid (Bx3.mk0 w #[.int .i64 ht, .int .i64 hv, .int .i64 hb] #[.int .i64 base, .int .i64 term, .slice a len cap] #[.int .i8 k, .int .i64 f, .int .i64 tt, .int .i64 t, .int .i64 i, .int .i64 l, .int .i64 c, .bool ok, .slice ea en ec, .int .i64 si, .int .i64 st, .int .u8 ss, .slice sa sn sc, .slice da dn dc] 23 26 40)
  obtain ⟨A, hA⟩ : ∃ A, ansS ht hv hb (rowsB base term len E) (newerB base term len E i l) self k f t = A := ⟨_, rfl⟩
  have A1 := Lib.hid (fun w hs => answer_any ht hv hb base term self a len cap b o E k f tt t i l c ok ea en ec si st ss sa sn sc da dn dc w hs A hA)
  have hG := ans_given hA
  obtain ⟨ae, at_, av, ab, ak, af, att, at2, aok⟩ := A
  simp only at hG
  clear hs hwk hA
  by_cases hg : 300 < len
  · have G1 : Hid (decide (300 < len) = true) := Lib.hid (by simpa using hg)
    clear hg A1 hG
    go_enter Try.func8, Try.ntmps8
    go_wp2_with (first
      | (go_at_call 10; refine (great_any _ _ _ _ _ _).mono ?_; rw [G1.out]; rintro e W ⟨rfl, rfl⟩)
      | (go_at_call 11; refine (HWK.out _).mono ?_; rintro e WK ⟨rfl, hWK⟩))
    go_ret
    exact ⟨rfl, (HQ.out.2.2.2.alloc (by simp; omega) _).trans (hWK.mono (by simp; omega))⟩
  · have G1 : Hid (decide (300 < len) = false) := Lib.hid (by simpa using hg)
    clear hg
    by_cases hbad : ae = 0 ∧ aok = true
    · obtain ⟨rfl, rfl⟩ := hbad
      obtain ⟨hk, hn, _, rfl⟩ := hG rfl
      clear hG
      have HK := Lib.hid hk
      unfold newerB newB at hn
      rw [hk, Bool.true_and] at hn
      obtain ⟨L, hL⟩ : ∃ L, L = lastT term len E := ⟨_, rfl⟩
      obtain ⟨N, hN⟩ : ∃ N, N = base + (len : Int) := ⟨_, rfl⟩
      rw [← hL, ← hN] at hn
      have L1 : Hid (∀ w, EntsIn w a len cap b o E → Calls Try.prog 25 #[.agg #[.int .i64 base, .int .i64 term, .slice a len cap]] w fun e w' => e = .returned (.tuple #[.int .i64 N, .int .i64 L]) ∧ Below w.heap.size w w') := Lib.hid (fun w hs => by rw [hL, hN]; exact rlast_ok base term a len cap b o E w hs hk)
      have hcs : L < l ∨ (l = L ∧ ¬ L < l ∧ N ≤ i) := by
        simp at hn
        omega
      clear hk hn hL hN
      rcases hcs with h | ⟨rfl, hnl, h⟩
      all_goals
        go_enter Try.func8, Try.ntmps8
        go_wp2_with (first
          | (go_at_call 10; refine (great_any _ _ _ _ _ _).mono ?_; rw [G1.out]; rintro e W ⟨rfl, rfl⟩)
          | (go_at_call 15; refine Calls.mono (A1.out _ ?_) ?_; exact HS.out.below (HQ.out.2.2.2.alloc (by simp; omega) _); rintro e W1 ⟨rfl, hW1⟩; have HQ1 := Lib.hid ((HQ.out.step ((Below.refl _ _).alloc (Nat.le_refl _) _)).step hW1); have r0 := HQ1.out.1.1; have r1 := HQ1.out.2.1.1; have r2 := HQ1.out.2.2.1.1; have z0 := HQ1.out.1.2.2; have z1 := HQ1.out.2.1.2.2; have z2 := HQ1.out.2.2.1.2.2)
          | (go_at_call 25; refine Calls.mono (L1.out _ ?_) ?_; exact HS.out.below ((HQ1.out.2.2.2.alloc (by omega) _).alloc (by simp; omega) _); rintro e W2 ⟨rfl, hW2⟩; have T := tw2 (n := W1.heap.size) hW2 rfl; have HQ2 := Lib.hid (HQ1.out.step ((((Below.refl _ _).alloc (Nat.le_refl _) _).alloc (by simp) _).trans (hW2.mono (by simp; omega)))); clear r0 r1 r2 z0 z1 z2; have r0 := HQ2.out.1.1; have r1 := HQ2.out.2.1.1; have r2 := HQ2.out.2.2.1.1; obtain ⟨⟨r3, y3, z3⟩, ⟨r4, y4, z4⟩⟩ := T)
          | (go_at_call 11; refine (HWK.out _).mono ?_; rintro e WK ⟨rfl, hWK⟩))
        go_ret
        exact ⟨rfl, HQ2.out.2.2.2.trans (hWK.mono HQ2.out.2.2.2.size)⟩
    · have hcs : (ae ≠ 0) ∨ (ae = 0 ∧ aok = false) := by
        by_cases h0 : ae = 0
        · exact .inr ⟨h0, by cases aok; rfl; exact absurd ⟨h0, rfl⟩ hbad⟩
        · exact .inl h0
      clear hbad hG
      rcases hcs with h | ⟨rfl, rfl⟩
      · have b1 : (ae != 0) = true := by rw [bne_iff_ne]; exact h
        have b2 : (ae == 0) = false := by rw [beq_eq_false_iff_ne]; exact h
        clear h
        go_enter Try.func8, Try.ntmps8
        go_wp2_with (first
          | (go_at_call 10; refine (great_any _ _ _ _ _ _).mono ?_; rw [G1.out]; rintro e W ⟨rfl, rfl⟩)
          | (go_at_call 15; refine Calls.mono (A1.out _ ?_) ?_; exact HS.out.below (HQ.out.2.2.2.alloc (by simp; omega) _); rintro e W1 ⟨rfl, hW1⟩; have HQ1 := Lib.hid ((HQ.out.step ((Below.refl _ _).alloc (Nat.le_refl _) _)).step hW1); have r0 := HQ1.out.1.1; have r1 := HQ1.out.2.1.1; have r2 := HQ1.out.2.2.1.1; have z0 := HQ1.out.1.2.2; have z1 := HQ1.out.2.1.2.2; have z2 := HQ1.out.2.2.1.2.2)
          | (go_at_call 11; refine (HWK.out _).mono ?_; rintro e WK ⟨rfl, hWK⟩))
        go_ret
        exact ⟨rfl, ((HQ1.out.2.2.2.alloc (by omega) _).alloc (by simp; omega) _).trans (hWK.mono (by simp; omega))⟩
      · go_enter Try.func8, Try.ntmps8
        go_wp2_with (first
          | (go_at_call 10; refine (great_any _ _ _ _ _ _).mono ?_; rw [G1.out]; rintro e W ⟨rfl, rfl⟩)
          | (go_at_call 15; refine Calls.mono (A1.out _ ?_) ?_; exact HS.out.below (HQ.out.2.2.2.alloc (by simp; omega) _); rintro e W1 ⟨rfl, hW1⟩; have HQ1 := Lib.hid ((HQ.out.step ((Below.refl _ _).alloc (Nat.le_refl _) _)).step hW1); have r0 := HQ1.out.1.1; have r1 := HQ1.out.2.1.1; have r2 := HQ1.out.2.2.1.1; have z0 := HQ1.out.1.2.2; have z1 := HQ1.out.2.1.2.2; have z2 := HQ1.out.2.2.1.2.2)
          | (go_at_call 11; refine (HWK.out _).mono ?_; rintro e WK ⟨rfl, hWK⟩))
        go_ret
        exact ⟨rfl, ((HQ1.out.2.2.2.alloc (by omega) _).alloc (by simp; omega) _).trans (hWK.mono (by simp; omega))⟩
end Go.Proofs.Ytidheicmaodfgaa
