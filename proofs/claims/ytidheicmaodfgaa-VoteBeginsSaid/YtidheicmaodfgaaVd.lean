/-
  The document's answer: one that is refused.
-/
import Derived.Test.YtidheicmaodfgaaVb
namespace Go.Proofs.Ytidheicmaodfgaa
open Go.RowKit

set_option maxRecDepth 100000 in
set_option maxHeartbeats 4000000 in
theorem ranswer_rows (ht hv hb base term self : Int) (a : Option Addr) (len cap b o : Nat) (E : Nat → Ent) (k f tt t i l c : Int) (ok : Bool) (ea : Option Addr) (en ec : Nat) (si st ss : Int) (sa : Option Addr) (sn sc : Nat) (da : Option Addr) (dn dc : Nat) (w : World) (hs : EntsIn w a len cap b o E) (hk : rowsB base term len E = false) :
    Calls Try.prog 16 #[.agg #[.int .i64 ht, .int .i64 hv, .int .i64 hb], .agg #[.int .i64 base, .int .i64 term, .slice a len cap], .int .i64 self, .agg #[.int .i8 k, .int .i64 f, .int .i64 tt, .int .i64 t, .int .i64 i, .int .i64 l, .int .i64 c, .bool ok, .slice ea en ec, .int .i64 si, .int .i64 st, .int .u8 ss, .slice sa sn sc, .slice da dn dc]] w fun e w' => e = .returned (.tuple #[.agg #[.int .i64 0, .int .i64 0, .int .i64 0], .agg #[.int .i8 0, .int .i64 0, .int .i64 0, .int .i64 0, .int .i64 0, .int .i64 0, .int .i64 0, .bool false, .slice none 0 0, .int .i64 0, .int .i64 0, .int .u8 0, .slice none 0 0, .slice none 0 0], .int .i64 90]) ∧ Below w.heap.size w w' := by
  have HS := Lib.hid hs
  have he := rowsE_bad hk
  have cur := BxA.mk0 w ht hv hb base term (.slice a len cap) #[.int .i8 k, .int .i64 f, .int .i64 tt, .int .i64 t, .int .i64 i, .int .i64 l, .int .i64 c, .bool ok, .slice ea en ec, .int .i64 si, .int .i64 st, .int .u8 ss, .slice sa sn sc, .slice da dn dc]
  have HC := Lib.hid cur
  clear hs hk cur
  go_enter Try.func16, Try.ntmps16
  go_wp2_with (go_at_call 24; refine (rcheck_any _ _ _ _ _ _ _ _ _ (HS.out.below HC.out.2.2.2.2.2.2)).mono ?_; rw [he]; rintro e W ⟨rfl, hW⟩; obtain ⟨q0, q1, q2, q3, q4, q5, q6⟩ := HC.out.step hW; have r3 := fun j => cell_at q3 j; have r4 := fun j => cell_at q4 j; have z3 := fun j => free_at q3 j; have z4 := fun j => free_at q4 j; clear q0 q1 q2 q3 q4)
  refine bodyPost_ret (v := .tuple #[.agg #[.int .i64 0, .int .i64 0, .int .i64 0], .agg #[.int .i8 0, .int .i64 0, .int .i64 0, .int .i64 0, .int .i64 0, .int .i64 0, .int .i64 0, .bool false, .slice none 0 0, .int .i64 0, .int .i64 0, .int .u8 0, .slice none 0 0, .slice none 0 0], .int .i64 90]) (by simp [results, Try.results16, go_sem, r3, r4]) rfl ⟨rfl, ?_⟩
  (repeat (refine Below.setCell ?_ (by first | (simp; done) | (simp; omega)) _)); exact q6

set_option maxRecDepth 100000 in
set_option maxHeartbeats 8000000 in
theorem ranswer_bad (ht hv hb base term self : Int) (a : Option Addr) (len cap b o : Nat) (E : Nat → Ent) (k f tt t i l c : Int) (ok : Bool) (ea : Option Addr) (en ec : Nat) (si st ss : Int) (sa : Option Addr) (sn sc : Nat) (da : Option Addr) (dn dc : Nat) (w : World) (hs : EntsIn w a len cap b o E) (hk : rowsB base term len E = true) (hbad : badAsk k self f t = true) :
    Calls Try.prog 16 #[.agg #[.int .i64 ht, .int .i64 hv, .int .i64 hb], .agg #[.int .i64 base, .int .i64 term, .slice a len cap], .int .i64 self, .agg #[.int .i8 k, .int .i64 f, .int .i64 tt, .int .i64 t, .int .i64 i, .int .i64 l, .int .i64 c, .bool ok, .slice ea en ec, .int .i64 si, .int .i64 st, .int .u8 ss, .slice sa sn sc, .slice da dn dc]] w fun e w' => e = .returned (.tuple #[.agg #[.int .i64 0, .int .i64 0, .int .i64 0], .agg #[.int .i8 0, .int .i64 0, .int .i64 0, .int .i64 0, .int .i64 0, .int .i64 0, .int .i64 0, .bool false, .slice none 0 0, .int .i64 0, .int .i64 0, .int .u8 0, .slice none 0 0, .slice none 0 0], .int .i64 2]) ∧ Below w.heap.size w w' := by
  have HS := Lib.hid hs
  have he := rowsE_ok hk
  have cur := BxA.mk0 w ht hv hb base term (.slice a len cap) #[.int .i8 k, .int .i64 f, .int .i64 tt, .int .i64 t, .int .i64 i, .int .i64 l, .int .i64 c, .bool ok, .slice ea en ec, .int .i64 si, .int .i64 st, .int .u8 ss, .slice sa sn sc, .slice da dn dc]
  have HC := Lib.hid cur
  have n1 := fun w => rnode_any self w
  have n2 := fun w => rnode_any f w
  have hcs := badAsk_cases k self f t hbad
  obtain ⟨x, hx⟩ : ∃ x, x = nodeB self := ⟨_, rfl⟩
  obtain ⟨y, hy⟩ : ∃ y, y = nodeB f := ⟨_, rfl⟩
  rw [← hx, ← hy] at hcs
  rw [← hx] at n1
  rw [← hy] at n2
  have N1 := Lib.hid n1
  have N2 := Lib.hid n2
  clear hs hk cur hbad hx hy n1 n2
  rcases hcs with h | ⟨rfl, rfl⟩ | ⟨rfl, rfl, rfl⟩ | ⟨rfl, rfl, rfl, h⟩ | ⟨rfl, rfl, rfl, h, h2⟩
  · have b1 : (k != 1) = true := by rw [bne_iff_ne]; exact h
    clear h
    go_enter Try.func16, Try.ntmps16
    go_wp2_with (go_at_call 24; refine (rcheck_any _ _ _ _ _ _ _ _ _ (HS.out.below HC.out.2.2.2.2.2.2)).mono ?_; rw [he]; rintro e W ⟨rfl, hW⟩; obtain ⟨q0, q1, q2, q3, q4, q5, q6⟩ := HC.out.step hW; have r3 := fun j => cell_at q3 j; have r4 := fun j => cell_at q4 j; have z3 := fun j => free_at q3 j; have z4 := fun j => free_at q4 j; have m0 := cell_at q2 0; have m1 := cell_at q2 1; have m3 := cell_at q2 3; clear q0 q1 q2 q3 q4)
    refine bodyPost_ret (v := .tuple #[.agg #[.int .i64 0, .int .i64 0, .int .i64 0], .agg #[.int .i8 0, .int .i64 0, .int .i64 0, .int .i64 0, .int .i64 0, .int .i64 0, .int .i64 0, .bool false, .slice none 0 0, .int .i64 0, .int .i64 0, .int .u8 0, .slice none 0 0, .slice none 0 0], .int .i64 2]) (by simp [results, Try.results16, go_sem, r3, r4]) rfl ⟨rfl, ?_⟩
    (repeat (refine Below.setCell ?_ (by first | (simp; done) | (simp; omega)) _)); exact q6
  · go_enter Try.func16, Try.ntmps16
    go_wp2_with (first
      | (go_at_call 24; refine (rcheck_any _ _ _ _ _ _ _ _ _ (HS.out.below HC.out.2.2.2.2.2.2)).mono ?_; rw [he]; rintro e W ⟨rfl, hW⟩; obtain ⟨q0, q1, q2, q3, q4, q5, q6⟩ := HC.out.step hW; have r3 := fun j => cell_at q3 j; have r4 := fun j => cell_at q4 j; have z3 := fun j => free_at q3 j; have z4 := fun j => free_at q4 j; have m0 := cell_at q2 0; have m1 := cell_at q2 1; have m3 := cell_at q2 3; clear q0 q1 q2 q3 q4)
      | (go_at_call 38; refine (N1.out _).mono ?_; rintro e w' ⟨rfl, rfl⟩))
    refine bodyPost_ret (v := .tuple #[.agg #[.int .i64 0, .int .i64 0, .int .i64 0], .agg #[.int .i8 0, .int .i64 0, .int .i64 0, .int .i64 0, .int .i64 0, .int .i64 0, .int .i64 0, .bool false, .slice none 0 0, .int .i64 0, .int .i64 0, .int .u8 0, .slice none 0 0, .slice none 0 0], .int .i64 2]) (by simp [results, Try.results16, go_sem, r3, r4]) rfl ⟨rfl, ?_⟩
    (repeat (refine Below.setCell ?_ (by first | (simp; done) | (simp; omega)) _)); exact q6
  · go_enter Try.func16, Try.ntmps16
    go_wp2_with (first
      | (go_at_call 24; refine (rcheck_any _ _ _ _ _ _ _ _ _ (HS.out.below HC.out.2.2.2.2.2.2)).mono ?_; rw [he]; rintro e W ⟨rfl, hW⟩; obtain ⟨q0, q1, q2, q3, q4, q5, q6⟩ := HC.out.step hW; have r3 := fun j => cell_at q3 j; have r4 := fun j => cell_at q4 j; have z3 := fun j => free_at q3 j; have z4 := fun j => free_at q4 j; have m0 := cell_at q2 0; have m1 := cell_at q2 1; have m3 := cell_at q2 3; clear q0 q1 q2 q3 q4)
      | (go_at_call_of 38 (Value.int .i64 f); with_reducible refine Calls.mono (N2.out _) ?_; rintro e w' ⟨rfl, rfl⟩)
      | (go_at_call 38; with_reducible refine Calls.mono (N1.out _) ?_; rintro e w' ⟨rfl, rfl⟩))
    refine bodyPost_ret (v := .tuple #[.agg #[.int .i64 0, .int .i64 0, .int .i64 0], .agg #[.int .i8 0, .int .i64 0, .int .i64 0, .int .i64 0, .int .i64 0, .int .i64 0, .int .i64 0, .bool false, .slice none 0 0, .int .i64 0, .int .i64 0, .int .u8 0, .slice none 0 0, .slice none 0 0], .int .i64 2]) (by simp [results, Try.results16, go_sem, r3, r4]) rfl ⟨rfl, ?_⟩
    (repeat (refine Below.setCell ?_ (by first | (simp; done) | (simp; omega)) _)); exact q6
  · have b1 : (f == self) = true := by rw [beq_iff_eq]; exact h.symm
    clear h
    go_enter Try.func16, Try.ntmps16
    go_wp2_with (first
      | (go_at_call 24; refine (rcheck_any _ _ _ _ _ _ _ _ _ (HS.out.below HC.out.2.2.2.2.2.2)).mono ?_; rw [he]; rintro e W ⟨rfl, hW⟩; obtain ⟨q0, q1, q2, q3, q4, q5, q6⟩ := HC.out.step hW; have r3 := fun j => cell_at q3 j; have r4 := fun j => cell_at q4 j; have z3 := fun j => free_at q3 j; have z4 := fun j => free_at q4 j; have m0 := cell_at q2 0; have m1 := cell_at q2 1; have m3 := cell_at q2 3; clear q0 q1 q2 q3 q4)
      | (go_at_call_of 38 (Value.int .i64 f); with_reducible refine Calls.mono (N2.out _) ?_; rintro e w' ⟨rfl, rfl⟩)
      | (go_at_call 38; with_reducible refine Calls.mono (N1.out _) ?_; rintro e w' ⟨rfl, rfl⟩))
    refine bodyPost_ret (v := .tuple #[.agg #[.int .i64 0, .int .i64 0, .int .i64 0], .agg #[.int .i8 0, .int .i64 0, .int .i64 0, .int .i64 0, .int .i64 0, .int .i64 0, .int .i64 0, .bool false, .slice none 0 0, .int .i64 0, .int .i64 0, .int .u8 0, .slice none 0 0, .slice none 0 0], .int .i64 2]) (by simp [results, Try.results16, go_sem, r3, r4]) rfl ⟨rfl, ?_⟩
    (repeat (refine Below.setCell ?_ (by first | (simp; done) | (simp; omega)) _)); exact q6
  · have b1 : (f == self) = false := by rw [beq_eq_false_iff_ne]; exact fun e => h e.symm
    clear h
    go_enter Try.func16, Try.ntmps16
    go_wp2_with (first
      | (go_at_call 24; refine (rcheck_any _ _ _ _ _ _ _ _ _ (HS.out.below HC.out.2.2.2.2.2.2)).mono ?_; rw [he]; rintro e W ⟨rfl, hW⟩; obtain ⟨q0, q1, q2, q3, q4, q5, q6⟩ := HC.out.step hW; have r3 := fun j => cell_at q3 j; have r4 := fun j => cell_at q4 j; have z3 := fun j => free_at q3 j; have z4 := fun j => free_at q4 j; have m0 := cell_at q2 0; have m1 := cell_at q2 1; have m3 := cell_at q2 3; clear q0 q1 q2 q3 q4)
      | (go_at_call_of 38 (Value.int .i64 f); with_reducible refine Calls.mono (N2.out _) ?_; rintro e w' ⟨rfl, rfl⟩)
      | (go_at_call 38; with_reducible refine Calls.mono (N1.out _) ?_; rintro e w' ⟨rfl, rfl⟩))
    refine bodyPost_ret (v := .tuple #[.agg #[.int .i64 0, .int .i64 0, .int .i64 0], .agg #[.int .i8 0, .int .i64 0, .int .i64 0, .int .i64 0, .int .i64 0, .int .i64 0, .int .i64 0, .bool false, .slice none 0 0, .int .i64 0, .int .i64 0, .int .u8 0, .slice none 0 0, .slice none 0 0], .int .i64 2]) (by simp [results, Try.results16, go_sem, r3, r4]) rfl ⟨rfl, ?_⟩
    (repeat (refine Below.setCell ?_ (by first | (simp; done) | (simp; omega)) _)); exact q6
end Go.Proofs.Ytidheicmaodfgaa
