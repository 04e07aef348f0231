/-
  Package vote: any answer; the document's answer beside it; weirlaw10's asks; a row of terms as entries.
-/
import Derived.Test.YtidheicmaodfgaaVe
import Derived.Test.YtidheicmaodfgaaVd
import Derived.Test.YtidheicmaodfgaaVf
namespace Go.Proofs.Ytidheicmaodfgaa
open Go.RowKit

structure Ans where
  e : Int
  t : Int
  v : Int
  b : Int
  k : Int
  f : Int
  tt : Int
  t2 : Int
  ok : Bool
/-- what an ask is answered -/
def ansS (ht hv hb : Int) (rb nb : Bool) (self k f t : Int) : Ans :=
  if rb = false then ⟨90, 0, 0, 0, 0, 0, 0, 0, false⟩ else if badAsk k self f t = true then ⟨2, 0, 0, 0, 0, 0, 0, 0, false⟩ else
    ⟨0, riseT ht t, if decide (ht ≤ t) && freeB (riseV ht hv t) f && nb then f else riseV ht hv t, hb, 2, self, f, riseT ht t, decide (ht ≤ t) && freeB (riseV ht hv t) f && nb⟩

theorem answer_any (ht hv hb base term self : Int) (a : Option Addr) (len cap b o : Nat) (E : Nat → Ent) (k f tt t i l c : Int) (ok : Bool) (ea : Option Addr) (en ec : Nat) (si st ss : Int) (sa : Option Addr) (sn sc : Nat) (da : Option Addr) (dn dc : Nat) (w : World) (hs : EntsIn w a len cap b o E) (A : Ans) (hA : ansS ht hv hb (rowsB base term len E) (newerB base term len E i l) self k f t = A) :
    Calls Try.prog 15 #[.agg #[.int .i64 ht, .int .i64 hv, .int .i64 hb], .agg #[.int .i64 base, .int .i64 term, .slice a len cap], .int .i64 self, .agg #[.int .i8 k, .int .i64 f, .int .i64 tt, .int .i64 t, .int .i64 i, .int .i64 l, .int .i64 c, .bool ok, .slice ea en ec, .int .i64 si, .int .i64 st, .int .u8 ss, .slice sa sn sc, .slice da dn dc]] w fun e w' => e = .returned (.tuple #[.agg #[.int .i64 A.t, .int .i64 A.v, .int .i64 A.b], .agg #[.int .i8 A.k, .int .i64 A.f, .int .i64 A.tt, .int .i64 A.t2, .int .i64 0, .int .i64 0, .int .i64 0, .bool A.ok, .slice none 0 0, .int .i64 0, .int .i64 0, .int .u8 0, .slice none 0 0, .slice none 0 0], .int .i64 A.e]) ∧ Below w.heap.size w w' := by
  subst hA
  unfold ansS
  cases hk : rowsB base term len E
  · rw [if_pos rfl]
    exact answer_rows ht hv hb base term self a len cap b o E k f tt t i l c ok ea en ec si st ss sa sn sc da dn dc w hs hk
  · rw [if_neg (by simp)]
    cases hb2 : badAsk k self f t
    · rw [if_neg (by simp)]
      exact answer_good ht hv hb base term self a len cap b o E k f tt t i l c ok ea en ec si st ss sa sn sc da dn dc w hs hk hb2 _ _ _ _ _ rfl rfl rfl rfl rfl
    · rw [if_pos rfl]
      exact answer_bad ht hv hb base term self a len cap b o E k f tt t i l c ok ea en ec si st ss sa sn sc da dn dc w hs hk hb2
theorem ranswer_any (ht hv hb base term self : Int) (a : Option Addr) (len cap b o : Nat) (E : Nat → Ent) (k f tt t i l c : Int) (ok : Bool) (ea : Option Addr) (en ec : Nat) (si st ss : Int) (sa : Option Addr) (sn sc : Nat) (da : Option Addr) (dn dc : Nat) (w : World) (hs : EntsIn w a len cap b o E) (A : Ans) (hA : ansS ht hv hb (rowsB base term len E) (newerB base term len E i l) self k f t = A) :
    Calls Try.prog 16 #[.agg #[.int .i64 ht, .int .i64 hv, .int .i64 hb], .agg #[.int .i64 base, .int .i64 term, .slice a len cap], .int .i64 self, .agg #[.int .i8 k, .int .i64 f, .int .i64 tt, .int .i64 t, .int .i64 i, .int .i64 l, .int .i64 c, .bool ok, .slice ea en ec, .int .i64 si, .int .i64 st, .int .u8 ss, .slice sa sn sc, .slice da dn dc]] w fun e w' => e = .returned (.tuple #[.agg #[.int .i64 A.t, .int .i64 A.v, .int .i64 A.b], .agg #[.int .i8 A.k, .int .i64 A.f, .int .i64 A.tt, .int .i64 A.t2, .int .i64 0, .int .i64 0, .int .i64 0, .bool A.ok, .slice none 0 0, .int .i64 0, .int .i64 0, .int .u8 0, .slice none 0 0, .slice none 0 0], .int .i64 A.e]) ∧ Below w.heap.size w w' := by
  subst hA
  unfold ansS
  cases hk : rowsB base term len E
  · rw [if_pos rfl]
    exact ranswer_rows ht hv hb base term self a len cap b o E k f tt t i l c ok ea en ec si st ss sa sn sc da dn dc w hs hk
  · rw [if_neg (by simp)]
    cases hb2 : badAsk k self f t
    · rw [if_neg (by simp)]
      exact ranswer_good ht hv hb base term self a len cap b o E k f tt t i l c ok ea en ec si st ss sa sn sc da dn dc w hs hk hb2 _ _ _ _ _ rfl rfl rfl rfl rfl
    · rw [if_pos rfl]
      exact ranswer_bad ht hv hb base term self a len cap b o E k f tt t i l c ok ea en ec si st ss sa sn sc da dn dc w hs hk hb2

set_option maxHeartbeats 1000000 in
theorem ask_any (t i l : Int) (w : World) : Calls Try.prog 27 #[.int .i64 t, .int .i64 i, .int .i64 l] w fun e w' => e = .returned (.agg #[.int .i8 1, .int .i64 2, .int .i64 0, .int .i64 t, .int .i64 i, .int .i64 l, .int .i64 0, .bool false, .slice none 0 0, .int .i64 0, .int .i64 0, .int .u8 0, .slice none 0 0, .slice none 0 0]) ∧ w.alloc (.cells #[.int .i8 1, .int .i64 2, .int .i64 0, .int .i64 t, .int .i64 i, .int .i64 l, .int .i64 0, .bool false, .slice none 0 0, .int .i64 0, .int .i64 0, .int .u8 0, .slice none 0 0, .slice none 0 0] 40) = w' := by
  go_enter Try.func27, Try.ntmps27
  go_wp2_with fail
  exact bodyPost_ret (v := .agg #[.int .i8 1, .int .i64 2, .int .i64 0, .int .i64 t, .int .i64 i, .int .i64 l, .int .i64 0, .bool false, .slice none 0 0, .int .i64 0, .int .i64 0, .int .u8 0, .slice none 0 0, .slice none 0 0]) (by simp [results, Try.results27, go_sem]) rfl ⟨rfl, rfl⟩

theorem ents_at (T : Nat → Int) : ∀ (n k j : Nat), k < n → j < 5 → (ents T n)[k * 5 + j]? = [.int .i64 (T k), .int .i8 0, .int .i64 0, .int .u8 0, .slice none 0 0][j]?
  | 0, _, _, h, _ => by omega
  | n + 1, k, j, h, hj => by
    have hl : (ents T n).length = n * 5 := by simp [ents, List.length_flatMap]; rw [List.map_const', List.sum_replicate_nat]; simp
    rw [ents_succ]
    by_cases hk : k < n
    · rw [List.getElem?_append_left (by omega)]
      exact ents_at T n k j hk hj
    · obtain rfl : k = n := by omega
      rw [List.getElem?_append_right (by omega), hl]
      congr 1
      omega
theorem ents_in {w : World} {v : Value} {ob : Option Nat} {T : Nat → Int} {n : Nat} (h : Row w v ob 67 5 n (ents T n)) (hn : n ≤ 300) (hT : ∀ k, k < n → -9223372036854775808 ≤ T k ∧ T k ≤ 9223372036854775807) :
    ∃ a cap b, v = .slice a n cap ∧ EntsIn w a n cap b 0 (fun k => ⟨T k, 0, 0, 0, none, 0, 0⟩) := by
  obtain ⟨a, cap, rfl, h1, h2, h3⟩ := h.shape
  refine ⟨a, cap, ob.getD 0, rfl, h1, h2, by omega, fun hk => ?_, fun k hk => ?_, fun k hk => ⟨(hT k hk).1, (hT k hk).2, by simp [maxLen]⟩⟩
  · obtain ⟨g, hg, _⟩ := h.cell 0 (by omega)
    subst hg
    exact ⟨h3, h.lt⟩
  · have hh : ∀ j, j < 5 → w.cell? ⟨ob.getD 0, 0 + k * 5 + j, none⟩ = [.int .i64 (T k), .int .i8 0, .int .i64 0, .int .u8 0, .slice none 0 0][j]? := fun j hj => by
      obtain ⟨g, hg, hc, _⟩ := h.cell (k * 5 + j) (by omega)
      subst hg
      rw [Option.getD_some, Nat.zero_add, hc, ents_at T n k j hk hj]
    exact ⟨hh 0 (by omega), hh 1 (by omega), hh 2 (by omega), hh 3 (by omega), hh 4 (by omega)⟩
end Go.Proofs.Ytidheicmaodfgaa
