/-
  Package judge: Out, the program's and the document's.
-/
import Derived.Test.YtcimcmfibinehaaJd2
namespace Go.Proofs.Ytcimcmfibinehaa
open Go.RowKit
set_option linter.unusedSimpArgs false
set_option linter.unusedVariables false

def inB (T s t : Int) (x : SentE) : Bool := decide (x.ten = T ∧ s < x.t ∧ x.t ≤ t)
def outS (L : Nat → SentE) (T s t : Int) : Nat → Int
  | 0 => 0
  | n + 1 => outS L T s t n + if inB T s t (L n) then (L n).sz else 0
theorem chkS_le {L : Nat → SentE} : ∀ {n : Nat}, chkS L n = true → ∀ k, k < n → 1 ≤ (L k).sz ∧ (L k).sz ≤ 1500 ∧ (L k).t ≤ 1099511627776 ∧ lastS L k ≤ (L k).t ∧ 1 ≤ (L k).ten ∧ (L k).ten ≤ 16
  | 0, _, k, hk => by omega
  | n + 1, h, k, hk => by
    unfold chkS at h
    obtain ⟨h1, h2⟩ := Bool.and_eq_true_iff.1 h
    by_cases e : k = n
    · subst e
      obtain ⟨d1, d2, d3, d4, d5⟩ := sentOk_yes h2
      have : 1 ≤ (L k).ten ∧ (L k).ten ≤ 16 := by simpa [isT] using d5
      exact ⟨d3, d4, d2, d1, this⟩
    · exact chkS_le h1 k (by omega)
theorem chkS_pre {L : Nat → SentE} : ∀ {n : Nat}, chkS L n = true → ∀ k, k ≤ n → chkS L k = true
  | 0, h, k, hk => by obtain rfl : k = 0 := by omega
                      rfl
  | n + 1, h, k, hk => by
    by_cases e : k = n + 1
    · rw [e]; exact h
    · unfold chkS at h
      exact chkS_pre (Bool.and_eq_true_iff.1 h).1 k (by omega)
theorem outS_bd {L : Nat → SentE} {T s t : Int} : ∀ {n : Nat}, chkS L n = true → 0 ≤ outS L T s t n ∧ outS L T s t n ≤ 1500 * n
  | 0, _ => by simp [outS]
  | n + 1, h => by
    have ih := outS_bd (T := T) (s := s) (t := t) (chkS_pre h n (by omega))
    have hn := chkS_le h n (by omega)
    rw [outS]
    split <;> omega

theorem out1_any (x : SentE) (p1 p2 p3 : Nat) (T s t : Int) (w : World) (h1 : w.cell? ⟨p1, 0, none⟩ = some (.int .i64 T)) (h2 : w.cell? ⟨p2, 0, none⟩ = some (.int .i64 s)) (h3 : w.cell? ⟨p3, 0, none⟩ = some (.int .i64 t)) (l1 : p1 < w.heap.size) (l2 : p2 < w.heap.size) (l3 : p3 < w.heap.size) :
    Calls Try.prog 21 (#[.agg #[.int .i64 x.t, .int .i64 x.sh, .int .i64 x.ten, .int .i64 x.fl, .int .i64 x.sz, .int .i64 x.pk]] ++ #[.pointer (some ⟨p1, 0, none⟩), .pointer (some ⟨p2, 0, none⟩), .pointer (some ⟨p3, 0, none⟩)]) w fun e w' => e = .returned (.bool (inB T s t x)) ∧ Below w.heap.size w w' := by
  obtain ⟨xt, xsh, xten, xfl, xsz, xpk⟩ := x
  obtain ⟨Q, hQ⟩ : ∃ Q, Q = inB T s t ⟨xt, xsh, xten, xfl, xsz, xpk⟩ := ⟨_, rfl⟩
  have HQ := Lib.hid hQ
  rw [← hQ]
  clear hQ
  dsimp only
  by_cases c1 : xten = T
  · have g1 : (xten == T) = true := by simpa using c1
    by_cases c2 : s < xt
    · have g2 : decide (s < xt) = true := decide_eq_true c2
      by_cases c3 : xt ≤ t
      · have g3 : decide (xt ≤ t) = true := decide_eq_true c3
        have HQ2 : Hid (Q = true) := Lib.hid (by rw [HQ.out, inB, decide_eq_true ⟨c1, c2, c3⟩])
        clear c1
        go_enter Try.func21, Try.ntmps21
        go_wp2_with fail
        go_ret
        exact ⟨by rw [HQ2.out]; rfl, (Below.refl _ _).alloc (Nat.le_refl _) _⟩
      · have g3 : decide (xt ≤ t) = false := decide_eq_false c3
        have HQ2 : Hid (Q = false) := Lib.hid (by rw [HQ.out, inB, decide_eq_false (fun h => c3 h.2.2)])
        clear c1
        go_enter Try.func21, Try.ntmps21
        go_wp2_with fail
        go_ret
        exact ⟨by rw [HQ2.out]; rfl, (Below.refl _ _).alloc (Nat.le_refl _) _⟩
    · have g2 : decide (s < xt) = false := decide_eq_false c2
      have HQ2 : Hid (Q = false) := Lib.hid (by rw [HQ.out, inB, decide_eq_false (fun h => c2 h.2.1)])
      clear c1
      go_enter Try.func21, Try.ntmps21
      go_wp2_with fail
      go_ret
      exact ⟨by rw [HQ2.out]; rfl, (Below.refl _ _).alloc (Nat.le_refl _) _⟩
  · have g1 : (xten == T) = false := by simpa using c1
    have HQ2 : Hid (Q = false) := Lib.hid (by rw [HQ.out, inB, decide_eq_false (fun h => c1 h.1)])
    clear c1
    go_enter Try.func21, Try.ntmps21
    go_wp2_with fail
    go_ret
    exact ⟨by rw [HQ2.out]; rfl, (Below.refl _ _).alloc (Nat.le_refl _) _⟩

set_option maxRecDepth 100000 in
set_option maxHeartbeats 8000000 in
theorem of_any (p1 p2 p3 : Nat) (T s t : Int) (a : Option Addr) (n c b o : Nat) (L : Nat → SentE) (w : World) (hs : SentIn w a n c b o L) (hch : chkS L n = true) (hn : n ≤ 60) (h1 : w.cell? ⟨p1, 0, none⟩ = some (.int .i64 T)) (h2 : w.cell? ⟨p2, 0, none⟩ = some (.int .i64 s)) (h3 : w.cell? ⟨p3, 0, none⟩ = some (.int .i64 t)) (l1 : p1 < w.heap.size) (l2 : p2 < w.heap.size) (l3 : p3 < w.heap.size) :
    Calls Try.prog 22 #[.agg #[.func (.func 21) #[] #[.pointer (some ⟨p1, 0, none⟩), .pointer (some ⟨p2, 0, none⟩), .pointer (some ⟨p3, 0, none⟩)]], .slice a n c] w fun e w' => e = .returned (.int .i64 (outS L T s t n)) ∧ Below w.heap.size w w' := by
  have hm := hs.max
  have hl := hs.le
  unfold maxLen at hm
  have HS := Lib.hid hs
  have HC := Lib.hid hch
  have H1 := Lib.hid (And.intro h1 (And.intro h2 h3))
  have HL := Lib.hid (And.intro l1 (And.intro l2 l3))
  obtain ⟨V, hV⟩ : ∃ V : Value, V = .func (.func 21) #[] #[.pointer (some ⟨p1, 0, none⟩), .pointer (some ⟨p2, 0, none⟩), .pointer (some ⟨p3, 0, none⟩)] := ⟨_, rfl⟩
  have HV := Lib.hid hV
  have HP0 := Lib.hid (blk_new w #[V] 61)
  have HB0 : Hid (Below w.heap.size w (w.alloc (.cells #[V] 61))) := Lib.hid ((Below.refl _ _).alloc (Nat.le_refl _) _)
  subst hV
  clear hs hch h1 h2 h3 l1 l2 l3
  go_enter Try.func22, Try.ntmps22
  go_wp2_with fail
  go_loopw [5, 10] (fun q i wr => ∃ k : Nat, k ≤ n ∧ i = .int .i64 k ∧ q = .int .i64 (outS L T s t k) ∧ Blk wr w.heap.size #[.func (.func 21) #[] #[.pointer (some ⟨p1, 0, none⟩), .pointer (some ⟨p2, 0, none⟩), .pointer (some ⟨p3, 0, none⟩)]] 61 ∧ Below w.heap.size w wr) (fun _ i _ => n - (intOf i).toNat)
  case atStart => exact ⟨0, Nat.zero_le _, rfl, rfl, HP0.out, HB0.out⟩
  case round =>
    clear HP0 HB0
    obtain ⟨k, hk, rfl, rfl, hp, hB⟩ := hrel
    have hob := outS_bd (T := T) (s := s) (t := t) (chkS_pre HC.out k hk)
    by_cases hlt : k < n
    · obtain ⟨e0, e1⟩ := HS.out.at_ (by omega)
      subst e0
      obtain ⟨c0, c1, c2, c3, c4, c5⟩ := (HS.out.below hB).cell k hlt
      have hsz := chkS_le HC.out k hlt
      have q0 : wr.cell? ⟨w.heap.size, 0, none⟩ = some (.func (.func 21) #[] #[.pointer (some ⟨p1, 0, none⟩), .pointer (some ⟨p2, 0, none⟩), .pointer (some ⟨p3, 0, none⟩)]) := cell_at hp 0
      have hlp := hp.lt
      have HB := Lib.hid hB
      have HP := Lib.hid hp
      have HOS : Hid (outS L T s t (k + 1) = outS L T s t k + if inB T s t (L k) then (L k).sz else 0) := Lib.hid rfl
      obtain ⟨x, hx⟩ : ∃ x, x = L k := ⟨_, rfl⟩
      rw [← hx] at c0 c1 c2 c3 c4 c5 hsz HOS
      obtain ⟨xt, xsh, xten, xfl, xsz, xpk⟩ := x
      dsimp only at c0 c1 c2 c3 c4 c5 hsz HOS
      obtain ⟨hz1, hz2, _⟩ := hsz
      obtain ⟨S, hS⟩ : ∃ S, S = outS L T s t k := ⟨_, rfl⟩
      rw [← hS] at hob HOS ⊢
      obtain ⟨ho1, ho2⟩ := hob
      have HC1 : Hid (∀ W, Below w.heap.size w W → Calls Try.prog 21 (#[.agg #[.int .i64 xt, .int .i64 xsh, .int .i64 xten, .int .i64 xfl, .int .i64 xsz, .int .i64 xpk]] ++ #[.pointer (some ⟨p1, 0, none⟩), .pointer (some ⟨p2, 0, none⟩), .pointer (some ⟨p3, 0, none⟩)]) W fun e w' => e = .returned (.bool (inB T s t ⟨xt, xsh, xten, xfl, xsz, xpk⟩)) ∧ Below W.heap.size W w') := Lib.hid (fun W hW =>
        out1_any ⟨xt, xsh, xten, xfl, xsz, xpk⟩ p1 p2 p3 T s t W ((hW.cell (p := ⟨p1, 0, none⟩) HL.out.1).trans H1.out.1) ((hW.cell (p := ⟨p2, 0, none⟩) HL.out.2.1).trans H1.out.2.1) ((hW.cell (p := ⟨p3, 0, none⟩) HL.out.2.2).trans H1.out.2.2) (Nat.lt_of_lt_of_le HL.out.1 hW.size) (Nat.lt_of_lt_of_le HL.out.2.1 hW.size) (Nat.lt_of_lt_of_le HL.out.2.2 hW.size))
      obtain ⟨Q, hQ⟩ : ∃ Q, Q = inB T s t ⟨xt, xsh, xten, xfl, xsz, xpk⟩ := ⟨_, rfl⟩
      rw [← hQ] at HC1 HOS
      have HX0 := Lib.hid (blk_new wr #[.int .i64 xt, .int .i64 xsh, .int .i64 xten, .int .i64 xfl, .int .i64 xsz, .int .i64 xpk] 34)
      have HB1 : Hid (Below w.heap.size w (wr.alloc (.cells #[.int .i64 xt, .int .i64 xsh, .int .i64 xten, .int .i64 xfl, .int .i64 xsz, .int .i64 xpk] 34))) := Lib.hid (HB.out.alloc HB.out.size _)
      have HP1 := Lib.hid (HP.out.alloc (.cells #[.int .i64 xt, .int .i64 xsh, .int .i64 xten, .int .i64 xfl, .int .i64 xsz, .int .i64 xpk] 34))
      clear hB hp hS hQ hx HP HB
      go_wp2_with fail
      go_at_call 21
      refine Calls.mono (HC1.out _ HB1.out) ?_
      rintro e W1 ⟨rfl, hW1⟩
      have hx1 := HX0.out.step hW1
      have x4 : W1.cell? ⟨wr.heap.size, 4, none⟩ = some (.int .i64 xsz) := cell_at hx1 4
      have HB2 := Lib.hid (HB1.out.trans (hW1.mono HB1.out.size))
      have HP2 := Lib.hid (HP1.out.step hW1)
      clear hW1 hx1 q0 hlp c0 c1 c2 c3 c4 c5
      cases Q
      · go_wp2_with fail
        go_roundw
        case rel => exact ⟨k + 1, by omega, by go_num, by rw [HOS.out]; simp, HP2.out, HB2.out⟩
        case measure => first | (simp [intOf]; done) | (simp [intOf]; omega)
      · go_wp2_with fail
        go_roundw
        case rel => exact ⟨k + 1, by omega, by go_num, by rw [HOS.out]; simp, HP2.out, HB2.out⟩
        case measure => first | (simp [intOf]; done) | (simp [intOf]; omega)
    · obtain rfl : k = n := by omega
      have HB := Lib.hid hB
      clear hB
      go_wp2_with fail
      go_ret
      exact ⟨rfl, HB.out⟩
end Go.Proofs.Ytcimcmfibinehaa
