/-
  rows.Term, and follow's made.
-/
import Derived.Test.YtninhjeiialbjaaFw6
namespace Go.Proofs.Ytninhjeiialbjaa
open Go.RowKit
set_option linter.unusedSimpArgs false
set_option linter.unusedVariables false

set_option maxRecDepth 100000 in
set_option maxHeartbeats 4000000 in
theorem rowsTerm_ok (base term idx : Int) (a : Option Addr) (len cap b o : Nat) (E : Nat → Ent) (w : World) (hs : EntsIn w a len cap b o E) (hk : rowsB base term len E = true) (hi : base ≤ idx ∧ idx ≤ base + len) :
    Calls Try.prog 68 #[.agg #[.int .i64 base, .int .i64 term, .slice a len cap], .int .i64 idx] w fun e w' => e = .returned (.tuple #[.int .i64 (termI base term E idx), .bool true]) ∧ Below w.heap.size w w' := by
  have hm := hs.max
  have hl := hs.le
  have HS := Lib.hid hs
  have CUR := Lib.hid (RBox.mk0 w base term (.slice a len cap))
  obtain ⟨b0, b1, h1, t0⟩ := rB_head hk
  have C1 := Lib.hid (check_any base term a len cap b o E _ (hs.below CUR.out.2.2))
  rw [rE_ok hk] at C1
  have CT := Lib.hid (fun W (h : Below w.heap.size w W) => term_any base term idx a len cap b o E W (hs.below h) b0 (by omega) h1 hi)
  obtain ⟨q, hq⟩ : ∃ q, q = termI base term E idx := ⟨_, rfl⟩
  rw [← hq] at CT ⊢
  have CE := Lib.hid (fun W => end_any base term a len cap W b0 (by omega) hl hm h1)
  obtain ⟨g1, g2⟩ := hi
  have d1 : decide (idx < base) = false := by simp; omega
  have d2 : decide (base + (len : Int) < idx) = false := by simp; omega
  clear hs hk hq hm hl
  go_enter Try.func68, Try.ntmps68
  go_wp2_with fail
  go_at_call 60
  refine C1.out.mono ?_
  rintro e W ⟨rfl, hW⟩
  have C2 := Lib.hid (CUR.out.step hW)
  clear hW
  obtain ⟨⟨f0, f1, f2⟩, f3, _⟩ := id C2.out
  go_wp2_with fail
  go_at_call 100
  refine (CE.out _).mono ?_
  rintro e W2 ⟨rfl, hW2⟩
  have C3 := Lib.hid (C2.out.step hW2)
  clear hW2 f0 f1 f2 f3
  obtain ⟨⟨f0, f1, f2⟩, f3, _⟩ := id C3.out
  go_wp2_with fail
  go_at_call 101
  refine (CT.out _ C3.out.2.2).mono ?_
  rintro e W3 ⟨rfl, hW3⟩
  have C4 := Lib.hid (C3.out.step hW3)
  clear hW3
  go_wp2_with fail
  go_ret2
  exact ⟨rfl, C4.out.2.2⟩

/-- the greatest of the first d entries that has just a term, and is behind none of a lesser or equal one: its index; 0, if there is none -/
def madeI (base : Int) (E : Nat → Ent) (t : Int) : Nat → Int
  | 0 => 0
  | d + 1 => if (E d).t ≤ t then (if (E d).t = t then base + ((d + 1 : Nat) : Int) else 0) else madeI base E t d
theorem termI_at (base term : Int) (E : Nat → Ent) (d : Nat) : termI base term E (base + ((d + 1 : Nat) : Int)) = (E d).t := by
  unfold termI
  rw [if_neg (by omega)]
  congr 2
  omega

set_option maxRecDepth 100000 in
set_option maxHeartbeats 4000000 in
theorem made_any (base term t up : Int) (a : Option Addr) (len cap b o : Nat) (E : Nat → Ent) (w : World) (hs : EntsIn w a len cap b o E) (hk : rowsB base term len E = true) (hu : up ≤ base + len) (hu0 : -9223372036854775808 ≤ up) :
    Calls Try.prog 66 #[.agg #[.int .i64 base, .int .i64 term, .slice a len cap], .int .i64 t, .int .i64 up] w fun e w' => e = .returned (.int .i64 (madeI base E t (up - base).toNat)) ∧ Below w.heap.size w w' := by
  have HS := Lib.hid hs
  have CUR := Lib.hid (RBox.mk0 w base term (.slice a len cap))
  obtain ⟨b0, b1, h1, t0⟩ := rB_head hk
  have CT := Lib.hid (fun d W (h : Below w.heap.size w W) (hd : d < len) => rowsTerm_ok base term (base + ((d + 1 : Nat) : Int)) a len cap b o E W (hs.below h) hk (by omega))
  obtain ⟨q, hq⟩ : ∃ q, q = madeI base E t (up - base).toNat := ⟨_, rfl⟩
  have HQ := Lib.hid hq
  rw [← hq]
  clear hs hk hq
  go_enter Try.func66, Try.ntmps66
  go_wp2_with fail
  go_loopw [2] (fun i wr => ∃ x : Int, i = .int .i64 x ∧ x ≤ base + len ∧ -9223372036854775808 ≤ x ∧ q = madeI base E t (x - base).toNat ∧ RBox w base term (.slice a len cap) wr) (fun i _ => (intOf i - base).toNat)
  case atStart => exact ⟨up, rfl, hu, hu0, HQ.out, CUR.out⟩
  case round =>
    obtain ⟨x, rfl, hx, hx0, hqx, hB⟩ := hrel
    have HB := Lib.hid hB
    obtain ⟨⟨f0, f1, f2⟩, f3, _⟩ := hB
    by_cases hlt : base < x
    · obtain ⟨d, hd⟩ : ∃ d, (x - base).toNat = d + 1 := ⟨(x - base).toNat - 1, by omega⟩
      rw [hd] at hqx
      have hxd : x = base + ((d + 1 : Nat) : Int) := by omega
      have hdl : d < len := by omega
      unfold madeI at hqx
      have hterm := termI_at base term E d
      have HC := Lib.hid (CT.out d wr HB.out.2.2 hdl)
      rw [hterm, ← hxd] at HC
      obtain ⟨et, het⟩ : ∃ et, et = (E d).t := ⟨_, rfl⟩
      rw [← het] at HC hqx
      have HQX := Lib.hid hqx
      have HD := Lib.hid hd
      have HXD := Lib.hid hxd
      clear hqx hd hxd hterm het
      by_cases hle : et ≤ t
      · by_cases heq : et = t
        · have hq1 := HQX.out
          rw [if_pos hle, if_pos heq, ← HXD.out] at hq1
          subst heq hq1
          go_wp2_with fail
          go_at_call 68
          refine HC.out.mono ?_
          rintro e W2 ⟨rfl, hW2⟩
          have H2 := Lib.hid (HB.out.step hW2)
          clear hW2
          go_wp2_with fail
          go_ret
          exact ⟨rfl, H2.out.2.2⟩
        · have hq1 := HQX.out
          rw [if_pos hle, if_neg heq] at hq1
          have d2 : (et == t) = false := by simpa using heq
          subst hq1
          go_wp2_with fail
          go_at_call 68
          refine HC.out.mono ?_
          rintro e W2 ⟨rfl, hW2⟩
          have H2 := Lib.hid (HB.out.step hW2)
          clear hW2
          go_wp2_with fail
          go_ret
          exact ⟨rfl, H2.out.2.2⟩
      · have hq1 := HQX.out
        rw [if_neg hle] at hq1
        have HQ1 := Lib.hid hq1
        clear hq1
        go_wp2_with fail
        go_at_call 68
        refine HC.out.mono ?_
        rintro e W2 ⟨rfl, hW2⟩
        have H2 := Lib.hid (HB.out.step hW2)
        clear hW2
        go_wp2_with fail
        go_roundw
        case rel => exact ⟨x - 1, by go_num, by omega, by omega, by rw [HQ1.out, show (x - 1 - base).toNat = d by have := HXD.out; omega], H2.out⟩
        case measure => simp [intOf]; have := HXD.out; omega
    · have hz : (x - base).toNat = 0 := by omega
      rw [hz] at hqx
      have hq0 : q = 0 := hqx
      subst hq0
      clear hqx hz
      go_wp2_with fail
      go_ret
      exact ⟨rfl, HB.out.2.2⟩
end Go.Proofs.Ytninhjeiialbjaa
