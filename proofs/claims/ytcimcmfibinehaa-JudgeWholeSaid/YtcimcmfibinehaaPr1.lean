/-
  weirref23.Check: the document's own answer of a check.
-/
import Derived.Test.YtcimcmfibinehaaPkd
import Derived.Deep.DeepFit
namespace Go.Proofs.Ytcimcmfibinehaa
open Go.RowKit
set_option linter.unusedSimpArgs false
set_option linter.unusedVariables false

set_option maxRecDepth 100000 in
set_option maxHeartbeats 16000000 in
theorem size_any (num t c : Int) (la : Option Addr) (ln lc : Nat) (w : World) (hn : ln ≤ 9223372036854775000) :
    Calls Try.prog 16 #[.agg #[.int .i64 num, .int .i64 t, .int .i64 c, .slice la ln lc]] w fun e w' => e = .returned (.int .i64 (8 + (ln : Int))) ∧ Below w.heap.size w w' := by
  have ww : IntKind.i64.wrap (8 + (ln : Int)) = 8 + (ln : Int) := IntWalk.i64_in _ (by omega)
  go_enter Try.func16, Try.ntmps16
  go_wp2_with fail
  go_ret
  exact ⟨rfl, (Below.refl _ _).alloc (Nat.le_refl _) _⟩
theorem or_i64 (x y : Nat) (hx : x < 256) (hy : y < 256) : bits .or .i64 ((x : Int) * 256) (y : Int) = (x : Int) * 256 + (y : Int) :=
  bits_join .i64 63 (by decide) (fun n h0 h1 => IntWalk.i64_in _ (by omega)) 8 _ _ (by omega) (by omega) (by omega) (by omega) (by omega) (by omega)
set_option maxRecDepth 100000 in
set_option maxHeartbeats 16000000 in
theorem rcheck_any (a : Option Addr) (len cap b o : Nat) (X : Nat → Nat) (w : World) (hb : ByIn w a len cap b o X) (hl : len ≤ 1000000) :
    Calls Try.prog 25 #[.slice a len cap] w fun e w' => e = .returned (.int .u16 ((65535 : Int) - (sumN16 X len : Nat))) ∧ w = w' := by
  have HB := Lib.hid hb
  have HL := Lib.hid hl
  have HSL := Lib.hid (sumN16_le X hb.bd len)
  obtain ⟨S, hS⟩ : ∃ S, S = sumN16 X len := ⟨_, rfl⟩
  have HSN := Lib.hid hS
  rw [← hS]
  clear hb hS
  go_enter Try.func25, Try.ntmps25
  go_wp2_with fail
  go_loopw [3, 4, 5] (fun vs vi _ wr => ∃ (j q s : Nat), q = 2 * j ∧ s ≤ 65535 ∧ vs = .int .i64 s ∧ vi = .int .i64 q ∧ ((q ≤ len ∧ s = sumW X j) ∨ (q = len + 1 ∧ s = S)) ∧ wr = w) (fun _ vi _ _ => len + 2 - (intOf vi).toNat)
  case atStart => exact ⟨0, 0, 0, rfl, by omega, rfl, rfl, .inl ⟨by omega, rfl⟩, rfl⟩
  case round =>
    obtain ⟨j, q, s, hq, hs, rfl, rfl, hcase, rfl⟩ := hrel
    have HQ := Lib.hid hq
    have HCA := Lib.hid hcase
    have HSS := Lib.hid hs
    by_cases hlt : q < len
    · obtain ⟨hqs, hsj⟩ : q ≤ len ∧ s = sumW X j := by rcases hcase with h | h; exact h; omega
      have HSJ := Lib.hid hsj
      obtain ⟨e0, e1⟩ := HB.out.at_ (by omega)
      subst e0
      have k0 := HB.out.cell q hlt
      have x0 := HB.out.bd q
      obtain ⟨x, hx⟩ : ∃ x, x = X q := ⟨_, rfl⟩
      rw [← hx] at k0 x0
      have HX := Lib.hid hx
      have d0 : decide ((q : Int) < (len : Int)) = true := decide_eq_true (by omega)
      have d0' : decide (q < len) = true := decide_eq_true hlt
      have b1 : (q < len) = True := eq_true hlt
      have b2 : ((q : Int) < (len : Int)) = True := eq_true (by omega)
      have b3 : ((0 : Int) ≤ (q : Int)) = True := eq_true (by omega)
      have wq : IntKind.i64.wrap ((q : Int) + 1) = (q : Int) + 1 := IntWalk.i64_in _ (by omega)
      have wq2 : IntKind.i64.wrap ((q : Int) + 2) = (q : Int) + 2 := IntWalk.i64_in _ (by omega)
      have wx0 : IntKind.i64.wrap (x : Int) = (x : Int) := IntWalk.i64_in _ (by omega)
      have wx : IntKind.i64.wrap ((x : Int) * 256) = (x : Int) * 256 := IntWalk.i64_in _ (by omega)
      have HLT := Lib.hid hlt
      by_cases h1 : q + 1 < len
      · have k1 := HB.out.cell (q + 1) h1
        have HLT1 := Lib.hid h1
        have y0 := HB.out.bd (q + 1)
        obtain ⟨y, hy⟩ : ∃ y, y = X (q + 1) := ⟨_, rfl⟩
        rw [← hy] at k1 y0
        have hor := or_i64 x y x0 y0
        obtain ⟨Z, hZ⟩ : ∃ Z : Nat, Z = x * 256 + y := ⟨_, rfl⟩
        have hor2 : bits .or .i64 ((x : Int) * 256) (y : Int) = (Z : Int) := by rw [hor, hZ]; omega
        obtain ⟨T, hT⟩ : ∃ T : Nat, T = s + Z := ⟨_, rfl⟩
        have wT : IntKind.i64.wrap ((s : Int) + (Z : Int)) = (T : Int) := (IntWalk.i64_in _ (by omega)).trans (by omega)
        have wT2 : IntKind.i64.wrap ((T : Int) - 65535) = (T : Int) - 65535 := IntWalk.i64_in _ (by omega)
        have HN : Hid (sumW X (j + 1) = carN T ∧ T ≤ 131070) := Lib.hid ⟨by rw [sumW, ← hsj, ← hq, ← hx, ← hy, hT, hZ, Nat.add_assoc], by omega⟩
        have d1 : decide ((q : Int) + 1 < (len : Int)) = true := decide_eq_true (by omega)
        have d1' : decide (q + 1 < len) = true := decide_eq_true h1
        have c1 : (q + 1 < len) = True := eq_true h1
        have c2 : ((q : Int) + 1 < (len : Int)) = True := eq_true (by omega)
        have c3 : ((0 : Int) ≤ (q : Int) + 1) = True := eq_true (by omega)
        clear hor hx hy hT hZ hq hs hcase hqs hsj hlt h1
        by_cases hbig : 65535 < T
        · have d2 : decide ((65535 : Int) < (T : Int)) = true := decide_eq_true (by omega)
          have d2' : decide (65535 < T) = true := decide_eq_true hbig
          have HT : Hid (carN T = T - 65535 ∧ 65535 < T) := Lib.hid ⟨by unfold carN; rw [if_pos hbig], hbig⟩
          clear hbig
          go_wp2_with fail
          go_roundw
          case rel => exact ⟨j + 1, q + 2, T - 65535, by have := HQ.out; omega, by have := HN.out; omega, by have := HT.out.2; congr 1; omega, by go_num, .inl ⟨by have := HLT1.out; omega, by rw [HN.out.1, HT.out.1]⟩, by first | rfl | trivial⟩
          case measure => (have h8 := HLT.out; first | (simp [intOf]; done) | (simp [intOf]; omega))
        · have d2 : decide ((65535 : Int) < (T : Int)) = false := decide_eq_false (by omega)
          have d2' : decide (65535 < T) = false := decide_eq_false hbig
          have HT : Hid (carN T = T) := Lib.hid (by unfold carN; rw [if_neg hbig])
          clear hbig
          go_wp2_with fail
          go_roundw
          case rel => exact ⟨j + 1, q + 2, T, by have := HQ.out; omega, by have h8 := carN_le HN.out.2; rw [HT.out] at h8; exact h8, rfl, by go_num, .inl ⟨by have := HLT1.out; omega, by rw [HN.out.1, HT.out]⟩, by first | rfl | trivial⟩
          case measure => (have h8 := HLT.out; first | (simp [intOf]; done) | (simp [intOf]; omega))
      · have hlen : len = q + 1 := by omega
        obtain ⟨T, hT⟩ : ∃ T : Nat, T = s + x * 256 := ⟨_, rfl⟩
        have wT : IntKind.i64.wrap ((s : Int) + (x : Int) * 256) = (T : Int) := (IntWalk.i64_in _ (by omega)).trans (by omega)
        have wT2 : IntKind.i64.wrap ((T : Int) - 65535) = (T : Int) - 65535 := IntWalk.i64_in _ (by omega)
        have HN : Hid (S = carN T ∧ T ≤ 131070) := Lib.hid ⟨by rw [HSN.out, sumN16, if_neg (by omega), show len / 2 = j by omega, ← hsj, show len - 1 = q by omega, ← hx, hT], by omega⟩
        have d1 : decide ((q : Int) + 1 < (len : Int)) = false := decide_eq_false (by omega)
        have d1' : decide (q + 1 < len) = false := decide_eq_false h1
        have HLE := Lib.hid hlen
        clear hx hT hq hs hcase hqs hsj hlt h1 hlen
        by_cases hbig : 65535 < T
        · have d2 : decide ((65535 : Int) < (T : Int)) = true := decide_eq_true (by omega)
          have d2' : decide (65535 < T) = true := decide_eq_true hbig
          have HT : Hid (carN T = T - 65535 ∧ 65535 < T) := Lib.hid ⟨by unfold carN; rw [if_pos hbig], hbig⟩
          clear hbig
          go_wp2_with fail
          go_roundw
          case rel => exact ⟨j + 1, q + 2, T - 65535, by have := HQ.out; omega, by have := HN.out; omega, by have := HT.out.2; congr 1; omega, by go_num, .inr ⟨by have := HLE.out; omega, by rw [HN.out.1, HT.out.1]⟩, by first | rfl | trivial⟩
          case measure => (have h8 := HLT.out; first | (simp [intOf]; done) | (simp [intOf]; omega))
        · have d2 : decide ((65535 : Int) < (T : Int)) = false := decide_eq_false (by omega)
          have d2' : decide (65535 < T) = false := decide_eq_false hbig
          have HT : Hid (carN T = T) := Lib.hid (by unfold carN; rw [if_neg hbig])
          clear hbig
          go_wp2_with fail
          go_roundw
          case rel => exact ⟨j + 1, q + 2, T, by have := HQ.out; omega, by have h8 := carN_le HN.out.2; rw [HT.out] at h8; exact h8, rfl, by go_num, .inr ⟨by have := HLE.out; omega, by rw [HN.out.1, HT.out]⟩, by first | rfl | trivial⟩
          case measure => (have h8 := HLT.out; first | (simp [intOf]; done) | (simp [intOf]; omega))
    · have d0 : decide ((q : Int) < (len : Int)) = false := decide_eq_false (by omega)
      have d0' : decide (q < len) = false := decide_eq_false hlt
      have HE : Hid (s = S) := Lib.hid (by
        rcases hcase with ⟨h1, h2⟩ | ⟨_, h2⟩
        · have hql : q = len := by omega
          rw [HSN.out, sumN16, if_pos (by omega), h2, show len / 2 = j by omega]
        · exact h2)
      have wu : IntKind.u16.wrap (s : Int) = (s : Int) := by rw [IntKind.wrap_u16]; omega
      have hn := not_u16 s hs
      clear hq hs hcase hlt
      go_wp2_with fail
      go_ret
      exact ⟨by rw [← HE.out]; rfl, rfl⟩
end Go.Proofs.Ytcimcmfibinehaa
