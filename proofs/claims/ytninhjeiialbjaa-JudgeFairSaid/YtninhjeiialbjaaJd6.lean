/-
  Package judge: Out; weirref30.Out.
-/
import Derived.IntWalk
import Derived.Test.YtninhjeiialbjaaJd5
namespace Go.Proofs.Ytninhjeiialbjaa
open Go.RowKit
set_option linter.unusedSimpArgs false
set_option linter.unusedVariables false

set_option maxRecDepth 100000 in
set_option maxHeartbeats 8000000 in
theorem out_any (T s t : Int) (a : Option Addr) (n c b o : Nat) (L : Nat → SentE) (w : World) (hs : SentIn w a n c b o L) (hch : chkS L n = true) (hn : n ≤ 60) :
    Calls Try.prog 52 #[.slice a n c, .int .i64 T, .int .i64 s, .int .i64 t] w fun e w' => e = .returned (.int .i64 (outS L T s t n)) ∧ Below w.heap.size w w' := by
  have hm := hs.max
  have hl := hs.le
  unfold maxLen at hm
  have HS := Lib.hid hs
  have HC := Lib.hid hch
  obtain ⟨WY, hWY⟩ : ∃ WY, WY = ((w.alloc (.cells #[.int .i64 T] 3)).alloc (.cells #[.int .i64 s] 3)).alloc (.cells #[.int .i64 t] 3) := ⟨_, rfl⟩
  have hT := tw3 (n := w.heap.size) (Below.refl _ (((w.alloc (.cells #[.int .i64 T] 3)).alloc (.cells #[.int .i64 s] 3)).alloc (.cells #[.int .i64 t] 3))) rfl
  rw [← hWY] at hT
  have hB : Below w.heap.size w WY := by rw [hWY]; exact (((Below.refl _ _).alloc (Nat.le_refl _) _).alloc (by simp) _).alloc (by simp; omega) _
  have HT := Lib.hid hT
  have HB := Lib.hid hB
  have HW := Lib.hid hWY
  clear hs hch hT hB hWY
  go_enter Try.func52, Try.ntmps52
  go_wp2_with fail
  rw [← HW.out]
  go_at_call 90
  refine (of_any w.heap.size (w.heap.size + 1) (w.heap.size + 1 + 1) T s t a n c b o L WY (HS.out.below HB.out) HC.out hn (HT.out.1.1 0) (HT.out.2.1.1 0) (HT.out.2.2.1 0) HT.out.1.2.2 HT.out.2.1.2.2 HT.out.2.2.2.2).mono ?_
  rintro e W1 ⟨rfl, hB1⟩
  have HB1 := Lib.hid (HB.out.trans (hB1.mono HB.out.size))
  clear hB1
  go_wp2_with fail
  go_ret
  exact ⟨rfl, HB1.out⟩

set_option maxRecDepth 100000 in
set_option maxHeartbeats 8000000 in
theorem rout_any (T s t : Int) (a : Option Addr) (n c b o : Nat) (L : Nat → SentE) (w : World) (hs : SentIn w a n c b o L) (hch : chkS L n = true) (hn : n ≤ 60) :
    Calls Try.prog 87 #[.slice a n c, .int .i64 T, .int .i64 s, .int .i64 t] w fun e w' => e = .returned (.int .i64 (outS L T s t n)) ∧ w = w' := by
  have hm := hs.max
  have hl := hs.le
  unfold maxLen at hm
  have HS := Lib.hid hs
  have HC := Lib.hid hch
  clear hs hch
  go_enter Try.func87, Try.ntmps87
  go_wp2_with fail
  go_loop [9, 10] (fun q i => ∃ k : Nat, k ≤ n ∧ i = .int .i64 k ∧ q = .int .i64 (outS L T s t k)) (fun _ i => n - (intOf i).toNat)
  case atStart => exact ⟨0, Nat.zero_le _, rfl, rfl⟩
  case round =>
    obtain ⟨k, hk, rfl, rfl⟩ := hrel
    have hob := outS_bd (T := T) (s := s) (t := t) (chkS_pre HC.out k hk)
    by_cases hlt : k < n
    · obtain ⟨e0, e1⟩ := HS.out.at_ (by omega)
      subst e0
      obtain ⟨c0, _, c2, _, c4, _⟩ := HS.out.cell k hlt
      have hsz := chkS_le HC.out k hlt
      have HOS : Hid (outS L T s t (k + 1) = outS L T s t k + if inB T s t (L k) then (L k).sz else 0) := Lib.hid rfl
      have HIN : Hid (inB T s t (L k) = decide ((L k).ten = T ∧ s < (L k).t ∧ (L k).t ≤ t)) := Lib.hid rfl
      obtain ⟨Q, hQ⟩ : ∃ Q, Q = inB T s t (L k) := ⟨_, rfl⟩
      rw [← hQ] at HOS HIN
      obtain ⟨S, hS⟩ : ∃ S, S = outS L T s t k := ⟨_, rfl⟩
      rw [← hS] at hob HOS ⊢
      obtain ⟨xt, hxt⟩ : ∃ x, x = (L k).t := ⟨_, rfl⟩
      obtain ⟨xn, hxn⟩ : ∃ x, x = (L k).ten := ⟨_, rfl⟩
      obtain ⟨xz, hxz⟩ : ∃ x, x = (L k).sz := ⟨_, rfl⟩
      rw [← hxt] at c0 HIN
      rw [← hxn] at c2 HIN
      rw [← hxz] at c4 hsz HOS
      obtain ⟨hz1, hz2, _⟩ := hsz
      obtain ⟨ho1, ho2⟩ := hob
      clear hQ hS hxt hxn hxz
      by_cases d1 : xn = T
      · have g1 : (xn == T) = true := by simpa using d1
        by_cases d2 : s < xt
        · have g2 : decide (s < xt) = true := decide_eq_true d2
          by_cases d3 : xt ≤ t
          · have g3 : decide (xt ≤ t) = true := decide_eq_true d3
            have HQ2 : Hid (Q = true) := Lib.hid (by rw [HIN.out, decide_eq_true ⟨d1, d2, d3⟩])
            clear d1
            go_wp2_with fail
            go_round
            case rel => exact ⟨k + 1, by omega, by go_num, by rw [HOS.out, HQ2.out]; simp⟩
            case measure => first | (simp [intOf]; done) | (simp [intOf]; omega)
          · have g3 : decide (xt ≤ t) = false := decide_eq_false d3
            have HQ2 : Hid (Q = false) := Lib.hid (by rw [HIN.out, decide_eq_false (fun h => d3 h.2.2)])
            clear d1
            go_wp2_with fail
            go_round
            case rel => exact ⟨k + 1, by omega, by go_num, by rw [HOS.out, HQ2.out]; simp⟩
            case measure => first | (simp [intOf]; done) | (simp [intOf]; omega)
        · have g2 : decide (s < xt) = false := decide_eq_false d2
          have HQ2 : Hid (Q = false) := Lib.hid (by rw [HIN.out, decide_eq_false (fun h => d2 h.2.1)])
          clear d1
          go_wp2_with fail
          go_round
          case rel => exact ⟨k + 1, by omega, by go_num, by rw [HOS.out, HQ2.out]; simp⟩
          case measure => first | (simp [intOf]; done) | (simp [intOf]; omega)
      · have g1 : (xn == T) = false := by simpa using d1
        have HQ2 : Hid (Q = false) := Lib.hid (by rw [HIN.out, decide_eq_false (fun h => d1 h.1)])
        clear d1
        go_wp2_with fail
        go_round
        case rel => exact ⟨k + 1, by omega, by go_num, by rw [HOS.out, HQ2.out]; simp⟩
        case measure => first | (simp [intOf]; done) | (simp [intOf]; omega)
    · obtain rfl : k = n := by omega
      go_wp2_with fail
      go_ret
      exact ⟨rfl, rfl⟩
end Go.Proofs.Ytninhjeiialbjaa
