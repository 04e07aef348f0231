/-
  The law ClockBounds, walked.
-/
import Derived.Test.YtdmgmicnfoebmaaCk4
namespace Go.Proofs.Ytdmgmicnfoebmaa
open Go.RowKit

set_option maxRecDepth 100000 in
set_option maxHeartbeats 1000000 in
theorem cbounds_out (rho : Int) (a : Option Addr) (len cap : Nat) (frm : Int) (hcap : len ≤ cap) (hmax : cap ≤ maxLen) (w : World) (hg : (rho < 0 ∨ 200 < rho) ∨ (0 ≤ rho ∧ rho ≤ 200 ∧ 200 < len)) :
    Calls Try.prog 5 #[.int .i64 rho, .slice a len cap, .int .i64 frm] w fun e w' => e = .returned (.bool true) ∧ Below w.heap.size w w' := by
  unfold maxLen at hmax
  rcases hg with h | ⟨h1, h2, h3⟩
  · go_enter Try.func5, Try.ntmps5
    go_wp2_with (first
      | (go_at_call 16; refine (new_bad _ h _).mono ?_; rintro e w' ⟨rfl, rfl⟩)
      | (go_at_call 15; refine (wakes_any _).mono ?_; rintro e w1 ⟨rfl, hB1⟩))
    go_ret
    exact ⟨rfl, hB1⟩
  · go_enter Try.func5, Try.ntmps5
    go_wp2_with (first
      | (go_at_call 16; refine (new_ok _ h1 h2 _).mono ?_; rintro e w' ⟨rfl, rfl⟩)
      | (go_at_call 15; refine (wakes_any _).mono ?_; rintro e w1 ⟨rfl, hB1⟩))
    go_ret
    exact ⟨rfl, ((Below.refl _ _).alloc (Nat.le_refl _) _).trans (hB1.mono (by simp))⟩

set_option maxRecDepth 100000 in
set_option maxHeartbeats 4000000 in
theorem cbounds_in (rho : Int) (a : Option Addr) (len cap gb go : Nat) (T S : Nat → Int) (frm : Int) (w : World) (r0 : 0 ≤ rho) (r1 : rho ≤ 200) (hl : len ≤ 200) (hs : StepsIn w a len cap gb go T S) :
    Calls Try.prog 5 #[.int .i64 rho, .slice a len cap, .int .i64 frm] w fun e w' => e = .returned (.bool true) ∧ Below w.heap.size w w' := by
  have HS := Lib.hid hs
  clear hs
  go_enter Try.func5, Try.ntmps5
  go_wp2_with (first
    | (go_at_call 16; refine (new_ok _ r0 r1 _).mono ?_; rintro e w' ⟨rfl, rfl⟩))
  go_loopw [9, 10, 30] (fun vm vt vi wr => ∃ (k : Nat) (now ticks m t : Int), k ≤ len ∧ vi = .int .i64 k ∧ vm = .int .i64 m ∧ vt = .int .i64 t ∧ CkOk now ticks rho ∧ CkAt wr w.heap.size now ticks rho ∧ 0 ≤ t ∧ t ≤ ticks ∧ 0 ≤ m ∧ (ticks - t) * (1000 - rho) ≤ now - m ∧ now - m ≤ (ticks - t) * (1000 + rho) ∧ Below w.heap.size w wr) (fun _ _ vi _ => len - (intOf vi).toNat)
  case atStart => exact ⟨0, 0, 0, 0, 0, Nat.zero_le _, rfl, rfl, rfl, CkOk.zero r0 r1, heap_alloc_new _ _, by omega, by omega, by omega, by omega, by omega, (Below.refl _ _).alloc (Nat.le_refl _) _⟩
  case round =>
    obtain ⟨k, now, ticks, m, t, hk, rfl, rfl, rfl, ok, hck, t0, t1, m0, b1, b2, hB⟩ := hrel
    by_cases hlt : k < len
    · obtain ⟨e0, e1, c0, c1⟩ := HS.out.in_ hB hlt
      subst e0
      have hgs := lt_of_block hck
      cases hg : goodB ticks (T k)
      · have s0 : stepE ticks (T k) = 2 := by unfold stepE; rw [hg]; rfl
        have sn : stepN now ticks rho (T k) (S k) = now := by unfold stepN; rw [hg]; rfl
        have st : stepT ticks (T k) = ticks := by unfold stepT; rw [hg]; rfl
        have SN := Lib.hid sn
        have ST := Lib.hid st
        clear hg sn st
        go_wp2_with fail
        refine (step_any _ now ticks rho _ _ _ ?_ ok).mono ?_
        · exact (Below.heap_alloc _ _ _ hgs).trans hck
        rintro e w1 ⟨rfl, hf, hck1⟩
        rw [SN.out, ST.out] at hck1
        go_wp2_with fail
        go_roundw
        case rel => exact ⟨k + 1, now, ticks, m, t, by omega, by go_num, rfl, rfl, ok, hck1, t0, t1, m0, b1, b2, hB.trans (((Below.refl _ _).alloc hB.size _).trans (hf.below (by have := hB.size; simp; omega) (by simp)))⟩
        case measure => simp [intOf]; omega
      · have s0 : stepE ticks (T k) = 0 := by unfold stepE; rw [hg]; rfl
        obtain ⟨g0, g1⟩ := good_of hg
        obtain ⟨d1, d2, d3⟩ := bounds_step (now := now) (ticks := ticks) (m := m) (t := t) (S k) r0 r1 g0 t1 b1 b2
        have ok1 := ok.any (T k) (S k)
        have HOK := Lib.hid ok
        obtain ⟨N, hN⟩ : ∃ N, N = stepN now ticks rho (T k) (S k) := ⟨_, rfl⟩
        obtain ⟨M, hM⟩ : ∃ M, M = stepT ticks (T k) := ⟨_, rfl⟩
        have sn : now + cwithin (S k) (T k * (1000 - rho)) (T k * (1000 + rho)) = N := by rw [hN]; unfold stepN; rw [hg]; rfl
        have st : ticks + T k = M := by rw [hM]; unfold stepT; rw [hg]; rfl
        rw [sn, st] at d2 d3
        rw [st] at d1
        rw [← hN, ← hM] at ok1
        have HN := Lib.hid hN
        have HM := Lib.hid hM
        clear hg hN hM sn st ok b1 b2 g0 g1
        obtain ⟨o1, o2, _, _, o3, o4⟩ := id ok1
        obtain ⟨o5, o6, o7⟩ := ok1.bd
        have q1 := wish_bd 0 (n := M - t) (by omega) (by omega) r0 r1
        obtain ⟨q2, q3, q4, q5⟩ := q1
        have q6 := surely_le (n := N - m) (d := M - t) r0 r1 d3 (by omega)
        have q7 : surelyS 0 rho ≤ 0 := surely_le (n := 0) (d := 0) r0 r1 (by omega) (by omega)
        by_cases hf : (k : Int) < frm
        · go_wp2_with fail
          refine (step_any _ now ticks rho _ _ _ ?_ (HOK.out)).mono ?_
          · exact (Below.heap_alloc _ _ _ hgs).trans hck
          rintro e w1 ⟨rfl, hf1, hck1⟩
          rw [← HN.out, ← HM.out] at hck1
          go_wp2_with (first
            | (go_at_call 18; refine (now_any _ _ _ _ _ hck1).mono ?_; rintro e w' ⟨rfl, rfl⟩)
            | (go_at_call 19; refine (true_any _ _ _ _ _ hck1).mono ?_; rintro e w' ⟨rfl, rfl⟩)
            | (go_at_call 23; refine (surely_any _ _ _).mono ?_; rintro e w2 ⟨rfl, hb2⟩))
          have hb1 : Below w.heap.size w w1 := hB.trans (((Below.refl _ _).alloc hB.size _).trans (hf1.below (by have := hB.size; simp; omega) (by simp)))
          have hck2 : CkAt w2 w.heap.size N M rho := (hb2.block _ (lt_of_block hck1)).trans hck1
          go_roundw
          case rel => exact ⟨k + 1, N, M, N, M, by omega, by go_num, rfl, rfl, ok1, hck2, o1, by omega, o5, by rw [Int.sub_self]; omega, by rw [Int.sub_self]; omega, hb1.trans (hb2.mono hb1.size)⟩
          case measure => simp [intOf]; omega
        · go_wp2_with fail
          refine (step_any _ now ticks rho _ _ _ ?_ (HOK.out)).mono ?_
          · exact (Below.heap_alloc _ _ _ hgs).trans hck
          rintro e w1 ⟨rfl, hf1, hck1⟩
          rw [← HN.out, ← HM.out] at hck1
          go_wp2_with (first
            | (go_at_call 18; refine (now_any _ _ _ _ _ hck1).mono ?_; rintro e w' ⟨rfl, rfl⟩)
            | (go_at_call 19; refine (true_any _ _ _ _ _ hck1).mono ?_; rintro e w' ⟨rfl, rfl⟩)
            | (go_at_call 23; refine (surely_any _ _ _).mono ?_; rintro e w2 ⟨rfl, hb2⟩))
          have hb1 : Below w.heap.size w w1 := hB.trans (((Below.refl _ _).alloc hB.size _).trans (hf1.below (by have := hB.size; simp; omega) (by simp)))
          have hck2 : CkAt w2 w.heap.size N M rho := (hb2.block _ (lt_of_block hck1)).trans hck1
          go_roundw
          case rel => exact ⟨k + 1, N, M, m, t, by omega, by go_num, rfl, rfl, ok1, hck2, t0, d1, m0, d2, d3, hb1.trans (hb2.mono hb1.size)⟩
          case measure => simp [intOf]; omega
    · have : k = len := by omega
      subst this
      go_wp2_with (go_at_call 15; refine (wakes_any _).mono ?_; rintro e w1 ⟨rfl, hB1⟩)
      go_ret
      exact ⟨rfl, hB.trans (hB1.mono hB.size)⟩

theorem clockBounds_walk (rho frm : Int) (a : Option Addr) (len cap : Nat) (xs : List Dt) (w : World) (h : SliceFits Try.prog w 35 a len cap xs) :
    Calls Try.prog 5 #[.int .i64 rho, .slice a len cap, .int .i64 frm] w fun e w' => e = .returned (.bool true) ∧ Below w.heap.size w w' := by
  by_cases hr : 0 ≤ rho ∧ rho ≤ 200
  · by_cases hl : 200 < len
    · exact cbounds_out rho a len cap frm h.le h.max w (.inr ⟨hr.1, hr.2, hl⟩)
    · obtain ⟨gb, go, T, S, hs⟩ := steps_cells w h
      exact cbounds_in rho a len cap gb go T S frm w hr.1 hr.2 (by omega) hs
  · exact cbounds_out rho a len cap frm h.le h.max w (.inl (by omega))
end Go.Proofs.Ytdmgmicnfoebmaa
