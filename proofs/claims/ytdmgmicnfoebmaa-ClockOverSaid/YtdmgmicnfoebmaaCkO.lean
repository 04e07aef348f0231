/-
  The law ClockOver, walked.
-/
import Derived.Test.YtdmgmicnfoebmaaCk4
import Derived.Deep.RegionHeld3
import Derived.Deep.DeepCutAuto
namespace Go.Proofs.Ytdmgmicnfoebmaa
open Go.RowKit

theorem upS_le {n d x : Int} (hd : 0 < d) (h : upS n d ≤ x) : n ≤ d * x := by
  unfold upS at h
  have h1 := Int.lt_mul_ediv_self_add (x := n + d - 1) hd
  have h2 : d * ((n + d - 1) / d) ≤ d * x := Int.mul_le_mul_of_nonneg_left h (by omega)
  omega
theorem over_in_time {P T rho na nb : Int} (p0 : 0 ≤ P) (p1 : P ≤ 1099511627776) (ha : CkOk na T rho) (hb : CkOk nb T rho) (h : overS P rho ≤ na) : 1000 * P ≤ nb := by
  have e1 : cwithin P 0 1099511627776 = P := by unfold cwithin; omega
  have e2 : driftS rho = rho := by have := ha.r0; have := ha.r1; unfold driftS cwithin; omega
  unfold overS at h
  rw [e1, e2] at h
  have r0 := ha.r0
  have r1 := ha.r1
  have h1 := upS_le (by omega : 0 < 1000 - rho) h
  have h2 : (1000 - rho) * na ≤ (1000 - rho) * (T * (1000 + rho)) := Int.mul_le_mul_of_nonneg_left ha.n1 (by omega)
  have h3 : (P * 1000) * (1000 + rho) ≤ (T * (1000 - rho)) * (1000 + rho) := by
    have e3 : (1000 - rho) * (T * (1000 + rho)) = (T * (1000 - rho)) * (1000 + rho) := by rw [← Int.mul_assoc, Int.mul_comm (1000 - rho) T]
    rw [← e3, Int.mul_assoc]
    omega
  have h4 := Int.le_of_mul_le_mul_right h3 (by omega)
  have := hb.n0
  omega

theorem cell_of_block {W W' : World} {b : Nat} (h : W'.heap[b]? = W.heap[b]?) (o : Nat) : W'.cell? ⟨b, o, none⟩ = W.cell? ⟨b, o, none⟩ := by simp [World.cell?, h]

set_option maxRecDepth 100000 in
set_option maxHeartbeats 4000000 in
theorem cover_in (rho P : Int) (a a' : Option Addr) (len cap len' cap' gb go gb' go' : Nat) (T S T' S' : Nat → Int) (w : World) (r0 : 0 ≤ rho) (r1 : rho ≤ 200) (hl : len ≤ 100) (hl' : len' ≤ 100) (p0 : 0 ≤ P) (p1 : P ≤ 1099511627776)
    (hs : StepsIn w a len cap gb go T S) (hs' : StepsIn w a' len' cap' gb' go' T' S') :
    Calls Try.prog 6 #[.int .i64 rho, .int .i64 P, .slice a len cap, .slice a' len' cap'] w fun e w' => e = .returned (.bool true) ∧ Below w.heap.size w w' := by
  have HS := Lib.hid hs
  have HS' := Lib.hid hs'
  have hcap := hs.le
  have hcap' := hs'.le
  clear hs hs'
  go_enter Try.func6, Try.ntmps6
  go_wp2_with (first
    | (go_at_call 16; refine (new_ok _ r0 r1 _).mono ?_; rintro e w' ⟨rfl, rfl⟩))
  all_goals
    go_loopw [56] (fun vi wr => ∃ (k : Nat) (na nb ticks : Int), k ≤ len ∧ k ≤ len' ∧ vi = .int .i64 k ∧ CkOk na ticks rho ∧ CkOk nb ticks rho ∧ CkAt wr w.heap.size na ticks rho ∧ CkAt wr (w.heap.size + 1) nb ticks rho ∧ Below w.heap.size w wr) (fun vi _ => len - (intOf vi).toNat)
    case atStart => exact ⟨0, 0, 0, 0, Nat.zero_le _, Nat.zero_le _, rfl, CkOk.zero r0 r1, CkOk.zero r0 r1, (Below.heap_alloc _ _ _ (by simp)).trans (heap_alloc_new w _), (by have h := heap_alloc_new (w.alloc (.cells #[.int .i64 0, .int .i64 0, .int .i64 rho] 79 (0, 0))) (.cells #[.int .i64 0, .int .i64 0, .int .i64 rho] 79 (0, 0)); simp only [World.size_alloc, Array.size_push, World.alloc] at h ⊢; exact h), ((Below.refl _ _).alloc (Nat.le_refl _) _).alloc (by simp) _⟩
    case round =>
      obtain ⟨k, na, nb, ticks, hk, hk', rfl, ok, ok', hca, hcb, hB⟩ := hrel
      by_cases hlt : k < len ∧ k < len'
      · obtain ⟨hlt, hlt'⟩ := hlt
        obtain ⟨e0, e1, c0, c1⟩ := HS.out.in_ hB hlt
        obtain ⟨e0', e1', _, c1'⟩ := HS'.out.in_ hB hlt'
        subst e0 e0'
        have HA := Lib.hid hca
        have HB := Lib.hid hcb
        clear hca hcb
        have hsz : w.heap.size + 1 < wr.drew.heap.size := lt_of_block HB.out
        have hf1s : ∀ W, Fr [w.heap.size] wr.drew W → (W.cell? ⟨gb, go + k * 2, none⟩ = some (.int .i64 (T k)) ∧ W.cell? ⟨gb, go + k * 2 + 1, none⟩ = some (.int .i64 (S k)) ∧ W.cell? ⟨gb', go' + k * 2 + 1, none⟩ = some (.int .i64 (S' k))) ∧ CkAt W (w.heap.size + 1) nb ticks rho := fun W h =>
          ⟨⟨(cell_of_block (h.block gb (by omega) (by simp; omega)) _).trans c0, (cell_of_block (h.block gb (by omega) (by simp; omega)) _).trans c1, (cell_of_block (h.block gb' (by omega) (by simp; omega)) _).trans c1'⟩, (h.block _ hsz (by simp)).trans HB.out⟩
        have hf2s : ∀ W W2, Fr [w.heap.size] wr.drew W → Fr [w.heap.size + 1] W W2 → (W2.cell? ⟨gb, go + k * 2, none⟩ = some (.int .i64 (T k)) ∧ W2.cell? ⟨gb, go + k * 2 + 1, none⟩ = some (.int .i64 (S k)) ∧ W2.cell? ⟨gb', go' + k * 2 + 1, none⟩ = some (.int .i64 (S' k))) := fun W W2 h h2 => by
          have hs := h.size
          obtain ⟨⟨i0, i1, i2⟩, _⟩ := hf1s W h
          exact ⟨(cell_of_block (h2.block gb (by omega) (by simp; omega)) _).trans i0, (cell_of_block (h2.block gb (by omega) (by simp; omega)) _).trans i1, (cell_of_block (h2.block gb' (by omega) (by simp; omega)) _).trans i2⟩
        have hfin : ∀ W W2, Fr [w.heap.size] wr.drew W → CkAt W w.heap.size (stepN na ticks rho (T k) (S k)) (stepT ticks (T k)) rho → Fr [w.heap.size + 1] W W2 → CkAt W2 w.heap.size (stepN na ticks rho (T k) (S k)) (stepT ticks (T k)) rho ∧ Below w.heap.size w W2 := fun W W2 h hk h2 => by
          have hs := h.size
          exact ⟨(h2.block _ (lt_of_block hk) (by simp)).trans hk, hB.drew.trans ((h.below (B := w.heap.size) (by omega) (by simp)).trans (h2.below (by omega) (by simp)))⟩
        have ok1 := ok.any (T k) (S k)
        have ok1' := ok'.any (T k) (S' k)
        go_upto_region 8 with fail
        go_cut [14, 15] (fun x y wx => x = .int .i64 (stepE ticks (T k)) ∧ y = .int .i64 (stepE ticks (T k)) ∧ CkAt wx w.heap.size (stepN na ticks rho (T k) (S k)) (stepT ticks (T k)) rho ∧ CkAt wx (w.heap.size + 1) (stepN nb ticks rho (T k) (S' k)) (stepT ticks (T k)) rho ∧ Below w.heap.size w wx)
        case first =>
          go_region_held3 (fun W => W.cell? ⟨gb, go + k * 2, none⟩ = some (.int .i64 (T k)) ∧ W.cell? ⟨gb, go + k * 2 + 1, none⟩ = some (.int .i64 (S k)) ∧ W.cell? ⟨gb', go' + k * 2 + 1, none⟩ = some (.int .i64 (S' k))) (first | exact ⟨c0, c1, c1'⟩ | exact ⟨f0, f1, f2⟩ | exact ⟨i0, i1, i2⟩ | go_keep)
            (first
            | (go_at_call_of 20 (Value.pointer (some ⟨w.heap.size, 0, none⟩)); refine (step_any w.heap.size na ticks rho (T k) (S k) _ (by exact HA.out) ok).mono ?_; rintro e W1 ⟨rfl, hf1, hk1⟩; obtain ⟨⟨f0, f1, f2⟩, hkb⟩ := hf1s _ hf1)
            | (go_at_call 20; refine (step_any (w.heap.size + 1) nb ticks rho (T k) (S' k) _ (by exact hkb) ok').mono ?_; rintro e W2 ⟨rfl, hf2, hk2⟩; obtain ⟨i0, i1, i2⟩ := hf2s _ _ hf1 hf2; obtain ⟨hk1', hbw⟩ := hfin _ _ hf1 hk1 hf2))
          all_goals
            go_wp2_with fail
            go_meet
            exact ⟨rfl, rfl, hk1', hk2, hbw⟩
        case rest =>
          obtain ⟨rfl, rfl, K1, K2, hBy⟩ := hcut
          have hov := fun h => over_in_time (P := P) p0 p1 ok1 ok1' h
          obtain ⟨o5, o6, o7⟩ := ok1'.bd
          obtain ⟨n1, hn1⟩ : ∃ n, n = stepN na ticks rho (T k) (S k) := ⟨_, rfl⟩
          obtain ⟨n2, hn2⟩ : ∃ n, n = stepN nb ticks rho (T k) (S' k) := ⟨_, rfl⟩
          obtain ⟨t1, ht1⟩ : ∃ n, n = stepT ticks (T k) := ⟨_, rfl⟩
          obtain ⟨e1, he1⟩ : ∃ n, n = stepE ticks (T k) := ⟨_, rfl⟩
          rw [← hn1, ← ht1] at K1 ok1
          rw [← hn2, ← ht1] at K2 ok1'
          rw [← hn1, ← hn2] at hov
          rw [← he1]
          rw [← hn2] at o5 o6 o7
          clear hn1 hn2 he1 ht1 hf1s hf2s hfin c0 c1 c1' HA HB ok ok'
          replace K1 := Lib.hid K1
          replace K2 := Lib.hid K2
          have OK1 := Lib.hid ok1
          have OK1' := Lib.hid ok1'
          clear ok1 ok1'
          by_cases hc : overS P rho ≤ n1
          · have hin := hov hc
            clear hov
            go_wp2_with (first
              | (go_at_call_of 18 (Value.pointer (some ⟨w.heap.size, 0, none⟩)); refine (now_any _ _ _ _ _ K1.out).mono ?_; rintro e w' ⟨rfl, rfl⟩)
              | (go_at_call 18; refine (now_any _ _ _ _ _ (hb2.block _ (lt_of_block K2.out) |>.trans K2.out)).mono ?_; rintro e w' ⟨rfl, rfl⟩)
              | (go_at_call 25; refine (over_any _ _ _).mono ?_; rintro e w2 ⟨rfl, hb2⟩))
            go_roundw
            case rel => exact ⟨k + 1, n1, n2, t1, by omega, by omega, by go_num, OK1.out, OK1'.out, (hb2.block _ (lt_of_block K1.out)).trans K1.out, (hb2.block _ (lt_of_block K2.out)).trans K2.out, hBy.trans (hb2.mono hBy.size)⟩
            case measure => simp [intOf]; omega
          · clear hov
            go_wp2_with (first
              | (go_at_call_of 18 (Value.pointer (some ⟨w.heap.size, 0, none⟩)); refine (now_any _ _ _ _ _ K1.out).mono ?_; rintro e w' ⟨rfl, rfl⟩)
              | (go_at_call 18; refine (now_any _ _ _ _ _ (hb2.block _ (lt_of_block K2.out) |>.trans K2.out)).mono ?_; rintro e w' ⟨rfl, rfl⟩)
              | (go_at_call 25; refine (over_any _ _ _).mono ?_; rintro e w2 ⟨rfl, hb2⟩))
            go_roundw
            case rel => exact ⟨k + 1, n1, n2, t1, by omega, by omega, by go_num, OK1.out, OK1'.out, (hb2.block _ (lt_of_block K1.out)).trans K1.out, (hb2.block _ (lt_of_block K2.out)).trans K2.out, hBy.trans (hb2.mono hBy.size)⟩
            case measure => simp [intOf]; omega
      · first | have hge : len' ≤ k := by omega | have hge : len ≤ k := by omega
        go_wp2_with (go_at_call 15; refine (wakes_any _).mono ?_; rintro e w1 ⟨rfl, hB1⟩)
        go_ret
        exact ⟨rfl, hB.trans (hB1.mono hB.size)⟩

set_option maxRecDepth 100000 in
set_option maxHeartbeats 1000000 in
theorem cover_out (rho P : Int) (a a' : Option Addr) (len cap len' cap' : Nat) (hcap : len ≤ cap) (hmax : cap ≤ maxLen) (hcap' : len' ≤ cap') (hmax' : cap' ≤ maxLen) (w : World) (hg : (rho < 0 ∨ 200 < rho) ∨ (0 ≤ rho ∧ rho ≤ 200 ∧ (100 < len ∨ 100 < len' ∨ P < 0 ∨ 1099511627776 < P))) :
    Calls Try.prog 6 #[.int .i64 rho, .int .i64 P, .slice a len cap, .slice a' len' cap'] w fun e w' => e = .returned (.bool true) ∧ Below w.heap.size w w' := by
  unfold maxLen at hmax hmax'
  rcases hg with h | ⟨h1, h2, h3⟩
  · go_enter Try.func6, Try.ntmps6
    go_wp2_with (first
      | (go_at_call 16; refine (new_bad _ h _).mono ?_; rintro e w' ⟨rfl, rfl⟩)
      | (go_at_call 15; refine (wakes_any _).mono ?_; rintro e w1 ⟨rfl, hB1⟩))
    go_ret
    exact ⟨rfl, hB1⟩
  · rcases h3 with h | h | h | h
    all_goals
      go_enter Try.func6, Try.ntmps6
      go_wp2_with (first
        | (go_at_call 16; refine (new_ok _ h1 h2 _).mono ?_; rintro e w' ⟨rfl, rfl⟩)
        | (go_at_call 15; refine (wakes_any _).mono ?_; rintro e w1 ⟨rfl, hB1⟩))
      all_goals
        go_ret
        exact ⟨rfl, (((Below.refl _ _).alloc (Nat.le_refl _) _).alloc (by simp) _).trans (hB1.mono (by simp; omega))⟩

theorem clockOver_walk (rho P : Int) (a : Option Addr) (len cap : Nat) (xs : List Dt) (a' : Option Addr) (len' cap' : Nat) (xs' : List Dt) (w : World) (h : SliceFits Try.prog w 35 a len cap xs) (h' : SliceFits Try.prog w 35 a' len' cap' xs') :
    Calls Try.prog 6 #[.int .i64 rho, .int .i64 P, .slice a len cap, .slice a' len' cap'] w fun e w' => e = .returned (.bool true) ∧ Below w.heap.size w w' := by
  by_cases hr : 0 ≤ rho ∧ rho ≤ 200
  · by_cases hg : len ≤ 100 ∧ len' ≤ 100 ∧ 0 ≤ P ∧ P ≤ 1099511627776
    · obtain ⟨gb, go, T, S, hs⟩ := steps_cells w h
      obtain ⟨gb', go', T', S', hs'⟩ := steps_cells w h'
      exact cover_in rho P a a' len cap len' cap' gb go gb' go' T S T' S' w hr.1 hr.2 hg.1 hg.2.1 hg.2.2.1 hg.2.2.2 hs hs'
    · exact cover_out rho P a a' len cap len' cap' h.le h.max h'.le h'.max w (.inr ⟨hr.1, hr.2, by omega⟩)
  · exact cover_out rho P a a' len cap len' cap' h.le h.max h'.le h'.max w (.inl (by omega))
end Go.Proofs.Ytdmgmicnfoebmaa
