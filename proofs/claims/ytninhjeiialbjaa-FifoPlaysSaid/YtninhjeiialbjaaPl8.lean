/-
  The document's Pop, where there is a packet.
-/
import Derived.Test.YtninhjeiialbjaaPl7
namespace Go.Proofs.Ytninhjeiialbjaa
open Go.RowKit
set_option linter.unusedSimpArgs false
set_option linter.unusedVariables false

set_option maxRecDepth 100000 in
set_option maxHeartbeats 8000000 in
theorem rpop_any (D : Nat) (room : Int) (m : Nat) (lost : Int) (ob : Option Nat) (v : Value) (E : Nat → PkE) (w : World) (hq : RQ w D room m lost ob v E) (hm : 0 < m) :
    Calls Try.prog 74 #[.pointer (some ⟨D, 0, none⟩)] w fun e w' => ∃ a' c' b' v', e = .returned (.tuple #[.agg #[.int .i64 (E 0).num, .int .i64 (E 0).t, .int .i64 (E 0).c, .slice a' (E 0).n c'], .int .i64 0]) ∧ ByIn w' a' (E 0).n c' b' 0 (E 0).X ∧ (0 < (E 0).n → w.heap.size ≤ b') ∧ RQ w' D room (m - 1) lost ob v' (fun j => E (j + 1)) ∧ Fr [D] w w' := by
  obtain ⟨g, off, cap, rfl, hob, hnc, hcm, hgl, _⟩ := hq.cellE hm
  unfold maxLen at hcm
  have HDN0 : Hid (D < w.heap.size) := Lib.hid hq.own.lt
  obtain ⟨N, hN⟩ : ∃ N, N = w.heap.size := ⟨_, rfl⟩
  have HDN : Hid (D < N ∧ 0 < m) := Lib.hid ⟨by rw [hN]; exact HDN0.out, hm⟩
  obtain ⟨W1, hW1⟩ : ∃ W1, W1 = w.alloc (.cells #[.int .i64 0, .int .i64 0, .int .i64 0, .slice none 0 0] 57) := ⟨_, rfl⟩
  have hB1 : Below N w W1 := by rw [hW1, hN]; exact (Below.refl _ _).alloc (Nat.le_refl _) _
  have hp : Blk W1 N #[.int .i64 0, .int .i64 0, .int .i64 0, .slice none 0 0] 57 := by rw [hW1, hN]; exact blk_new _ _ _
  have HQ1 := Lib.hid (hq.below (hN ▸ hB1))
  have HQ := Lib.hid hq
  have HP1 := Lib.hid hp
  have HB1 := Lib.hid hB1
  have HN := Lib.hid hN
  have t3 : (1 : Int) ≤ (m : Int) := by omega
  obtain ⟨n, rfl⟩ : ∃ n, m = n + 1 := ⟨m - 1, by omega⟩
  have hpop := HQ.out.pop
  obtain ⟨m, hmn⟩ : ∃ m, m = n + 1 := ⟨_, rfl⟩
  by_cases hc : cap = 1
  · obtain rfl : n = 0 := by omega
    subst hc
    have HPOP := Lib.hid (hpop off (.inl ⟨rfl, rfl⟩))
    clear hq hB1 hp hpop hmn
    go_enter Try.func74, Try.ntmps74
    go_upto_region 1 with fail
    rw [← hN, ← hW1]
    clear hN hW1
    go_wp2_with fail
    go_at_call 75
    refine (rhead_any D room 1 lost ob _ E _ HQ1.out hm).mono ?_
    rintro e W2 ⟨a', c', b', rfl, hby, hfr, hB2⟩
    obtain ⟨x, hx⟩ : ∃ x, x = E 0 := ⟨_, rfl⟩
    have HX := Lib.hid hx
    rw [← hx] at hby hfr ⊢
    obtain ⟨xn, xt, xc, xa, xl, xca, xb, xo, xX⟩ := x
    simp only at hby hfr ⊢
    obtain ⟨M, hM⟩ : ∃ M, M = W2.heap.size := ⟨_, rfl⟩
    obtain ⟨W3, hW3⟩ : ∃ W3, W3 = W2.alloc (.cells #[.int .i64 xn, .int .i64 xt, .int .i64 xc, .slice a' xl c'] 57) := ⟨_, rfl⟩
    have hBx : Below W2.heap.size W2 W3 := by rw [hW3]; exact (Below.refl _ _).alloc (Nat.le_refl _) _
    have hpm : Blk W3 M #[.int .i64 xn, .int .i64 xt, .int .i64 xc, .slice a' xl c'] 57 := by rw [hW3, hM]; exact blk_new _ _ _
    have hB13 : Below W1.heap.size W1 W3 := hB2.trans (hBx.mono hB2.size)
    have hp3 := HP1.out.step hB13
    have HQ3 := Lib.hid (HQ1.out.below hB13)
    have HP3 := Lib.hid hp3
    have HPM := Lib.hid hpm
    have HB3 := Lib.hid (HB1.out.trans (hB13.mono (by have := HP1.out.lt; omega)))
    have HBY := Lib.hid (hby.below hBx)
    have HF : Hid ((0 < xl → N < b') ∧ N < M) := Lib.hid ⟨fun h => by have := hfr h; have := HP1.out.lt; omega, by rw [hM]; have := HP1.out.lt; have := hB2.size; omega⟩
    have q1 : W3.cell? ⟨D, 1, none⟩ = some (.slice (some ⟨g, off, none⟩) 1 1) := cell_at HQ3.out.own 1
    have z1 := free_at HQ3.out.own 1
    have hD3 : D < W3.heap.size := HQ3.out.own.lt
    have y0 := free_at hp3 0
    have y1 := free_at hp3 1
    have y2 := free_at hp3 2
    have y3 := free_at hp3 3
    have d0 : W3.cell? ⟨N, 0, none⟩ = some (.int .i64 0) := cell_at hp3 0
    have d1 : W3.cell? ⟨N, 1, none⟩ = some (.int .i64 0) := cell_at hp3 1
    have d2 : W3.cell? ⟨N, 2, none⟩ = some (.int .i64 0) := cell_at hp3 2
    have d3 : W3.cell? ⟨N, 3, none⟩ = some (.slice none 0 0) := cell_at hp3 3
    have m0 : W3.cell? ⟨M, 0, none⟩ = some (.int .i64 xn) := cell_at hpm 0
    have m1 : W3.cell? ⟨M, 1, none⟩ = some (.int .i64 xt) := cell_at hpm 1
    have m2 : W3.cell? ⟨M, 2, none⟩ = some (.int .i64 xc) := cell_at hpm 2
    have m3 : W3.cell? ⟨M, 3, none⟩ = some (.slice a' xl c') := cell_at hpm 3
    have n1 : ¬ (M = D) := fun e => by have := HF.out.2; have := HDN.out.1; omega
    have n2 : ¬ (M = N) := fun e => by have := HF.out.2; omega
    have n3 : ¬ (N = D) := fun e => by have := HDN.out.1; omega
    have n4 : ¬ (D = N) := fun e => n3 e.symm
    have hl := hp3.lt
    have hlm := hpm.lt
    clear hB2 hp3 hBx hpm hB13 hby hfr hx
    go_upto_region 2 with fail
    rw [← hW3, ← hM]
    clear hW3 hM
    go_upto_region 5 with fail
    obtain ⟨W4, hW4⟩ : ∃ W4, W4 = W3.setCell ⟨D, 1, none⟩ (.slice (some ⟨g, off, none⟩) 0 0) := ⟨_, rfl⟩
    rw [← hW4]
    have hp4 : Blk W4 N #[.int .i64 0, .int .i64 0, .int .i64 0, .slice none 0 0] 57 := by rw [hW4]; exact HP3.out.ne ⟨D, 1, none⟩ n3 _
    have hm4 : Blk W4 M #[.int .i64 xn, .int .i64 xt, .int .i64 xc, .slice a' xl c'] 57 := by rw [hW4]; exact HPM.out.ne ⟨D, 1, none⟩ n1 _
    have ho4 : Blk W4 D #[.int .i64 room, .slice (some ⟨g, off, none⟩) 0 0, .int .i64 lost] 70 := by rw [hW4]; exact HQ3.out.own.set 1 _
    have hf4 : Fr [D] w W4 := by rw [hW4]; exact (Fr.mono (l' := [D]) (Fr.of_below (HN.out ▸ HB3.out)) (by intro x hx; cases hx)).setCell ⟨D, 1, none⟩ (.inl (by simp)) _
    have hb4 : ByIn W4 a' xl c' b' 0 xX := by rw [hW4]; exact HBY.out.ne ⟨D, 1, none⟩ (fun hp => by have := HF.out.1 hp; have := HDN.out.1; simp only; omega) _
    have HP4 := Lib.hid hp4
    have HO4 := Lib.hid ho4
    have HF4 := Lib.hid hf4
    have HB4 := Lib.hid hb4
    clear q1 z1 y0 y1 y2 y3 d0 d1 d2 d3 m0 m1 m2 m3 hl hlm hD3 hW4 hb4 hf4
    have y0 := free_at hp4 0
    have y1 := free_at hp4 1
    have y2 := free_at hp4 2
    have y3 := free_at hp4 3
    have d0 : W4.cell? ⟨N, 0, none⟩ = some (.int .i64 0) := cell_at hp4 0
    have d1 : W4.cell? ⟨N, 1, none⟩ = some (.int .i64 0) := cell_at hp4 1
    have d2 : W4.cell? ⟨N, 2, none⟩ = some (.int .i64 0) := cell_at hp4 2
    have d3 : W4.cell? ⟨N, 3, none⟩ = some (.slice none 0 0) := cell_at hp4 3
    have m0 : W4.cell? ⟨M, 0, none⟩ = some (.int .i64 xn) := cell_at hm4 0
    have m1 : W4.cell? ⟨M, 1, none⟩ = some (.int .i64 xt) := cell_at hm4 1
    have m2 : W4.cell? ⟨M, 2, none⟩ = some (.int .i64 xc) := cell_at hm4 2
    have m3 : W4.cell? ⟨M, 3, none⟩ = some (.slice a' xl c') := cell_at hm4 3
    have hl := hp4.lt
    clear hp4 hm4 ho4
    go_wp2_with fail
    obtain ⟨WF, hWF⟩ : ∃ WF, WF = (((W4.setCell ⟨N, 0, none⟩ (.int .i64 xn)).setCell ⟨N, 1, none⟩ (.int .i64 xt)).setCell ⟨N, 2, none⟩ (.int .i64 xc)).setCell ⟨N, 3, none⟩ (.slice a' xl c') := ⟨_, rfl⟩
    have k1 : Blk WF N #[.int .i64 xn, .int .i64 xt, .int .i64 xc, .slice a' xl c'] 57 := by rw [hWF]; exact (((HP4.out.set 0 (.int .i64 xn)).set 1 (.int .i64 xt)).set 2 (.int .i64 xc)).set 3 (.slice a' xl c')
    have kD : Blk WF D #[.int .i64 room, .slice (some ⟨g, off, none⟩) 0 0, .int .i64 lost] 70 := by rw [hWF]; exact (((HO4.out.ne ⟨N, 0, none⟩ n4 _).ne ⟨N, 1, none⟩ n4 _).ne ⟨N, 2, none⟩ n4 _).ne ⟨N, 3, none⟩ n4 _
    have hwN : w.heap.size ≤ N := Nat.le_of_eq HN.out.symm
    have kF : Fr [D] w WF := by rw [hWF]; exact (((HF4.out.setCell ⟨N, 0, none⟩ (.inr hwN) _).setCell ⟨N, 1, none⟩ (.inr hwN) _).setCell ⟨N, 2, none⟩ (.inr hwN) _).setCell ⟨N, 3, none⟩ (.inr hwN) _
    have hnb : 0 < xl → b' ≠ N := fun h => by have := HF.out.1 h; omega
    have k2 : ByIn WF a' xl c' b' 0 xX := by rw [hWF]; exact (((HB4.out.ne ⟨N, 0, none⟩ hnb _).ne ⟨N, 1, none⟩ hnb _).ne ⟨N, 2, none⟩ hnb _).ne ⟨N, 3, none⟩ hnb _
    have hbl : Below (w.setCell ⟨D, 1, none⟩ (.slice (some ⟨g, off, none⟩) 0 0)).heap.size (w.setCell ⟨D, 1, none⟩ (.slice (some ⟨g, off, none⟩) 0 0)) WF := ⟨kF.os, kF.tape, kF.output, by have := kF.size; simpa using this, fun k hk => by
      by_cases e : k = D
      · subst e; exact kD.trans (HQ.out.own.set 1 _).symm
      · exact (kF.block k (by simpa using hk) (by simp [e])).trans (heap_setCell_ne _ _ _ _ e).symm⟩
    have kQ := HPOP.out.below hbl
    rw [← hWF]
    have r0 : WF.cell? ⟨N, 0, none⟩ = some (.int .i64 xn) := cell_at k1 0
    have r1 : WF.cell? ⟨N, 1, none⟩ = some (.int .i64 xt) := cell_at k1 1
    have r2 : WF.cell? ⟨N, 2, none⟩ = some (.int .i64 xc) := cell_at k1 2
    have r3 : WF.cell? ⟨N, 3, none⟩ = some (.slice a' xl c') := cell_at k1 3
    have hx := HX.out
    exact bodyPost_ret (v := .tuple #[.agg #[.int .i64 xn, .int .i64 xt, .int .i64 xc, .slice a' xl c'], .int .i64 0]) (by simp [results, Try.results74, go_sem, r0, r1, r2, r3]) rfl ⟨a', c', b', _, by rw [← hx], by rw [← hx]; exact k2, (fun h => by rw [← hx] at h; have := HF.out.1 h; omega), kQ, kF⟩
  · have hne : ¬ (cap = 1) := hc
    have HPOP := Lib.hid (hpop (off + 4) (.inr ⟨hc, rfl⟩))
    have hsub : n + 1 - 1 = n := by omega
    clear hq hB1 hp hpop hc hmn
    go_enter Try.func74, Try.ntmps74
    go_upto_region 1 with fail
    rw [← hN, ← hW1]
    clear hN hW1
    go_wp2_with fail
    go_at_call 75
    refine (rhead_any D room (n + 1) lost ob _ E _ HQ1.out hm).mono ?_
    rintro e W2 ⟨a', c', b', rfl, hby, hfr, hB2⟩
    obtain ⟨x, hx⟩ : ∃ x, x = E 0 := ⟨_, rfl⟩
    have HX := Lib.hid hx
    rw [← hx] at hby hfr ⊢
    obtain ⟨xn, xt, xc, xa, xl, xca, xb, xo, xX⟩ := x
    simp only at hby hfr ⊢
    obtain ⟨M, hM⟩ : ∃ M, M = W2.heap.size := ⟨_, rfl⟩
    obtain ⟨W3, hW3⟩ : ∃ W3, W3 = W2.alloc (.cells #[.int .i64 xn, .int .i64 xt, .int .i64 xc, .slice a' xl c'] 57) := ⟨_, rfl⟩
    have hBx : Below W2.heap.size W2 W3 := by rw [hW3]; exact (Below.refl _ _).alloc (Nat.le_refl _) _
    have hpm : Blk W3 M #[.int .i64 xn, .int .i64 xt, .int .i64 xc, .slice a' xl c'] 57 := by rw [hW3, hM]; exact blk_new _ _ _
    have hB13 : Below W1.heap.size W1 W3 := hB2.trans (hBx.mono hB2.size)
    have hp3 := HP1.out.step hB13
    have HQ3 := Lib.hid (HQ1.out.below hB13)
    have HP3 := Lib.hid hp3
    have HPM := Lib.hid hpm
    have HB3 := Lib.hid (HB1.out.trans (hB13.mono (by have := HP1.out.lt; omega)))
    have HBY := Lib.hid (hby.below hBx)
    have HF : Hid ((0 < xl → N < b') ∧ N < M) := Lib.hid ⟨fun h => by have := hfr h; have := HP1.out.lt; omega, by rw [hM]; have := HP1.out.lt; have := hB2.size; omega⟩
    have q1 : W3.cell? ⟨D, 1, none⟩ = some (.slice (some ⟨g, off, none⟩) (n + 1) cap) := cell_at HQ3.out.own 1
    have z1 := free_at HQ3.out.own 1
    have hD3 : D < W3.heap.size := HQ3.out.own.lt
    have y0 := free_at hp3 0
    have y1 := free_at hp3 1
    have y2 := free_at hp3 2
    have y3 := free_at hp3 3
    have d0 : W3.cell? ⟨N, 0, none⟩ = some (.int .i64 0) := cell_at hp3 0
    have d1 : W3.cell? ⟨N, 1, none⟩ = some (.int .i64 0) := cell_at hp3 1
    have d2 : W3.cell? ⟨N, 2, none⟩ = some (.int .i64 0) := cell_at hp3 2
    have d3 : W3.cell? ⟨N, 3, none⟩ = some (.slice none 0 0) := cell_at hp3 3
    have m0 : W3.cell? ⟨M, 0, none⟩ = some (.int .i64 xn) := cell_at hpm 0
    have m1 : W3.cell? ⟨M, 1, none⟩ = some (.int .i64 xt) := cell_at hpm 1
    have m2 : W3.cell? ⟨M, 2, none⟩ = some (.int .i64 xc) := cell_at hpm 2
    have m3 : W3.cell? ⟨M, 3, none⟩ = some (.slice a' xl c') := cell_at hpm 3
    have n1 : ¬ (M = D) := fun e => by have := HF.out.2; have := HDN.out.1; omega
    have n2 : ¬ (M = N) := fun e => by have := HF.out.2; omega
    have n3 : ¬ (N = D) := fun e => by have := HDN.out.1; omega
    have n4 : ¬ (D = N) := fun e => n3 e.symm
    have hl := hp3.lt
    have hlm := hpm.lt
    clear hB2 hp3 hBx hpm hB13 hby hfr hx
    go_upto_region 2 with fail
    rw [← hW3, ← hM]
    clear hW3 hM
    go_upto_region 5 with fail
    obtain ⟨W4, hW4⟩ : ∃ W4, W4 = W3.setCell ⟨D, 1, none⟩ (.slice (some ⟨g, off + 4, none⟩) n (cap - 1)) := ⟨_, rfl⟩
    rw [← hW4]
    have hp4 : Blk W4 N #[.int .i64 0, .int .i64 0, .int .i64 0, .slice none 0 0] 57 := by rw [hW4]; exact HP3.out.ne ⟨D, 1, none⟩ n3 _
    have hm4 : Blk W4 M #[.int .i64 xn, .int .i64 xt, .int .i64 xc, .slice a' xl c'] 57 := by rw [hW4]; exact HPM.out.ne ⟨D, 1, none⟩ n1 _
    have ho4 : Blk W4 D #[.int .i64 room, .slice (some ⟨g, off + 4, none⟩) n (cap - 1), .int .i64 lost] 70 := by rw [hW4]; exact HQ3.out.own.set 1 _
    have hf4 : Fr [D] w W4 := by rw [hW4]; exact (Fr.mono (l' := [D]) (Fr.of_below (HN.out ▸ HB3.out)) (by intro x hx; cases hx)).setCell ⟨D, 1, none⟩ (.inl (by simp)) _
    have hb4 : ByIn W4 a' xl c' b' 0 xX := by rw [hW4]; exact HBY.out.ne ⟨D, 1, none⟩ (fun hp => by have := HF.out.1 hp; have := HDN.out.1; simp only; omega) _
    have HP4 := Lib.hid hp4
    have HO4 := Lib.hid ho4
    have HF4 := Lib.hid hf4
    have HB4 := Lib.hid hb4
    clear q1 z1 y0 y1 y2 y3 d0 d1 d2 d3 m0 m1 m2 m3 hl hlm hD3 hW4 hb4 hf4
    have y0 := free_at hp4 0
    have y1 := free_at hp4 1
    have y2 := free_at hp4 2
    have y3 := free_at hp4 3
    have d0 : W4.cell? ⟨N, 0, none⟩ = some (.int .i64 0) := cell_at hp4 0
    have d1 : W4.cell? ⟨N, 1, none⟩ = some (.int .i64 0) := cell_at hp4 1
    have d2 : W4.cell? ⟨N, 2, none⟩ = some (.int .i64 0) := cell_at hp4 2
    have d3 : W4.cell? ⟨N, 3, none⟩ = some (.slice none 0 0) := cell_at hp4 3
    have m0 : W4.cell? ⟨M, 0, none⟩ = some (.int .i64 xn) := cell_at hm4 0
    have m1 : W4.cell? ⟨M, 1, none⟩ = some (.int .i64 xt) := cell_at hm4 1
    have m2 : W4.cell? ⟨M, 2, none⟩ = some (.int .i64 xc) := cell_at hm4 2
    have m3 : W4.cell? ⟨M, 3, none⟩ = some (.slice a' xl c') := cell_at hm4 3
    have hl := hp4.lt
    clear hp4 hm4 ho4
    go_wp2_with fail
    obtain ⟨WF, hWF⟩ : ∃ WF, WF = (((W4.setCell ⟨N, 0, none⟩ (.int .i64 xn)).setCell ⟨N, 1, none⟩ (.int .i64 xt)).setCell ⟨N, 2, none⟩ (.int .i64 xc)).setCell ⟨N, 3, none⟩ (.slice a' xl c') := ⟨_, rfl⟩
    have k1 : Blk WF N #[.int .i64 xn, .int .i64 xt, .int .i64 xc, .slice a' xl c'] 57 := by rw [hWF]; exact (((HP4.out.set 0 (.int .i64 xn)).set 1 (.int .i64 xt)).set 2 (.int .i64 xc)).set 3 (.slice a' xl c')
    have kD : Blk WF D #[.int .i64 room, .slice (some ⟨g, off + 4, none⟩) n (cap - 1), .int .i64 lost] 70 := by rw [hWF]; exact (((HO4.out.ne ⟨N, 0, none⟩ n4 _).ne ⟨N, 1, none⟩ n4 _).ne ⟨N, 2, none⟩ n4 _).ne ⟨N, 3, none⟩ n4 _
    have hwN : w.heap.size ≤ N := Nat.le_of_eq HN.out.symm
    have kF : Fr [D] w WF := by rw [hWF]; exact (((HF4.out.setCell ⟨N, 0, none⟩ (.inr hwN) _).setCell ⟨N, 1, none⟩ (.inr hwN) _).setCell ⟨N, 2, none⟩ (.inr hwN) _).setCell ⟨N, 3, none⟩ (.inr hwN) _
    have hnb : 0 < xl → b' ≠ N := fun h => by have := HF.out.1 h; omega
    have k2 : ByIn WF a' xl c' b' 0 xX := by rw [hWF]; exact (((HB4.out.ne ⟨N, 0, none⟩ hnb _).ne ⟨N, 1, none⟩ hnb _).ne ⟨N, 2, none⟩ hnb _).ne ⟨N, 3, none⟩ hnb _
    have hbl : Below (w.setCell ⟨D, 1, none⟩ (.slice (some ⟨g, off + 4, none⟩) n (cap - 1))).heap.size (w.setCell ⟨D, 1, none⟩ (.slice (some ⟨g, off + 4, none⟩) n (cap - 1))) WF := ⟨kF.os, kF.tape, kF.output, by have := kF.size; simpa using this, fun k hk => by
      by_cases e : k = D
      · subst e; exact kD.trans (HQ.out.own.set 1 _).symm
      · exact (kF.block k (by simpa using hk) (by simp [e])).trans (heap_setCell_ne _ _ _ _ e).symm⟩
    have kQ := HPOP.out.below hbl
    rw [← hWF]
    have r0 : WF.cell? ⟨N, 0, none⟩ = some (.int .i64 xn) := cell_at k1 0
    have r1 : WF.cell? ⟨N, 1, none⟩ = some (.int .i64 xt) := cell_at k1 1
    have r2 : WF.cell? ⟨N, 2, none⟩ = some (.int .i64 xc) := cell_at k1 2
    have r3 : WF.cell? ⟨N, 3, none⟩ = some (.slice a' xl c') := cell_at k1 3
    have hx := HX.out
    exact bodyPost_ret (v := .tuple #[.agg #[.int .i64 xn, .int .i64 xt, .int .i64 xc, .slice a' xl c'], .int .i64 0]) (by simp [results, Try.results74, go_sem, r0, r1, r2, r3]) rfl ⟨a', c', b', _, by rw [← hx], by rw [← hx]; exact k2, (fun h => by rw [← hx] at h; have := HF.out.1 h; omega), kQ, kF⟩
end Go.Proofs.Ytninhjeiialbjaa
