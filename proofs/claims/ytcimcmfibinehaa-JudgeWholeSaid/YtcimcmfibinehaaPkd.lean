/-
  packet.Parse, whatever it is given.
-/
import Derived.IntWalk
import Derived.Test.YtcimcmfibinehaaPkc
namespace Go.Proofs.Ytcimcmfibinehaa
open Go.RowKit
set_option linter.unusedSimpArgs false
set_option linter.unusedVariables false

set_option maxRecDepth 100000 in
set_option maxHeartbeats 8000000 in
theorem parse_eight (b o : Nat) (X : Nat → Nat) (w : World) (h1 : ByIn w (some ⟨b, o, none⟩) 8 8 b o X) : Calls Try.prog 14 #[.slice (some ⟨b, o, none⟩) 8 8] w (ParseP w 8 X) := by
  have HA := Lib.hid h1
  have hlt : b < w.heap.size := (h1.at_ (by omega)).2
  have f1 := h1.cell 1 (by omega)
  have f2 := h1.cell 2 (by omega)
  have x1 := h1.bd 1
  have x2 := h1.bd 2
  obtain ⟨t, ht⟩ : ∃ t, t = X 1 := ⟨_, rfl⟩
  obtain ⟨c, hc⟩ : ∃ c, c = X 2 := ⟨_, rfl⟩
  rw [← ht] at f1 x1
  rw [← hc] at f2 x2
  have HT := Lib.hid ht
  have HC := Lib.hid hc
  have HB0 : Hid (Below w.heap.size w (w.alloc (.cells #[.int .i64 0, .int .i64 0, .int .i64 0, .slice none 0 0] 29)).drew) := Lib.hid ((Below.refl _ _).alloc (Nat.le_refl _) _).drew
  have HH0 : Hid (Blk (w.alloc (.cells #[.int .i64 0, .int .i64 0, .int .i64 0, .slice none 0 0] 29)).drew w.heap.size #[.int .i64 0, .int .i64 0, .int .i64 0, .slice none 0 0] 29) := Lib.hid (blk_new _ _ _)
  have HB2 : Hid (Below w.heap.size w ((w.alloc (.cells #[.int .i64 0, .int .i64 0, .int .i64 0, .slice none 0 0] 29)).alloc (.cells #[.int .i64 0, .int .i64 0, .int .i64 0, .slice none 0 0] 29)).drew) := Lib.hid (((Below.refl _ _).alloc (Nat.le_refl _) _).alloc (by simp) _).drew
  have HH2 : Hid (Blk ((w.alloc (.cells #[.int .i64 0, .int .i64 0, .int .i64 0, .slice none 0 0] 29)).alloc (.cells #[.int .i64 0, .int .i64 0, .int .i64 0, .slice none 0 0] 29)).drew w.heap.size #[.int .i64 0, .int .i64 0, .int .i64 0, .slice none 0 0] 29 ∧ Blk ((w.alloc (.cells #[.int .i64 0, .int .i64 0, .int .i64 0, .slice none 0 0] 29)).alloc (.cells #[.int .i64 0, .int .i64 0, .int .i64 0, .slice none 0 0] 29)).drew (w.heap.size + 1) #[.int .i64 0, .int .i64 0, .int .i64 0, .slice none 0 0] 29) := Lib.hid ⟨(blk_new _ _ _).alloc _, by have h := blk_new (w.alloc (.cells #[.int .i64 0, .int .i64 0, .int .i64 0, .slice none 0 0] 29)) #[.int .i64 0, .int .i64 0, .int .i64 0, .slice none 0 0] 29; rw [World.size_alloc] at h; exact h⟩
  have wt : IntKind.i64.wrap (t : Int) = t := IntWalk.i64_in _ (by omega)
  have wc : IntKind.i64.wrap (c : Int) = c := IntWalk.i64_in _ (by omega)
  clear h1 ht hc
  have HTL : Hid (∀ W, Below w.heap.size w W → ByIn W (some ⟨b, o, none⟩) 0 0 b o fun j => X (8 + j)) := Lib.hid (fun W h => by_none (HA.out.below h) 8 rfl)
  have q1 : (b = w.heap.size + 1) = False := eq_false (by omega)
  have q2 : (w.heap.size + 1 = b) = False := eq_false (by omega)
  go_enter Try.func14, Try.ntmps14
  go_wp2_with fail
  go_cut [4] (fun p W => ∃ g a' c' b', p = .pointer (some ⟨g, 0, none⟩) ∧ Blk W g #[.int .i64 0, .int .i64 (t : Nat), .int .i64 (c : Nat), .slice a' 0 c'] 29 ∧ ByIn W a' 0 c' b' 0 (fun j => X (8 + j)) ∧ Blk W w.heap.size #[.int .i64 0, .int .i64 0, .int .i64 0, .slice none 0 0] 29 ∧ w.heap.size < g ∧ (0 < 0 → w.heap.size < b') ∧ Below w.heap.size w W)
  case first =>
    go_region_held3 (fun W => W.cell? ⟨b, o + 1, none⟩ = some (.int .u8 (t : Nat)) ∧ W.cell? ⟨b, o + 2, none⟩ = some (.int .u8 (c : Nat))) (first | with_reducible exact ⟨f1, f2⟩ | go_keep)
      (first
      | (go_at_call 26; refine (clone_any _ _ _ _ _ _ _ (HTL.out _ HB0.out) (by omega)).mono ?_; rintro e W1 ⟨a', c', b', rfl, hby, hfr, hB1⟩; have HB1 := Lib.hid (HB0.out.trans (hB1.mono HB0.out.size)); have HH1 := Lib.hid (Blk.step HH0.out hB1); have f1 := (HB1.out.cell (p := ⟨b, o + 1, none⟩) hlt).trans f1; have f2 := (HB1.out.cell (p := ⟨b, o + 2, none⟩) hlt).trans f2)
      | (go_at_call 26; refine (clone_any _ _ _ _ _ _ _ (HTL.out _ HB2.out) (by omega)).mono ?_; rintro e W1 ⟨a', c', b', rfl, hby, hfr, hB1⟩; have HB1 := Lib.hid (HB2.out.trans (hB1.mono HB2.out.size)); have HH1 := Lib.hid (And.intro (Blk.step HH2.out.1 hB1) (Blk.step HH2.out.2 hB1)); have c0 : W1.cell? ⟨w.heap.size + 1, 0, none⟩ = some (.int .i64 0) := cell_at HH1.out.2 0; have z0 : W1.frozen? ⟨w.heap.size + 1, 0, none⟩ = false := free_at HH1.out.2 0; have c1 : W1.cell? ⟨w.heap.size + 1, 1, none⟩ = some (.int .i64 0) := cell_at HH1.out.2 1; have z1 : W1.frozen? ⟨w.heap.size + 1, 1, none⟩ = false := free_at HH1.out.2 1; have c2 : W1.cell? ⟨w.heap.size + 1, 2, none⟩ = some (.int .i64 0) := cell_at HH1.out.2 2; have z2 : W1.frozen? ⟨w.heap.size + 1, 2, none⟩ = false := free_at HH1.out.2 2; have c3 : W1.cell? ⟨w.heap.size + 1, 3, none⟩ = some (.slice none 0 0) := cell_at HH1.out.2 3; have z3 : W1.frozen? ⟨w.heap.size + 1, 3, none⟩ = false := free_at HH1.out.2 3; have f1 := (HB1.out.cell (p := ⟨b, o + 1, none⟩) hlt).trans f1; have f2 := (HB1.out.cell (p := ⟨b, o + 2, none⟩) hlt).trans f2))
    · go_wp2_with fail
      go_meet
      have hal : Below W1.heap.size W1 (W1.alloc (.cells #[.int .i64 0, .int .i64 (t : Nat), .int .i64 (c : Nat), .slice a' 0 c'] 29)) := (Below.refl _ _).alloc (Nat.le_refl _) _
      exact ⟨W1.heap.size, a', c', b', rfl, blk_new _ _ _, hby.below hal, Blk.step HH1.out hal, HH1.out.lt, (fun hp => by have := hfr hp; simp at this; omega), HB1.out.alloc HB1.out.size _⟩
    · go_wp2_with fail
      go_meet
      have k1 := (((HH1.out.2.set 0 (.int .i64 0)).set 1 (.int .i64 (t : Nat))).set 2 (.int .i64 (c : Nat))).set 3 (.slice a' 0 c')
      have k2 := (((HH1.out.1.ne ⟨w.heap.size + 1, 0, none⟩ (by simp) (.int .i64 0)).ne ⟨w.heap.size + 1, 1, none⟩ (by simp) (.int .i64 (t : Nat))).ne ⟨w.heap.size + 1, 2, none⟩ (by simp) (.int .i64 (c : Nat))).ne ⟨w.heap.size + 1, 3, none⟩ (by simp) (.slice a' 0 c')
      have hz2 : w.heap.size + 2 ≤ W1.heap.size := by have := hB1.size; simpa using this
      have hfr2 : 0 < 0 → b' ≠ w.heap.size + 1 := fun hp => by have := hfr hp; simp at this; omega
      have k3 := (((hby.ne ⟨w.heap.size + 1, 0, none⟩ hfr2 (.int .i64 0)).ne ⟨w.heap.size + 1, 1, none⟩ hfr2 (.int .i64 (t : Nat))).ne ⟨w.heap.size + 1, 2, none⟩ hfr2 (.int .i64 (c : Nat))).ne ⟨w.heap.size + 1, 3, none⟩ hfr2 (.slice a' 0 c')
      exact ⟨w.heap.size + 1, a', c', b', rfl, k1, k3, k2, by omega, (fun hp => by have := hfr hp; simp at this; omega), (((HB1.out.setCell (p := ⟨w.heap.size + 1, 0, none⟩) (by simp) _).setCell (p := ⟨w.heap.size + 1, 1, none⟩) (by simp) _).setCell (p := ⟨w.heap.size + 1, 2, none⟩) (by simp) _).setCell (p := ⟨w.heap.size + 1, 3, none⟩) (by simp) _⟩
  case rest =>
    obtain ⟨g, a', c', b', rfl, hg, hby, hh, hlg, hfr, hB⟩ := hcut
    have g0 : wc.cell? ⟨g, 0, none⟩ = some (.int .i64 0) := cell_at hg 0
    have g1 : wc.cell? ⟨g, 1, none⟩ = some (.int .i64 (t : Nat)) := cell_at hg 1
    have g2 : wc.cell? ⟨g, 2, none⟩ = some (.int .i64 (c : Nat)) := cell_at hg 2
    have g3 : wc.cell? ⟨g, 3, none⟩ = some (.slice a' 0 c') := cell_at hg 3
    obtain ⟨N, hN⟩ : ∃ N, N = w.heap.size := ⟨_, rfl⟩
    rw [← hN] at hh hlg hfr
    rw [← hN]
    have HN := Lib.hid hN
    have HG := Lib.hid hg
    have HBY := Lib.hid hby
    have HHZ := Lib.hid hh
    have HB := Lib.hid hB
    have HF := Lib.hid hfr
    clear hN hg hby hh hB hfr q1 q2 HB0 HH0 HB2 HH2 HTL
    by_cases htt : 1 ≤ t ∧ t ≤ 16
    · obtain ⟨q, hq⟩ : ∃ q, q = eqB (againB X 8) X 8 := ⟨_, rfl⟩
      have HQ : Hid (parseOk X 8 = q) := Lib.hid (by unfold parseOk; rw [← HT.out, decide_eq_true (by omega), decide_eq_true htt, hq]; rfl)
      have HQ2 : Hid (∀ m, m = 8 + 0 → (m == 8 && eqB (fixB (putB (headB t c 0) 8 fun j => X (8 + j)) (65535 - sumN16 (putB (headB t c 0) 8 fun j => X (8 + j)) m)) X m) = q) := Lib.hid (fun m hm => by
        obtain rfl : m = 8 := by omega
        rw [hq, againB, HT.out, HC.out]
        simp)
      have hbdZ : ∀ j, (fixB (putB (headB t c 0) 8 fun j => X (8 + j)) (65535 - sumN16 (putB (headB t c 0) 8 fun j => X (8 + j)) (8 + 0))) j < 256 := fun j => fix_bd (head_bd x1 x2 (by omega) fun j => HA.out.bd _) (by omega) j
      have HZ := Lib.hid hbdZ
      clear hq hbdZ
      go_wp2_with fail
      go_at_call 27
      refine (build_any 0 t c a' 0 c' b' 0 (fun j => X (8 + j)) _ HBY.out htt (by omega) (by omega)).mono ?_
      rintro e W2 ⟨v, ob, rfl, hr, hob, hB2⟩
      obtain ⟨av, cv, rfl, hby2⟩ := row_by hr HZ.out
      have e8 : 8 + 0 = 8 := by omega
      rw [e8] at hby2 ⊢
      clear e8
      have HB3 : Hid (Below w.heap.size w W2) := Lib.hid (HB.out.trans (hB2.mono HB.out.size))
      have HBY2 := Lib.hid hby2
      have HG2 := Lib.hid (HG.out.step hB2)
      have HHZ2 := Lib.hid (HHZ.out.step hB2)
      have HBYb := Lib.hid (HBY.out.below hB2)
      clear hr hob hB2 hby2 g0 g1 g2 g3 HBY HB HG HHZ
      go_wp2_with fail
      go_at_call 13
      refine (equal_any _ _ _ _ _ _ _ _ _ _ _ _ _ HBY2.out (HA.out.below HB3.out)).mono ?_
      rintro e W3 ⟨rfl, hB3⟩
      have e4 := HQ2.out 8 (by omega)
      rw [e4]
      have HB4 : Hid (Below w.heap.size w W3) := Lib.hid (HB3.out.trans (hB3.mono HB3.out.size))
      have HBYc := Lib.hid (HBYb.out.below hB3)
      have hg := HG2.out.step hB3
      have hh := HHZ2.out.step hB3
      have g0 : W3.cell? ⟨g, 0, none⟩ = some (.int .i64 0) := cell_at hg 0
      have g1 : W3.cell? ⟨g, 1, none⟩ = some (.int .i64 (t : Nat)) := cell_at hg 1
      have g2 : W3.cell? ⟨g, 2, none⟩ = some (.int .i64 (c : Nat)) := cell_at hg 2
      have g3 : W3.cell? ⟨g, 3, none⟩ = some (.slice a' 0 c') := cell_at hg 3
      have h0 : W3.cell? ⟨N, 0, none⟩ = some (.int .i64 0) := cell_at hh 0
      have h1 : W3.cell? ⟨N, 1, none⟩ = some (.int .i64 0) := cell_at hh 1
      have h2 : W3.cell? ⟨N, 2, none⟩ = some (.int .i64 0) := cell_at hh 2
      have h3 : W3.cell? ⟨N, 3, none⟩ = some (.slice none 0 0) := cell_at hh 3
      have z0 := free_at hh 0
      have z1 := free_at hh 1
      have z2 := free_at hh 2
      have z3 := free_at hh 3
      have HHN := Lib.hid hh
      have hlt3 : N < W3.heap.size := hh.lt
      clear e4 hB3 HB3 HBY2 HG2 HHZ2 HBYb hg hh HQ2
      cases q
      · go_wp2_with fail
        obtain ⟨WF, hWF⟩ : ∃ WF, WF = (((W3.setCell ⟨N, 0, none⟩ (.int .i64 0)).setCell ⟨N, 1, none⟩ (.int .i64 0)).setCell ⟨N, 2, none⟩ (.int .i64 0)).setCell ⟨N, 3, none⟩ (.slice none 0 0) := ⟨_, rfl⟩
        have k1 : Blk WF N #[(.int .i64 0), (.int .i64 0), (.int .i64 0), (.slice none 0 0)] 29 := by rw [hWF]; exact (((HHN.out.set 0 (.int .i64 0)).set 1 (.int .i64 0)).set 2 (.int .i64 0)).set 3 (.slice none 0 0)
        have hBF : Below w.heap.size w WF := by rw [hWF]; exact (((HB4.out.setCell (p := ⟨N, 0, none⟩) (by have := HN.out; simp only; omega) _).setCell (p := ⟨N, 1, none⟩) (by have := HN.out; simp only; omega) _).setCell (p := ⟨N, 2, none⟩) (by have := HN.out; simp only; omega) _).setCell (p := ⟨N, 3, none⟩) (by have := HN.out; simp only; omega) _
        skip
        rw [← hWF]
        have r0 : WF.cell? ⟨N, 0, none⟩ = some ((.int .i64 0)) := cell_at k1 0
        have r1 : WF.cell? ⟨N, 1, none⟩ = some ((.int .i64 0)) := cell_at k1 1
        have r2 : WF.cell? ⟨N, 2, none⟩ = some ((.int .i64 0)) := cell_at k1 2
        have r3 : WF.cell? ⟨N, 3, none⟩ = some ((.slice none 0 0)) := cell_at k1 3
        exact bodyPost_ret (v := .tuple #[.agg #[(.int .i64 0), (.int .i64 0), (.int .i64 0), (.slice none 0 0)], .int .i64 230]) (by simp [results, Try.results14, go_sem, r0, r1, r2, r3]) rfl ⟨hBF, .inl ⟨HQ.out, rfl⟩⟩
      · go_wp2_with fail
        obtain ⟨WF, hWF⟩ : ∃ WF, WF = (((W3.setCell ⟨N, 0, none⟩ (.int .i64 0)).setCell ⟨N, 1, none⟩ (.int .i64 (t : Nat))).setCell ⟨N, 2, none⟩ (.int .i64 (c : Nat))).setCell ⟨N, 3, none⟩ (.slice a' 0 c') := ⟨_, rfl⟩
        have k1 : Blk WF N #[(.int .i64 0), (.int .i64 (t : Nat)), (.int .i64 (c : Nat)), (.slice a' 0 c')] 29 := by rw [hWF]; exact (((HHN.out.set 0 (.int .i64 0)).set 1 (.int .i64 (t : Nat))).set 2 (.int .i64 (c : Nat))).set 3 (.slice a' 0 c')
        have hBF : Below w.heap.size w WF := by rw [hWF]; exact (((HB4.out.setCell (p := ⟨N, 0, none⟩) (by have := HN.out; simp only; omega) _).setCell (p := ⟨N, 1, none⟩) (by have := HN.out; simp only; omega) _).setCell (p := ⟨N, 2, none⟩) (by have := HN.out; simp only; omega) _).setCell (p := ⟨N, 3, none⟩) (by have := HN.out; simp only; omega) _
        have hq9 : 0 < 0 → b' ≠ N := fun hp => by have := HF.out hp; omega
        have hbF : ByIn WF a' 0 c' b' 0 fun j => X (8 + j) := by rw [hWF]; exact (((HBYc.out.ne ⟨N, 0, none⟩ hq9 _).ne ⟨N, 1, none⟩ hq9 _).ne ⟨N, 2, none⟩ hq9 _).ne ⟨N, 3, none⟩ hq9 _
        rw [← hWF]
        have r0 : WF.cell? ⟨N, 0, none⟩ = some ((.int .i64 0)) := cell_at k1 0
        have r1 : WF.cell? ⟨N, 1, none⟩ = some ((.int .i64 (t : Nat))) := cell_at k1 1
        have r2 : WF.cell? ⟨N, 2, none⟩ = some ((.int .i64 (c : Nat))) := cell_at k1 2
        have r3 : WF.cell? ⟨N, 3, none⟩ = some ((.slice a' 0 c')) := cell_at k1 3
        exact bodyPost_ret (v := .tuple #[.agg #[(.int .i64 0), (.int .i64 (t : Nat)), (.int .i64 (c : Nat)), (.slice a' 0 c')], .int .i64 0]) (by simp [results, Try.results14, go_sem, r0, r1, r2, r3]) rfl ⟨hBF, .inr ⟨HQ.out, a', c', b', by rw [← HT.out, ← HC.out], hbF, fun hp => by have := HF.out hp; have := HN.out; omega⟩⟩
    · have HQ : Hid (parseOk X 8 = false) := Lib.hid (by unfold parseOk; rw [← HT.out, decide_eq_false htt]; simp)
      go_wp2_with fail
      go_at_call 27
      refine (build_arg 0 t c a' 0 c' _ (by omega) (by omega)).mono ?_
      rintro e W2 ⟨rfl, hB2⟩
      have HB3 : Hid (Below w.heap.size w W2) := Lib.hid (HB.out.trans (hB2.mono HB.out.size))
      have HHZ2 := Lib.hid (HHZ.out.step hB2)
      have hh := HHZ2.out
      have h0 : W2.cell? ⟨N, 0, none⟩ = some (.int .i64 0) := cell_at hh 0
      have h1 : W2.cell? ⟨N, 1, none⟩ = some (.int .i64 0) := cell_at hh 1
      have h2 : W2.cell? ⟨N, 2, none⟩ = some (.int .i64 0) := cell_at hh 2
      have h3 : W2.cell? ⟨N, 3, none⟩ = some (.slice none 0 0) := cell_at hh 3
      have z0 := free_at hh 0
      have z1 := free_at hh 1
      have z2 := free_at hh 2
      have z3 := free_at hh 3
      have hlt3 : N < W2.heap.size := hh.lt
      clear hB2 g0 g1 g2 g3 HBY HB HG HHZ hh
      go_wp2_with fail
      obtain ⟨WF, hWF⟩ : ∃ WF, WF = (((W2.setCell ⟨N, 0, none⟩ (.int .i64 0)).setCell ⟨N, 1, none⟩ (.int .i64 0)).setCell ⟨N, 2, none⟩ (.int .i64 0)).setCell ⟨N, 3, none⟩ (.slice none 0 0) := ⟨_, rfl⟩
      have k1 : Blk WF N #[(.int .i64 0), (.int .i64 0), (.int .i64 0), (.slice none 0 0)] 29 := by rw [hWF]; exact (((HHZ2.out.set 0 (.int .i64 0)).set 1 (.int .i64 0)).set 2 (.int .i64 0)).set 3 (.slice none 0 0)
      have hBF : Below w.heap.size w WF := by rw [hWF]; exact (((HB3.out.setCell (p := ⟨N, 0, none⟩) (by have := HN.out; simp only; omega) _).setCell (p := ⟨N, 1, none⟩) (by have := HN.out; simp only; omega) _).setCell (p := ⟨N, 2, none⟩) (by have := HN.out; simp only; omega) _).setCell (p := ⟨N, 3, none⟩) (by have := HN.out; simp only; omega) _
      skip
      rw [← hWF]
      have r0 : WF.cell? ⟨N, 0, none⟩ = some ((.int .i64 0)) := cell_at k1 0
      have r1 : WF.cell? ⟨N, 1, none⟩ = some ((.int .i64 0)) := cell_at k1 1
      have r2 : WF.cell? ⟨N, 2, none⟩ = some ((.int .i64 0)) := cell_at k1 2
      have r3 : WF.cell? ⟨N, 3, none⟩ = some ((.slice none 0 0)) := cell_at k1 3
      exact bodyPost_ret (v := .tuple #[.agg #[(.int .i64 0), (.int .i64 0), (.int .i64 0), (.slice none 0 0)], .int .i64 230]) (by simp [results, Try.results14, go_sem, r0, r1, r2, r3]) rfl ⟨hBF, .inl ⟨HQ.out, rfl⟩⟩

theorem parse_any (a : Option Addr) (n ca b o : Nat) (X : Nat → Nat) (w : World) (h : ByIn w a n ca b o X) : Calls Try.prog 14 #[.slice a n ca] w (ParseP w n X) := by
  have hm := h.max
  have hl := h.le
  unfold maxLen at hm
  by_cases h1 : n < 8 ∨ 1500 < n
  · exact parse_short a n ca X w (by omega) h1
  · obtain ⟨e0, _⟩ := h.at_ (by omega)
    subst e0
    by_cases h2 : ca = 8
    · obtain rfl := h2.symm
      obtain rfl : n = 8 := by omega
      exact parse_eight b o X w h
    · exact parse_full n ca b o X w h (by omega) (by omega) h2
end Go.Proofs.Ytcimcmfibinehaa
