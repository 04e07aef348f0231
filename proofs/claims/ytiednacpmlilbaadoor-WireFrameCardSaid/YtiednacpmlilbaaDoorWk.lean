/-
  Frames: concatenation, four bytes of a number; package sums over rows as lists.
-/
import Derived.Test.YtiednacpmlilbaaDoorWe5
import Derived.Test.YtiednacpmlilbaaDoorSm4
namespace Go.Proofs.YtiednacpmlilbaaDoor
open Go.RowKit
set_option linter.unusedSimpArgs false
set_option linter.unusedVariables false

set_option maxRecDepth 100000 in
set_option maxHeartbeats 4000000 in
theorem grow_b (n : Nat) (w : World) (h0 : 0 < n) (h1 : n ≤ 1000000) :
    Calls Tryd.prog 110 #[.slice none 0 0, .int .i64 (n : Nat)] w fun e w' => ∃ v ob, e = .returned v ∧ BO w.heap.size w' v ob [] ∧ Below w.heap.size w w' := by
  obtain ⟨i0, hi, hz0, hz1, hz2⟩ := info_parts byZero
  have hrun := Lib.run_append_nil_zeros (P := Tryd.prog) w 23 3 23 5 i0 (.int .u8 0) .i64 .i64 Tryd.underlying23 Tryd.underlying3 hi hz0 n h0 (by rw [hz1]; omega) (by omega) (by rw [hz2]; omega)
  obtain ⟨G, hG⟩ : ∃ G, G = grownCap w n 0 5 := ⟨_, rfl⟩
  have hG1 : n ≤ G := by rw [hG]; exact grownCap_ge w n 0 _
  have hG2 : G ≤ maxLen := by rw [hG]; exact grownCap_le_maxLen w n 0 _ (by unfold maxLen; omega)
  rw [← hG] at hrun
  have HROW : Hid (Row (w.drew.alloc (.cells (Builtin.zeroCells (Value.int .u8 0).cells n ++ Builtin.zeroCells (Value.int .u8 0).cells (G - n)) 5)) (.slice (some ⟨w.heap.size, 0, none⟩) 0 G) (some w.heap.size) 5 1 0 []) :=
    Lib.hid (Row.mk (heap_alloc_new w.drew _) (Nat.zero_le _) hG2 (by simp only [Array.size_append, size_zeroCells]; show n * 1 + (G - n) * 1 = G * 1; omega) (by simp))
  have HBL : Hid (Below w.heap.size w (w.drew.alloc (.cells (Builtin.zeroCells (Value.int .u8 0).cells n ++ Builtin.zeroCells (Value.int .u8 0).cells (G - n)) 5))) := Lib.hid ((Below.refl _ _).drew.alloc (Nat.le_refl _) _)
  obtain ⟨W1, hW1⟩ : ∃ W1, W1 = w.drew.alloc (.cells (Builtin.zeroCells (Value.int .u8 0).cells n ++ Builtin.zeroCells (Value.int .u8 0).cells (G - n)) 5) := ⟨_, rfl⟩
  rw [← hW1] at hrun HROW HBL
  have HRUN := Lib.hid hrun
  unfold maxLen at hG2
  clear hG hi hz0 hz1 hz2 hrun hW1
  go_enter Tryd.func110, Tryd.ntmps110
  go_wp2_with (at_builtin; refine Lib.wpList_append_run _ rfl (.tmp 20) (.tmp 21) 23 3 rfl _ _ rfl rfl _ _ HRUN.out ?_)
  go_wp2_with fail
  go_ret
  exact ⟨_, some w.heap.size, rfl, ⟨HROW.out, fun x h => absurd h (by simp), fun g e => by obtain rfl := Option.some.inj e; exact Nat.le_refl _⟩, HBL.out⟩
def flB (P : Nat → List Nat) : Nat → List Nat
  | 0 => []
  | k + 1 => flB P k ++ P k
theorem flB_le {P : Nat → List Nat} {k m : Nat} (h : k ≤ m) : (flB P k).length ≤ (flB P m).length := by
  induction m with
  | zero => obtain rfl : k = 0 := by omega
            exact Nat.le_refl _
  | succ m ih =>
    by_cases hk : k = m + 1
    · subst hk; exact Nat.le_refl _
    · have := ih (by omega); rw [flB, List.length_append]; omega
set_option maxRecDepth 100000 in
set_option maxHeartbeats 8000000 in
theorem concat_b (g cg K : Nat) (P : Nat → List Nat) (w : World) (hg : g < w.heap.size) (hcg : K ≤ cg) (hcg2 : cg ≤ 5000) (hc : ∀ k, k < K → ∃ v, w.cell? ⟨g, k, none⟩ = some v ∧ BV w v (P k)) (h0 : 0 < (flB P K).length) (h5 : (flB P K).length ≤ 1000000) :
    Calls Tryd.prog 74 #[.slice (some ⟨g, 0, none⟩) K cg] w fun e w' => ∃ v ob, e = .returned v ∧ BO w.heap.size w' v ob (flB P K) ∧ Below w.heap.size w w' := by
  have HC := Lib.hid hc
  have HGR := Lib.hid (grow_b (flB P K).length)
  have HT := Lib.hid h0
  clear hc
  obtain ⟨T, hT⟩ : ∃ T, T = (flB P K).length := ⟨_, rfl⟩
  rw [← hT] at h5
  have HTT := Lib.hid hT
  clear hT h0
  go_enter Tryd.func74, Tryd.ntmps74
  go_wp2_with fail
  go_loopw [3, 11] (fun s i wr => ∃ k : Nat, k ≤ K ∧ i = .int .i64 k ∧ s = .int .i64 ((flB P k).length : Nat) ∧ Below w.heap.size w wr) (fun _ i _ => K - (intOf i).toNat)
  case atStart => exact ⟨0, by omega, rfl, rfl, Below.refl _ _⟩
  case round =>
    obtain ⟨k, hk, rfl, rfl, hB⟩ := hrel
    have HBB := Lib.hid hB
    clear hB
    obtain ⟨s, hs⟩ : ∃ s, s = (flB P k).length := ⟨_, rfl⟩
    have hsT : s ≤ T := by rw [hs, HTT.out]; exact flB_le hk
    rw [← hs]
    have HSS := Lib.hid hs
    clear hs
    by_cases hlt : k < K
    · obtain ⟨pv, hpc, hpv⟩ := HC.out k hlt
      have k0 := (HBB.out.cell (p := ⟨g, k, none⟩) hg).trans hpc
      obtain ⟨pa, pn, pc, rfl, hpn, hp1, hp2⟩ := hpv.sh
      have hnx : s + pn ≤ T := by rw [HSS.out, hpn.out, HTT.out, ← List.length_append]; exact flB_le (k := k + 1) hlt
      have HPN := Lib.hid hpn.out
      clear hpc hpv hpn
      have d0 : decide ((s : Int) + pn < 0) = false := by simp; omega
      go_wp2_with fail
      go_roundw
      case rel => exact ⟨k + 1, by omega, by go_num, by rw [flB, List.length_append, ← HPN.out, ← HSS.out]; go_num, HBB.out⟩
      case measure => first | (simp [intOf]; done) | (simp [intOf]; omega)
    · obtain rfl : k = K := by omega
      have hsT2 : s = T := by rw [HSS.out, HTT.out]
      have HT2 := Lib.hid HT.out
      rw [← HTT.out, ← hsT2] at HT2 HGR
      clear hsT2
      go_wp2_with fail
      go_at_call 110
      refine (HGR.out _ HT2.out (by omega)).mono ?_
      rintro e W2 ⟨v, ob, rfl, hr, hB2⟩
      have HR := Lib.hid (show BO w.heap.size W2 v ob [] from ⟨hr.1, hr.2.1, fun g e => Nat.le_trans HBB.out.size (hr.2.2 g e)⟩)
      have HB2 := Lib.hid (HBB.out.trans (hB2.mono HBB.out.size))
      clear hr hB2
      go_wp2_with fail
      go_loopw [6, 27] (fun v i wr => ∃ (q : Nat) (ob : Option Nat), q ≤ k ∧ i = .int .i64 q ∧ BO w.heap.size wr v ob (flB P q) ∧ Below w.heap.size w wr) (fun _ i _ => k - (intOf i).toNat)
      case atStart => exact ⟨0, ob, by omega, rfl, HR.out, HB2.out⟩
      case round =>
        clear HR HB2
        obtain ⟨q, ob, hk, rfl, hr, hB⟩ := hrel
        obtain ⟨av, nv, cv, rfl, hnv, hcv1, hcv2⟩ := hr.v.sh
        have HR := Lib.hid hr
        have HB3 := Lib.hid hB
        have HNV := Lib.hid hnv.out
        clear hr hB hnv
        by_cases hlt2 : q < k
        · obtain ⟨pv, hpc, hpv⟩ := HC.out q hlt2
          have k0 := (HB3.out.cell (p := ⟨g, q, none⟩) hg).trans hpc
          obtain ⟨pa, pn, pc, rfl, hpn, hp1, hp2⟩ := hpv.sh
          have hnx : nv + pn ≤ T := by rw [HNV.out, hpn.out, HTT.out, ← List.length_append]; exact flB_le (P := P) (k := q + 1) hlt2
          have hbl : (flB P q).length + (P q).length ≤ 1000000000 := by rw [← HNV.out, ← hpn.out]; omega
          obtain ⟨v', ob', W4, hrun, hbo, hB4, -⟩ := b_app2 (ty := 23) HR.out (hpv.below (show Below w.heap.size w wr from HB3.out)) HB3.out.size hbl
          have HRUN := Lib.hid hrun
          have HBO := Lib.hid hbo
          have HB4 := Lib.hid (HB3.out.trans hB4)
          obtain ⟨a4, n4, c4, rfl, -⟩ := hbo.v.sh
          clear hpc hpv hpn hbl hrun hbo hB4
          go_wp2_with (at_builtin; refine Lib.wpList_append_run _ rfl (.tmp 31) (.tmp 32) 23 23 rfl _ _ rfl rfl _ _ HRUN.out ?_)
          try go_wp2_with fail
          go_roundw
          case rel => exact ⟨q + 1, ob', by omega, by go_num, HBO.out, HB4.out⟩
          case measure => first | (simp [intOf]; done) | (simp [intOf]; omega)
        · obtain rfl : q = k := by omega
          go_wp2_with fail
          go_ret
          exact ⟨_, ob, rfl, HR.out, HB3.out⟩
def sumL (l : List Nat) : Nat := moreN 0 (gB l) l.length
theorem sy_bv {W : World} {a : Option Addr} {n c : Nat} {l : List Nat} (h : BV W (.slice a n c) l) : ∃ b o, SyIn W a n c b o (gB l) ∧ n = l.length := by
  have ho := h.ok
  obtain ⟨a', b, o, c', e, h1⟩ := h
  injection e with e1 e2 e3
  subst e1 e2 e3
  refine ⟨b, o, ⟨h1.le, h1.max, h1.at_, h1.cell, fun k => ?_⟩, rfl⟩
  by_cases hk : k < l.length
  · exact h1.bd k hk
  · unfold gB
    rw [List.getElem?_eq_none (by omega)]
    decide
theorem sumL_any (v : Value) (l : List Nat) (w : World) (ht : Tab w) (h : BV w v l) : Calls Tryd.prog 73 #[v] w fun e w' => e = .returned (.int .u32 (sumL l : Nat)) ∧ w = w' := by
  obtain ⟨a, n, c, rfl, -⟩ := h.sh
  obtain ⟨b, o, h1, rfl⟩ := sy_bv h
  exact sum_any a l.length c b o (gB l) w ht h1
theorem rsumL_any (v : Value) (l : List Nat) (w : World) (h : BV w v l) : Calls Tryd.prog 76 #[v] w fun e w' => e = .returned (.int .u32 (sumL l : Nat)) ∧ w = w' := by
  obtain ⟨a, n, c, rfl, -⟩ := h.sh
  obtain ⟨b, o, h1, rfl⟩ := sy_bv h
  exact rsum_any a l.length c b o (gB l) w h1
theorem sumL_lt {l : List Nat} (h : okB l) : sumL l < 4294967296 := by
  unfold sumL moreN
  exact cpl_lt (runB_lt _ _ (cpl_lt (by omega)) _ fun j hj => h _ (List.mem_of_getElem? (gB_lt hj)))
theorem bytesN_any (n : Nat) (h : n < 4294967296) (w : World) : Calls Tryd.prog 72 #[.int .u32 (n : Nat)] w fun e w' => e = .returned (.agg #[.int .u8 (n / 16777216 : Nat), .int .u8 (n / 65536 % 256 : Nat), .int .u8 (n / 256 % 256 : Nat), .int .u8 (n % 256 : Nat)]) ∧ Below w.heap.size w w' := bytes_any (n : Int) (by omega) (by omega) w
/-- a number's four bytes -/
def f4 (n : Nat) : List Nat := [n / 16777216, n / 65536 % 256, n / 256 % 256, n % 256]
def d4 (l : List Nat) : Nat := ((gB l 0 * 256 + gB l 1) * 256 + gB l 2) * 256 + gB l 3
end Go.Proofs.YtiednacpmlilbaaDoor
