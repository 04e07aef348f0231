/-
  Package wire: several texts in one.
-/
import Derived.Test.YtiednacpmlilbaaDoorWe5
import Derived.Test.YtiednacpmlilbaaDoorSm4
namespace Go.Proofs.YtiednacpmlilbaaDoor
open Go.RowKit
set_option linter.unusedSimpArgs false
set_option linter.unusedVariables false

set_option maxRecDepth 100000 in
set_option maxHeartbeats 4000000 in
theorem grow_b (n : Nat) (w : World) (h0 : 0 < n) (h1 : n ≤ 1000000) :
    Calls Tryd.prog 110 #[.slice none 0 0, .int .i64 (n : Nat)] w fun e w' => ∃ v ob, e = .returned v ∧ BO w.heap.size w' v ob [] ∧ Below w.heap.size w w' := by
  obtain ⟨i0, hi, hz0, hz1, hz2⟩ := info_parts byZero
  have hrun := Lib.run_append_nil_zeros (P := Tryd.prog) w 23 3 23 5 i0 (.int .u8 0) .i64 .i64 Tryd.underlying23 Tryd.underlying3 hi hz0 n h0 (by rw [hz1]; omega) (by omega) (by rw [hz2]; omega)
  obtain ⟨G, hG⟩ : ∃ G, G = grownCap w n 0 5 := ⟨_, rfl⟩
  have hG1 : n ≤ G := by rw [hG]; exact grownCap_ge w n 0 _
  have hG2 : G ≤ maxLen := by rw [hG]; exact grownCap_le_maxLen w n 0 _ (by unfold maxLen; omega)
  rw [← hG] at hrun
  have HROW : Hid (Row (w.drew.alloc (.cells (Builtin.zeroCells (Value.int .u8 0).cells n ++ Builtin.zeroCells (Value.int .u8 0).cells (G - n)) 5)) (.slice (some ⟨w.heap.size, 0, none⟩) 0 G) (some w.heap.size) 5 1 0 []) :=
    Lib.hid (Row.mk (heap_alloc_new w.drew _) (Nat.zero_le _) hG2 (by simp only [Array.size_append, size_zeroCells]; show n * 1 + (G - n) * 1 = G * 1; omega) (by simp))
  have HBL : Hid (Below w.heap.size w (w.drew.alloc (.cells (Builtin.zeroCells (Value.int .u8 0).cells n ++ Builtin.zeroCells (Value.int .u8 0).cells (G - n)) 5))) := Lib.hid ((Below.refl _ _).drew.alloc (Nat.le_refl _) _)
  obtain ⟨W1, hW1⟩ : ∃ W1, W1 = w.drew.alloc (.cells (Builtin.zeroCells (Value.int .u8 0).cells n ++ Builtin.zeroCells (Value.int .u8 0).cells (G - n)) 5) := ⟨_, rfl⟩
  rw [← hW1] at hrun HROW HBL
  have HRUN := Lib.hid hrun
  unfold maxLen at hG2
  clear hG hi hz0 hz1 hz2 hrun hW1
  go_enter Tryd.func110, Tryd.ntmps110
  go_wp2_with (at_builtin; refine Lib.wpList_append_run _ rfl (.tmp 20) (.tmp 21) 23 3 rfl _ _ rfl rfl _ _ HRUN.out ?_)
  go_wp2_with fail
  go_ret
  exact ⟨_, some w.heap.size, rfl, ⟨HROW.out, fun x h => absurd h (by simp), fun g e => by obtain rfl := Option.some.inj e; exact Nat.le_refl _⟩, HBL.out⟩
def flB (P : Nat → List Nat) : Nat → List Nat
  | 0 => []
  | k + 1 => flB P k ++ P k
theorem flB_le {P : Nat → List Nat} {k m : Nat} (h : k ≤ m) : (flB P k).length ≤ (flB P m).length := by
  induction m with
  | zero => obtain rfl : k = 0 := by omega
            exact Nat.le_refl _
  | succ m ih =>
    by_cases hk : k = m + 1
    · subst hk; exact Nat.le_refl _
    · have := ih (by omega); rw [flB, List.length_append]; omega
set_option maxRecDepth 100000 in
set_option maxHeartbeats 8000000 in
theorem concat_b (g cg K : Nat) (P : Nat → List Nat) (w : World) (hg : g < w.heap.size) (hcg : K ≤ cg) (hcg2 : cg ≤ 5000) (hc : ∀ k, k < K → ∃ v, w.cell? ⟨g, k, none⟩ = some v ∧ BV w v (P k)) (h0 : 0 < (flB P K).length) (h5 : (flB P K).length ≤ 1000000) :
    Calls Tryd.prog 74 #[.slice (some ⟨g, 0, none⟩) K cg] w fun e w' => ∃ v ob, e = .returned v ∧ BO w.heap.size w' v ob (flB P K) ∧ Below w.heap.size w w' := by
  have HC := Lib.hid hc
  have HGR := Lib.hid (grow_b (flB P K).length)
  have HT := Lib.hid h0
  clear hc
  obtain ⟨T, hT⟩ : ∃ T, T = (flB P K).length := ⟨_, rfl⟩
  rw [← hT] at h5
  have HTT := Lib.hid hT
  clear hT h0
  go_enter Tryd.func74, Tryd.ntmps74
  go_wp2_with fail
  go_loopw [3, 11] (fun s i wr => ∃ k : Nat, k ≤ K ∧ i = .int .i64 k ∧ s = .int .i64 ((flB P k).length : Nat) ∧ Below w.heap.size w wr) (fun _ i _ => K - (intOf i).toNat)
  case atStart => exact ⟨0, by omega, rfl, rfl, Below.refl _ _⟩
  case round =>
    obtain ⟨k, hk, rfl, rfl, hB⟩ := hrel
    have HBB := Lib.hid hB
    clear hB
    obtain ⟨s, hs⟩ : ∃ s, s = (flB P k).length := ⟨_, rfl⟩
    have hsT : s ≤ T := by rw [hs, HTT.out]; exact flB_le hk
    rw [← hs]
    have HSS := Lib.hid hs
    clear hs
    by_cases hlt : k < K
    · obtain ⟨pv, hpc, hpv⟩ := HC.out k hlt
      have k0 := (HBB.out.cell (p := ⟨g, k, none⟩) hg).trans hpc
      obtain ⟨pa, pn, pc, rfl, hpn, hp1, hp2⟩ := hpv.sh
      have hnx : s + pn ≤ T := by rw [HSS.out, hpn.out, HTT.out, ← List.length_append]; exact flB_le (k := k + 1) hlt
      have HPN := Lib.hid hpn.out
      clear hpc hpv hpn
      have d0 : decide ((s : Int) + pn < 0) = false := by simp; omega
      go_wp2_with fail
      go_roundw
      case rel => exact ⟨k + 1, by omega, by go_num, by rw [flB, List.length_append, ← HPN.out, ← HSS.out]; go_num, HBB.out⟩
      case measure => first | (simp [intOf]; done) | (simp [intOf]; omega)
    · obtain rfl : k = K := by omega
      have hsT2 : s = T := by rw [HSS.out, HTT.out]
      have HT2 := Lib.hid HT.out
      rw [← HTT.out, ← hsT2] at HT2 HGR
      clear hsT2
      go_wp2_with fail
      go_at_call 110
      refine (HGR.out _ HT2.out (by omega)).mono ?_
      rintro e W2 ⟨v, ob, rfl, hr, hB2⟩
      have HR := Lib.hid (show BO w.heap.size W2 v ob [] from ⟨hr.1, hr.2.1, fun g e => Nat.le_trans HBB.out.size (hr.2.2 g e)⟩)
      have HB2 := Lib.hid (HBB.out.trans (hB2.mono HBB.out.size))
      clear hr hB2
      go_wp2_with fail
      go_loopw [6, 27] (fun v i wr => ∃ (q : Nat) (ob : Option Nat), q ≤ k ∧ i = .int .i64 q ∧ BO w.heap.size wr v ob (flB P q) ∧ Below w.heap.size w wr) (fun _ i _ => k - (intOf i).toNat)
      case atStart => exact ⟨0, ob, by omega, rfl, HR.out, HB2.out⟩
      case round =>
        clear HR HB2
        obtain ⟨q, ob, hk, rfl, hr, hB⟩ := hrel
        obtain ⟨av, nv, cv, rfl, hnv, hcv1, hcv2⟩ := hr.v.sh
        have HR := Lib.hid hr
        have HB3 := Lib.hid hB
        have HNV := Lib.hid hnv.out
        clear hr hB hnv
        by_cases hlt2 : q < k
        · obtain ⟨pv, hpc, hpv⟩ := HC.out q hlt2
          have k0 := (HB3.out.cell (p := ⟨g, q, none⟩) hg).trans hpc
          obtain ⟨pa, pn, pc, rfl, hpn, hp1, hp2⟩ := hpv.sh
          have hnx : nv + pn ≤ T := by rw [HNV.out, hpn.out, HTT.out, ← List.length_append]; exact flB_le (P := P) (k := q + 1) hlt2
          have hbl : (flB P q).length + (P q).length ≤ 1000000000 := by rw [← HNV.out, ← hpn.out]; omega
          obtain ⟨v', ob', W4, hrun, hbo, hB4, -⟩ := b_app2 (ty := 23) HR.out (hpv.below (show Below w.heap.size w wr from HB3.out)) HB3.out.size hbl
          have HRUN := Lib.hid hrun
          have HBO := Lib.hid hbo
          have HB4 := Lib.hid (HB3.out.trans hB4)
          obtain ⟨a4, n4, c4, rfl, -⟩ := hbo.v.sh
          clear hpc hpv hpn hbl hrun hbo hB4
          go_wp2_with (at_builtin; refine Lib.wpList_append_run _ rfl (.tmp 31) (.tmp 32) 23 23 rfl _ _ rfl rfl _ _ HRUN.out ?_)
          try go_wp2_with fail
          go_roundw
          case rel => exact ⟨q + 1, ob', by omega, by go_num, HBO.out, HB4.out⟩
          case measure => first | (simp [intOf]; done) | (simp [intOf]; omega)
        · obtain rfl : q = k := by omega
          go_wp2_with fail
          go_ret
          exact ⟨_, ob, rfl, HR.out, HB3.out⟩
def sumL (l : List Nat) : Nat := moreN 0 (gB l) l.length
theorem sy_bv {W : World} {a : Option Addr} {n c : Nat} {l : List Nat} (h : BV W (.slice a n c) l) : ∃ b o, SyIn W a n c b o (gB l) ∧ n = l.length := by
  have ho := h.ok
  obtain ⟨a', b, o, c', e, h1⟩ := h
  injection e with e1 e2 e3
  subst e1 e2 e3
  refine ⟨b, o, ⟨h1.le, h1.max, h1.at_, h1.cell, fun k => ?_⟩, rfl⟩
  by_cases hk : k < l.length
  · exact h1.bd k hk
  · unfold gB
    rw [List.getElem?_eq_none (by omega)]
    decide
theorem sumL_any (v : Value) (l : List Nat) (w : World) (ht : Tab w) (h : BV w v l) : Calls Tryd.prog 73 #[v] w fun e w' => e = .returned (.int .u32 (sumL l : Nat)) ∧ w = w' := by
  obtain ⟨a, n, c, rfl, -⟩ := h.sh
  obtain ⟨b, o, h1, rfl⟩ := sy_bv h
  exact sum_any a l.length c b o (gB l) w ht h1
theorem rsumL_any (v : Value) (l : List Nat) (w : World) (h : BV w v l) : Calls Tryd.prog 76 #[v] w fun e w' => e = .returned (.int .u32 (sumL l : Nat)) ∧ w = w' := by
  obtain ⟨a, n, c, rfl, -⟩ := h.sh
  obtain ⟨b, o, h1, rfl⟩ := sy_bv h
  exact rsum_any a l.length c b o (gB l) w h1
theorem sumL_lt {l : List Nat} (h : okB l) : sumL l < 4294967296 := by
  unfold sumL moreN
  exact cpl_lt (runB_lt _ _ (cpl_lt (by omega)) _ fun j hj => h _ (List.mem_of_getElem? (gB_lt hj)))
theorem bytesN_any (n : Nat) (h : n < 4294967296) (w : World) : Calls Tryd.prog 72 #[.int .u32 (n : Nat)] w fun e w' => e = .returned (.agg #[.int .u8 (n / 16777216 : Nat), .int .u8 (n / 65536 % 256 : Nat), .int .u8 (n / 256 % 256 : Nat), .int .u8 (n % 256 : Nat)]) ∧ Below w.heap.size w w' := bytes_any (n : Int) (by omega) (by omega) w
/-- a number's four bytes -/
def f4 (n : Nat) : List Nat := [n / 16777216, n / 65536 % 256, n / 256 % 256, n % 256]
def d4 (l : List Nat) : Nat := ((gB l 0 * 256 + gB l 1) * 256 + gB l 2) * 256 + gB l 3


theorem f4_bd {n : Nat} (h : n < 4294967296) : okB (f4 n) := by
  intro x hx
  simp only [f4, List.mem_cons, List.not_mem_nil, or_false] at hx
  rcases hx with rfl | rfl | rfl | rfl <;> omega
theorem bv_f4 {W : World} {b : Nat} {n : Nat} {ty : TypeId} (h : Blk W b #[.int .u8 (n / 16777216 : Nat), .int .u8 (n / 65536 % 256 : Nat), .int .u8 (n / 256 % 256 : Nat), .int .u8 (n % 256 : Nat)] ty) (hn : n < 4294967296) : BV W (.slice (some ⟨b, 0, none⟩) 4 4) (f4 n) := by
  refine ⟨some ⟨b, 0, none⟩, b, 0, 4, rfl, Nat.le_refl _, by unfold maxLen; simp [f4], fun _ => ⟨rfl, h.lt⟩, fun k hk => ?_, fun k hk => ?_⟩
  · have hk : k < 4 := hk
    rw [cell_at h]
    match k, hk with
    | 0, _ => rfl
    | 1, _ => rfl
    | 2, _ => rfl
    | 3, _ => rfl
  · exact f4_bd hn _ (List.mem_of_getElem? (gB_lt hk))
def frameL (l : List Nat) : List Nat := f4 l.length ++ f4 (sumL l) ++ l
set_option maxRecDepth 100000 in
set_option maxHeartbeats 8000000 in
theorem frame_any (w : World) (v : Value) (l : List Nat) (ht : Tab w) (hv : BV w v l) (hl : l.length ≤ 900000) :
    Calls Tryd.prog 36 #[v] w fun e w' => Below w.heap.size w w' ∧ (65536 < l.length → e = .returned (.tuple #[.slice none 0 0, .int .i64 3])) ∧ (¬ 65536 < l.length → ∃ v', e = .returned (.tuple #[v', .int .i64 0]) ∧ BV w' v' (frameL l)) := by
  have hv0 := hv
  have hok := hv.ok
  obtain ⟨a, n, c, rfl, hn, h1, h2⟩ := hv.sh
  have HN := Lib.hid hn.out
  have hnl : n ≤ 900000 := by rw [hn.out]; exact hl
  by_cases hlong : 65536 < n
  · have d1 : ((65536 : Int) < (n : Int)) = True := eq_true (by omega)
    have d2 : (65536 < n) = True := eq_true hlong
    clear ht hv hv0 hn
    go_enter Tryd.func36, Tryd.ntmps36
    go_wp2_with fail
    exact bodyPost_ret (v := .tuple #[.slice none 0 0, .int .i64 3]) (by simp [results, Tryd.results36, go_sem]) rfl ⟨Below.refl _ _, fun _ => rfl, fun h => absurd (by rw [← HN.out]; exact hlong) h⟩
  · have d1 : ((65536 : Int) < (n : Int)) = False := eq_false (by omega)
    have d2 : (65536 < n) = False := eq_false hlong
    have cv : IntKind.u32.wrap (n : Int) = (n : Int) := wraps_u32 _ (by omega) (by omega)
    have hs := sumL_lt hok
    have HCS := Lib.hid (fun W (hB : Below w.heap.size w W) => sumL_any (.slice a n c) l W (ht.below hB) (hv0.below hB))
    obtain ⟨s, hse⟩ : ∃ s, s = sumL l := ⟨_, rfl⟩
    rw [← hse] at hs HCS
    have HB1 := Lib.hid (fun W => bytesN_any n (by omega) W)
    have HB2 := Lib.hid (fun W => bytesN_any s hs W)
    have HV := Lib.hid hv0
    have HSE := Lib.hid (And.intro hse hs)
    clear ht hv hv0 hn hse hs hok
    go_enter Tryd.func36, Tryd.ntmps36
    go_wp2_with (refine Calls.mono (HB1.out _) ?_; rintro e W1 ⟨rfl, hB1⟩; have HW1 := Lib.hid hB1; have HC1 := Lib.hid (HCS.out W1 hB1); clear hB1)
    go_wp2_with (refine Calls.mono HC1.out ?_; rintro e W1' ⟨rfl, rfl⟩; clear HC1)
    go_wp2_with (refine Calls.mono (HB2.out _) ?_; rintro e W2 ⟨rfl, hB2⟩; have HW2 := Lib.hid (HW1.out.trans (hB2.mono HW1.out.size)); clear hB2)
    obtain ⟨G, hG⟩ : ∃ G, G = W2.heap.size := ⟨_, rfl⟩
    obtain ⟨W3, hW3⟩ : ∃ X, X = W2.alloc (.cells #[.int .u8 ((n : Int) / 16777216), .int .u8 ((n : Int) / 65536 % 256), .int .u8 ((n : Int) / 256 % 256), .int .u8 ((n : Int) % 256)] 135) := ⟨_, rfl⟩
    obtain ⟨W4, hW4⟩ : ∃ X, X = W3.alloc (.cells #[.int .u8 ((s : Int) / 16777216), .int .u8 ((s : Int) / 65536 % 256), .int .u8 ((s : Int) / 256 % 256), .int .u8 ((s : Int) % 256)] 135) := ⟨_, rfl⟩
    rw [← hW3, ← hW4, ← hG]
    have b3 : Below W2.heap.size W2 W3 := by rw [hW3]; exact alloc_b _ _
    have b4 : Below W3.heap.size W3 W4 := by rw [hW4]; exact alloc_b _ _
    have s3 : W3.heap.size = G + 1 := by rw [hW3, hG]; simp
    have k3 : Blk W3 G #[.int .u8 (n / 16777216 : Nat), .int .u8 (n / 65536 % 256 : Nat), .int .u8 (n / 256 % 256 : Nat), .int .u8 (n % 256 : Nat)] 135 := by rw [hW3, hG]; exact blk_new _ _ _
    have k4 : Blk W4 (G + 1) #[.int .u8 (s / 16777216 : Nat), .int .u8 (s / 65536 % 256 : Nat), .int .u8 (s / 256 % 256 : Nat), .int .u8 (s % 256 : Nat)] 135 := by rw [hW4, ← s3]; exact blk_new _ _ _
    have B4 : Below w.heap.size w W4 := HW2.out.trans ((b3.mono HW2.out.size).trans (b4.mono (Nat.le_trans HW2.out.size b3.size)))
    have v3 : BV W4 (.slice (some ⟨G, 0, none⟩) 4 4) (f4 n) := bv_f4 (k3.step b4) (by omega)
    have v4 : BV W4 (.slice (some ⟨G + 1, 0, none⟩) 4 4) (f4 s) := bv_f4 k4 HSE.out.2
    have v5 : BV W4 (.slice a n c) l := HV.out.below B4
    have HVS := Lib.hid (And.intro v3 (And.intro v4 v5))
    have HB4 := Lib.hid B4
    clear b3 b4 s3 k3 k4 B4 v3 v4 v5 hW3 hW4 hG
    refine wp_region_held_drew (S := fun _ => True) (by kernel_rfl) trivial (fun hHeld => ?_)
    ((refine wpAnyH_take (i := 0) (v := ?_) (by (simp only [List.getElem?_toArray, List.getElem?_cons_succ, List.getElem?_cons_zero]); rfl) (by kernel_rfl) (by kernel_rfl) (by kernel_rfl) (by exact fun _ _ _ h => h) (Or.inl ⟨by rfl, ?_⟩) (by assumption) ?_); rotate_left; focus (intro wS hSw; (try dsimp only at hSw); go_simp; first | done | with_reducible rfl); try simp only [Act.put, List.setIfInBounds_toArray, List.set_cons_zero, List.set_cons_succ])
    ((refine wpAnyH_take (i := 1) (v := ?_) (by (simp only [List.getElem?_toArray, List.getElem?_cons_succ, List.getElem?_cons_zero]); rfl) (by kernel_rfl) (by kernel_rfl) (by kernel_rfl) (by exact fun _ _ _ h => h) (Or.inl ⟨by rfl, ?_⟩) (by assumption) ?_); rotate_left; focus (intro wS hSw; (try dsimp only at hSw); go_simp; first | done | with_reducible rfl); try simp only [Act.put, List.setIfInBounds_toArray, List.set_cons_zero, List.set_cons_succ])
    ((refine wpAnyH_take (i := 2) (v := ?_) (by (simp only [List.getElem?_toArray, List.getElem?_cons_succ, List.getElem?_cons_zero]); rfl) (by kernel_rfl) (by kernel_rfl) (by kernel_rfl) (by exact fun _ _ _ h => h) (Or.inl ⟨by rfl, ?_⟩) (by assumption) ?_); rotate_left; focus (intro wS hSw; (try dsimp only at hSw); go_simp; first | done | with_reducible rfl); try simp only [Act.put, List.setIfInBounds_toArray, List.set_cons_zero, List.set_cons_succ])
    obtain ⟨W5, hW5⟩ : ∃ X, X = (W4.alloc (.cells #[.slice (some ⟨G, 0, none⟩) 4 4, .slice (some ⟨G + 1, 0, none⟩) 4 4, .slice a n c] 23)).drew := ⟨_, rfl⟩
    obtain ⟨N, hN⟩ : ∃ N, N = W4.heap.size := ⟨_, rfl⟩
    have b5 : Below W4.heap.size W4 W5 := by rw [hW5]; exact (alloc_b W4 _).trans ((drew_b _).mono (alloc_b W4 _).size)
    have k5 : Blk W5 N #[.slice (some ⟨G, 0, none⟩) 4 4, .slice (some ⟨G + 1, 0, none⟩) 4 4, .slice a n c] 23 := by rw [hW5, hN]; exact blk_new W4 _ _
    have hcc := concat_b N 3 3 (fun k => match k with | 0 => f4 n | 1 => f4 s | _ => l) W5 k5.lt (by omega) (by omega) (fun k hk => by
      match k, hk with
      | 0, _ => exact ⟨_, cell_at k5 0, HVS.out.1.below b5⟩
      | 1, _ => exact ⟨_, cell_at k5 1, HVS.out.2.1.below b5⟩
      | 2, _ => exact ⟨_, cell_at k5 2, HVS.out.2.2.below b5⟩) (by simp [flB, f4]) (by simp [flB, f4]; rw [← HN.out]; omega)
    rw [show flB (fun k => match k with | 0 => f4 n | 1 => f4 s | _ => l) 3 = frameL l by simp [flB, frameL, HN.out, HSE.out.1]] at hcc
    have HCC := Lib.hid hcc
    have HB5 := Lib.hid (HB4.out.trans (b5.mono HB4.out.size))
    clear b5 k5 hcc
    refine wpAnyH_ready (rs := [3]) (by kernel_rfl) (by simp) ?_
    refine AllReadyH.cons (by (simp only [List.getElem?_toArray, List.getElem?_cons_succ, List.getElem?_cons_zero]); rfl) (fun K hK => ?_) AllReadyH.nil
    go_simp
    first | rw [← hN, ← hW5] | (rw [← hW5]; try rw [← hN])
    clear hN hW5
    refine hK.out _ _ trivial (fun hHeld => ?_)
    clear hK K
    try simp only [Act.put, List.setIfInBounds_toArray, List.set_cons_zero, List.set_cons_succ]
    refine wpAnyH_ready (rs := [4]) (by kernel_rfl) (by simp) ?_
    refine AllReadyH.cons (by (simp only [List.getElem?_toArray, List.getElem?_cons_succ, List.getElem?_cons_zero]); rfl) (fun K hK => ?_) AllReadyH.nil
    go_simp
    refine Calls.mono HCC.out ?_
    rintro e W6 ⟨v6, ob, rfl, hbo, hB6⟩
    have HEND := Lib.hid (And.intro (HB5.out.trans (hB6.mono HB5.out.size)) hbo.v)
    clear hbo hB6 HCC
    try go_simp
    refine hK.out _ _ trivial (fun hHeld => ?_)
    clear hK K
    try simp only [Act.put, List.setIfInBounds_toArray, List.set_cons_zero, List.set_cons_succ]
    ((refine wpAnyH_take (i := 5) (v := ?_) (by (simp only [List.getElem?_toArray, List.getElem?_cons_succ, List.getElem?_cons_zero]); rfl) (by kernel_rfl) (by kernel_rfl) (by kernel_rfl) (by exact fun _ _ _ h => h) (Or.inl ⟨by rfl, ?_⟩) (by assumption) ?_); rotate_left; focus (intro wS hSw; (try dsimp only at hSw); go_simp; first | done | with_reducible rfl); try simp only [Act.put, List.setIfInBounds_toArray, List.set_cons_zero, List.set_cons_succ])
    ((refine wpAnyH_take (i := 6) (v := ?_) (by (simp only [List.getElem?_toArray, List.getElem?_cons_succ, List.getElem?_cons_zero]); rfl) (by kernel_rfl) (by kernel_rfl) (by kernel_rfl) (by exact fun _ _ _ h => h) (Or.inl ⟨by rfl, ?_⟩) (by assumption) ?_); rotate_left; focus (intro wS hSw; (try dsimp only at hSw); go_simp; first | done | with_reducible rfl); try simp only [Act.put, List.setIfInBounds_toArray, List.set_cons_zero, List.set_cons_succ])
    refine wpAnyH_done (by kernel_rfl) ?_ _
    try simp only [Act.put, List.setIfInBounds_toArray, List.set_cons_zero, List.set_cons_succ]
    try go_wp2_with fail
    exact bodyPost_ret (v := .tuple #[v6, .int .i64 0]) (by simp [results, Tryd.results36, go_sem]) rfl ⟨HEND.out.1, fun h => absurd (by rw [HN.out]; exact h) hlong, fun _ => ⟨v6, rfl, HEND.out.2⟩⟩


theorem or_u32 {A B C i : Nat} (hB : B < 2 ^ i) (hA : A = C * 2 ^ i) (h : A + B < 4294967296) : bits .or .u32 ((A : Nat) : Int) ((B : Nat) : Int) = ((A + B : Nat) : Int) := by
  show IntKind.u32.wrap ((BitVec.ofInt 32 ((A : Nat) : Int) ||| BitVec.ofInt 32 ((B : Nat) : Int)).toNat : Int) = _
  rw [BitVec.toNat_or, BitVec.ofInt_natCast, BitVec.ofInt_natCast, BitVec.toNat_ofNat, BitVec.toNat_ofNat, Nat.mod_eq_of_lt (by omega), Nat.mod_eq_of_lt (by omega)]
  have h2 := Nat.shiftLeft_add_eq_or_of_lt (i := i) (b := B) hB C
  rw [Nat.shiftLeft_eq, ← hA] at h2
  rw [← h2]
  exact wraps_u32 _ (by omega) (by omega)
theorem or_i64 {A B C i : Nat} (hB : B < 2 ^ i) (hA : A = C * 2 ^ i) (h : A + B < 4294967296) : bits .or .i64 ((A : Nat) : Int) ((B : Nat) : Int) = ((A + B : Nat) : Int) := by
  show IntKind.i64.wrap ((BitVec.ofInt 64 ((A : Nat) : Int) ||| BitVec.ofInt 64 ((B : Nat) : Int)).toNat : Int) = _
  rw [BitVec.toNat_or, BitVec.ofInt_natCast, BitVec.ofInt_natCast, BitVec.toNat_ofNat, BitVec.toNat_ofNat, Nat.mod_eq_of_lt (by omega), Nat.mod_eq_of_lt (by omega)]
  have h2 := Nat.shiftLeft_add_eq_or_of_lt (i := i) (b := B) hB C
  rw [Nat.shiftLeft_eq, ← hA] at h2
  rw [← h2]
  exact IntWalk.i64_in _ (by omega)
theorem d4_lt {l : List Nat} (h : okB l) (hl : 4 ≤ l.length) : d4 l < 4294967296 := by
  have h0 := h _ (List.mem_of_getElem? (gB_lt (show 0 < l.length by omega)))
  have h1 := h _ (List.mem_of_getElem? (gB_lt (show 1 < l.length by omega)))
  have h2 := h _ (List.mem_of_getElem? (gB_lt (show 2 < l.length by omega)))
  have h3 := h _ (List.mem_of_getElem? (gB_lt (show 3 < l.length by omega)))
  unfold d4
  omega
set_option maxRecDepth 100000 in
set_option maxHeartbeats 8000000 in
theorem four4_any (w : World) (v : Value) (l : List Nat) (hv : BV w v l) (hl : 4 ≤ l.length) : Calls Tryd.prog 77 #[v] w fun e w' => e = .returned (.int .u32 (d4 l : Nat)) ∧ Below w.heap.size w w' := by
  have hok := hv.ok
  have hvd := hv.below (drew_b w)
  obtain ⟨a, n, c, rfl, hn, h1, h2⟩ := hv.sh
  have hn4 : 4 ≤ n := by rw [hn.out]; exact hl
  obtain ⟨g, o, x0, rfl, hg, e0, k0, b0⟩ := hvd.at 0 (by omega)
  obtain ⟨g1, o1, x1, ea, _, e1, k1, b1⟩ := hvd.at 1 (by omega)
  obtain ⟨rfl, rfl⟩ : g1 = g ∧ o1 = o := by injection ea with ea; injection ea with p q; exact ⟨p.symm, q.symm⟩
  obtain ⟨g2, o2, x2, ea, _, e2, k2, b2⟩ := hvd.at 2 (by omega)
  obtain ⟨rfl, rfl⟩ : g2 = g1 ∧ o2 = o1 := by injection ea with ea; injection ea with p q; exact ⟨p.symm, q.symm⟩
  obtain ⟨g3, o3, x3, ea, _, e3, k3, b3⟩ := hvd.at 3 (by omega)
  obtain ⟨rfl, rfl⟩ : g3 = g2 ∧ o3 = o2 := by injection ea with ea; injection ea with p q; exact ⟨p.symm, q.symm⟩
  have hd : d4 l = ((x0 * 256 + x1) * 256 + x2) * 256 + x3 := by unfold d4 gB; rw [e0, e1, e2, e3]; rfl
  rw [hd]
  have w0 : IntKind.u32.wrap (x0 : Int) = (x0 : Int) := wraps_u32 _ (by omega) (by omega)
  have w1 : IntKind.u32.wrap (x1 : Int) = (x1 : Int) := wraps_u32 _ (by omega) (by omega)
  have w2 : IntKind.u32.wrap (x2 : Int) = (x2 : Int) := wraps_u32 _ (by omega) (by omega)
  have w3 : IntKind.u32.wrap (x3 : Int) = (x3 : Int) := wraps_u32 _ (by omega) (by omega)
  obtain ⟨A0, hA0⟩ : ∃ A, A = x0 * 16777216 := ⟨_, rfl⟩
  obtain ⟨A1, hA1⟩ : ∃ A, A = x1 * 65536 := ⟨_, rfl⟩
  obtain ⟨A2, hA2⟩ : ∃ A, A = x2 * 256 := ⟨_, rfl⟩
  have s0 : IntKind.u32.wrap ((x0 : Int) * 16777216) = ((A0 : Nat) : Int) := by rw [hA0, wraps_u32 _ (by omega) (by omega)]; omega
  have s1 : IntKind.u32.wrap ((x1 : Int) * 65536) = ((A1 : Nat) : Int) := by rw [hA1, wraps_u32 _ (by omega) (by omega)]; omega
  have s2 : IntKind.u32.wrap ((x2 : Int) * 256) = ((A2 : Nat) : Int) := by rw [hA2, wraps_u32 _ (by omega) (by omega)]; omega
  have r1 := or_u32 (A := A0) (B := A1) (C := x0) (i := 24) (by omega) (by omega) (by omega)
  obtain ⟨B1, hB1⟩ : ∃ B, B = A0 + A1 := ⟨_, rfl⟩
  rw [← hB1] at r1
  have r2 := or_u32 (A := B1) (B := A2) (C := x0 * 256 + x1) (i := 16) (by omega) (by omega) (by omega)
  obtain ⟨B2, hB2⟩ : ∃ B, B = B1 + A2 := ⟨_, rfl⟩
  rw [← hB2] at r2
  have r3 := or_u32 (A := B2) (B := x3) (C := (x0 * 256 + x1) * 256 + x2) (i := 8) (by omega) (by omega) (by omega)
  rw [show B2 + x3 = ((x0 * 256 + x1) * 256 + x2) * 256 + x3 by omega] at r3
  obtain ⟨D, hD⟩ : ∃ D, D = ((x0 * 256 + x1) * 256 + x2) * 256 + x3 := ⟨_, rfl⟩
  rw [← hD] at r3 ⊢
  have i0 : (0 < n) = True := eq_true (by omega)
  have i1 : (1 < n) = True := eq_true (by omega)
  have i2 : (2 < n) = True := eq_true (by omega)
  have i3 : (3 < n) = True := eq_true (by omega)
  have j1 : ((1 : Int) < (n : Int)) = True := eq_true (by omega)
  have j2 : ((2 : Int) < (n : Int)) = True := eq_true (by omega)
  have j3 : ((3 : Int) < (n : Int)) = True := eq_true (by omega)
  have HB := Lib.hid (drew_b w)
  have HK := Lib.hid (And.intro k0 (And.intro k1 (And.intro k2 k3)))
  clear hD hB2 hB1 hA0 hA1 hA2 hd e0 e1 e2 e3 k0 k1 k2 k3 hok hvd hn hl hv b0 b1 b2 b3
  go_enter Tryd.func77, Tryd.ntmps77
  go_upto_region 1 with fail
  refine wp_region_held_drew (S := fun X => X.cell? ⟨g3, o3, none⟩ = some (.int .u8 (x0 : Nat)) ∧ X.cell? ⟨g3, o3 + 1, none⟩ = some (.int .u8 (x1 : Nat)) ∧ X.cell? ⟨g3, o3 + 2, none⟩ = some (.int .u8 (x2 : Nat)) ∧ X.cell? ⟨g3, o3 + 3, none⟩ = some (.int .u8 (x3 : Nat))) (by kernel_rfl) HK.out (fun hHeld => ?_)
  ((refine wpAnyH_take (i := 0) (v := ?_) (by (simp only [List.getElem?_toArray, List.getElem?_cons_succ, List.getElem?_cons_zero]); rfl) (by kernel_rfl) (by kernel_rfl) (by kernel_rfl) (by exact fun _ _ _ h => h) (Or.inl ⟨by rfl, ?_⟩) (by assumption) ?_); rotate_left; focus (intro wS hSw; (try dsimp only at hSw); go_simp; first | done | with_reducible rfl); try simp only [Act.put, List.setIfInBounds_toArray, List.set_cons_zero, List.set_cons_succ])
  ((refine wpAnyH_take (i := 1) (v := ?_) (by (simp only [List.getElem?_toArray, List.getElem?_cons_succ, List.getElem?_cons_zero]); rfl) (by kernel_rfl) (by kernel_rfl) (by kernel_rfl) (by exact fun _ _ _ h => h) (Or.inl ⟨by rfl, ?_⟩) (by assumption) ?_); rotate_left; focus (intro wS hSw; (try dsimp only at hSw); go_simp; first | done | with_reducible rfl); try simp only [Act.put, List.setIfInBounds_toArray, List.set_cons_zero, List.set_cons_succ])
  ((refine wpAnyH_take (i := 2) (v := ?_) (by (simp only [List.getElem?_toArray, List.getElem?_cons_succ, List.getElem?_cons_zero]); rfl) (by kernel_rfl) (by kernel_rfl) (by kernel_rfl) (by exact fun _ _ _ h => h) (Or.inl ⟨by rfl, ?_⟩) (by assumption) ?_); rotate_left; focus (intro wS hSw; (try dsimp only at hSw); go_simp; first | done | with_reducible rfl); try simp only [Act.put, List.setIfInBounds_toArray, List.set_cons_zero, List.set_cons_succ])
  ((refine wpAnyH_take (i := 3) (v := ?_) (by (simp only [List.getElem?_toArray, List.getElem?_cons_succ, List.getElem?_cons_zero]); rfl) (by kernel_rfl) (by kernel_rfl) (by kernel_rfl) (by exact fun _ _ _ h => h) (Or.inl ⟨by rfl, ?_⟩) (by assumption) ?_); rotate_left; focus (intro wS hSw; (try dsimp only at hSw); go_simp; first | done | with_reducible rfl); try simp only [Act.put, List.setIfInBounds_toArray, List.set_cons_zero, List.set_cons_succ])
  ((refine wpAnyH_take (i := 4) (v := ?_) (by (simp only [List.getElem?_toArray, List.getElem?_cons_succ, List.getElem?_cons_zero]); rfl) (by kernel_rfl) (by kernel_rfl) (by kernel_rfl) (by exact fun _ _ _ h => h) (Or.inl ⟨by rfl, ?_⟩) (by assumption) ?_); rotate_left; focus (intro wS hSw; (try dsimp only at hSw); go_simp; first | done | with_reducible rfl); try simp only [Act.put, List.setIfInBounds_toArray, List.set_cons_zero, List.set_cons_succ])
  ((refine wpAnyH_take (i := 5) (v := ?_) (by (simp only [List.getElem?_toArray, List.getElem?_cons_succ, List.getElem?_cons_zero]); rfl) (by kernel_rfl) (by kernel_rfl) (by kernel_rfl) (by exact fun _ _ _ h => h) (Or.inl ⟨by rfl, ?_⟩) (by assumption) ?_); rotate_left; focus (intro wS hSw; (try dsimp only at hSw); go_simp; first | done | with_reducible rfl); try simp only [Act.put, List.setIfInBounds_toArray, List.set_cons_zero, List.set_cons_succ])
  ((refine wpAnyH_take (i := 6) (v := ?_) (by (simp only [List.getElem?_toArray, List.getElem?_cons_succ, List.getElem?_cons_zero]); rfl) (by kernel_rfl) (by kernel_rfl) (by kernel_rfl) (by exact fun _ _ _ h => h) (Or.inl ⟨by rfl, ?_⟩) (by assumption) ?_); rotate_left; focus (intro wS hSw; (try dsimp only at hSw); go_simp; first | done | with_reducible rfl); try simp only [Act.put, List.setIfInBounds_toArray, List.set_cons_zero, List.set_cons_succ])
  ((refine wpAnyH_take (i := 7) (v := ?_) (by (simp only [List.getElem?_toArray, List.getElem?_cons_succ, List.getElem?_cons_zero]); rfl) (by kernel_rfl) (by kernel_rfl) (by kernel_rfl) (by exact fun _ _ _ h => h) (Or.inl ⟨by rfl, ?_⟩) (by assumption) ?_); rotate_left; focus (intro wS hSw; (try dsimp only at hSw); go_simp; first | done | with_reducible rfl); try simp only [Act.put, List.setIfInBounds_toArray, List.set_cons_zero, List.set_cons_succ])
  ((refine wpAnyH_take (i := 8) (v := ?_) (by (simp only [List.getElem?_toArray, List.getElem?_cons_succ, List.getElem?_cons_zero]); rfl) (by kernel_rfl) (by kernel_rfl) (by kernel_rfl) (by exact fun _ _ _ h => h) (Or.inl ⟨by rfl, ?_⟩) (by assumption) ?_); rotate_left; focus (intro wS hSw; (try dsimp only at hSw); go_simp; first | done | with_reducible rfl); try simp only [Act.put, List.setIfInBounds_toArray, List.set_cons_zero, List.set_cons_succ])
  ((refine wpAnyH_take (i := 9) (v := ?_) (by (simp only [List.getElem?_toArray, List.getElem?_cons_succ, List.getElem?_cons_zero]); rfl) (by kernel_rfl) (by kernel_rfl) (by kernel_rfl) (by exact fun _ _ _ h => h) (Or.inl ⟨by rfl, ?_⟩) (by assumption) ?_); rotate_left; focus (intro wS hSw; (try dsimp only at hSw); go_simp; first | done | with_reducible rfl); try simp only [Act.put, List.setIfInBounds_toArray, List.set_cons_zero, List.set_cons_succ])
  ((refine wpAnyH_take (i := 10) (v := ?_) (by (simp only [List.getElem?_toArray, List.getElem?_cons_succ, List.getElem?_cons_zero]); rfl) (by kernel_rfl) (by kernel_rfl) (by kernel_rfl) (by exact fun _ _ _ h => h) (Or.inl ⟨by rfl, ?_⟩) (by assumption) ?_); rotate_left; focus (intro wS hSw; (try dsimp only at hSw); go_simp; first | done | with_reducible rfl); try simp only [Act.put, List.setIfInBounds_toArray, List.set_cons_zero, List.set_cons_succ])
  ((refine wpAnyH_take (i := 11) (v := ?_) (by (simp only [List.getElem?_toArray, List.getElem?_cons_succ, List.getElem?_cons_zero]); rfl) (by kernel_rfl) (by kernel_rfl) (by kernel_rfl) (by exact fun _ _ _ h => h) (Or.inl ⟨by rfl, ?_⟩) (by assumption) ?_); rotate_left; focus (intro wS hSw; (try dsimp only at hSw); go_simp; first | done | with_reducible rfl); try simp only [Act.put, List.setIfInBounds_toArray, List.set_cons_zero, List.set_cons_succ])
  ((refine wpAnyH_take (i := 12) (v := ?_) (by (simp only [List.getElem?_toArray, List.getElem?_cons_succ, List.getElem?_cons_zero]); rfl) (by kernel_rfl) (by kernel_rfl) (by kernel_rfl) (by exact fun _ _ _ h => h) (Or.inl ⟨by rfl, ?_⟩) (by assumption) ?_); rotate_left; focus (intro wS hSw; (try dsimp only at hSw); go_simp; first | done | with_reducible rfl); try simp only [Act.put, List.setIfInBounds_toArray, List.set_cons_zero, List.set_cons_succ])
  ((refine wpAnyH_take (i := 13) (v := ?_) (by (simp only [List.getElem?_toArray, List.getElem?_cons_succ, List.getElem?_cons_zero]); rfl) (by kernel_rfl) (by kernel_rfl) (by kernel_rfl) (by exact fun _ _ _ h => h) (Or.inl ⟨by rfl, ?_⟩) (by assumption) ?_); rotate_left; focus (intro wS hSw; (try dsimp only at hSw); go_simp; first | done | with_reducible rfl); try simp only [Act.put, List.setIfInBounds_toArray, List.set_cons_zero, List.set_cons_succ])
  ((refine wpAnyH_take (i := 14) (v := ?_) (by (simp only [List.getElem?_toArray, List.getElem?_cons_succ, List.getElem?_cons_zero]); rfl) (by kernel_rfl) (by kernel_rfl) (by kernel_rfl) (by exact fun _ _ _ h => h) (Or.inl ⟨by rfl, ?_⟩) (by assumption) ?_); rotate_left; focus (intro wS hSw; (try dsimp only at hSw); go_simp; first | done | with_reducible rfl); try simp only [Act.put, List.setIfInBounds_toArray, List.set_cons_zero, List.set_cons_succ])
  ((refine wpAnyH_take (i := 15) (v := ?_) (by (simp only [List.getElem?_toArray, List.getElem?_cons_succ, List.getElem?_cons_zero]); rfl) (by kernel_rfl) (by kernel_rfl) (by kernel_rfl) (by exact fun _ _ _ h => h) (Or.inl ⟨by rfl, ?_⟩) (by assumption) ?_); rotate_left; focus (intro wS hSw; (try dsimp only at hSw); go_simp; first | done | with_reducible rfl); try simp only [Act.put, List.setIfInBounds_toArray, List.set_cons_zero, List.set_cons_succ])
  ((refine wpAnyH_take (i := 16) (v := ?_) (by (simp only [List.getElem?_toArray, List.getElem?_cons_succ, List.getElem?_cons_zero]); rfl) (by kernel_rfl) (by kernel_rfl) (by kernel_rfl) (by exact fun _ _ _ h => h) (Or.inl ⟨by rfl, ?_⟩) (by assumption) ?_); rotate_left; focus (intro wS hSw; (try dsimp only at hSw); go_simp; first | done | with_reducible rfl); try simp only [Act.put, List.setIfInBounds_toArray, List.set_cons_zero, List.set_cons_succ])
  ((refine wpAnyH_take (i := 17) (v := ?_) (by (simp only [List.getElem?_toArray, List.getElem?_cons_succ, List.getElem?_cons_zero]); rfl) (by kernel_rfl) (by kernel_rfl) (by kernel_rfl) (by exact fun _ _ _ h => h) (Or.inl ⟨by rfl, ?_⟩) (by assumption) ?_); rotate_left; focus (intro wS hSw; (try dsimp only at hSw); go_simp; first | done | with_reducible rfl); try simp only [Act.put, List.setIfInBounds_toArray, List.set_cons_zero, List.set_cons_succ])
  ((refine wpAnyH_take (i := 18) (v := ?_) (by (simp only [List.getElem?_toArray, List.getElem?_cons_succ, List.getElem?_cons_zero]); rfl) (by kernel_rfl) (by kernel_rfl) (by kernel_rfl) (by exact fun _ _ _ h => h) (Or.inl ⟨by rfl, ?_⟩) (by assumption) ?_); rotate_left; focus (intro wS hSw; (try dsimp only at hSw); go_simp; first | done | with_reducible rfl); try simp only [Act.put, List.setIfInBounds_toArray, List.set_cons_zero, List.set_cons_succ])
  ((refine wpAnyH_take (i := 19) (v := ?_) (by (simp only [List.getElem?_toArray, List.getElem?_cons_succ, List.getElem?_cons_zero]); rfl) (by kernel_rfl) (by kernel_rfl) (by kernel_rfl) (by exact fun _ _ _ h => h) (Or.inl ⟨by rfl, ?_⟩) (by assumption) ?_); rotate_left; focus (intro wS hSw; (try dsimp only at hSw); go_simp; first | done | with_reducible rfl); try simp only [Act.put, List.setIfInBounds_toArray, List.set_cons_zero, List.set_cons_succ])
  ((refine wpAnyH_take (i := 20) (v := ?_) (by (simp only [List.getElem?_toArray, List.getElem?_cons_succ, List.getElem?_cons_zero]); rfl) (by kernel_rfl) (by kernel_rfl) (by kernel_rfl) (by exact fun _ _ _ h => h) (Or.inl ⟨by rfl, ?_⟩) (by assumption) ?_); rotate_left; focus (intro wS hSw; (try dsimp only at hSw); go_simp; first | done | with_reducible rfl); try simp only [Act.put, List.setIfInBounds_toArray, List.set_cons_zero, List.set_cons_succ])
  ((refine wpAnyH_take (i := 21) (v := ?_) (by (simp only [List.getElem?_toArray, List.getElem?_cons_succ, List.getElem?_cons_zero]); rfl) (by kernel_rfl) (by kernel_rfl) (by kernel_rfl) (by exact fun _ _ _ h => h) (Or.inl ⟨by rfl, ?_⟩) (by assumption) ?_); rotate_left; focus (intro wS hSw; (try dsimp only at hSw); go_simp; first | done | with_reducible rfl); try simp only [Act.put, List.setIfInBounds_toArray, List.set_cons_zero, List.set_cons_succ])
  ((refine wpAnyH_take (i := 22) (v := ?_) (by (simp only [List.getElem?_toArray, List.getElem?_cons_succ, List.getElem?_cons_zero]); rfl) (by kernel_rfl) (by kernel_rfl) (by kernel_rfl) (by exact fun _ _ _ h => h) (Or.inl ⟨by rfl, ?_⟩) (by assumption) ?_); rotate_left; focus (intro wS hSw; (try dsimp only at hSw); go_simp; first | done | with_reducible rfl); try simp only [Act.put, List.setIfInBounds_toArray, List.set_cons_zero, List.set_cons_succ])
  refine wpAnyH_done (by kernel_rfl) ?_ _
  try simp only [Act.put, List.setIfInBounds_toArray, List.set_cons_zero, List.set_cons_succ]
  try go_wp2_with fail
  go_ret
  exact ⟨rfl, HB.out⟩


theorem by_l {a : Option Addr} {ln c : Nat} (i : Nat) (h1 : i ≤ ln) (h3 : ln ≤ c) (W' : World) :
    (Instr.slice 23 (.slice a ln c) (some (.int .i64 (i : Nat))) none none).run Tryd.prog W' = .ok (.slice (midB a i c) (ln - i) (c - i)) W' := by
  rw [run_slice_l W' 23 a ln c elemBy .i64 i (by omega) (by omega), sizeBy]
  rfl
theorem bv_mid {W : World} {a : Option Addr} {n c : Nat} {l : List Nat} (h : BV W (.slice a n c) l) (i m : Nat) (hm : m + i ≤ n) : BV W (.slice (midB a i c) m (c - i)) ((l.drop i).take m) := by
  obtain ⟨a', b, o, c', e, h1⟩ := h
  injection e with e1 e2 e3
  subst e1 e2 e3
  have hl : ((l.drop i).take m).length = m := by rw [List.length_take, List.length_drop]; omega
  exact ⟨_, b, o + i, _, by rw [hl], by rw [hl]; exact byin_mid h1 rfl i m hm⟩
def unfL (l : List Nat) : Option (List Nat × Nat) :=
  if l.length < 8 then none else if 65536 < d4 l ∨ l.length - 8 < d4 l then none else if sumL ((l.drop 8).take (d4 l)) = d4 (l.drop 4) then some ((l.drop 8).take (d4 l), 8 + d4 l) else none
set_option maxRecDepth 100000 in
set_option maxHeartbeats 8000000 in
theorem unframe_any (w : World) (v : Value) (l : List Nat) (ht : Tab w) (hv : BV w v l) (hl : l.length ≤ 900000) :
    Calls Tryd.prog 38 #[v] w fun e w' => Below w.heap.size w w' ∧ match unfL l with
      | none => e = .returned (.tuple #[.slice none 0 0, .int .i64 0, .int .i64 50])
      | some (x, u) => ∃ v', e = .returned (.tuple #[v', .int .i64 (u : Nat), .int .i64 0]) ∧ BV w' v' x := by
  have hv0 := hv
  have hok := hv.ok
  obtain ⟨a, n, c, rfl, hn, h1, h2⟩ := hv.sh
  have HN := Lib.hid hn.out
  have hnl : n ≤ 900000 := by rw [hn.out]; exact hl
  by_cases h8 : n < 8
  · have d1 : ((n : Int) < 8) = True := eq_true (by omega)
    have d2 : (n < 8) = True := eq_true h8
    rw [show unfL l = none by unfold unfL; rw [if_pos (by rw [← hn.out]; exact h8)]]
    clear ht hv hv0 hn
    go_enter Tryd.func38, Tryd.ntmps38
    go_wp2_with fail
    exact bodyPost_ret (v := .tuple #[.slice none 0 0, .int .i64 0, .int .i64 50]) (by simp [results, Tryd.results38, go_sem]) rfl ⟨Below.refl _ _, rfl⟩
  · obtain ⟨R, hR⟩ : ∃ R, R = unfL l := ⟨_, rfl⟩
    rw [← hR]
    have HR := Lib.hid hR
    clear hR
    have d1 : ((n : Int) < 8) = False := eq_false (by omega)
    have d2 : (n < 8) = False := eq_false h8
    have hl8 : 8 ≤ l.length := by rw [← hn.out]; omega
    have hv4 := fun W (hB : Below w.heap.size w W) => bv_mid (hv0.below hB) 4 (n - 4) (by omega)
    rw [show (l.drop 4).take (n - 4) = l.drop 4 from List.take_of_length_le (by rw [List.length_drop, hn.out]; exact Nat.le_refl _)] at hv4
    have hsl : ∀ W', (Instr.slice 23 (.slice a n c) (some (.int .i64 4)) none none).run Tryd.prog W' = .ok (.slice (midB a 4 c) (n - 4) (c - 4)) W' := fun W' => by_l 4 (by omega) h1 W'
    obtain ⟨a4, ha4⟩ : ∃ x, x = midB a 4 c := ⟨_, rfl⟩
    obtain ⟨n4, hn4⟩ : ∃ x, x = n - 4 := ⟨_, rfl⟩
    obtain ⟨c4, hc4⟩ : ∃ x, x = c - 4 := ⟨_, rfl⟩
    rw [← ha4, ← hn4, ← hc4] at hv4 hsl
    have hD := d4_lt hok (by omega)
    obtain ⟨D, hDD⟩ : ∃ D, D = d4 l := ⟨_, rfl⟩
    have hE := d4_lt (l := l.drop 4) (fun x hx => hok x (List.mem_of_mem_drop hx)) (by rw [List.length_drop]; omega)
    obtain ⟨E, hEE⟩ : ∃ E, E = d4 (l.drop 4) := ⟨_, rfl⟩
    have HF1 := Lib.hid (fun W (hB : Below w.heap.size w W) => four4_any W (.slice a n c) l (hv0.below hB) (by omega))
    have HF2 := Lib.hid (fun W (hB : Below w.heap.size w W) => four4_any W (.slice a4 n4 c4) (l.drop 4) (hv4 W hB) (by rw [List.length_drop]; omega))
    rw [← hDD] at HF1 hD
    rw [← hEE] at HF2 hE
    have HV := Lib.hid hv0
    have HT := Lib.hid ht
    have HDE := Lib.hid (And.intro hDD (And.intro hEE (And.intro hD hE)))
    have cvD : IntKind.i64.wrap (D : Int) = (D : Int) := IntWalk.i64_in _ (by omega)
    have cn8 : IntKind.i64.wrap ((n : Int) - 8) = ((n - 8 : Nat) : Int) := by rw [IntWalk.i64_in _ (by omega)]; omega
    obtain ⟨m8, hm8⟩ : ∃ m, m = n - 8 := ⟨_, rfl⟩
    rw [← hm8] at cn8
    have HM := Lib.hid hm8
    clear ht hv hv0 hv4 ha4 hn4 hc4 hDD hEE hm8
    go_enter Tryd.func38, Tryd.ntmps38
    go_upto_region 3 with fail
    refine wp_region_held_drew (S := fun _ => True) (by kernel_rfl) trivial (fun hHeld => ?_)
    ((refine wpAnyH_take (i := 0) (v := ?_) (by (simp only [List.getElem?_toArray, List.getElem?_cons_succ, List.getElem?_cons_zero]); rfl) (by kernel_rfl) (by kernel_rfl) (by kernel_rfl) (by exact fun _ _ _ h => h) (Or.inl ⟨by rfl, ?_⟩) (by assumption) ?_); rotate_left; focus (intro wS hSw; (try dsimp only at hSw); go_simp; first | done | with_reducible rfl); try simp only [Act.put, List.setIfInBounds_toArray, List.set_cons_zero, List.set_cons_succ])
    ((refine wpAnyH_take (i := 2) (v := ?_) (by (simp only [List.getElem?_toArray, List.getElem?_cons_succ, List.getElem?_cons_zero]); rfl) (by kernel_rfl) (by kernel_rfl) (by kernel_rfl) (by exact fun _ _ _ h => h) (Or.inl ⟨by rfl, ?_⟩) (by assumption) ?_); rotate_left; focus (intro wS hSw; (try dsimp only at hSw); go_simp; first | done | with_reducible rfl); try simp only [Act.put, List.setIfInBounds_toArray, List.set_cons_zero, List.set_cons_succ])
    ((refine wpAnyH_take (i := 3) (v := ?_) (by (simp only [List.getElem?_toArray, List.getElem?_cons_succ, List.getElem?_cons_zero]); rfl) (by kernel_rfl) (by kernel_rfl) (by kernel_rfl) (by exact fun _ _ _ h => h) (Or.inl ⟨by rfl, ?_⟩) (by assumption) ?_); rotate_left; focus (intro wS hSw; (try dsimp only at hSw); go_simp; first | done | with_reducible rfl); try simp only [Act.put, List.setIfInBounds_toArray, List.set_cons_zero, List.set_cons_succ])
    refine wpAnyH_ready (rs := [1]) (by kernel_rfl) (by simp) ?_
    refine AllReadyH.cons (by (simp only [List.getElem?_toArray, List.getElem?_cons_succ, List.getElem?_cons_zero]); rfl) (fun K hK => ?_) AllReadyH.nil
    go_simp
    refine Calls.mono (HF1.out _ (drew_b w)) ?_
    rintro e W1 ⟨rfl, hB1⟩
    have hB1' : Below w.heap.size w W1 := (drew_b w).trans (hB1.mono (Nat.le_refl _))
    have HB1 := Lib.hid hB1'
    have HF3 := Lib.hid (HF2.out W1 hB1')
    clear hB1 hB1' HF1 HF2
    try go_simp
    refine hK.out _ _ trivial (fun hHeld => ?_)
    clear hK K
    try simp only [Act.put, List.setIfInBounds_toArray, List.set_cons_zero, List.set_cons_succ]
    refine wpAnyH_ready (rs := [4]) (by kernel_rfl) (by simp) ?_
    refine AllReadyH.cons (by (simp only [List.getElem?_toArray, List.getElem?_cons_succ, List.getElem?_cons_zero]); rfl) (fun K hK => ?_) AllReadyH.nil
    go_simp
    refine Calls.mono HF3.out ?_
    rintro e W2 ⟨rfl, hB2⟩
    have HB2 := Lib.hid (HB1.out.trans (hB2.mono HB1.out.size))
    clear hB2 HF3 HB1
    try go_simp
    refine hK.out _ _ trivial (fun hHeld => ?_)
    clear hK K
    try simp only [Act.put, List.setIfInBounds_toArray, List.set_cons_zero, List.set_cons_succ]
    ((refine wpAnyH_take (i := 5) (v := ?_) (by (simp only [List.getElem?_toArray, List.getElem?_cons_succ, List.getElem?_cons_zero]); rfl) (by kernel_rfl) (by kernel_rfl) (by kernel_rfl) (by exact fun _ _ _ h => h) (Or.inl ⟨by rfl, ?_⟩) (by assumption) ?_); rotate_left; focus (intro wS hSw; (try dsimp only at hSw); go_simp; first | done | with_reducible rfl); try simp only [Act.put, List.setIfInBounds_toArray, List.set_cons_zero, List.set_cons_succ])
    ((refine wpAnyH_take (i := 6) (v := ?_) (by (simp only [List.getElem?_toArray, List.getElem?_cons_succ, List.getElem?_cons_zero]); rfl) (by kernel_rfl) (by kernel_rfl) (by kernel_rfl) (by exact fun _ _ _ h => h) (Or.inl ⟨by rfl, ?_⟩) (by assumption) ?_); rotate_left; focus (intro wS hSw; (try dsimp only at hSw); go_simp; first | done | with_reducible rfl); try simp only [Act.put, List.setIfInBounds_toArray, List.set_cons_zero, List.set_cons_succ])
    refine wpAnyH_done (by kernel_rfl) ?_ _
    try simp only [Act.put, List.setIfInBounds_toArray, List.set_cons_zero, List.set_cons_succ]
    by_cases hbad : 65536 < D ∨ m8 < D
    · have HR0 : Hid (R = none) := Lib.hid (by rw [HR.out]; unfold unfL; rw [if_neg (by rw [← HN.out]; exact h8), if_pos (by rw [← HDE.out.1, ← HN.out, ← HM.out]; exact hbad)])
      by_cases hb1 : 65536 < D
      · have e1 : ((65536 : Int) < (D : Int)) = True := eq_true (by omega)
        have e2 : (65536 < D) = True := eq_true hb1
        go_wp2_with fail
        exact bodyPost_ret (v := .tuple #[.slice none 0 0, .int .i64 0, .int .i64 50]) (by simp [results, Tryd.results38, go_sem]) rfl ⟨HB2.out, by first | rfl | rw [HR0.out]⟩
      · have hb2 : m8 < D := hbad.resolve_left hb1
        have e1 : ((65536 : Int) < (D : Int)) = False := eq_false (by omega)
        have e2 : (65536 < D) = False := eq_false hb1
        have e3 : ((m8 : Int) < (D : Int)) = True := eq_true (by omega)
        have e4 : (m8 < D) = True := eq_true hb2
        go_wp2_with fail
        exact bodyPost_ret (v := .tuple #[.slice none 0 0, .int .i64 0, .int .i64 50]) (by simp [results, Tryd.results38, go_sem]) rfl ⟨HB2.out, by first | rfl | rw [HR0.out]⟩
    · have hb1 : ¬ 65536 < D := fun h => hbad (.inl h)
      have hb2 : ¬ m8 < D := fun h => hbad (.inr h)
      have hm8 := HM.out
      have e1 : ((65536 : Int) < (D : Int)) = False := eq_false (by omega)
      have e2 : (65536 < D) = False := eq_false hb1
      have e3 : ((m8 : Int) < (D : Int)) = False := eq_false (by omega)
      have e4 : (m8 < D) = False := eq_false hb2
      obtain ⟨U, hU⟩ : ∃ U, U = 8 + D := ⟨_, rfl⟩
      have cU : IntKind.i64.wrap (8 + (D : Int)) = (U : Int) := by rw [IntWalk.i64_in _ (by omega)]; omega
      have hbm := bv_mid (HV.out.below HB2.out) 8 D (by omega)
      have hsl2 : ∀ W', (Instr.slice 23 (.slice a n c) (some (.int .i64 8)) (some (.int .i64 (U : Nat))) none).run Tryd.prog W' = .ok (.slice (midB a 8 c) D (c - 8)) W' := fun W' => by
        have := by_lh (a := a) (ln := n) (c := c) 8 U (by omega) (by omega) W'
        rw [show U - 8 = D by omega] at this
        exact this
      obtain ⟨a8, ha8⟩ : ∃ x, x = midB a 8 c := ⟨_, rfl⟩
      obtain ⟨c8, hc8⟩ : ∃ x, x = c - 8 := ⟨_, rfl⟩
      obtain ⟨x, hx⟩ : ∃ x, x = (l.drop 8).take D := ⟨_, rfl⟩
      rw [← ha8, ← hc8] at hbm hsl2
      rw [← hx] at hbm
      have hxl : x.length = D := by rw [hx, List.length_take, List.length_drop, ← HN.out]; omega
      have HC := Lib.hid (sumL_any _ x W2 (HT.out.below HB2.out) hbm)
      have HCL := Lib.hid (clone_b W2 _ x hbm (by omega))
      obtain ⟨s, hs⟩ : ∃ s, s = sumL x := ⟨_, rfl⟩
      rw [← hs] at HC
      have hunf : unfL l = if s = E then some (x, U) else none := by
        unfold unfL
        rw [if_neg (by rw [← HN.out]; exact h8), if_neg (by rw [← HDE.out.1, ← HN.out, ← HM.out]; exact hbad), ← HDE.out.1, ← hx, ← hs, ← HDE.out.2.1, ← hU]
      clear hbm ha8 hc8 hx hxl hs hU hbad hm8 HV HT
      by_cases hse : s = E
      · rw [if_pos hse] at hunf
        have HR0 : Hid (R = some (x, U)) := Lib.hid (by rw [HR.out]; exact hunf)
        clear hunf
        have n1 : ((s : Int) != (E : Int)) = false := by simp; omega
        have n2 : (s != E) = false := by simp; omega
        go_wp2_with (refine Calls.mono HC.out ?_; rintro e W3 ⟨rfl, rfl⟩; clear HC)
        go_wp2_with (refine Calls.mono HCL.out ?_; rintro e W3 ⟨v', ob, rfl, hbo, hB3⟩; have HE := Lib.hid (And.intro (HB2.out.trans (hB3.mono HB2.out.size)) hbo.v); clear hbo hB3 HCL)
        try go_wp2_with fail
        exact bodyPost_ret (v := .tuple #[v', .int .i64 (U : Nat), .int .i64 0]) (by simp [results, Tryd.results38, go_sem]) rfl ⟨HE.out.1, by first | exact ⟨v', rfl, HE.out.2⟩ | (have h9 := HR0.out; (try simp only [Option.some.injEq, Prod.mk.injEq] at h9); obtain ⟨rfl, rfl⟩ := h9; exact ⟨v', rfl, HE.out.2⟩)⟩
      · rw [if_neg hse] at hunf
        have HR0 : Hid (R = none) := Lib.hid (by rw [HR.out]; exact hunf)
        clear hunf
        have n1 : ((s : Int) != (E : Int)) = true := by simp; omega
        have n2 : (s != E) = true := by simp; omega
        go_wp2_with (refine Calls.mono HC.out ?_; rintro e W3 ⟨rfl, rfl⟩; clear HC)
        try go_wp2_with fail
        exact bodyPost_ret (v := .tuple #[.slice none 0 0, .int .i64 0, .int .i64 50]) (by simp [results, Tryd.results38, go_sem]) rfl ⟨HB2.out, by first | rfl | rw [HR0.out]⟩
end Go.Proofs.YtiednacpmlilbaaDoor
