/-
  Every packet is served once: the law.
-/
import Derived.Test.YtnainlemnkfpkaaFaf
namespace Go.Proofs.Ytnainlemnkfpkaa
open Go.RowKit
set_option linter.unusedSimpArgs false
set_option linter.unusedVariables false

theorem runF_ok {n : Nat} {wt : Nat → Int} {al : Int} {Q : Nat → List Int} (hw : WtOk n wt al) (hq : okQ Q n) : ∀ (f : Nat) {s : FS} {at_ : Nat → Nat}, Inv n s → ∀ (i k : Nat), (runF n wt al Q f s at_)[i]? = some k → k < n ∧ at_ k + ((runF n wt al Q f s at_).take i).count k < (Q k).length
  | 0, _, _, _, i, k, h => by simp [runF] at h
  | f + 1, s, at_, hi, i, k, h => by
    obtain ⟨h1, h2⟩ := inv_pk hw (hq.hd at_) hi
    cases hp : pkK n wt al (hdQ Q at_) s with
    | none => unfold runF at h; rw [hp] at h; simp at h
    | some k0 =>
      obtain ⟨hk, hz⟩ := h2 k0 hp
      have hlt := (hq.pos at_ hk).1 hz
      rw [runF_some hp] at h ⊢
      cases i with
      | zero =>
        obtain rfl : k0 = k := by simpa using h
        exact ⟨hk, by simpa using hlt⟩
      | succ i =>
        rw [List.getElem?_cons_succ] at h
        obtain ⟨g1, g2⟩ := runF_ok hw hq f h1 i k h
        refine ⟨g1, ?_⟩
        rw [List.take_succ_cons, List.count_cons]
        by_cases hk0 : k = k0
        · subst hk0
          rw [upf_at] at g2
          simp
          omega
        · rw [upf_ne _ _ hk0] at g2
          have : (k0 == k) = false := by simpa using fun e => hk0 e.symm
          rw [this]
          simpa using g2
theorem runL_ok {L : List Int} {Q : Nat → List Int} {n : Nat} (h : okRun L Q n) : (runL L Q n).length = totQ Q n ∧ ∀ (i k : Nat), (runL L Q n)[i]? = some k → k < n ∧ ((runL L Q n).take i).count k < (Q k).length := by
  obtain ⟨h1, rfl, h3⟩ := h
  have hw := h1.ok
  refine ⟨?_, fun i k hk => ?_⟩
  · unfold runL
    rw [runF_len hw h3 _ (inv0 h1.2.1) (by rw [leftQ_zero]; omega), leftQ_zero]
  · have := runF_ok hw h3 _ (inv0 h1.2.1) i k hk
    refine ⟨this.1, ?_⟩
    have h2 := this.2
    rw [Nat.zero_add] at h2
    exact h2
theorem fnew_e (va : Value) (L : List Int) (w : World) (hv : InV w va L) :
    Calls Try.prog 8 #[va] w fun e w' => ∃ (q : Option Addr) (E : Int), e = .returned (.tuple #[.pointer q, .int .i64 E]) ∧ ((E = 0 ∧ okWt L) ∨ (E = 2 ∧ ¬ okWt L)) ∧ Below w.heap.size w w' := by
  by_cases hl : L.length < 1 ∨ 8 < L.length
  · refine (fnew_len va L w hv hl).mono ?_
    rintro e w' ⟨rfl, hB⟩
    exact ⟨none, 2, rfl, .inr ⟨rfl, fun h => by have := h.1; have := h.2.1; omega⟩, hB⟩
  · refine (fnew_any va L w hv (by omega) (by omega)).mono ?_
    rintro e w' (⟨h, g, fo, ft, c1, c2, rfl, _, hB⟩ | ⟨h, rfl, hB⟩)
    · exact ⟨_, 0, rfl, .inl ⟨rfl, h⟩, hB⟩
    · exact ⟨none, 2, rfl, .inr ⟨rfl, h⟩, hB⟩
def ctL (l : List Nat) : List Value := (List.range 20).map fun j => .int .i64 ((l.count j : Nat) : Int)
theorem ctL_at (l : List Nat) {j : Nat} (hj : j < 20) : (ctL l)[j]? = some (.int .i64 ((l.count j : Nat) : Int)) := by simp [ctL, hj]
theorem ctL_len (l : List Nat) : (ctL l).length = 20 := by simp [ctL]
theorem ctL_set (l : List Nat) {k : Nat} (hk : k < 20) : ((ctL l).toArray.setIfInBounds k (.int .i64 (((l.count k : Nat) : Int) + 1))) = (ctL (l ++ [k])).toArray := by
  rw [List.setIfInBounds_toArray]
  congr 1
  apply List.ext_getElem?
  intro i
  rw [List.getElem?_set, ctL_len]
  by_cases hi : i < 20
  · rw [ctL_at (l ++ [k]) hi, List.count_append]
    by_cases hik : k = i
    · subst hik
      rw [if_pos rfl, if_pos hi]
      simp
    · rw [if_neg hik, ctL_at _ hi]
      have : List.count i [k] = 0 := by simp [List.count_cons, hik]
      rw [this]; rfl
  · rw [List.getElem?_eq_none (l := ctL (l ++ [k])) (by rw [ctL_len]; omega), List.getElem?_eq_none (l := ctL l) (by rw [ctL_len]; omega)]
    rw [if_neg (by omega : ¬ k = i)]
theorem ct0 : (ctL []).toArray = #[.int .i64 0, .int .i64 0, .int .i64 0, .int .i64 0, .int .i64 0, .int .i64 0, .int .i64 0, .int .i64 0, .int .i64 0, .int .i64 0, .int .i64 0, .int .i64 0, .int .i64 0, .int .i64 0, .int .i64 0, .int .i64 0, .int .i64 0, .int .i64 0, .int .i64 0, .int .i64 0] := by rfl
set_option maxRecDepth 100000 in
set_option maxHeartbeats 40000000 in
theorem fairAll_walk (va : Value) (L : List Int) (a : Option Addr) (n cap b o : Nat) (vs : Nat → Value) (Q : Nat → List Int) (w : World) (hv : InV w va L) (hq : QIn w a n cap b o vs Q) :
    Calls Try.prog 5 #[va, .slice a n cap] w fun e w' => e = .returned (.bool true) ∧ Below w.heap.size w w' := by
  have m1 := hq.le
  have m2 := hq.max
  unfold maxLen at m2
  obtain ⟨xa, xn, xc, rfl, HXN, x1, x2⟩ := hv.sh
  have HV := Lib.hid hv
  have HQ := Lib.hid hq
  have WK := Lib.hid (fun W => fwakes_any W)
  clear hv hq
  by_cases hbig : 20 < xn ∨ 20 < n
  · have hb2 : (decide ((20 : Int) < (xn : Int)) = true) ∨ (decide ((20 : Int) < (xn : Int)) = false ∧ decide ((20 : Int) < (n : Int)) = true) := by
      by_cases h : 20 < xn
      · exact .inl (decide_eq_true (by omega))
      · exact .inr ⟨decide_eq_false (by omega), decide_eq_true (by omega)⟩
    clear hbig
    rcases hb2 with d1 | ⟨d1, d2⟩
    all_goals
      go_enter Try.func5, Try.ntmps5
      go_wp2_with fail
      go_at_call 7
      go_fit (WK.out _)
      rintro e W1 ⟨rfl, hB⟩
      have HB := Lib.hid hB
      clear hB
      go_wp2_with fail
      try rw [Exit.noGoto_ret]
      go_ret
      exact ⟨rfl, HB.out⟩
  have d1 : decide ((20 : Int) < (xn : Int)) = false := decide_eq_false (by omega)
  have d2 : decide ((20 : Int) < (n : Int)) = false := decide_eq_false (by omega)
  have HN20 : Hid (xn ≤ 20 ∧ n ≤ 20) := Lib.hid (by omega)
  clear hbig
  go_enter Try.func5, Try.ntmps5
  go_wp2_with fail
  go_loopw [5, 6] (fun vn i wr => ∃ k : Nat, k ≤ n ∧ i = .int .i64 k ∧ vn = .int .i64 (totQ Q k : Nat) ∧ totQ Q k ≤ 200 * k ∧ (∀ j, j < k → (Q j).length ≤ 200) ∧ wr = w) (fun _ i _ => n - (intOf i).toNat)
  case atStart => exact ⟨0, Nat.zero_le _, rfl, rfl, Nat.le_refl _, (fun j h => by omega), rfl⟩
  case round =>
    obtain ⟨k, hk, rfl, rfl, ht, hql, rfl⟩ := hrel
    have HQL := Lib.hid hql
    have HT := Lib.hid ht
    by_cases hlt : k < n
    · obtain ⟨ea, hbl⟩ := HQ.out.at_ (by omega)
      subst ea
      have c0 := HQ.out.cell k hlt
      have hvk := HQ.out.inv k hlt
      obtain ⟨ya, yn, yc, ev, HYN, y1, y2⟩ := hvk.sh
      rw [ev] at c0
      have hyl : yn = (Q k).length := HYN.out
      obtain ⟨S, hS⟩ : ∃ S, S = totQ Q k := ⟨_, rfl⟩
      rw [← hS] at ht ⊢
      have ww5 : IntKind.i64.wrap ((k : Int) + 1) = (k : Int) + 1 := IntWalk.i64_in _ (by omega)
      have b9 : ((k : Int) < (n : Int)) = True := eq_true (by omega)
      have bk1 : (k < n) = True := eq_true hlt
      have HLT := Lib.hid hlt
      by_cases h200 : 200 < yn
      · have d3 : decide ((200 : Int) < (yn : Int)) = true := decide_eq_true (by omega)
        clear ht hql hbl hvk ev hyl hS hlt h200
        go_wp2_with fail
        go_at_call 7
        go_fit (WK.out _)
        rintro e W1 ⟨rfl, hB⟩
        have HB := Lib.hid hB
        clear hB
        go_wp2_with fail
        try rw [Exit.noGoto_ret]
        go_ret
        exact ⟨rfl, HB.out⟩
      have d3 : decide ((200 : Int) < (yn : Int)) = false := decide_eq_false (by omega)
      obtain ⟨S2, hS2⟩ : ∃ S2, S2 = S + yn := ⟨_, rfl⟩
      have ws : IntKind.i64.wrap ((S : Int) + (yn : Int)) = (S2 : Int) := (IntWalk.i64_in _ (by have := HN20.out; omega)).trans (by omega)
      have HS2 : Hid (totQ Q (k + 1) = S2 ∧ S2 ≤ 200 * (k + 1)) := Lib.hid ⟨by rw [hS2, hS, hyl]; rfl, by omega⟩
      have HY2 : Hid ((Q k).length ≤ 200) := Lib.hid (by rw [← hyl]; omega)
      clear ht hql hbl hvk ev hyl hS hlt h200 hS2
      go_wp2_with fail
      go_roundw
      case rel => exact ⟨k + 1, by have := HLT.out; omega, by go_num, by rw [HS2.out.1], by rw [HS2.out.1]; exact HS2.out.2, (fun j hj => by
        by_cases hjk : j = k
        · subst hjk; exact HY2.out
        · exact HQL.out j (by omega)), by first | rfl | trivial⟩
      case measure => (have h8 := HLT.out; first | (simp [intOf]; done) | (simp [intOf]; omega))
    obtain rfl : k = n := by omega
    have NW := Lib.hid (fnew_e _ L wr HV.out)
    clear ht hql
    go_wp2_with fail
    go_at_call 8
    go_fit (NW.out)
    rintro e W1 ⟨q, E, rfl, hE, hB1⟩
    have HE := Lib.hid hE
    have HB1 := Lib.hid hB1
    have RN := Lib.hid (frun_any _ L a k cap b o vs Q W1 (HV.out.below hB1) (HQ.out.below hB1) (by have := HN20.out; omega) (fun j hj => by have := HQL.out j hj; omega))
    clear hE hB1 NW
    go_wp2_with fail
    go_at_call 16
    go_fit (RN.out)
    rintro e W2 ⟨v, rfl, ⟨ob, R, hi, hR⟩, hB2⟩
    obtain ⟨ra, rn, rc, rfl, HRN, r1, r2⟩ := hi.v.sh
    have HI := Lib.hid hi
    have HB2 := Lib.hid (HB1.out.trans (hB2.mono HB1.out.size))
    clear hi hB2 RN HB1
    by_cases hr0 : rn = 0
    · subst hr0
      have hcase : (E = 0) ∨ E = 2 := by
        rcases HE.out with ⟨h, _⟩ | ⟨h, _⟩
        · exact .inl h
        · exact .inr h
      clear hR r1 r2
      rcases hcase with rfl | rfl
      · by_cases hne : k = xn
        · have d3 : ((k : Int) != (xn : Int)) = false := by simp [hne]
          clear hne
          go_wp2_with fail
          go_at_call 7
          go_fit (WK.out _)
          rintro e W3 ⟨rfl, hB⟩
          have HB := Lib.hid (HB2.out.trans (hB.mono HB2.out.size))
          clear hB
          go_wp2_with fail
          try rw [Exit.noGoto_ret]
          go_ret
          exact ⟨rfl, HB.out⟩
        · have d3 : ((k : Int) != (xn : Int)) = true := by simp; omega
          clear hne
          go_wp2_with fail
          go_at_call 7
          go_fit (WK.out _)
          rintro e W3 ⟨rfl, hB⟩
          have HB := Lib.hid (HB2.out.trans (hB.mono HB2.out.size))
          clear hB
          go_wp2_with fail
          try rw [Exit.noGoto_ret]
          go_ret
          exact ⟨rfl, HB.out⟩
      · go_wp2_with fail
        go_at_call 7
        go_fit (WK.out _)
        rintro e W3 ⟨rfl, hB⟩
        have HB := Lib.hid (HB2.out.trans (hB.mono HB2.out.size))
        clear hB
        go_wp2_with fail
        try rw [Exit.noGoto_ret]
        go_ret
        exact ⟨rfl, HB.out⟩
    have hRR : okRun L Q k ∧ R = natL (runL L Q k) := by
      rcases hR with h | ⟨_, h⟩
      · exact h
      · subst h; exact absurd HRN.out hr0
    obtain ⟨hok, rfl⟩ := hRR
    obtain ⟨G, hG⟩ : ∃ G, G = runL L Q k := ⟨_, rfl⟩
    obtain ⟨hlen, hall⟩ := runL_ok hok
    rw [← hG] at hlen hall HI HRN
    have HALL := Lib.hid hall
    have HE0 : E = 0 := by
      rcases HE.out with ⟨h, _⟩ | ⟨_, h⟩
      · exact h
      · exact absurd hok.1 h
    subst HE0
    have hxk : xn = k := by rw [HXN.out]; exact hok.2.1
    have hrg : rn = G.length := by have := HRN.out; simpa [natL] using this
    have HRG := Lib.hid hrg
    have HLN : Hid (rn = totQ Q k ∧ rn ≤ 4000) := Lib.hid (by have h1 := HT.out; have h2 := HN20.out; rw [hrg, hlen]; omega)
    subst hxk
    have d3 : ((xn : Int) != (xn : Int)) = false := by simp
    have d4 : ((rn : Int) == 0) = false := by simp; omega
    have d5 : (((rn : Int) == ((totQ Q xn : Nat) : Int))) = true := by rw [← HLN.out.1]; simp
    obtain ⟨TT, hTT⟩ : ∃ T, T = totQ Q xn := ⟨_, rfl⟩
    rw [← hTT] at d5 ⊢
    obtain ⟨AB, hAB⟩ : ∃ N, N = W2.heap.size := ⟨_, rfl⟩
    obtain ⟨W3, hW3⟩ : ∃ W, W = W2.alloc (.cells #[.int .i64 0, .int .i64 0, .int .i64 0, .int .i64 0, .int .i64 0, .int .i64 0, .int .i64 0, .int .i64 0, .int .i64 0, .int .i64 0, .int .i64 0, .int .i64 0, .int .i64 0, .int .i64 0, .int .i64 0, .int .i64 0, .int .i64 0, .int .i64 0, .int .i64 0, .int .i64 0] 49) := ⟨_, rfl⟩
    have hB3 : Below W2.heap.size W2 W3 := by rw [hW3]; exact alloc_b _ _
    have HAB := Lib.hid (show Blk W3 AB (ctL []).toArray 49 by rw [hW3, hAB, ct0]; exact blk_new _ _ _)
    have HB3 := Lib.hid (HB2.out.trans (hB3.mono HB2.out.size))
    have HI2 := Lib.hid HI.out.v
    have HB23 := Lib.hid hB3
    have HAG : Hid (AB = W2.heap.size) := Lib.hid hAB
    clear hR hok hG hlen hall hr0 hrg hTT hB3 HI HB3
    go_upto_region 15 with fail
    rw [← hAB, ← hW3]
    clear hAB hW3
    go_wp2_with fail
    go_loopw [11] (fun i wq => ∃ j : Nat, j ≤ rn ∧ i = .int .i64 j ∧ Blk wq AB (ctL (G.take j)).toArray 49 ∧ Below W2.heap.size W2 wq) (fun i _ => rn - (intOf i).toNat)
    case atStart => exact ⟨0, Nat.zero_le _, rfl, by rw [List.take_zero]; exact HAB.out, HB23.out⟩
    case round =>
      clear HAB HB23
      obtain ⟨j, hj, rfl, hab, hB⟩ := hrel
      have HBJ := Lib.hid hB
      by_cases hlj : j < rn
      rotate_left
      · obtain rfl : j = rn := by omega
        clear hab hB
        go_wp2_with fail
        go_at_call 7
        go_fit (WK.out _)
        rintro e W3 ⟨rfl, hB⟩
        have HB := Lib.hid ((HB2.out.trans (HBJ.out.mono HB2.out.size)).trans (hB.mono (HB2.out.trans (HBJ.out.mono HB2.out.size)).size))
        clear hB
        go_wp2_with fail
        try rw [Exit.noGoto_ret]
        go_ret
        exact ⟨rfl, HB.out⟩
      obtain ⟨gs, os, y, es, ls, hy, cs⟩ := (HI2.out.below hB).at j hlj
      subst es
      replace cs := cs.1
      have hjl : j < G.length := by rw [← HRG.out]; exact hlj
      obtain ⟨k, hkG⟩ : ∃ k, G[j]? = some k := ⟨_, List.getElem?_eq_getElem hjl⟩
      have hyk : y = (k : Int) := by
        have : (natL G)[j]? = some (k : Int) := by simp [natL, hkG]
        exact (Option.some.inj (this.symm.trans hy)).symm
      subst hyk
      obtain ⟨hkn, hct⟩ := HALL.out j k hkG
      have HTK : Hid (G.take (j + 1) = G.take j ++ [k]) := Lib.hid (by rw [List.take_add_one, hkG]; rfl)
      have hBw := HB2.out.trans (hB.mono HB2.out.size)
      have hq := HQ.out.below hBw
      obtain ⟨ea, hbl⟩ := hq.at_ (by omega)
      subst ea
      have c0 := hq.cell k hkn
      obtain ⟨ya, yn, yc, ev, HYN, y1, y2⟩ := (hq.inv k hkn).sh
      rw [ev] at c0
      obtain ⟨C, hC⟩ : ∃ C, C = (G.take j).count k := ⟨_, rfl⟩
      have hcy : C < yn := by rw [HYN.out, hC]; exact hct
      have k20 : k < 20 := by have := HN20.out; omega
      have ab0 : wr.cell? ⟨AB, k, none⟩ = some (.int .i64 (C : Int)) := by rw [cell_at hab, List.getElem?_toArray, ctL_at _ k20, hC]
      have az : ∀ i, wr.frozen? ⟨AB, i, none⟩ = false := fun i => free_at hab i
      have al : AB < wr.heap.size := hab.lt
      have ww5 : IntKind.i64.wrap ((j : Int) + 1) = (j : Int) + 1 := IntWalk.i64_in _ (by have := HLN.out; omega)
      have wc : IntKind.i64.wrap ((C : Int) + 1) = (C : Int) + 1 := IntWalk.i64_in _ (by omega)
      have b9 : ((j : Int) < (rn : Int)) = True := eq_true (by omega)
      have bk1 : (j < rn) = True := eq_true hlj
      have b0 : ((0 : Int) ≤ (j : Int)) = True := eq_true (by omega)
      have f1 : decide ((k : Int) < 0) = false := decide_eq_false (by omega)
      have f2 : decide (xn ≤ k) = false := decide_eq_false (by omega)
      have f2' : decide ((xn : Int) ≤ (k : Int)) = false := decide_eq_false (by omega)
      have f3 : decide (yn ≤ C) = false := decide_eq_false (by omega)
      have f3' : decide ((yn : Int) ≤ (C : Int)) = false := decide_eq_false (by omega)
      have p1 : (k < xn) = True := eq_true hkn
      have p2 : ((k : Int) < (xn : Int)) = True := eq_true (by omega)
      have p3 : ((0 : Int) ≤ (k : Int)) = True := eq_true (by omega)
      have p4 : (k < 20) = True := eq_true k20
      have p5 : ((k : Int) < 20) = True := eq_true (by omega)
      have HLJ := Lib.hid hlj
      have HC := Lib.hid hC
      have HAB := Lib.hid hab
      have HK20 := Lib.hid k20
      clear hab hB hlj hy hjl hkG hkn hct hBw hq hbl ev hC hcy k20 y1 y2
      go_wp2_with fail
      (refine wp_region_quiet_lit (by kernel_rfl) (by kernel_rfl) ?_; (repeat (first | go_big_quiet_step (fail) | (refine BigFrame.wpQuiet_skip (by rfl) ?_; try simp only [Act.put, List.setIfInBounds_toArray, List.set_cons_zero, List.set_cons_succ]))); refine wpQuiet_nil ?_; intro _ hw9; obtain ⟨nq, hw8⟩ := hw9; subst hw8)
      obtain ⟨W4, hW4⟩ : ∃ X, X = wr.drewN nq := ⟨_, rfl⟩
      rw [← hW4]
      have hB4 : Below wr.heap.size wr W4 := by rw [hW4]; exact dN _ _
      have hc4 : ∀ p : Addr, W4.cell? p = wr.cell? p := fun p => by rw [hW4]; rfl
      have hz4 : ∀ p : Addr, W4.frozen? p = wr.frozen? p := fun p => by rw [hW4]; rfl
      rw [← hc4] at cs ab0
      replace az : ∀ i, W4.frozen? ⟨AB, i, none⟩ = false := fun i => (hz4 _).trans (az i)
      have HAB4 := Lib.hid (HAB.out.step hB4)
      have al4 : AB < W4.heap.size := HAB4.out.lt
      have HBJ4 := Lib.hid (HBJ.out.trans (hB4.mono HBJ.out.size))
      obtain ⟨W5, hW5⟩ : ∃ W, W = W4.setCell ⟨AB, k, none⟩ (.int .i64 ((C : Int) + 1)) := ⟨_, rfl⟩
      have HAB5 := Lib.hid (show Blk W5 AB (ctL (G.take (j + 1))).toArray 49 by
        rw [hW5, HTK.out, ← ctL_set _ HK20.out, ← HC.out]
        exact HAB4.out.set k _)
      have hf5 : Fr [AB] W4 W5 := by rw [hW5]; exact (Fr.refl _ _).setCell _ (.inl (by simp)) _
      have HBJ5 := Lib.hid (HBJ4.out.trans (hf5.below HBJ4.out.size (by simp; have := HAG.out; omega)))
      clear hW4 hB4 hc4 hz4 hf5 al c0
      go_upto_region 17 with fail
      rw [← hW5]
      clear hW5 cs ab0 az al4
      go_wp2_with fail
      go_roundw
      case rel => exact ⟨j + 1, by have := HLJ.out; omega, by go_num, HAB5.out, HBJ5.out⟩
      case measure => (have h8 := HLJ.out; first | (simp [intOf]; done) | (simp [intOf]; omega))
theorem fairAll_dt (a : Option Addr) (n c : Nat) (xs : List Dt) (a2 : Option Addr) (n2 c2 : Nat) (xs2 : List Dt) (w : World) (h : SliceFits Try.prog w 3 a n c xs) (h2 : SliceFits Try.prog w 22 a2 n2 c2 xs2) : Calls Try.prog 5 #[.slice a n c, .slice a2 n2 c2] w fun e w' => e = .returned (.bool true) ∧ Below w.heap.size w w' := by
  obtain ⟨L, _, hL⟩ := inv_cells w h
  obtain ⟨b, o, vs, Q, hQ⟩ := q_cells w h2
  exact fairAll_walk _ L a2 n2 c2 b o vs Q w hL hQ
end Go.Proofs.Ytnainlemnkfpkaa
