/-
  The bound: the law.
-/
import Derived.Test.YtnainlemnkfpkaaFbn
namespace Go.Proofs.Ytnainlemnkfpkaa
open Go.RowKit
set_option linter.unusedSimpArgs false
set_option linter.unusedVariables false


theorem fnew_all9 (va : Value) (L : List Int) (w : World) (hv : InV w va L) :
    Calls Try.prog 8 #[va] w fun e w' => (okWt L ∧ ∃ g fo ft c1 c2, e = .returned (.tuple #[.pointer (some ⟨g, 0, none⟩), .int .i64 0]) ∧ FrAt w' w.heap.size g fo ft L.length c1 c2 (gI L) (sumW (gI L) L.length) s0F ∧ Below w.heap.size w w') ∨ (¬ okWt L ∧ e = .returned (.tuple #[.pointer none, .int .i64 2]) ∧ Below w.heap.size w w') := by
  by_cases hl : L.length < 1 ∨ 8 < L.length
  · refine (fnew_len va L w hv hl).mono ?_
    rintro e w' ⟨rfl, hB⟩
    exact .inr ⟨fun h => by have := h.1; have := h.2.1; omega, rfl, hB⟩
  · exact fnew_any va L w hv (by omega) (by omega)
theorem make_ints (k : Nat) (h8 : k ≤ 8) (w : World) : (Instr.makeSlice 22 (.int .i64 (k : Int)) (.int .i64 (k : Int))).run Try.prog w = .ok (.slice (some ⟨w.heap.size, 0, none⟩) k k) (w.alloc (.cells (madeCells (Value.int .i64 0).cells (k * 1)) 3)) := by
  obtain ⟨i0, hi, hz0, hz1, hz2⟩ := info_parts inZero
  have hr := run_makeSlice (P := Try.prog) w 22 3 i0 _ Try.underlying22 hi hz0 .i64 .i64 k k (by omega) (Int.le_refl _) (by rw [hz1]; simp; omega) (by rw [hz2]; omega) (by omega)
  rw [hz1] at hr
  simpa only [Int.toNat_natCast] using hr
theorem mints_at (n j : Nat) (hj : j < n) : (madeCells (Value.int .i64 0).cells (n * 1))[j]? = some (.int .i64 0) := by
  simp [madeCells, hj, Value.cells, Nat.mod_one]
def uF (al w : Int) (M A : List Int) (k : Nat) : Int := al * 720720 * gI M k - w * 720720 * gI A k
structure BdQ (Q : Nat → List Int) (fl : Nat) (MO OW : Int) (j : Nat) : Prop where
  len : (Q j).length ≤ 60
  x : ∀ x ∈ Q j, 1 ≤ x ∧ x ≤ 1500 ∧ x ≤ MO ∧ (j = fl → x ≤ OW)
structure MonL (M A : List Int) (N c : Nat) : Prop where
  lm : M.length = N + 1
  la : A.length = N + 1
  nc : N ≤ c
  m : ∀ k, k ≤ N → (0 ≤ gI M k ∧ gI M k ≤ gI M N) ∧ (0 ≤ gI A k ∧ gI A k ≤ gI A N)
  b : gI M N ≤ 1500 * c ∧ gI A N ≤ 1500 * c
theorem monL0 : MonL [0] [0] 0 0 := ⟨rfl, rfl, Nat.le_refl _, fun q hq => by
  have hq0 : q = 0 := by omega
  rw [hq0]
  exact ⟨⟨Int.le_refl _, Int.le_refl _⟩, ⟨Int.le_refl _, Int.le_refl _⟩⟩, ⟨Int.le_refl _, Int.le_refl _⟩⟩
theorem mH_case (mask : Int) (Q : Nat → List Int) (at_ : Nat → Nat) (j : Nat) : mH mask Q at_ j = 0 ∨ (mH mask Q at_ j = hdQ Q at_ j ∧ at_ j < (Q j).length ∧ hdQ Q at_ j ∈ Q j) := by
  unfold mH
  by_cases h : at_ j < (Q j).length
  · rw [decide_eq_true h]
    cases mayB mask j
    · exact .inl rfl
    · refine .inr ⟨rfl, h, ?_⟩
      unfold hdQ gI
      rw [List.getElem?_eq_getElem h]
      exact List.getElem_mem h
  · rw [decide_eq_false h]
    exact .inl rfl
theorem uF_left {al w x y : Int} {M A : List Int} {N k : Nat} (h1 : M.length = N + 1) (h2 : A.length = N + 1) (hk : k ≤ N) : uF al w (M ++ [x]) (A ++ [y]) k = uF al w M A k := by
  unfold uF gI
  rw [List.getElem?_append_left (by omega), List.getElem?_append_left (by omega)]
theorem uF_last {al w x y : Int} {M A : List Int} {N : Nat} (h1 : M.length = N + 1) (h2 : A.length = N + 1) : uF al w (M ++ [gI M N + x]) (A ++ [gI A N + y]) (N + 1) = uF al w M A N + al * 720720 * x - w * 720720 * y := by
  have g1 : gI (M ++ [gI M N + x]) (N + 1) = gI M N + x := by unfold gI; rw [← h1, List.getElem?_append_right (Nat.le_refl _)]; simp
  have g2 : gI (A ++ [gI A N + y]) (N + 1) = gI A N + y := by unfold gI; rw [← h2, List.getElem?_append_right (Nat.le_refl _)]; simp
  unfold uF
  rw [g1, g2, Int.mul_add, Int.mul_add]
  omega
theorem MonL.push {M A : List Int} {N c : Nat} (h : MonL M A N c) {x y : Int} (hx : 0 ≤ x ∧ x ≤ 1500) (hy : 0 ≤ y ∧ y ≤ 1500) : MonL (M ++ [gI M N + x]) (A ++ [gI A N + y]) (N + 1) (c + 1) := by
  have g1 : gI (M ++ [gI M N + x]) (N + 1) = gI M N + x := by unfold gI; rw [← h.lm, List.getElem?_append_right (Nat.le_refl _)]; simp
  have g2 : gI (A ++ [gI A N + y]) (N + 1) = gI A N + y := by unfold gI; rw [← h.la, List.getElem?_append_right (Nat.le_refl _)]; simp
  have hb := h.b
  refine ⟨by simp [h.lm], by simp [h.la], by have := h.nc; omega, fun k hk => ?_, by rw [g1, g2]; omega⟩
  have h0 := h.m N (Nat.le_refl _)
  by_cases hkn : k = N + 1
  · subst hkn
    rw [g1, g2]
    omega
  · have l1 : gI (M ++ [gI M N + x]) k = gI M k := by unfold gI; rw [List.getElem?_append_left (by rw [h.lm]; omega)]
    have l2 : gI (A ++ [gI A N + y]) k = gI A k := by unfold gI; rw [List.getElem?_append_left (by rw [h.la]; omega)]
    have := h.m k (by omega)
    rw [g1, g2, l1, l2]
    omega
theorem MonL.more {M A : List Int} {N c : Nat} (h : MonL M A N c) : MonL M A N (c + 1) := ⟨h.lm, h.la, by have := h.nc; omega, h.m, by have := h.b; omega⟩
set_option maxRecDepth 100000 in
set_option maxHeartbeats 80000000 in
theorem fairBound_walk (va vk : Value) (L MK : List Int) (a : Option Addr) (n cap b o : Nat) (vs : Nat → Value) (Q : Nat → List Int) (fl0 : Int) (w : World) (hv : InV w va L) (hq : QIn w a n cap b o vs Q) (hmk : InV w vk MK) (hfl : -9223372036854775808 ≤ fl0 ∧ fl0 ≤ 9223372036854775807) :
    Calls Try.prog 6 #[va, .slice a n cap, vk, .int .i64 fl0] w fun e w' => e = .returned (.bool true) ∧ Below w.heap.size w w' := by
  have m1 := hq.le
  have m2 := hq.max
  unfold maxLen at m2
  obtain ⟨xa, xn, xc, rfl, HXN, x1, x2⟩ := hv.sh
  obtain ⟨ka, kn, kc, rfl, HKN, x3, x4⟩ := hmk.sh
  have HV := Lib.hid hv
  have HQ := Lib.hid hq
  have HMK := Lib.hid hmk
  have HFL := Lib.hid hfl
  have WK := Lib.hid (fun W => fwakes_any W)
  have NW := Lib.hid (fnew_all9 _ L w hv)
  clear hv hq hmk hfl
  go_enter Try.func6, Try.ntmps6
  go_wp2_with fail
  go_at_call 8
  go_fit (NW.out)
  intro e W1 hnew
  clear NW
  rcases hnew with ⟨hwt, g, fo, ft, c1, c2, rfl, hfr, hB1⟩ | ⟨hwt, rfl, hB1⟩
  rotate_left
  · have HB1 := Lib.hid hB1
    clear hB1 hwt
    go_wp2_with fail
    go_at_call 7
    go_fit (WK.out _)
    rintro e Wz ⟨rfl, hBz⟩
    have HBz := Lib.hid (HB1.out.trans (hBz.mono HB1.out.size))
    clear hBz
    go_wp2_with fail
    try rw [Exit.noGoto_ret]
    go_ret
    exact ⟨rfl, HBz.out⟩
  have HB1 := Lib.hid hB1
  have HFR := Lib.hid hfr
  have HWT := Lib.hid hwt
  clear hB1 hfr hwt
  by_cases hne : n = xn
  rotate_left
  · have d1 : ((n : Int) != (xn : Int)) = true := by simp; omega
    clear hne
    go_wp2_with fail
    go_at_call 7
    go_fit (WK.out _)
    rintro e Wz ⟨rfl, hBz⟩
    have HBz := Lib.hid (HB1.out.trans (hBz.mono HB1.out.size))
    clear hBz
    go_wp2_with fail
    try rw [Exit.noGoto_ret]
    go_ret
    exact ⟨rfl, HBz.out⟩
  have hxn : xn = n := hne.symm
  subst hxn
  have d1 : ((xn : Int) != (xn : Int)) = false := by simp
  by_cases hk150 : 150 < kn
  · have d2 : decide ((150 : Int) < (kn : Int)) = true := decide_eq_true (by omega)
    clear hne hk150
    go_wp2_with fail
    go_at_call 7
    go_fit (WK.out _)
    rintro e Wz ⟨rfl, hBz⟩
    have HBz := Lib.hid (HB1.out.trans (hBz.mono HB1.out.size))
    clear hBz
    go_wp2_with fail
    try rw [Exit.noGoto_ret]
    go_ret
    exact ⟨rfl, HBz.out⟩
  have d2 : decide ((150 : Int) < (kn : Int)) = false := decide_eq_false (by omega)
  have HK150 : Hid (kn ≤ 150) := Lib.hid (by omega)
  have HNB : Hid (1 ≤ xn ∧ xn ≤ 8) := Lib.hid (by rw [HXN.out]; exact ⟨HWT.out.1, HWT.out.2.1⟩)
  have hn1 : 1 ≤ xn := HNB.out.1
  have hn8 : xn ≤ 8 := HNB.out.2
  have hwk := HWT.out.ok
  have hwg : ∀ j, j < xn → 1 ≤ gI L j ∧ gI L j ≤ 16 := fun j hj => HWT.out.2.2 j (by rw [← HXN.out]; exact hj)
  rw [← HXN.out] at HFR hwk
  obtain ⟨wt, hwt⟩ : ∃ f, f = gI L := ⟨_, rfl⟩
  obtain ⟨al, hal⟩ : ∃ y, y = sumW (gI L) xn := ⟨_, rfl⟩
  rw [← hal, ← hwt] at HFR hwk
  rw [← hwt] at hwg
  have HAL : Hid (sumW wt xn = al) := Lib.hid (by rw [hwt, hal])
  have HWG := Lib.hid hwg
  have HWK := Lib.hid hwk
  have HWE := Lib.hid hwt
  clear hwk hwg hwt hal hne hk150
  obtain ⟨r, hr⟩ : ∃ r, r = Int.tmod fl0 (xn : Int) := ⟨_, rfl⟩
  have hr1 : -(xn : Int) < r ∧ r < xn := by
    rw [hr]
    exact ⟨Int.neg_lt_of_neg_lt (by rw [← Int.neg_tmod]; exact Int.tmod_lt_of_pos _ (by omega)), Int.tmod_lt_of_pos _ (by omega)⟩
  obtain ⟨r1, r2⟩ := hr1
  obtain ⟨fl, hK⟩ : ∃ K : Nat, (K : Int) = (r + xn) % (xn : Int) := ⟨((r + xn) % (xn : Int)).toNat, by have := Int.emod_nonneg (r + xn) (b := (xn : Int)) (by omega); omega⟩
  have hKn : (fl : Int) < xn := by rw [hK]; exact Int.emod_lt_of_pos _ (by omega)
  have hr' : Int.tmod fl0 (xn : Int) = r := hr.symm
  have hK' : (r + xn) % (xn : Int) = fl := hK.symm
  have n0 : ((xn : Int) == 0) = false := by simp; omega
  clear hr hK
  go_upto_region 5 with fail
  rw [hK']
  have HFN : Hid (fl < xn) := Lib.hid (by omega)
  clear hr' hK' r1 r2 hKn
  go_wp2_with fail
  go_loopw [11, 12, 13, 14, 15] (fun va vm vo vi _ wr => ∃ (k : Nat) (MO OW : Int), k ≤ xn ∧ vi = .int .i64 k ∧ va = .int .i64 (sumW wt k) ∧ vm = .int .i64 MO ∧ vo = .int .i64 OW ∧ (0 ≤ MO ∧ MO ≤ 1500) ∧ (0 ≤ OW ∧ OW ≤ 1500) ∧ (∀ j, j < k → BdQ Q fl MO OW j) ∧ wr = W1) (fun _ _ _ vi _ _ => xn - (intOf vi).toNat)
  case atStart => exact ⟨0, 0, 0, Nat.zero_le _, rfl, rfl, rfl, rfl, by omega, by omega, (fun j h => by omega), rfl⟩
  case round =>
    obtain ⟨k, MO, OW, hk, rfl, rfl, rfl, rfl, hmo, how, hbq, rfl⟩ := hrel
    have HBQ := Lib.hid hbq
    have HMO := Lib.hid hmo
    have HOW := Lib.hid how
    by_cases hlt : k < xn
    rotate_left
    · obtain rfl : k = xn := by omega
      clear hbq hmo how hlt
      rw [HAL.out]
      have HMI := Lib.hid (fun W => make_ints k HNB.out.2 W)
      obtain ⟨AB, hAB⟩ : ∃ N, N = wr.heap.size := ⟨_, rfl⟩
      obtain ⟨W2, hW2⟩ : ∃ W, W = wr.alloc (.cells (madeCells (Value.int .i64 0).cells (k * 1)) 3) := ⟨_, rfl⟩
      have hmk := HMI.out wr
      rw [← hAB, ← hW2] at hmk
      have hB2 : Below wr.heap.size wr W2 := by rw [hW2]; exact alloc_b _ _
      have HAT := Lib.hid (show IAt W2 AB k (fun _ => ((0 : Nat) : Int)) from ⟨_, by rw [hW2, hAB]; exact blk_new _ _ _, fun j hj => mints_at k j hj⟩)
      have HB2 := Lib.hid (HB1.out.trans (hB2.mono HB1.out.size))
      have HFR2 := Lib.hid (HFR.out.step hB2)
      have HAB : Hid (w.heap.size ≤ AB) := Lib.hid (by rw [hAB]; exact HB1.out.size)
      clear hAB hW2 hB2
      go_upto_region 21 with fail
      clear hmk
      go_upto_region 22 with fail
      obtain ⟨W3, hW3⟩ : ∃ W, W = ((W2.alloc (.cells #[.int .i64 0] 3)).alloc (.cells #[.int .i64 0] 3)).alloc (.cells #[.slice (some ⟨W2.heap.size, 0, none⟩) 1 1, .slice (some ⟨W2.heap.size + 1, 0, none⟩) 1 1, .int .i64 0] 51) := ⟨_, rfl⟩
      obtain ⟨N2, hN2⟩ : ∃ N, N = W2.heap.size := ⟨_, rfl⟩
      obtain ⟨N3, hN3⟩ : ∃ N, N = N2 + 1 := ⟨_, rfl⟩
      obtain ⟨SK, hSK⟩ : ∃ N, N = N2 + 1 + 1 := ⟨_, rfl⟩
      have p1 : Blk W3 N2 #[.int .i64 0] 3 := by rw [hW3, hN2]; exact ((blk_new _ _ _).alloc _).alloc _
      have p2 : Blk W3 N3 #[.int .i64 0] 3 := by
        rw [hW3, hN3, hN2]
        have := blk_new (W2.alloc (.cells #[.int .i64 0] 3)) #[.int .i64 0] 3
        rw [World.size_alloc] at this
        exact this.alloc _
      have p3 : Blk W3 SK #[.slice (some ⟨N2, 0, none⟩) 1 1, .slice (some ⟨N3, 0, none⟩) 1 1, .int .i64 ((0 : Nat) : Int)] 51 := by
        rw [hW3, hSK, hN3, hN2]
        have := blk_new ((W2.alloc (.cells #[.int .i64 0] 3)).alloc (.cells #[.int .i64 0] 3)) #[.slice (some ⟨W2.heap.size, 0, none⟩) 1 1, .slice (some ⟨W2.heap.size + 1, 0, none⟩) 1 1, .int .i64 0] 51
        rw [World.size_alloc, World.size_alloc] at this
        exact this
      have hB3 : Below W2.heap.size W2 W3 := by rw [hW3]; exact (((Below.refl _ _).alloc (Nat.le_refl _) _).alloc (by simp) _).alloc (by simp; omega) _
      have hlt2 := HAT.out.lt
      have hwN : w.heap.size ≤ N2 := by rw [hN2]; exact HB2.out.size
      have hio : ∀ (W : World) (q : Nat), Blk W q #[.int .i64 0] 3 → w.heap.size ≤ q → InO w.heap.size W (.slice (some ⟨q, 0, none⟩) 1 1) (some q) [0] := fun W q hb hq => ⟨Row.mk hb (Nat.le_refl _) (by unfold maxLen; omega) rfl rfl, (fun x hx => by simp at hx; omega), fun q' e => by obtain rfl := Option.some.inj e; exact hq⟩
      have HS3 := Lib.hid (show FlS w W3 g fo ft k c1 c2 AB SK (.slice (some ⟨N2, 0, none⟩) 1 1) (.slice (some ⟨N3, 0, none⟩) 1 1) (some N2) (some N3) wt al s0F (fun _ => 0) [0] [0] 0 from ⟨HFR2.out.step hB3, HAT.out.fr (Fr.of_below hB3) (by simp), p3, hio _ _ p1 hwN, hio _ _ p2 (by omega), ⟨fun q e => by obtain rfl := Option.some.inj e; omega, fun q e => by obtain rfl := Option.some.inj e; omega, fun q e e2 => by obtain rfl := Option.some.inj e; have := Option.some.inj e2; omega⟩, ⟨HAB.out, by omega⟩, HB2.out.trans (hB3.mono HB2.out.size)⟩)
      have HF3 := Lib.hid (show FbI k wt al fl OW MO 0 s0F (hdQ Q (fun _ => 0) fl) 0 0 (uF al (wt fl) [0] [0]) from fb_start HWK.out HAL.out HFN.out HNB.out.2 HOW.out.1 HMO.out.1)
      have HM3 := Lib.hid (show MonL [0] [0] 0 0 from monL0)
      rw [← hW3, ← hN2, ← hSK]
      clear hW3 hN2 hN3 hSK p1 p2 p3 hB3 hlt2 hwN hio HAT HFR2 HAB HB2
      go_wp2_with fail
      go_loopw [18, 19, 20, 21, 22, 23, 24] (fun vi _ _ _ _ _ _ wq => ∃ (c : Nat) (s : FS) (ft c2 : Nat) (vm va : Value) (om oa : Option Nat) (at_ : Nat → Nat) (Ml Al : List Int) (fr N : Nat), c ≤ kn ∧ vi = .int .i64 c ∧ FlS w wq g fo ft k c1 c2 AB SK vm va om oa wt al s at_ Ml Al fr ∧ FbI k wt al fl OW MO c s (hdQ Q at_ fl) fr N (uF al (wt fl) Ml Al) ∧ MonL Ml Al N c ∧ (∀ j, j < k → at_ j ≤ (Q j).length)) (fun vi _ _ _ _ _ _ _ => kn - (intOf vi).toNat)
      case atStart => exact ⟨0, s0F, ft, c2, _, _, _, _, fun _ => 0, [0], [0], 0, 0, Nat.zero_le _, rfl, HS3.out, HF3.out, HM3.out, fun j hj => Nat.zero_le _⟩
      case round =>
        clear HS3 HF3 HM3
        obtain ⟨c, s, ft, c2, vm, va, om, oa, at_, Ml, Al, fr, N, hc, rfl, hfs, hfb, hml, hat⟩ := hrel
        have HFS := Lib.hid hfs
        have HFB := Lib.hid hfb
        have HML := Lib.hid hml
        have HAT := Lib.hid hat
        by_cases hlc : c < kn
        rotate_left
        · obtain rfl : c = kn := by omega
          have HBX := Lib.hid hfs.b
          clear hfs hfb hml hat hlc HFS HFB HML HAT
          go_wp2_with fail
          go_at_call 7
          go_fit (WK.out _)
          rintro e Wz ⟨rfl, hBz⟩
          have HBz := Lib.hid (HBX.out.trans (hBz.mono HBX.out.size))
          clear hBz
          go_wp2_with fail
          try rw [Exit.noGoto_ret]
          go_ret
          exact ⟨rfl, HBz.out⟩
        obtain ⟨gm, omk, mask, em, _, hmm, cmk, hmr⟩ := (HMK.out.below hfs.b).at c hlc
        subst em
        obtain ⟨ea, hbl⟩ := HQ.out.at_ (by omega)
        subst ea
        have hv := HQ.out.inv fl HFN.out
        obtain ⟨ya, yn, yc, ev, HYN, y1, y2⟩ := hv.sh
        have c0 := (HQ.out.below hfs.b).cell fl HFN.out
        rw [ev] at c0
        obtain ⟨PP, hPP⟩ : ∃ P, P = at_ fl := ⟨_, rfl⟩
        have ca := hfs.ar.cell HFN.out
        rw [← hPP] at ca
        have HPP := Lib.hid hPP
        have HLC := Lib.hid hlc
        have HGM : Hid (∀ W', Below w.heap.size w W' → W'.cell? ⟨gm, omk + c, none⟩ = some (.int .i64 mask)) := Lib.hid (fun W' hB' => by
          obtain ⟨g9, o9, m9, e9, _, h9, c9, _⟩ := (HMK.out.below hB').at c HLC.out
          injection e9 with e9
          injection e9 with e1 e2 _
          rw [e1, e2]
          have hm9 : m9 = mask := Option.some.inj (h9.symm.trans hmm)
          rw [← hm9]
          exact c9)
        have hshr := fun j W => shr_run mask j W
        obtain ⟨RD, hRD⟩ : ∃ R, R = (decide (PP < yn) && mayB mask fl) := ⟨_, rfl⟩
        have HRD : Hid (RD = (decide (at_ fl < (Q fl).length) && mayB mask fl)) := Lib.hid (by rw [hRD, ← HPP.out, HYN.out])
        have HRD2 := Lib.hid hRD
        have b9 : ((c : Int) < (kn : Int)) = True := eq_true (by omega)
        have bk1 : (c < kn) = True := eq_true hlc
        have b0 : ((0 : Int) ≤ (c : Int)) = True := eq_true (by omega)
        have f1 : (fl < k) = True := eq_true HFN.out
        have f2 : ((fl : Int) < (k : Int)) = True := eq_true (by have := HFN.out; omega)
        have f0 : ((0 : Int) ≤ (fl : Int)) = True := eq_true (by omega)
        have wc5 : IntKind.i64.wrap ((c : Int) + 1) = (c : Int) + 1 := IntWalk.i64_in _ (by have := HK150.out; omega)
        clear hfs hfb hml hat hlc hv ev hPP hRD hmm hmr hbl
        go_upto_region 25 with fail
        go_cut [19] (fun v W => ∃ W', W' = W ∧ v = .bool RD ∧ Below wr.heap.size wr W')
        case first =>
          refine wp_fall (bound25 b o k cap gm omk kn kc fl AB c PP yn yc ya mask RD wr _ _ _ _ _ _ _ _ _ _ _ _ _ _ _ _ _ _ _ _ _ _ _ _ _ _ _ _ _ _ _ _ _ _ _ _ _ _ _ _ _ _ _ _ _ _ _ _ _ _ _ _ _ _ _ _ _ _ _ _ _ _ _ _ _ _ _ _ _ _ _ _ _ _ _ _ _ _ _ _ _ _ _ _ _ _ _ _ _ _ _ _ _ _ _ _ _ _ _ _ _ _ _ _ _ _ _ _ _ _ _ _ _ _ _ _ _ _ _ _ _ _ _ _ _ _ _ _ _ _ _ _ _ _ _ _ _ _ _ _ _ _ _ _ _ _ _ _ _ _ _ _ _ _ _ _ _ _ _ _ _ _ _ _ _ _ _ _ _ _ _ _ _ _ _ _ _ _ _ _ _ _ _ _ _ _ _ _ _ _ _ _ _ _ _ _ _ _ _ _ _ _ _ _ _ _ _ _ _ _ _ _ _ _ _ _ _ _ _ _ _ _ _ c0 ca cmk HRD2 b9 bk1 b0 f1 f2 f0 (fun _ _ _ _ _ _ _ _ _ _ _ _ _ _ _ _ _ _ _ _ wx h1 => ?_))
          refine ‹∀ (a' : Act) (w' : World), Met _ a' w' → _› _ _ ?_
          go_meet
          exact ⟨_, rfl, rfl, h1⟩
        case rest =>
          obtain ⟨W5, rfl, rfl, hB5⟩ := hcut
          have HFS5 := Lib.hid (HFS.out.step hB5)
          clear ca c0 cmk hB5 hshr HFS HRD2
          have cm5 := HGM.out _ HFS5.out.b
          have FP := Lib.hid (fp_any w.heap.size g fo ft k c1 c2 wt al s (some ⟨b, o, none⟩) cap b o vs Q AB k at_ mask W5 HFS5.out.f (HQ.out.below HFS5.out.b) HFS5.out.ar (fun j hj x hx => by have := (HBQ.out j hj).x x hx; omega) HFB.out.inv HWK.out (by have := HNB.out; omega))
          go_upto_region 26 with fail
          go_wp2_with fail
          go_at_call 18
          go_fit (FP.out)
          rintro e W6 ⟨rfl, hp6⟩
          obtain ⟨ft6, c6, hfs6⟩ := HFS5.out.pick hp6
          have hmc := mH_case mask Q at_
          have HMC := Lib.hid hmc
          have hmo9 : ∀ j, j < k → mH mask Q at_ j ≤ MO := fun j hj => by
            rcases hmc j with e | ⟨e, _, hin⟩
            · rw [e]; exact HMO.out.1
            · rw [e]; exact ((HBQ.out j hj).x _ hin).2.2.1
          have how9 : mH mask Q at_ fl ≤ OW := by
            rcases hmc fl with e | ⟨e, _, hin⟩
            · rw [e]; exact HOW.out.1
            · rw [e]; exact ((HBQ.out fl HFN.out).x _ hin).2.2.2 rfl
          have hrd9 : 0 < mH mask Q at_ fl → mH mask Q at_ fl = hdQ Q at_ fl := fun h => by
            rcases hmc fl with e | ⟨e, _, _⟩
            · omega
            · exact e
          have hmok : okHd (mH mask Q at_) k := mH_ok (fun j hj x hx => by have := (HBQ.out j hj).x x hx; omega)
          have HMOK := Lib.hid hmok
          have STEP := Lib.hid (fb_step HFB.out HWK.out HAL.out HFN.out hmok hmo9 how9 HOW.out.1 (by have := HLC.out; have := HK150.out; omega) hrd9)
          have HRDM : Hid ((RD = true → 0 < mH mask Q at_ fl) ∧ (RD = false → mH mask Q at_ fl = 0)) := Lib.hid (by
            rw [HRD.out]
            constructor
            · intro h
              rcases hmc fl with e | ⟨e, _, hin⟩
              · have h9 : mH mask Q at_ fl = hdQ Q at_ fl := by unfold mH; rw [if_pos h]
                simp at h
                have hin : hdQ Q at_ fl ∈ Q fl := by
                  unfold hdQ gI
                  rw [List.getElem?_eq_getElem h.1]
                  exact List.getElem_mem h.1
                have := (HBQ.out fl HFN.out).x _ hin
                omega
              · have := (HBQ.out fl HFN.out).x _ hin
                omega
            · intro h
              unfold mH
              rw [h]
              rfl)
          obtain ⟨aa, na, ca, rfl, HNA, -, -⟩ := hfs6.ai.v.sh
          obtain ⟨am, nm, cm, rfl, HNM, -, -⟩ := hfs6.mi.v.sh
          have hna : na = N + 1 := HNA.out.trans HML.out.la
          have HNA2 := Lib.hid hna
          have HNM2 : Hid (nm = N + 1) := Lib.hid (HNM.out.trans HML.out.lm)
          have HN150 : Hid (N ≤ 150) := Lib.hid (by have := HML.out.nc; have := HLC.out; have := HK150.out; omega)
          have wna : IntKind.i64.wrap ((na : Int) - 1) = (N : Int) := (IntWalk.i64_in _ (by have := HN150.out; omega)).trans (by omega)
          have x1 : W6.cell? ⟨SK, 1, none⟩ = some (.slice aa na ca) := cell_at hfs6.sb 1
          have HFS6 := Lib.hid hfs6
          have hpk := (inv_pk HWK.out hmok HFB.out.inv).2
          clear FP hp6 cm5 hmc hmo9 how9 hrd9 hmok hna hfs6 HFS5
          cases hpc : pkK k wt al (mH mask Q at_) s with
          | none =>
            have hnn := pk_none hpc
            obtain rfl : RD = false := by
              cases hR : RD with
              | false => rfl
              | true => exact absurd (HRDM.out.1 hR) (hnn fl HFN.out)
            have HFBN := Lib.hid (STEP.out.1 hpc)
            clear hnn hpc hpk
            simp only [kI, zK, Option.isSome_none]
            have x2 : W6.cell? ⟨SK, 2, none⟩ = some (.int .i64 (fr : Nat)) := cell_at HFS6.out.sb 2
            have xz : ∀ j, W6.frozen? ⟨SK, j, none⟩ = false := fun j => free_at HFS6.out.sb j
            have xl : SK < W6.heap.size := HFS6.out.sb.lt
            obtain ⟨W7, hW7⟩ : ∃ W, W = W6.setCell ⟨SK, 2, none⟩ (.int .i64 (N : Int)) := ⟨_, rfl⟩
            have HFS7 := Lib.hid (HFS6.out.from_ (fr' := N) hW7)
            go_upto_region 30 with fail
            rw [← hW7]
            clear hW7 x1 x2 xz xl
            go_wp2_with fail
            go_roundw
            case rel => exact ⟨c + 1, _, ft6, c6, _, _, om, oa, at_, Ml, Al, N, N, by have := HLC.out; omega, by go_num, HFS7.out, HFBN.out, HML.out.more, HAT.out⟩
            case measure => (have h8 := HLC.out; first | (simp [intOf]; done) | (simp [intOf]; omega))
          | some q =>
            obtain ⟨hq, hz⟩ := hpk q hpc
            have HQK : Hid (q < k) := Lib.hid hq
            have STQ := Lib.hid (STEP.out.2 q hpc)
            obtain ⟨Y, hY⟩ : ∃ Y, Y = mH mask Q at_ q := ⟨_, rfl⟩
            obtain ⟨MI, hMI⟩ : ∃ M, M = (if q = fl then mH mask Q at_ fl else 0) := ⟨_, rfl⟩
            have hyb := HMOK.out q hq
            have hfb9 := HMOK.out fl HFN.out
            have HYB : Hid (0 ≤ Y ∧ Y ≤ 1500) := Lib.hid (by rw [hY]; exact hyb)
            have HMIB : Hid (0 ≤ MI ∧ MI ≤ 1500) := Lib.hid (by rw [hMI]; split; exact hfb9; omega)
            have HY := Lib.hid hY
            have HMI := Lib.hid hMI
            have HATQ : Hid (at_ q < (Q q).length) := Lib.hid (by
              rcases HMC.out q with e | ⟨_, e, _⟩
              · omega
              · exact e)
            obtain ⟨FR1, hFR1⟩ : ∃ F, F = (if RD = true then fr else N) := ⟨_, rfl⟩
            have HFR1 := Lib.hid hFR1
            have hzy : zK (mH mask Q at_) (some q) = Y := hY.symm
            simp only [kI, Option.isSome_some]
            rw [hzy]
            clear hpc hpk hq hz hY hMI hyb hfb9 hFR1 hzy STEP
            go_upto_if 172 with fail
            go_cut [24] (fun _ W => ∃ W', W' = W ∧ FlS w W' g fo ft6 k c1 c6 AB SK (.slice am nm cm) (.slice aa na ca) om oa wt al (pkS k wt al (mH mask Q at_) s) at_ Ml Al FR1)
            case first =>
              cases RD
              · have x2 : W6.cell? ⟨SK, 2, none⟩ = some (.int .i64 (fr : Nat)) := cell_at HFS6.out.sb 2
                have xz : ∀ j, W6.frozen? ⟨SK, j, none⟩ = false := fun j => free_at HFS6.out.sb j
                have xl : SK < W6.heap.size := HFS6.out.sb.lt
                obtain ⟨W7, hW7⟩ : ∃ W, W = W6.setCell ⟨SK, 2, none⟩ (.int .i64 (N : Int)) := ⟨_, rfl⟩
                have HFS7 := Lib.hid (HFS6.out.from_ (fr' := N) hW7)
                have hfr : FR1 = N := by rw [HFR1.out]; rfl
                go_wp2_with fail
                rw [← hW7]
                go_meet
                exact ⟨_, rfl, by rw [hfr]; exact HFS7.out⟩
              · have hfr : FR1 = fr := by rw [HFR1.out]; rfl
                go_wp2_with fail
                go_meet
                exact ⟨_, rfl, by rw [hfr]; exact HFS6.out⟩
            case rest =>
            obtain ⟨W7, rfl, hfs7⟩ := hcut
            have HFS7 := Lib.hid hfs7
            have cq := hfs7.ar.cell HQK.out
            have az := hfs7.ar.free
            have al9 := hfs7.ar.lt
            obtain ⟨P9, hP9⟩ : ∃ P, P = at_ q := ⟨_, rfl⟩
            have hq60 : P9 ≤ 60 := by rw [hP9]; have := HATQ.out; have := (HBQ.out q HQK.out).len; omega
            rw [← hP9] at cq
            have wa : IntKind.i64.wrap ((P9 : Int) + 1) = (P9 : Int) + 1 := IntWalk.i64_in _ (by omega)
            obtain ⟨W8, hW8⟩ : ∃ W, W = W7.setCell ⟨AB, q, none⟩ (.int .i64 ((P9 : Int) + 1)) := ⟨_, rfl⟩
            have hfs8 := hfs7.put HQK.out (W' := W8) (by rw [hW8, hP9]; rfl)
            have HFS8 := Lib.hid hfs8
            have bk1' : (q < k) = True := eq_true HQK.out
            have bk2' : ((q : Int) < (k : Int)) = True := eq_true (by have := HQK.out; omega)
            have bk0' : ((0 : Int) ≤ (q : Int)) = True := eq_true (by omega)
            clear x1 hfs7 hfs8 hP9 hq60 HFS6
            go_upto_region 32 with fail
            rw [← hW8]
            clear hW8 cq az al9 wa HFS7
            have hqf : ((q : Int) == (fl : Int)) = decide (q = fl) := by by_cases h : q = fl <;> simp [h] ; omega
            go_upto_if 185 with fail
            go_cut [24] (fun v W => v = .int .i64 MI ∧ W8 = W)
            case first =>
              by_cases h : q = fl
              · have hm : MI = Y := by rw [HMI.out, HY.out, if_pos h, h]
                rw [decide_eq_true h] at hqf
                go_wp2_with fail
                go_meet
                exact ⟨by rw [hm], rfl⟩
              · have hm : MI = 0 := by rw [HMI.out, if_neg h]
                rw [decide_eq_false h] at hqf
                go_wp2_with fail
                go_meet
                exact ⟨by rw [hm], rfl⟩
            case rest =>
            obtain ⟨rfl, rfl⟩ := hcut
            clear hqf
            go_upto_region 35 with fail
            obtain ⟨ge, oe, E1, ee, _, hye, cye, _⟩ := HFS8.out.mi.v.at N (by rw [HNM2.out]; omega)
            have hge : gI Ml N = E1 := gI_at hye
            subst ee
            have HEL : Hid (∀ W', Below W8.heap.size W8 W' → W'.cell? ⟨ge, oe + N, none⟩ = some (.int .i64 E1)) := Lib.hid (fun W' hB' => by
              have h9 := HFS8.out.mi.step hB'
              obtain ⟨g9, o9, e9, ee9, _, h99, c9, _⟩ := h9.v.at N (by rw [HNM2.out]; omega)
              injection ee9 with ee9
              injection ee9 with a1 a2 _
              rw [a1, a2]
              have : e9 = E1 := Option.some.inj (h99.symm.trans hye)
              rw [← this]
              exact c9)
            have hmm9 := (HML.out.m N (Nat.le_refl _)).1
            have hbb9 := HML.out.b
            rw [hge] at hmm9 hbb9
            obtain ⟨X1, hX1⟩ : ∃ X, X = E1 + MI := ⟨_, rfl⟩
            have HX1 : Hid (X1 = gI Ml N + MI ∧ 0 ≤ X1 ∧ X1 ≤ 300000) := Lib.hid ⟨by rw [hX1, hge], by have := HMIB.out; omega, by have := HMIB.out; have := HLC.out; have := HK150.out; omega⟩
            have wx1 : IntKind.i64.wrap (E1 + MI) = X1 := by rw [← hX1]; exact IntWalk.i64_in _ (by have := HX1.out; omega)
            have bn1 : (N < nm) = True := eq_true (by rw [HNM2.out]; omega)
            have bn2 : ((N : Int) < (nm : Int)) = True := eq_true (by rw [HNM2.out]; omega)
            have bn0 : ((0 : Int) ≤ (N : Int)) = True := eq_true (by omega)
            clear hye cye hge hmm9 hbb9 hX1
            go_cut [198] (fun _ W => ∃ (W' : World) (v' : Value) (o' : Nat), W' = W ∧ FlS w W' g fo ft6 k c1 c6 AB SK v' (.slice aa na ca) (some o') oa wt al (pkS k wt al (mH mask Q at_) s) (upf at_ q (at_ q + 1)) (Ml ++ [gI Ml N + MI]) Al FR1)
            case first =>
              refine wp_fall (bound35 w g fo ft6 k c1 c6 AB SK q N nm na none aa cm ca ge oe wt al s mask Q at_ Ml Al FR1 om oa E1 MI Y X1 W8 _ _ _ _ _ _ _ _ _ _ _ _ _ _ _ _ _ _ _ _ _ _ _ _ _ _ _ _ _ _ _ _ _ _ _ _ _ _ _ _ _ _ _ _ _ _ _ _ _ _ _ _ _ _ _ _ _ _ _ _ _ _ _ _ _ _ _ _ _ _ _ _ _ _ _ _ _ _ _ _ _ _ _ _ _ _ _ _ _ _ _ _ _ _ _ _ _ _ _ _ _ _ _ _ _ _ _ _ _ _ _ _ _ _ _ _ _ _ _ _ _ _ _ _ _ _ _ _ _ _ _ _ _ _ _ _ _ _ _ _ _ _ _ _ _ _ _ _ _ _ _ _ _ _ _ _ _ _ _ _ _ _ _ _ _ _ _ _ _ _ _ _ _ _ _ _ _ _ _ _ _ _ _ _ _ _ _ _ _ _ _ _ _ _ _ _ _ _ _ _ _ _ _ _ _ _ _ _ _ _ _ _ _ _ _ _ _ _ _ _ _ _ _ _ _ HFS8 HEL HX1 wx1 (Lib.hid HML.out.lm) HN150 bn1 bn2 bn0 (fun _ _ _ _ _ _ _ _ _ _ _ _ wx v' o' h => ?_))
              refine ‹∀ (a' : Act) (w' : World), Met _ a' w' → _› _ _ ?_
              go_meet
              exact ⟨_, v', o', rfl, h⟩
            case rest =>
            obtain ⟨W9, vm9, om9, rfl, hfs9⟩ := hcut
            have HFS9 := Lib.hid hfs9
            clear hfs9 HEL wx1 HFS8 bn1 bn2
            obtain ⟨ge, oe, E1, ee, _, hye, cye, _⟩ := HFS9.out.ai.v.at N (by rw [HNA2.out]; omega)
            have hge : gI Al N = E1 := gI_at hye
            subst ee
            have HEL : Hid (∀ W', Below W9.heap.size W9 W' → W'.cell? ⟨ge, oe + N, none⟩ = some (.int .i64 E1)) := Lib.hid (fun W' hB' => by
              have h9 := HFS9.out.ai.step hB'
              obtain ⟨g9, o9, e9, ee9, _, h99, c9, _⟩ := h9.v.at N (by rw [HNA2.out]; omega)
              injection ee9 with ee9
              injection ee9 with a1 a2 _
              rw [a1, a2]
              have : e9 = E1 := Option.some.inj (h99.symm.trans hye)
              rw [← this]
              exact c9)
            have hmm9 := (HML.out.m N (Nat.le_refl _)).2
            have hbb9 := HML.out.b
            rw [hge] at hmm9 hbb9
            obtain ⟨X2, hX2⟩ : ∃ X, X = E1 + Y := ⟨_, rfl⟩
            have HX2 : Hid (X2 = gI Al N + Y ∧ 0 ≤ X2 ∧ X2 ≤ 300000) := Lib.hid ⟨by rw [hX2, hge], by have := HYB.out; omega, by have := HYB.out; have := HLC.out; have := HK150.out; omega⟩
            have wx2 : IntKind.i64.wrap (E1 + Y) = X2 := by rw [← hX2]; exact IntWalk.i64_in _ (by have := HX2.out; omega)
            have bn1 : (N < na) = True := eq_true (by rw [HNA2.out]; omega)
            have bn2 : ((N : Int) < (na : Int)) = True := eq_true (by rw [HNA2.out]; omega)
            clear hye cye hge hmm9 hbb9 hX2
            go_upto_region 36 with fail
            go_cut [210] (fun _ W => ∃ (W' : World) (v' : Value) (o' : Nat), W' = W ∧ FlS w W' g fo ft6 k c1 c6 AB SK vm9 v' (some om9) (some o') wt al (pkS k wt al (mH mask Q at_) s) (upf at_ q (at_ q + 1)) (Ml ++ [gI Ml N + MI]) (Al ++ [gI Al N + Y]) FR1)
            case first =>
              refine wp_fall (bound36 w g fo ft6 k c1 c6 AB SK q N nm na none none cm ca ge oe wt al s mask Q at_ Ml Al FR1 om oa E1 MI Y vm9 om9 (Ml ++ [gI Ml N + MI]) X2 W9 _ _ _ _ _ _ _ _ _ _ _ _ _ _ _ _ _ _ _ _ _ _ _ _ _ _ _ _ _ _ _ _ _ _ _ _ _ _ _ _ _ _ _ _ _ _ _ _ _ _ _ _ _ _ _ _ _ _ _ _ _ _ _ _ _ _ _ _ _ _ _ _ _ _ _ _ _ _ _ _ _ _ _ _ _ _ _ _ _ _ _ _ _ _ _ _ _ _ _ _ _ _ _ _ _ _ _ _ _ _ _ _ _ _ _ _ _ _ _ _ _ _ _ _ _ _ _ _ _ _ _ _ _ _ _ _ _ _ _ _ _ _ _ _ _ _ _ _ _ _ _ _ _ _ _ _ _ _ _ _ _ _ _ _ _ _ _ _ _ _ _ _ _ _ _ _ _ _ _ _ _ _ _ _ _ _ _ _ _ _ _ _ _ _ _ _ _ _ _ _ _ _ _ _ _ _ _ _ _ _ _ _ _ _ _ _ _ _ _ _ _ _ _ _ _ HFS9 HEL HX2 wx2 (Lib.hid HML.out.la) HN150 bn1 bn2 bn0 (fun _ _ _ _ _ _ _ _ _ _ _ _ wx v' o' h => ?_))
              refine ‹∀ (a' : Act) (w' : World), Met _ a' w' → _› _ _ ?_
              go_meet
              exact ⟨_, v', o', rfl, h⟩
            case rest =>
            obtain ⟨W10, va10, oa10, rfl, hfs10⟩ := hcut
            have HFS10 := Lib.hid hfs10
            clear hfs10 HEL wx2 HFS9 bn1 bn2
            have HML2 := Lib.hid (HML.out.push HMIB.out HYB.out)
            have hU2 : uF al (wt fl) (Ml ++ [gI Ml N + MI]) (Al ++ [gI Al N + Y]) (N + 1) = uF al (wt fl) Ml Al N + (if q = fl then al * 720720 * mH mask Q at_ fl else 0) - wt fl * 720720 * mH mask Q at_ q := by
              rw [uF_last HML.out.lm HML.out.la, ← HY.out, HMI.out]
              split
              · rfl
              · simp
            have STF := Lib.hid (STQ.out (uF al (wt fl) (Ml ++ [gI Ml N + MI]) (Al ++ [gI Al N + Y])) (hdQ Q (upf at_ q (at_ q + 1)) fl) (fun k hk => uF_left HML.out.lm HML.out.la hk) hU2 (fun hqf => by unfold hdQ; rw [upf_ne _ _ (fun e => hqf e.symm)]))
            have HAT2 : Hid (∀ j, j < k → (upf at_ q (at_ q + 1)) j ≤ (Q j).length) := Lib.hid (fun j hj => by
              by_cases hjq : j = q
              · rw [hjq, upf_at]; exact HATQ.out
              · rw [upf_ne _ _ hjq]; exact HAT.out j hj)
            clear hU2 STQ
            cases RD
            · have hfr : FR1 = N := by rw [HFR1.out]; rfl
              have HFBN := Lib.hid ((STF.out).1 (HRDM.out.2 rfl))
              have x2 : W10.cell? ⟨SK, 2, none⟩ = some (.int .i64 (FR1 : Nat)) := cell_at HFS10.out.sb 2
              have xz : ∀ j, W10.frozen? ⟨SK, j, none⟩ = false := fun j => free_at HFS10.out.sb j
              have xl : SK < W10.heap.size := HFS10.out.sb.lt
              have wn1 : IntKind.i64.wrap ((N : Int) + 1) = (N : Int) + 1 := IntWalk.i64_in _ (by have := HN150.out; omega)
              obtain ⟨W11, hW11⟩ : ∃ W, W = W10.setCell ⟨SK, 2, none⟩ (.int .i64 ((N : Int) + 1)) := ⟨_, rfl⟩
              have HFS11 := Lib.hid (HFS10.out.from_ (fr' := N + 1) (W' := W11) (by rw [hW11]; rfl))
              clear hfr
              go_wp2_with fail
              rw [← hW11]
              clear hW11 x2 xz xl
              go_roundw
              case rel => exact ⟨c + 1, _, ft6, c6, _, _, _, _, _, _, _, N + 1, N + 1, by have := HLC.out; omega, by go_num, HFS11.out, HFBN.out, HML2.out, HAT2.out⟩
              case measure => (have h8 := HLC.out; first | (simp [intOf]; done) | (simp [intOf]; omega))
            · have hfr : FR1 = fr := by rw [HFR1.out]; rfl
              have hst := (STF.out).2 (HRDM.out.1 rfl)
              have HFBN := Lib.hid hst.1
              have HBND := Lib.hid hst.2
              obtain ⟨xw, ow9, WF, ew, _, hww, cw9, _⟩ := (HV.out.below HFS10.out.b).at fl HFN.out
              subst ew
              have hwf : wt fl = WF := by rw [HWE.out]; exact gI_at hww
              have HWF : Hid (gI L fl = WF) := Lib.hid (gI_at hww)
              have hwfb := HWG.out fl HFN.out
              have halb := HWK.out.w fl HFN.out
              have hala := HWK.out.a
              have hmk9 := HML2.out
              have HH := Lib.hid (fun (W : World) (hB : Below W10.heap.size W10 W) => holds_any va10 vm9 (Al ++ [gI Al N + Y]) (Ml ++ [gI Ml N + MI]) FR1 (N + 1) WF al OW MO W (HFS10.out.mi.step hB).v (HFS10.out.ai.step hB).v hmk9.lm hmk9.la (by have := HN150.out; omega) (fun j hj => by
                have h0 := hmk9.m j hj
                have hb := hmk9.b
                have := HLC.out
                have := HK150.out
                omega) (fun j hj => by have h0 := hmk9.m j hj; exact ⟨h0.1.2, h0.2.2⟩) (by rw [← hwf]; exact hwfb) (by omega) HOW.out HMO.out (fun j h1 h2 => by
                have h3 := HBND.out j (by omega) (by omega)
                rw [hwf] at h3
                unfold uF at h3
                exact hold_ok h3))
              have x0 : W10.cell? ⟨SK, 0, none⟩ = some vm9 := cell_at HFS10.out.sb 0
              have x1 : W10.cell? ⟨SK, 1, none⟩ = some va10 := cell_at HFS10.out.sb 1
              have x2 : W10.cell? ⟨SK, 2, none⟩ = some (.int .i64 (FR1 : Nat)) := cell_at HFS10.out.sb 2
              have hfw : FR1 = fr := hfr
              have HFW := Lib.hid hfw
              clear hst hww hwf hwfb halb hala hmk9 hfr hfw
              go_upto_region 39 with fail
              refine wp_region_held_drew (S := fun X => X.cell? ⟨SK, 0, none⟩ = some vm9 ∧ X.cell? ⟨SK, 1, none⟩ = some va10 ∧ X.cell? ⟨SK, 2, none⟩ = some (.int .i64 (FR1 : Nat)) ∧ X.cell? ⟨xw, ow9 + fl, none⟩ = some (.int .i64 WF)) (by kernel_rfl) ⟨x0, x1, x2, cw9⟩ (fun hHeld => ?_)
              try simp only [Act.put, List.setIfInBounds_toArray, List.set_cons_zero, List.set_cons_succ]
              clear x0 x1 x2 cw9
              ((refine wpAnyH_take (i := 0) (v := ?_) (by (simp only [List.getElem?_toArray, List.getElem?_cons_succ, List.getElem?_cons_zero]); rfl) (by kernel_rfl) (by kernel_rfl) (by kernel_rfl) (by exact fun _ _ _ h => h) (Or.inl ⟨by rfl, ?_⟩) (by assumption) ?_); rotate_left; focus (intro wS hSw; (try dsimp only at hSw); go_simp; first | done | with_reducible rfl); try simp only [Act.put, List.setIfInBounds_toArray, List.set_cons_zero, List.set_cons_succ])
              ((refine wpAnyH_take (i := 1) (v := ?_) (by (simp only [List.getElem?_toArray, List.getElem?_cons_succ, List.getElem?_cons_zero]); rfl) (by kernel_rfl) (by kernel_rfl) (by kernel_rfl) (by exact fun _ _ _ h => h) (Or.inl ⟨by rfl, ?_⟩) (by assumption) ?_); rotate_left; focus (intro wS hSw; (try dsimp only at hSw); go_simp; first | done | with_reducible rfl); try simp only [Act.put, List.setIfInBounds_toArray, List.set_cons_zero, List.set_cons_succ])
              ((refine wpAnyH_take (i := 2) (v := ?_) (by (simp only [List.getElem?_toArray, List.getElem?_cons_succ, List.getElem?_cons_zero]); rfl) (by kernel_rfl) (by kernel_rfl) (by kernel_rfl) (by exact fun _ _ _ h => h) (Or.inl ⟨by rfl, ?_⟩) (by assumption) ?_); rotate_left; focus (intro wS hSw; (try dsimp only at hSw); go_simp; first | done | with_reducible rfl); try simp only [Act.put, List.setIfInBounds_toArray, List.set_cons_zero, List.set_cons_succ])
              ((refine wpAnyH_take (i := 3) (v := ?_) (by (simp only [List.getElem?_toArray, List.getElem?_cons_succ, List.getElem?_cons_zero]); rfl) (by kernel_rfl) (by kernel_rfl) (by kernel_rfl) (by exact fun _ _ _ h => h) (Or.inl ⟨by rfl, ?_⟩) (by assumption) ?_); rotate_left; focus (intro wS hSw; (try dsimp only at hSw); go_simp; first | done | with_reducible rfl); try simp only [Act.put, List.setIfInBounds_toArray, List.set_cons_zero, List.set_cons_succ])
              ((refine wpAnyH_take (i := 4) (v := ?_) (by (simp only [List.getElem?_toArray, List.getElem?_cons_succ, List.getElem?_cons_zero]); rfl) (by kernel_rfl) (by kernel_rfl) (by kernel_rfl) (by exact fun _ _ _ h => h) (Or.inl ⟨by rfl, ?_⟩) (by assumption) ?_); rotate_left; focus (intro wS hSw; (try dsimp only at hSw); go_simp; first | done | with_reducible rfl); try simp only [Act.put, List.setIfInBounds_toArray, List.set_cons_zero, List.set_cons_succ])
              ((refine wpAnyH_take (i := 5) (v := ?_) (by (simp only [List.getElem?_toArray, List.getElem?_cons_succ, List.getElem?_cons_zero]); rfl) (by kernel_rfl) (by kernel_rfl) (by kernel_rfl) (by exact fun _ _ _ h => h) (Or.inl ⟨by rfl, ?_⟩) (by assumption) ?_); rotate_left; focus (intro wS hSw; (try dsimp only at hSw); go_simp; first | done | with_reducible rfl); try simp only [Act.put, List.setIfInBounds_toArray, List.set_cons_zero, List.set_cons_succ])
              ((refine wpAnyH_take (i := 6) (v := ?_) (by (simp only [List.getElem?_toArray, List.getElem?_cons_succ, List.getElem?_cons_zero]); rfl) (by kernel_rfl) (by kernel_rfl) (by kernel_rfl) (by exact fun _ _ _ h => h) (Or.inl ⟨by rfl, ?_⟩) (by assumption) ?_); rotate_left; focus (intro wS hSw; (try dsimp only at hSw); go_simp; first | done | with_reducible rfl); try simp only [Act.put, List.setIfInBounds_toArray, List.set_cons_zero, List.set_cons_succ])
              ((refine wpAnyH_take (i := 7) (v := ?_) (by (simp only [List.getElem?_toArray, List.getElem?_cons_succ, List.getElem?_cons_zero]); rfl) (by kernel_rfl) (by kernel_rfl) (by kernel_rfl) (by exact fun _ _ _ h => h) (Or.inl ⟨by rfl, ?_⟩) (by assumption) ?_); rotate_left; focus (intro wS hSw; (try dsimp only at hSw); go_simp; first | done | with_reducible rfl); try simp only [Act.put, List.setIfInBounds_toArray, List.set_cons_zero, List.set_cons_succ])
              refine wpAnyH_ready (rs := [8]) (by kernel_rfl) (by simp) ?_
              refine AllReadyH.cons (by (simp only [List.getElem?_toArray, List.getElem?_cons_succ, List.getElem?_cons_zero]); rfl) (fun K hK => ?_) AllReadyH.nil
              go_simp
              go_fit (HH.out _ (belowN (Below.refl W10.heap.size W10) 1))
              rintro e W11 ⟨rfl, hB11⟩
              have HFS11 := Lib.hid ((HFS10.out.step (W' := W10.drew) (belowN (Below.refl W10.heap.size W10) 1)).step hB11)
              have cwf : W11.cell? ⟨xw, ow9 + fl, none⟩ = some (.int .i64 WF) := by
                obtain ⟨xw', ow', WF', ew', _, hw', cw', _⟩ := (HV.out.below HFS11.out.b).at fl HFN.out
                injection ew' with ew'
                injection ew' with a1 a2 _
                obtain ⟨xw2, ow2, WF2, ew2, _, hw2, cw2, _⟩ := (HV.out.below HFS10.out.b).at fl HFN.out
                rw [a1, a2, cw']
                have : WF' = WF := by
                  have e1 := gI_at hw'
                  rw [← e1, ← HWF.out]
                rw [this]
              clear hB11
              go_wp2_with fail
              refine hK.out _ _ ⟨cell_at HFS11.out.sb 0, cell_at HFS11.out.sb 1, cell_at HFS11.out.sb 2, cwf⟩ (fun hHeld => ?_)
              clear hK K cwf
              try simp only [Act.put, List.setIfInBounds_toArray, List.set_cons_zero, List.set_cons_succ]
              ((refine wpAnyH_take (i := 9) (v := ?_) (by (simp only [List.getElem?_toArray, List.getElem?_cons_succ, List.getElem?_cons_zero]); rfl) (by kernel_rfl) (by kernel_rfl) (by kernel_rfl) (by exact fun _ _ _ h => h) (Or.inl ⟨by rfl, ?_⟩) (by assumption) ?_); rotate_left; focus (intro wS hSw; (try dsimp only at hSw); go_simp; first | done | with_reducible rfl); try simp only [Act.put, List.setIfInBounds_toArray, List.set_cons_zero, List.set_cons_succ])
              refine wpAnyH_done (by kernel_rfl) ?_ _
              try simp only [Act.put, List.setIfInBounds_toArray, List.set_cons_zero, List.set_cons_succ]
              go_wp2_with fail
              go_roundw
              case rel => exact ⟨c + 1, _, ft6, c6, _, _, _, _, _, _, _, fr, N + 1, by have := HLC.out; omega, by go_num, by rw [← HFW.out]; exact HFS11.out, HFBN.out, HML2.out, HAT2.out⟩
              case measure => (have h8 := HLC.out; first | (simp [intOf]; done) | (simp [intOf]; omega))
    obtain ⟨ea, hbl⟩ := HQ.out.at_ (by omega)
    subst ea
    have c0 := (HQ.out.below HB1.out).cell k hlt
    have hv := HQ.out.inv k hlt
    obtain ⟨ya, yn, yc, ev, HYN, y1, y2⟩ := hv.sh
    rw [ev] at c0 hv
    have HVK := Lib.hid (hv.below HB1.out)
    have hyl : yn = (Q k).length := HYN.out
    obtain ⟨gw, ow, W, ew, _, hww, cw, _⟩ := (HV.out.below HB1.out).at k hlt
    subst ew
    have hwk : wt k = W := by rw [HWE.out]; exact gI_at hww
    have hsb := sumW_bd k (fun j hj => HWG.out j (by omega))
    have hwb := HWG.out k hlt
    rw [hwk] at hwb
    obtain ⟨S, hS⟩ : ∃ S, S = sumW wt k := ⟨_, rfl⟩
    obtain ⟨S2, hS2⟩ : ∃ S2, S2 = S + W := ⟨_, rfl⟩
    have HS2 : Hid (sumW wt (k + 1) = S2) := Lib.hid (by rw [hS2, hS, ← hwk]; rfl)
    rw [← hS] at hsb ⊢
    have ws : IntKind.i64.wrap (S + W) = S2 := by rw [← hS2]; exact IntWalk.i64_in _ (by omega)
    have ww5 : IntKind.i64.wrap ((k : Int) + 1) = (k : Int) + 1 := IntWalk.i64_in _ (by omega)
    have b9 : ((k : Int) < (xn : Int)) = True := eq_true (by omega)
    have bk1 : (k < xn) = True := eq_true hlt
    have b0 : ((0 : Int) ≤ (k : Int)) = True := eq_true (by omega)
    have HLT := Lib.hid hlt
    by_cases h60 : 60 < yn
    · have d3 : decide ((60 : Int) < (yn : Int)) = true := decide_eq_true (by omega)
      clear hbq hmo how hbl hv ev hyl hww hwk hsb hwb hS hS2 hlt h60
      go_wp2_with fail
      go_at_call 7
      go_fit (WK.out _)
      rintro e Wz ⟨rfl, hBz⟩
      have HBz := Lib.hid (HB1.out.trans (hBz.mono HB1.out.size))
      clear hBz
      go_wp2_with fail
      try rw [Exit.noGoto_ret]
      go_ret
      exact ⟨rfl, HBz.out⟩
    have d3 : decide ((60 : Int) < (yn : Int)) = false := decide_eq_false (by omega)
    have HY60 : Hid (yn ≤ 60 ∧ yn = (Q k).length) := Lib.hid ⟨by omega, hyl⟩
    have hkf : ((k : Int) == (fl : Int)) = decide (k = fl) := by by_cases h : k = fl <;> simp [h] ; omega
    obtain ⟨BF, hBF⟩ : ∃ B, B = decide (k = fl) := ⟨_, rfl⟩
    rw [← hBF] at hkf
    have HBF := Lib.hid hBF
    clear hbq hmo how hbl hv ev hyl hww hwk hsb hwb hS hS2 hlt h60 hBF
    go_wp2_with fail
    go_loopw [12, 13, 15] (fun vm vo vk wq => ∃ (q : Nat) (MO' OW' : Int), q ≤ yn ∧ vk = .int .i64 q ∧ vm = .int .i64 MO' ∧ vo = .int .i64 OW' ∧ (MO ≤ MO' ∧ MO' ≤ 1500) ∧ (OW ≤ OW' ∧ OW' ≤ 1500) ∧ (∀ i, i < q → 1 ≤ gI (Q k) i ∧ gI (Q k) i ≤ 1500 ∧ gI (Q k) i ≤ MO' ∧ (k = fl → gI (Q k) i ≤ OW')) ∧ wq = wr) (fun _ _ vk _ => yn - (intOf vk).toNat)
    case atStart => exact ⟨0, MO, OW, Nat.zero_le _, rfl, rfl, rfl, ⟨Int.le_refl _, HMO.out.2⟩, ⟨Int.le_refl _, HOW.out.2⟩, (fun i h => by omega), rfl⟩
    case round =>
      obtain ⟨q, MO', OW', hq, rfl, rfl, rfl, hm2, ho2, hx, rfl⟩ := hrel
      have HM2 := Lib.hid hm2
      have HO2 := Lib.hid ho2
      have HX := Lib.hid hx
      by_cases hlq : q < yn
      rotate_left
      · obtain rfl : q = yn := by omega
        clear hm2 ho2 hx hlq
        go_wp2_with fail
        go_roundw
        case rel => exact ⟨k + 1, MO', OW', by have := HLT.out; omega, by go_num, by rw [HS2.out], rfl, rfl, by have := HMO.out; have := HM2.out; omega, by have := HOW.out; have := HO2.out; omega, (fun j hj => by
          by_cases hjk : j = k
          · subst hjk
            refine ⟨by rw [← HY60.out.2]; exact HY60.out.1, fun x hx => ?_⟩
            obtain ⟨i, hi1, hi2⟩ := List.getElem_of_mem hx
            have := HX.out i (by rw [HY60.out.2]; exact hi1)
            unfold gI at this
            rw [List.getElem?_eq_getElem hi1, hi2] at this
            exact this
          · have h0 := HBQ.out j (by omega)
            exact ⟨h0.len, fun x hx => by
              have h1 := h0.x x hx
              have := HM2.out.1
              have := HO2.out.1
              exact ⟨h1.1, h1.2.1, by omega, fun e => by have := h1.2.2.2 e; omega⟩⟩), by first | rfl | trivial⟩
        case measure => (have h8 := HLT.out; first | (simp [intOf]; done) | (simp [intOf]; omega))
      obtain ⟨gy, oy, y, ey, _, hyy, cy, _⟩ := HVK.out.at q hlq
      subst ey
      have HGY : Hid (gI (Q k) q = y) := Lib.hid (gI_at hyy)
      have wq5 : IntKind.i64.wrap ((q : Int) + 1) = (q : Int) + 1 := IntWalk.i64_in _ (by have := HY60.out.1; omega)
      have bq9 : ((q : Int) < (yn : Int)) = True := eq_true (by omega)
      have bq1 : (q < yn) = True := eq_true hlq
      have HLQ := Lib.hid hlq
      clear hyy hx hlq hm2 ho2
      by_cases hbad : y < 1 ∨ 1500 < y
      · rcases hbad with hb | hb
        · have e2 : decide (y < 1) = true := decide_eq_true hb
          clear hb
          go_wp2_with fail
          go_at_call 7
          go_fit (WK.out _)
          rintro e Wz ⟨rfl, hBz⟩
          have HBz := Lib.hid (HB1.out.trans (hBz.mono HB1.out.size))
          clear hBz
          go_wp2_with fail
          try rw [Exit.noGoto_ret]
          go_ret
          exact ⟨rfl, HBz.out⟩
        · have e2 : decide (y < 1) = false := decide_eq_false (by omega)
          have e3 : decide (1500 < y) = true := decide_eq_true hb
          clear hb
          go_wp2_with fail
          go_at_call 7
          go_fit (WK.out _)
          rintro e Wz ⟨rfl, hBz⟩
          have HBz := Lib.hid (HB1.out.trans (hBz.mono HB1.out.size))
          clear hBz
          go_wp2_with fail
          try rw [Exit.noGoto_ret]
          go_ret
          exact ⟨rfl, HBz.out⟩
      have HYG : Hid (1 ≤ y ∧ y ≤ 1500) := Lib.hid (by omega)
      have e2 : decide (y < 1) = false := decide_eq_false (by omega)
      have e3 : decide (1500 < y) = false := decide_eq_false (by omega)
      clear hbad
      obtain ⟨M3, hM3⟩ : ∃ M3, M3 = max MO' y := ⟨_, rfl⟩
      obtain ⟨O3, hO3⟩ : ∃ O3, O3 = max OW' y := ⟨_, rfl⟩
      have HM3 := Lib.hid hM3
      have HO3 := Lib.hid hO3
      have hm3 : (if MO' < y then y else MO') = M3 := by rw [hM3]; split <;> omega
      have ho3 : (if OW' < y then y else OW') = O3 := by rw [hO3]; split <;> omega
      have hm3' : max MO' y = M3 := hM3.symm
      have ho3' : max OW' y = O3 := hO3.symm
      clear hM3 hO3
      cases BF
      · have HNF : Hid (k ≠ fl) := Lib.hid (fun e => by have := HBF.out; rw [e] at this; simp at this)
        go_wp2_with fail
        go_roundw
        case rel => exact ⟨q + 1, M3, OW', by have := HLQ.out; omega, by go_num, rfl, rfl, by have := HM2.out; have := HM3.out; have := HYG.out; omega, HO2.out, (fun i hi => by
          by_cases hiq : i = q
          · subst hiq
            rw [HGY.out]
            have := HYG.out; have := HM3.out
            exact ⟨by omega, by omega, by omega, fun e => absurd e HNF.out⟩
          · have h1 := HX.out i (by omega)
            have := HM3.out
            exact ⟨h1.1, h1.2.1, by omega, h1.2.2.2⟩), by first | rfl | trivial⟩
        case measure => (have h8 := HLQ.out; first | (simp [intOf]; done) | (simp [intOf]; omega))
      · go_wp2_with fail
        go_roundw
        case rel => exact ⟨q + 1, M3, O3, by have := HLQ.out; omega, by go_num, rfl, rfl, by have := HM2.out; have := HM3.out; have := HYG.out; omega, by have := HO2.out; have := HO3.out; have := HYG.out; omega, (fun i hi => by
          by_cases hiq : i = q
          · subst hiq
            rw [HGY.out]
            have := HYG.out; have := HM3.out; have := HO3.out
            exact ⟨by omega, by omega, by omega, fun _ => by omega⟩
          · have h1 := HX.out i (by omega)
            have := HM3.out; have := HO3.out
            exact ⟨h1.1, h1.2.1, by omega, fun e => by have := h1.2.2.2 e; omega⟩), by first | rfl | trivial⟩
        case measure => (have h8 := HLQ.out; first | (simp [intOf]; done) | (simp [intOf]; omega))
theorem fairBound_dt (a : Option Addr) (n c : Nat) (xs : List Dt) (a2 : Option Addr) (n2 c2 : Nat) (xs2 : List Dt) (a3 : Option Addr) (n3 c3 : Nat) (xs3 : List Dt) (fl : Int) (w : World) (h : SliceFits Try.prog w 3 a n c xs) (h2 : SliceFits Try.prog w 22 a2 n2 c2 xs2) (h3 : SliceFits Try.prog w 3 a3 n3 c3 xs3) (hf : -9223372036854775808 ≤ fl ∧ fl ≤ 9223372036854775807) : Calls Try.prog 6 #[.slice a n c, .slice a2 n2 c2, .slice a3 n3 c3, .int .i64 fl] w fun e w' => e = .returned (.bool true) ∧ Below w.heap.size w w' := by
  obtain ⟨L, _, hL⟩ := inv_cells w h
  obtain ⟨b, o, vs, Q, hQ⟩ := q_cells w h2
  obtain ⟨MK, _, hMK⟩ := inv_cells w h3
  exact fairBound_walk _ _ L MK a2 n2 c2 b o vs Q fl w hL hQ hMK hf
end Go.Proofs.Ytnainlemnkfpkaa
