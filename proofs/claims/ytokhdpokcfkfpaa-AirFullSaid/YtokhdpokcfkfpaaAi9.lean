/-
  AirCuts, walked.
-/
import Derived.Test.YtokhdpokcfkfpaaAi8
namespace Go.Proofs.Ytokhdpokcfkfpaa
open Go.RowKit
set_option linter.unusedSimpArgs false
set_option linter.unusedVariables false

theorem tmod_bd (a m : Int) (h : 0 < m) : -m < a.tmod m ∧ a.tmod m < m := by
  by_cases h0 : 0 ≤ a
  · rw [IntWalk.rem_in _ _ h0]
    have := Int.emod_nonneg a (by omega : m ≠ 0)
    have := Int.emod_lt_of_pos a h
    omega
  · have e : a.tmod m = -((-a).tmod m) := by rw [← Int.neg_tmod, Int.neg_neg]
    rw [e, IntWalk.rem_in _ _ (by omega : 0 ≤ -a)]
    have := Int.emod_nonneg (-a) (by omega : m ≠ 0)
    have := Int.emod_lt_of_pos (-a) h
    omega
theorem wmod_bd (a m : Int) (h : 0 < m) (h2 : m ≤ 2305843009213693952) : 0 ≤ (wrap64 (a.tmod m + m)).tmod m ∧ (wrap64 (a.tmod m + m)).tmod m < m := by
  have h3 := tmod_bd a m h
  rw [IntWalk.wrap64_in _ (by omega), IntWalk.rem_in _ _ (by omega)]
  exact ⟨Int.emod_nonneg _ (by omega), Int.emod_lt_of_pos _ h⟩

structure IntsIn (W : World) (a : Option Addr) (len cap : Nat) (b o : Nat) (T : Nat → Int) : Prop where
  le : len ≤ cap
  max : cap ≤ maxLen
  at_ : 0 < len → a = some ⟨b, o, none⟩ ∧ b < W.heap.size
  cell : ∀ k, k < len → W.cell? ⟨b, o + k, none⟩ = some (.int .i64 (T k))
  bd : ∀ k, k < len → -9223372036854775808 ≤ T k ∧ T k ≤ 9223372036854775807

theorem ints_cells (W : World) {a : Option Addr} {len cap : Nat} {xs : List Dt} (h : SliceFits Try.prog W 3 a len cap xs) : ∃ (b o : Nat) (T : Nat → Int), IntsIn W a len cap b o T := by
  have hc : Try.prog.cellsOf 3 = 1 := by kernel_rfl
  obtain ⟨b, o, h1, h2⟩ := h.spot (by rw [hc]; omega)
  have hex : ∀ k, ∃ q : Int, k < len → W.cell? ⟨b, o + k, none⟩ = some (.int .i64 q) ∧ -9223372036854775808 ≤ q ∧ q ≤ 9223372036854775807 := fun k => by
    by_cases hk : k < len
    · have hl := h.length
      have hx := List.getElem?_eq_getElem (l := xs) (i := k) (by omega)
      obtain ⟨n0, e0, g0⟩ := (h.each k _ hx).1.int_inv Try.underlying3
      have hcell := h2 k _ hx
      rw [e0, hc] at hcell
      exact ⟨n0, fun _ => ⟨by have := hcell 0 _ rfl; rwa [Nat.mul_one] at this, g0.1, g0.2⟩⟩
    · exact ⟨0, fun h => absurd h hk⟩
  have hg := fun k => Classical.choose_spec (hex k)
  exact ⟨b, o, fun k => Classical.choose (hex k), h.le, h.max, h1, fun k hk => (hg k hk).1, fun k hk => (hg k hk).2⟩

theorem IntsIn.below {W W' : World} {a : Option Addr} {len cap b o : Nat} {T : Nat → Int} (h : IntsIn W a len cap b o T) (hB : Below W.heap.size W W') : IntsIn W' a len cap b o T :=
  ⟨h.le, h.max, fun hk => ⟨(h.at_ hk).1, by have := (h.at_ hk).2; have := hB.size; omega⟩, fun k hk => (hB.cell (p := ⟨b, _, none⟩) (h.at_ (by omega)).2).trans (h.cell k hk), h.bd⟩

set_option maxRecDepth 100000 in
set_option maxHeartbeats 16000000 in
theorem cuts_walk (a0 a1 : Int) (p : Option Addr) (len cap bs os : Nat) (S : Nat → Int) (w : World) (hs : IntsIn w p len cap bs os S) (hl : len ≤ 60) :
    Calls Try.prog 6 #[.int .i64 a0, .int .i64 a1, .slice p len cap] w fun e w' => e = .returned (.bool true) ∧ Below w.heap.size w w' := by
  obtain ⟨q0, q1⟩ := wmod_bd a0 255 (by omega) (by omega)
  obtain ⟨q2, q3⟩ := wmod_bd a1 255 (by omega) (by omega)
  have m1 := hs.le
  have m2 := hs.max
  unfold maxLen at m2
  have HS := Lib.hid hs
  have HL := Lib.hid hl
  clear hs
  obtain ⟨b, hb⟩ : ∃ b, b = w.heap.size := ⟨_, rfl⟩
  have NW := airNew_any w
  rw [← hb] at NW
  have HNW := Lib.hid NW
  have HGW := Lib.hid hb
  clear NW hb
  go_enter Try.func6, Try.ntmps6
  go_upto_region 5 with fail
  generalize (wrap64 (a0.tmod 255 + 255)).tmod 255 = Q0 at q0 q1 ⊢
  generalize (wrap64 (a1.tmod 255 + 255)).tmod 255 = Q1 at q2 q3 ⊢
  try rw [IntWalk.wrap64_in (1 + Q0) (by omega)]
  try rw [IntWalk.wrap64_in (1 + Q1) (by omega)]
  obtain ⟨FR, hFR⟩ : ∃ FR, FR = 1 + Q0 := ⟨_, rfl⟩
  obtain ⟨TO, hTO⟩ : ∃ TO, TO = 1 + Q1 := ⟨_, rfl⟩
  rw [← hFR, ← hTO]
  have hWay : wayB FR TO = true := by unfold wayB; simp only [Bool.and_eq_true, decide_eq_true_eq]; omega
  have HWay := Lib.hid hWay
  clear hWay hFR hTO q0 q1 q2 q3
  go_wp2_with fail
  go_at_call 9
  refine Calls.mono HNW.out ?_
  rintro e W1 ⟨rfl, h1, hw1⟩
  have H1 := Lib.hid h1
  have HB1 : Hid (Below w.heap.size w W1) := Lib.hid (by rw [HGW.out] at hw1; exact hw1)
  clear h1 hw1 HNW
  go_upto_region 7 with fail
  obtain ⟨N, hN⟩ : ∃ N, N = W1.heap.size := ⟨_, rfl⟩
  obtain ⟨W2, hW2⟩ : ∃ W2, W2 = W1.alloc (.cells #[.int .i8 0, .int .i64 FR, .int .i64 TO, .int .i64 0, .int .i64 0, .int .i64 0, .int .i64 0, .bool false, .slice none 0 0, .int .i64 0, .int .i64 0, .int .u8 0, .slice none 0 0, .slice none 0 0] 39) := ⟨_, rfl⟩
  have hB12 : Below W1.heap.size W1 W2 := by rw [hW2]; exact (Below.refl _ _).alloc (Nat.le_refl _) _
  have HN2 : Hid (Blk W2 N #[.int .i8 0, .int .i64 FR, .int .i64 TO, .int .i64 0, .int .i64 0, .int .i64 0, .int .i64 0, .bool false, .slice none 0 0, .int .i64 0, .int .i64 0, .int .u8 0, .slice none 0 0, .slice none 0 0] 39) := Lib.hid (by rw [hW2, hN]; exact blk_new _ _ _)
  have H2 := Lib.hid (H1.out.below hB12)
  have HB2 := Lib.hid (HB1.out.trans (hB12.mono HB1.out.size))
  have HNG : Hid (b + 1 < N) := Lib.hid (by rw [hN]; exact H1.out.blk.lt)
  rw [← hN]
  change Code.wp _ _ _ _ (W1.alloc (.cells #[.int .i8 0, .int .i64 FR, .int .i64 TO, .int .i64 0, .int .i64 0, .int .i64 0, .int .i64 0, .bool false, .slice none 0 0, .int .i64 0, .int .i64 0, .int .u8 0, .slice none 0 0, .slice none 0 0] 39))
  rw [← hW2]
  clear hN hW2 hB12 H1 HB1
  go_wp2_with fail
  go_loopw [9] (fun v9 wr => ∃ (k : Nat) (M : Int × Int → Option Value), k ≤ len + 1 ∧ v9 = .int .i64 k ∧ AirAt wr (b + 1) b none (.slice none 0 0) [] M ∧ M (FR, TO) = none ∧ Blk wr N #[.int .i8 0, .int .i64 FR, .int .i64 TO, .int .i64 0, .int .i64 0, .int .i64 0, .int .i64 0, .bool false, .slice none 0 0, .int .i64 0, .int .i64 0, .int .u8 0, .slice none 0 0, .slice none 0 0] 39 ∧ Below w.heap.size w wr) (fun vi _ => len + 2 - (intOf vi).toNat)
  case atStart => exact ⟨0, _, Nat.zero_le _, rfl, H2.out, rfl, HN2.out, HB2.out⟩
  case round =>
    clear H2 HB2 HN2
    obtain ⟨k, M, hk, rfl, hA, hM, hN, hB⟩ := hrel
    have HA := Lib.hid hA
    have HM := Lib.hid hM
    have HN := Lib.hid hN
    have HB := Lib.hid hB
    clear hA hM hN hB
    by_cases hlt : k + 1 < len
    · obtain ⟨e2, e3⟩ := (HS.out.below HB.out).at_ (by omega)
      subst e2
      have cs0 := (HS.out.below HB.out).cell k (by omega)
      have cs1 := (HS.out.below HB.out).cell (k + 1) (by omega)
      obtain ⟨y1, hy1⟩ : ∃ y, y = S k := ⟨_, rfl⟩
      obtain ⟨y2, hy2⟩ : ∃ y, y = S (k + 1) := ⟨_, rfl⟩
      rw [← hy1] at cs0
      rw [← hy2] at cs1
      clear hy1 hy2
      by_cases hE : y1 = FR ∧ y2 = TO
      · obtain ⟨rfl, rfl⟩ := hE
        go_wp2_with fail
        go_roundw
        case rel => exact ⟨k + 2, M, by omega, by go_num, HA.out, HM.out, HN.out, HB.out⟩
        case measure => first | (simp [intOf]; done) | (simp [intOf]; omega)
      · have CT := cut_any (b + 1) b none (.slice none 0 0) [] M y1 y2 wr.drew (HA.out.below ((Below.refl _ _).drew))
        obtain ⟨E0, hE0⟩ : ∃ E0, E0 = (if wayB y1 y2 then (0 : Int) else 2) := ⟨_, rfl⟩
        obtain ⟨M0, hM0⟩ : ∃ M0, M0 = (if wayB y1 y2 then fun y => if y = (y1, y2) then some (Value.agg #[]) else M y else M) := ⟨_, rfl⟩
        rw [← hE0, ← hM0] at CT
        have HM0 : Hid (M0 (FR, TO) = none) := Lib.hid (by
          rw [hM0]
          split
          · exact (if_neg (fun e => hE ⟨(Prod.mk.inj e).1.symm, (Prod.mk.inj e).2.symm⟩)).trans HM.out
          · exact HM.out)
        clear hE0 hM0
        have HCT := Lib.hid CT
        have hw1 : IntKind.i64.wrap ((k : Int) + 1) = (k : Int) + 1 := IntWalk.i64_in _ (by omega)
        have hw2 : (k < len) = True := eq_true (by omega)
        have hw3 : (0 ≤ (k : Int) + 1) = True := eq_true (by omega)
        have hw4 : ((k : Int) + 1 < len) = True := eq_true (by omega)
        clear CT
        by_cases he1 : y1 = FR
        · have he4 : (y2 != TO) = true := bne_iff_ne.2 (fun e => hE ⟨he1, e⟩)
          have he3 : (y1 = FR) = True := eq_true he1
          have he2 : (y2 = TO) = False := eq_false (fun e => hE ⟨he1, e⟩)
          clear he1
          clear hE
          go_wp2_with fail
          go_region_with (refine Calls.mono HCT.out ?_; rintro e W3 ⟨rfl, h3, hf3⟩; have H3 := Lib.hid h3; have HF3 := Lib.hid hf3; clear h3 hf3)
          all_goals
            go_wp2_with fail
            go_roundw
            case rel => exact ⟨k + 2, _, by omega, by go_num, H3.out, HM0.out, (HF3.out.block N HN.out.lt (by have := HNG.out; simp; omega)).trans HN.out, HB.out.drew.trans (HF3.out.below HB.out.size (by have := HGW.out; simp; omega))⟩
            case measure => first | (simp [intOf]; done) | (simp [intOf]; omega)
        · have he2 : (y1 = FR) = False := eq_false he1
          clear hE he1
          go_wp2_with fail
          go_region_with (refine Calls.mono HCT.out ?_; rintro e W3 ⟨rfl, h3, hf3⟩; have H3 := Lib.hid h3; have HF3 := Lib.hid hf3; clear h3 hf3)
          all_goals
            go_wp2_with fail
            go_roundw
            case rel => exact ⟨k + 2, _, by omega, by go_num, H3.out, HM0.out, (HF3.out.block N HN.out.lt (by have := HNG.out; simp; omega)).trans HN.out, HB.out.drew.trans (HF3.out.below HB.out.size (by have := HGW.out; simp; omega))⟩
            case measure => first | (simp [intOf]; done) | (simp [intOf]; omega)
    · go_wp2_with fail
      go_loopw [10] (fun v10 wr => ∃ (j : Nat) (ob : Option Nat) (v : Value), j ≤ 3 ∧ v10 = .int .i64 j ∧ AirAt wr (b + 1) b ob v (List.replicate j ⟨FR, TO, 0, 0, 0, 0, 0, false, 0, 0, 0⟩) M ∧ (∀ x, ob = some x → N < x) ∧ Blk wr N #[.int .i8 0, .int .i64 FR, .int .i64 TO, .int .i64 0, .int .i64 0, .int .i64 0, .int .i64 0, .bool false, .slice none 0 0, .int .i64 0, .int .i64 0, .int .u8 0, .slice none 0 0, .slice none 0 0] 39 ∧ Below w.heap.size w wr) (fun vi _ => 3 - (intOf vi).toNat)
      case atStart => exact ⟨0, none, _, Nat.zero_le _, rfl, HA.out, (fun x hx => nomatch hx), HN.out, HB.out⟩
      case round =>
        clear HA HN HB
        obtain ⟨j, ob, v, hj, rfl, hA, hob, hN, hB⟩ := hrel
        have HA := Lib.hid hA
        have HN := Lib.hid hN
        have HB := Lib.hid hB
        have HOB := Lib.hid hob
        clear hA hN hB hob
        by_cases hj3 : j < 3
        · have SD := send_ok (b + 1) b ob v _ M ⟨FR, TO, 0, 0, 0, 0, 0, false, 0, 0, 0⟩ wr HA.out (by simp; omega) HWay.out
          have HSD := Lib.hid SD
          have n0 : wr.cell? ⟨N, 0, none⟩ = some (.int .i8 0) := cell_at HN.out 0
          have n1 : wr.cell? ⟨N, 1, none⟩ = some (.int .i64 FR) := cell_at HN.out 1
          have n2 : wr.cell? ⟨N, 2, none⟩ = some (.int .i64 TO) := cell_at HN.out 2
          have n3 : wr.cell? ⟨N, 3, none⟩ = some (.int .i64 0) := cell_at HN.out 3
          have n4 : wr.cell? ⟨N, 4, none⟩ = some (.int .i64 0) := cell_at HN.out 4
          have n5 : wr.cell? ⟨N, 5, none⟩ = some (.int .i64 0) := cell_at HN.out 5
          have n6 : wr.cell? ⟨N, 6, none⟩ = some (.int .i64 0) := cell_at HN.out 6
          have n7 : wr.cell? ⟨N, 7, none⟩ = some (.bool false) := cell_at HN.out 7
          have n8 : wr.cell? ⟨N, 8, none⟩ = some (.slice none 0 0) := cell_at HN.out 8
          have n9 : wr.cell? ⟨N, 9, none⟩ = some (.int .i64 0) := cell_at HN.out 9
          have n10 : wr.cell? ⟨N, 10, none⟩ = some (.int .i64 0) := cell_at HN.out 10
          have n11 : wr.cell? ⟨N, 11, none⟩ = some (.int .u8 0) := cell_at HN.out 11
          have n12 : wr.cell? ⟨N, 12, none⟩ = some (.slice none 0 0) := cell_at HN.out 12
          have n13 : wr.cell? ⟨N, 13, none⟩ = some (.slice none 0 0) := cell_at HN.out 13
          have hNl : N < wr.heap.size := HN.out.lt
          clear SD
          go_wp2_with fail
          go_at_call 13
          refine Calls.mono HSD.out ?_
          rintro e W3 ⟨rfl, ob3, v3, h3, hf3, ho3⟩
          have H3 := Lib.hid h3
          have HF3 := Lib.hid hf3
          have HO3 := Lib.hid ho3
          clear h3 hf3 ho3 n0 n1 n2 n3 n4 n5 n6 n7 n8 n9 n10 n11 n12 n13
          go_wp2_with fail
          go_roundw
          case rel => exact ⟨j + 1, some ob3, v3, by omega, by go_num, (by have := H3.out; rw [← List.replicate_succ'] at this; exact this), (by
              intro x hx
              obtain rfl := Option.some.inj hx
              rcases HO3.out with e | e
              · exact HOB.out _ e
              · omega), (HF3.out.block N hNl (by
                have := HNG.out
                intro hm
                simp only [List.mem_cons, Option.mem_toList] at hm
                rcases hm with e | e
                · omega
                · have := HOB.out N (by simpa using e); omega)).trans HN.out, HB.out.trans (HF3.out.below HB.out.size (by
                intro x hm
                have := HGW.out
                have := HNG.out
                simp only [List.mem_cons, Option.mem_toList] at hm
                rcases hm with e | e
                · omega
                · have := HOB.out x (by simpa using e); omega))⟩
          case measure => first | (simp [intOf]; done) | (simp [intOf]; omega)
        · obtain rfl : j = 3 := by omega
          have HO : Hid (∀ x ∈ (b + 1) :: ob.toList, w.heap.size ≤ x) := Lib.hid (by
            intro x hm
            have := HGW.out
            have := HNG.out
            simp only [List.mem_cons, Option.mem_toList] at hm
            rcases hm with e | e
            · omega
            · have := HOB.out x (by simpa using e); omega)
          have HO2 : Hid (∀ x ∈ [b], w.heap.size ≤ x) := Lib.hid (by have := HGW.out; simp; omega)
          have D1 := deliver_ok (b + 1) b ob v _ M 0 ⟨FR, TO, 0, 0, 0, 0, 0, false, 0, 0, 0⟩ wr HA.out rfl (by rw [show M ((⟨FR, TO, 0, 0, 0, 0, 0, false, 0, 0, 0⟩ : MsE).f, (⟨FR, TO, 0, 0, 0, 0, 0, false, 0, 0, 0⟩ : MsE).t) = none from HM.out]; rfl)
          rw [show M ((⟨FR, TO, 0, 0, 0, 0, 0, false, 0, 0, 0⟩ : MsE).f, (⟨FR, TO, 0, 0, 0, 0, 0, false, 0, 0, 0⟩ : MsE).t) = none from HM.out] at D1
          have HD1 := Lib.hid D1
          clear D1 HA HN HOB
          go_wp2_with fail
          go_at_call 17
          refine Calls.mono HD1.out ?_
          rintro e X1 ⟨rfl, v1, h1, hf1⟩
          obtain ⟨Y1, hY1⟩ : ∃ Y, Y = X1.alloc (.cells #[.int .i8 0, .int .i64 FR, .int .i64 TO, .int .i64 0, .int .i64 0, .int .i64 0, .int .i64 0, .bool false, .slice none 0 0, .int .i64 0, .int .i64 0, .int .u8 0, .slice none 0 0, .slice none 0 0] 39) := ⟨_, rfl⟩
          have hXY1 : Below X1.heap.size X1 Y1 := by rw [hY1]; exact (Below.refl _ _).alloc (Nat.le_refl _) _
          have g1 := h1.below hXY1
          have HBX1 := HB.out.trans (hf1.below HB.out.size HO.out)
          have HB1 := Lib.hid (HBX1.trans (hXY1.mono HBX1.size))
          have C1 := cut_any (b + 1) b ob v1 _ M FR TO Y1 g1
          simp only [HWay.out, if_true] at C1
          have HC1 := Lib.hid C1
          clear C1 g1 h1 hf1 hXY1 HBX1 HD1 HB
          go_upto_region 18 with fail
          change Code.wp _ _ _ _ (X1.alloc (.cells #[.int .i8 0, .int .i64 FR, .int .i64 TO, .int .i64 0, .int .i64 0, .int .i64 0, .int .i64 0, .bool false, .slice none 0 0, .int .i64 0, .int .i64 0, .int .u8 0, .slice none 0 0, .slice none 0 0] 39))
          rw [← hY1]
          clear hY1
          go_wp2_with fail
          go_at_call 19
          refine Calls.mono HC1.out ?_
          rintro e X2 ⟨rfl, h2, hf2⟩
          obtain ⟨M1, hM1⟩ : ∃ M1 : Int × Int → Option Value, M1 = fun y => if y = (FR, TO) then some (.agg #[]) else M y := ⟨_, rfl⟩
          rw [← hM1] at h2
          have hM1' : M1 ((⟨FR, TO, 0, 0, 0, 0, 0, false, 0, 0, 0⟩ : MsE).f, (⟨FR, TO, 0, 0, 0, 0, 0, false, 0, 0, 0⟩ : MsE).t) = some (.agg #[]) := by rw [hM1]; exact if_pos rfl
          have D2 := deliver_ok (b + 1) b ob v1 _ M1 0 ⟨FR, TO, 0, 0, 0, 0, 0, false, 0, 0, 0⟩ X2 h2 rfl (by rw [hM1']; rfl)
          rw [hM1'] at D2
          have HD2 := Lib.hid D2
          have HB2 := Lib.hid (HB1.out.trans (hf2.below HB1.out.size HO2.out))
          clear D2 h2 hf2 HB1 HC1 hM1 hM1'
          go_wp2_with fail
          go_at_call 17
          refine Calls.mono HD2.out ?_
          rintro e X3 ⟨rfl, v3, h3, hf3⟩
          obtain ⟨Y3, hY3⟩ : ∃ Y, Y = X3.alloc (.cells #[.int .i8 0, .int .i64 FR, .int .i64 TO, .int .i64 0, .int .i64 0, .int .i64 0, .int .i64 0, .bool false, .slice none 0 0, .int .i64 0, .int .i64 0, .int .u8 0, .slice none 0 0, .slice none 0 0] 39) := ⟨_, rfl⟩
          have hXY3 : Below X3.heap.size X3 Y3 := by rw [hY3]; exact (Below.refl _ _).alloc (Nat.le_refl _) _
          have g3 := h3.below hXY3
          have HBX3 := HB2.out.trans (hf3.below HB2.out.size HO.out)
          have HB3 := Lib.hid (HBX3.trans (hXY3.mono HBX3.size))
          have C3 := mend_ok (b + 1) b ob v3 _ M1 FR TO Y3 g3 HWay.out
          have HC3 := Lib.hid C3
          clear C3 g3 h3 hf3 hXY3 HBX3 HD2 HB2
          go_upto_region 20 with fail
          change Code.wp _ _ _ _ (X3.alloc (.cells #[.int .i8 0, .int .i64 FR, .int .i64 TO, .int .i64 0, .int .i64 0, .int .i64 0, .int .i64 0, .bool false, .slice none 0 0, .int .i64 0, .int .i64 0, .int .u8 0, .slice none 0 0, .slice none 0 0] 39))
          rw [← hY3]
          clear hY3
          go_wp2_with fail
          go_at_call 20
          refine Calls.mono HC3.out ?_
          rintro e X4 ⟨rfl, h4, hf4⟩
          obtain ⟨M2, hM2⟩ : ∃ M2 : Int × Int → Option Value, M2 = fun y => if y = (FR, TO) then none else M1 y := ⟨_, rfl⟩
          rw [← hM2] at h4
          have hM2' : M2 ((⟨FR, TO, 0, 0, 0, 0, 0, false, 0, 0, 0⟩ : MsE).f, (⟨FR, TO, 0, 0, 0, 0, 0, false, 0, 0, 0⟩ : MsE).t) = none := by rw [hM2]; exact if_pos rfl
          have D4 := deliver_ok (b + 1) b ob v3 _ M2 0 ⟨FR, TO, 0, 0, 0, 0, 0, false, 0, 0, 0⟩ X4 h4 rfl (by rw [hM2']; rfl)
          rw [hM2'] at D4
          have HD4 := Lib.hid D4
          have HB4 := Lib.hid (HB3.out.trans (hf4.below HB3.out.size HO2.out))
          clear D4 h4 hf4 HB3 HC3 hM2 hM2'
          go_wp2_with fail
          go_at_call 17
          refine Calls.mono HD4.out ?_
          rintro e X5 ⟨rfl, v5, h5, hf5⟩
          obtain ⟨Y5, hY5⟩ : ∃ Y, Y = X5.alloc (.cells #[.int .i8 0, .int .i64 FR, .int .i64 TO, .int .i64 0, .int .i64 0, .int .i64 0, .int .i64 0, .bool false, .slice none 0 0, .int .i64 0, .int .i64 0, .int .u8 0, .slice none 0 0, .slice none 0 0] 39) := ⟨_, rfl⟩
          have hXY5 : Below X5.heap.size X5 Y5 := by rw [hY5]; exact (Below.refl _ _).alloc (Nat.le_refl _) _
          have g5 := h5.below hXY5
          have HBX5 := HB4.out.trans (hf5.below HB4.out.size HO.out)
          have HB5 := Lib.hid (HBX5.trans (hXY5.mono HBX5.size))
          have L5 := airLen_any (b + 1) b ob v5 _ M2 Y5 g5
          rw [show (((List.replicate 3 (⟨FR, TO, 0, 0, 0, 0, 0, false, 0, 0, 0⟩ : MsE)).eraseIdx 0).eraseIdx 0).eraseIdx 0 = [] from rfl] at L5
          have HL5 := Lib.hid L5
          clear L5 g5 h5 hf5 hXY5 HBX5 HD4 HB4
          go_upto_region 22 with fail
          change Code.wp _ _ _ _ (X5.alloc (.cells #[.int .i8 0, .int .i64 FR, .int .i64 TO, .int .i64 0, .int .i64 0, .int .i64 0, .int .i64 0, .bool false, .slice none 0 0, .int .i64 0, .int .i64 0, .int .u8 0, .slice none 0 0, .slice none 0 0] 39))
          rw [← hY5]
          clear hY5
          go_wp2_with fail
          go_at_call 11
          refine Calls.mono HL5.out ?_
          rintro e w' ⟨rfl, rfl⟩
          go_wp2_with fail
          go_at_call 8
          refine (airwakes_any _).mono ?_
          rintro e X6 ⟨rfl, hB6⟩
          have HB6 := Lib.hid (HB5.out.trans (hB6.mono HB5.out.size))
          clear hB6
          go_wp2_with fail
          go_ret
          exact ⟨rfl, HB6.out⟩
end Go.Proofs.Ytokhdpokcfkfpaa
