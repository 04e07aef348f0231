/-
  The law SumsBurst, walked.
-/
import Derived.Test.YtmgfdbjcgcmbkaaDoorSm8
import Derived.StillTailTactics
namespace Go.Proofs.YtmgfdbjcgcmbkaaDoor
open Go.RowKit
set_option linter.unusedSimpArgs false
set_option linter.unusedVariables false

theorem or_u32 (a : Nat) (ha : a < 4294967296) : ∃ c : Nat, c < 4294967296 ∧ c % 2 = 1 ∧ bits .or .u32 (a : Int) 1 = (c : Nat) := by
  have h := (bits_nat .u32 32 (by decide) (fun n h0 h1 => wraps_u32 n h0 (by omega)) a 1 (by omega) (by omega)).2
  refine ⟨a ||| 1, Nat.or_lt_two_pow (n := 32) ha (by omega), ?_, h⟩
  rcases Nat.mod_two_eq_zero_or_one (a ||| 1) with h0 | h0
  · exfalso
    have h2 : (a ||| 1).testBit 0 = false := by rw [Nat.testBit_zero, h0]; rfl
    rw [Nat.testBit_or] at h2
    have h3 : (1 : Nat).testBit 0 = true := by decide
    rw [h3, Bool.or_true] at h2
    cases h2
  · exact h0

theorem xor_u8 (a b : Nat) (ha : a < 256) (hb : b < 256) : bits .xor .u8 a b = ((a ^^^ b : Nat) : Int) := by
  have ha' : a % 2 ^ 8 = a := Nat.mod_eq_of_lt ha
  have hb' : b % 2 ^ 8 = b := Nat.mod_eq_of_lt hb
  have hlt : a ^^^ b < 2 ^ 8 := Nat.xor_lt_two_pow (n := 8) ha hb
  have e1 : BitVec.ofInt 8 (a : Int) = BitVec.ofNat 8 a := by simp [BitVec.ofInt_natCast]
  have e2 : BitVec.ofInt 8 (b : Int) = BitVec.ofNat 8 b := by simp [BitVec.ofInt_natCast]
  have h : (BitVec.ofNat 8 a ^^^ BitVec.ofNat 8 b).toNat = a ^^^ b := by rw [BitVec.toNat_xor, BitVec.toNat_ofNat, BitVec.toNat_ofNat, ha', hb']
  show IntKind.u8.wrap ((BitVec.ofInt 8 (a : Int) ^^^ BitVec.ofInt 8 (b : Int)).toNat : Int) = _
  rw [e1, e2, h]
  exact wraps_u8 ((a ^^^ b : Nat) : Int) (by omega) (by omega)
theorem xor_bit (z r : Nat) (hz : z < 256) (hr : r < 8) : bits .xor .u8 (z : Int) ((2 : Int) ^ r % 256) = ((z ^^^ 2 ^ r : Nat) : Int) := by
  have h2 : 2 ^ r < 256 := Nat.pow_lt_pow_right (n := 8) (by omega) hr
  have h3 : ((2 : Int) ^ r % 256) = ((2 ^ r : Nat) : Int) := by
    have h4 : ((2 ^ r : Nat) : Int) = (2 : Int) ^ r := by simp
    rw [← h4]
    obtain ⟨y, hy⟩ : ∃ y, y = 2 ^ r := ⟨_, rfl⟩
    rw [← hy] at h2 ⊢
    omega
  rw [h3]
  exact xor_u8 z (2 ^ r) hz h2

set_option maxRecDepth 100000 in
set_option maxHeartbeats 8000000 in
theorem burst_in (bt at0 : Int) (b0 : 0 ≤ bt) (b1 : bt ≤ 4294967295) (a : Option Addr) (len cap b o : Nat) (X : Nat → Nat) (w : World) (ht : Tab w) (hx : ByIn w a len cap b o X) (h5 : 5 ≤ len) (h6 : len ≤ 20000) :
    Calls Tryd.prog 6 #[.slice a len cap, .int .u32 bt, .int .i64 at0] w fun e w' => e = .returned (.bool true) ∧ Below w.heap.size w w' := by
  have hl := hx.le
  have hm := hx.max
  unfold maxLen at hm
  obtain ⟨i0, hi, hz0, hz1, hz2⟩ := info_parts infoU8'
  have HI := Lib.hid hi
  have HZ0 := Lib.hid hz0
  have HZ1 := Lib.hid hz1
  have HZ2 := Lib.hid hz2
  have HT := Lib.hid ht
  obtain ⟨e0, e1⟩ := hx.at_ (by omega)
  subst e0
  have HX := Lib.hid hx
  obtain ⟨a0, rfl⟩ := Int.eq_ofNat_of_zero_le b0
  obtain ⟨c, hc1, hc2, hor⟩ := or_u32 a0 (by omega)
  obtain ⟨pl, hpl⟩ : ∃ pl, 8 * (len : Int) - 32 = pl := ⟨_, rfl⟩
  have hpl0 : 8 ≤ pl := by omega
  have hpl1 : pl ≤ 160000 := by omega
  obtain ⟨m, hm1⟩ : ∃ m, Int.tmod at0 pl = m := ⟨_, rfl⟩
  have hmb : -pl < m ∧ m < pl := by rw [← hm1]; exact ⟨Int.lt_tmod_of_pos at0 (by omega), Int.tmod_lt_of_pos at0 (by omega)⟩
  obtain ⟨q, hq⟩ : ∃ q : Nat, (m + pl) % pl = (q : Nat) := ⟨((m + pl) % pl).toNat, by have := Int.emod_nonneg (m + pl) (show pl ≠ 0 by omega); omega⟩
  have hqb : (q : Int) < pl := by rw [← hq]; exact Int.emod_lt_of_pos _ (by omega)
  have HPL := Lib.hid hpl
  have hpz : (pl == 0) = false := by rw [beq_eq_false_iff_ne]; omega
  clear ht hx hi hz0 hz1 hz2
  go_enter Tryd.func6, Tryd.ntmps6
  go_wp2_with (at_builtin; refine wpList_append_row _ rfl (.tmp 33) (.tmp 34) 22 rfl 5 i0 _ 1 1 Tryd.underlying22 HI.out HZ0.out HZ1.out HZ2.out rfl (by decide) _ none 0 [] rfl (Row.nil _ _ _) ⟨b, o, none⟩ len cap (rowV X len) rfl (by omega) ?c0 ?c1 (rowV_one X len) ?c3 ?c4 ?_)
  case c0 => rw [rowV_len]; omega
  case c1 =>
    intro j u hu
    have hj : j < len := by have := (List.getElem?_eq_some_iff.1 hu).1; rwa [rowV_len] at this
    rw [rowV_at X len j hj] at hu
    obtain rfl := Option.some.inj hu
    rw [addr_add]
    exact HX.out.cell j hj
  case c3 => unfold maxLen; omega
  case c4 => omega
  intro v' g W3 hrow3 hg3 hob3
  have hg : w.heap.size ≤ g := by omega
  have hB3 : Below w.heap.size w W3 := (Below.refl _ _).grown hg3 (Nat.le_refl _) (fun g e => by cases e)
  obtain ⟨av, cv, rfl, hv1, hv2, hv3⟩ := hrow3.shape
  unfold maxLen at hv2
  have HR3 := Lib.hid hrow3
  have HB3 := Lib.hid hB3
  clear hrow3 hg3 hob3 hB3
  obtain rfl : av = some ⟨g, 0, none⟩ := hv3
  go_wp2_with fail
  go_loopw [9] (fun i wr => ∃ k : Nat, k ≤ 32 ∧ i = .int .i64 k ∧ Row wr (.slice (some ⟨g, 0, none⟩) len cv) (some g) 5 1 len (rowV (flipsN X c q k) len) ∧ Below w.heap.size w wr) (fun i _ => 32 - (intOf i).toNat)
  case atStart => exact ⟨0, Nat.zero_le _, rfl, HR3.out, HB3.out⟩
  case round =>
    obtain ⟨k, hk, rfl, hrow, hB⟩ := hrel
    have HROW := Lib.hid hrow
    have HB := Lib.hid hB
    have HT4 := Lib.hid (HT.out.below hB)
    clear hrow hB
    by_cases hlt : k < 32
    · have d1 : decide ((k : Int) < 32) = true := by simp; omega
      have e4 := (and_u32 (c / 2 ^ k) (Nat.lt_of_le_of_lt (Nat.div_le_self _ _) hc1)).2
      rw [show ((c / 2 ^ k : Nat) : Int) = (c : Int) / 2 ^ k by simp] at e4
      have HF : Hid (flipsN X c q (k + 1) = if c / 2 ^ k % 2 = 1 then flipN (flipsN X c q k) (q + k) else flipsN X c q k) := Lib.hid rfl
      have HC2 := Lib.hid hc2
      have HBD := Lib.hid HX.out.bd
      clear hor hpl hm1 hq hpz hmb hc1 hc2 hpl0 hm hl
      rcases Nat.mod_two_eq_zero_or_one (c / 2 ^ k) with h2 | h2
      · rw [h2] at e4
        have HF2 : Hid (flipsN X c q (k + 1) = flipsN X c q k) := Lib.hid (by rw [HF.out, if_neg (by omega)])
        clear h2
        go_wp2_with fail
        go_roundw
        case rel => exact ⟨k + 1, by omega, by go_num, by rw [HF2.out]; exact HROW.out, HB.out⟩
        case measure => first | (simp [intOf]; done) | (simp [intOf]; omega)
      · rw [h2] at e4
        have HF2 : Hid (flipsN X c q (k + 1) = flipN (flipsN X c q k) (q + k)) := Lib.hid (by rw [HF.out, if_pos h2])
        obtain ⟨Z, hZ⟩ : ∃ Z, Z = flipsN X c q k := ⟨_, rfl⟩
        rw [← hZ] at HF2
        have HROW2 : Hid (Row wr (.slice (some ⟨g, 0, none⟩) len cv) (some g) 5 1 len (rowV Z len)) := Lib.hid (by rw [hZ]; exact HROW.out)
        have hZb : ∀ j, Z j < 256 := fun j => by rw [hZ]; exact flipsN_lt HBD.out c q k j
        obtain ⟨P, hP⟩ : ∃ P, (q : Int) + (k : Int) = P := ⟨_, rfl⟩
        obtain ⟨j, hj⟩ : ∃ j : Nat, P / 8 = (j : Nat) := ⟨(P / 8).toNat, by omega⟩
        obtain ⟨r, hr⟩ : ∃ r : Nat, P % 8 = (r : Nat) := ⟨(P % 8).toNat, by omega⟩
        have hP0 : 0 ≤ P := by omega
        have hP1 : P ≤ 1000000 := by omega
        have hjl : j < len := by have := HPL.out; omega
        have hr8 : r < 8 := by omega
        have hjk : (q + k) / 8 = j := by omega
        have hrk : (q + k) % 8 = r := by omega
        obtain ⟨g', hg', hcell, hfr⟩ := HROW2.out.cell j (by omega)
        obtain rfl := Option.some.inj hg'
        rw [rowV_at Z len j hjl] at hcell
        obtain ⟨z, hz⟩ : ∃ z, z = Z j := ⟨_, rfl⟩
        rw [← hz] at hcell
        have hzb : z < 256 := by rw [hz]; exact hZb j
        have hj2 : IntKind.i64.wrap (P.tdiv 8) = ((j : Nat) : Int) := by rw [Int.tdiv_eq_ediv_of_nonneg hP0, hj]; exact IntWalk.i64_in _ (by omega)
        have hr3 : P.tmod 8 = ((r : Nat) : Int) := by rw [Int.tmod_eq_emod_of_nonneg hP0, hr]
        have hr4 : IntKind.i64.wrap ((r : Nat) : Int) = ((r : Nat) : Int) := IntWalk.i64_in _ (by omega)
        have i1 : (0 : Int) ≤ (j : Int) := by omega
        have i2 : (j : Int) < (len : Int) := by omega
        have HZ := Lib.hid hz
        have HJK := Lib.hid hjk
        have HRK := Lib.hid hrk
        clear h2 hZ hz hjk hrk hg' hZb
        go_wp2_with fail
        go_still_tail 13, (by kernel_rfl)
        change wpList _ _ _ _ _ wr.drew
        go_wp2_with fail
        have hxb := xor_bit z r hzb hr8
        go_roundw
        case rel =>
          refine ⟨k + 1, by omega, by go_num, ?_, (HB.out.setCell (p := ⟨g, j, none⟩) hg _).drew⟩
          rw [hxb, HF2.out, rowV_flip, HJK.out, HRK.out, ← HZ.out]
          exact (HROW2.out.set j _).congr fun _ _ => rfl
        case measure => first | (simp [intOf]; done) | (simp [intOf]; omega)
    · obtain rfl : k = 32 := by omega
      have hne := flips_sum X len c q HX.out.bd hc2 (by omega)
      have hown : ByIn wr (some ⟨g, 0, none⟩) len cv g 0 (flipsN X c q 32) := by
        refine ⟨hv1, by unfold maxLen; omega, fun _ => ⟨rfl, HROW.out.lt⟩, fun j hj => ?_, flipsN_lt HX.out.bd c q 32⟩
        obtain ⟨g', hg', hcell, _⟩ := HROW.out.cell j (by omega)
        obtain rfl := Option.some.inj hg'
        rw [Nat.zero_add, hcell, rowV_at _ _ _ hj]
      have C1 : Hid (Calls Tryd.prog 8 #[.slice (some ⟨g, 0, none⟩) len cv] wr fun e w' => e = .returned (.int .u32 (moreN 0 (flipsN X c q 32) len : Nat)) ∧ wr = w') := Lib.hid (sum_any _ len cv g 0 _ wr HT4.out hown)
      have C2 : Hid (Calls Tryd.prog 8 #[.slice (some ⟨b, o, none⟩) len cap] wr fun e w' => e = .returned (.int .u32 (moreN 0 X len : Nat)) ∧ wr = w') := Lib.hid (sum_any _ len cap b o X wr HT4.out (HX.out.below HB.out))
      obtain ⟨M1, hM1⟩ : ∃ M, M = moreN 0 (flipsN X c q 32) len := ⟨_, rfl⟩
      obtain ⟨M2, hM2⟩ : ∃ M, M = moreN 0 X len := ⟨_, rfl⟩
      rw [← hM1] at C1 hne
      rw [← hM2] at C2 hne
      have d2 : (((M1 : Nat) : Int) != ((M2 : Nat) : Int)) = true := by rw [bne_iff_ne]; omega
      clear hown hM1 hM2 hne hor hpl hm1 hq hpz hmb
      go_wp2_with fail
      go_at_call 8
      refine C1.out.mono ?_
      rintro e w' ⟨rfl, rfl⟩
      go_wp2_with fail
      go_at_call 8
      refine C2.out.mono ?_
      rintro e w' ⟨rfl, rfl⟩
      go_wp2_with (go_at_call 7; refine (mwakes_any _ HT4.out).mono ?_; rintro e WK ⟨rfl, hWK⟩)
      go_ret
      exact ⟨rfl, HB.out.trans (hWK.mono HB.out.size)⟩

set_option maxRecDepth 100000 in
set_option maxHeartbeats 4000000 in
theorem burst_out (bt at0 : Int) (a : Option Addr) (len cap : Nat) (w : World) (ht : Tab w) (hl : len ≤ cap) (hm : cap ≤ maxLen) (h : len < 5 ∨ (5 ≤ len ∧ 20000 < len)) :
    Calls Tryd.prog 6 #[.slice a len cap, .int .u32 bt, .int .i64 at0] w fun e w' => e = .returned (.bool true) ∧ Below w.heap.size w w' := by
  unfold maxLen at hm
  have HT := Lib.hid ht
  clear ht
  rcases h with h | ⟨h1, h2⟩
  · go_enter Tryd.func6, Tryd.ntmps6
    go_wp2_with (go_at_call 7; refine (mwakes_any _ HT.out).mono ?_; rintro e WK ⟨rfl, hWK⟩)
    go_ret
    exact ⟨rfl, hWK⟩
  · go_enter Tryd.func6, Tryd.ntmps6
    go_wp2_with (go_at_call 7; refine (mwakes_any _ HT.out).mono ?_; rintro e WK ⟨rfl, hWK⟩)
    go_ret
    exact ⟨rfl, hWK⟩
theorem sumsBurst_dt (bt at0 : Int) (b0 : 0 ≤ bt) (b1 : bt ≤ 4294967295) (a : Option Addr) (len cap : Nat) (xs : List Dt) (w : World) (h : laidMetH Tryd.prog [("weir/sums.steps", Rows.laid_weir_sums_steps)] w) (hb : SliceFits Tryd.prog w 5 a len cap xs) :
    Calls Tryd.prog 6 #[.slice a len cap, .int .u32 bt, .int .i64 at0] w fun e w' => e = .returned (.bool true) ∧ Below w.heap.size w w' := by
  obtain ⟨b, o, X, hX⟩ := by_cells w hb
  by_cases h5 : len < 5
  · exact burst_out bt at0 a len cap w (tab_of h) hX.le hX.max (.inl h5)
  · by_cases h6 : 20000 < len
    · exact burst_out bt at0 a len cap w (tab_of h) hX.le hX.max (.inr ⟨by omega, h6⟩)
    · exact burst_in bt at0 b0 b1 a len cap b o X w (tab_of h) hX (by omega) (by omega)
end Go.Proofs.YtmgfdbjcgcmbkaaDoor
