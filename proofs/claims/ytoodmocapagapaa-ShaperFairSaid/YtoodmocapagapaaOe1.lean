/-
  Texts of this claim, put together: Pr1, Pr2, Pr3, Pr4, Wa, Wb, Wc, Wd0, We.
-/
import Derived.Test.YtoodmocapagapaaJd1
import Derived.Test.YtoodmocapagapaaJd2
import Derived.Test.YtoodmocapagapaaOa1
import Derived.Test.YtoodmocapagapaaOb1
import Derived.Test.YtoodmocapagapaaOc1
import Derived.Test.YtoodmocapagapaaOd1
import Derived.Deep.DeepFit
import Derived.Laws.StructEq
namespace Go.Proofs.Ytoodmocapagapaa
open Go.RowKit
set_option linter.unusedSimpArgs false
set_option linter.unusedVariables false

theorem or_i64 (x y : Nat) (hx : x < 256) (hy : y < 256) : bits .or .i64 ((x : Int) * 256) (y : Int) = (x : Int) * 256 + (y : Int) :=
  bits_join .i64 63 (by decide) (fun n h0 h1 => IntWalk.i64_in _ (by omega)) 8 _ _ (by omega) (by omega) (by omega) (by omega) (by omega) (by omega)
set_option maxRecDepth 100000 in
set_option maxHeartbeats 16000000 in
theorem rcheck_any (a : Option Addr) (len cap b o : Nat) (X : Nat → Nat) (w : World) (hb : ByIn w a len cap b o X) (hl : len ≤ 1000000) :
    Calls Try.prog 60 #[.slice a len cap] w fun e w' => e = .returned (.int .u16 ((65535 : Int) - (sumN16 X len : Nat))) ∧ w = w' := by
  have HB := Lib.hid hb
  have HL := Lib.hid hl
  have HSL := Lib.hid (sumN16_le X hb.bd len)
  obtain ⟨S, hS⟩ : ∃ S, S = sumN16 X len := ⟨_, rfl⟩
  have HSN := Lib.hid hS
  rw [← hS]
  clear hb hS
  go_enter Try.func60, Try.ntmps60
  go_wp2_with fail
  go_loopw [3, 4, 5] (fun vs vi _ wr => ∃ (j q s : Nat), q = 2 * j ∧ s ≤ 65535 ∧ vs = .int .i64 s ∧ vi = .int .i64 q ∧ ((q ≤ len ∧ s = psumW X j) ∨ (q = len + 1 ∧ s = S)) ∧ wr = w) (fun _ vi _ _ => len + 2 - (intOf vi).toNat)
  case atStart => exact ⟨0, 0, 0, rfl, by omega, rfl, rfl, .inl ⟨by omega, rfl⟩, rfl⟩
  case round =>
    obtain ⟨j, q, s, hq, hs, rfl, rfl, hcase, rfl⟩ := hrel
    have HQ := Lib.hid hq
    have HCA := Lib.hid hcase
    have HSS := Lib.hid hs
    by_cases hlt : q < len
    · obtain ⟨hqs, hsj⟩ : q ≤ len ∧ s = psumW X j := by rcases hcase with h | h; exact h; omega
      have HSJ := Lib.hid hsj
      obtain ⟨e0, e1⟩ := HB.out.at_ (by omega)
      subst e0
      have k0 := HB.out.cell q hlt
      have x0 := HB.out.bd q
      obtain ⟨x, hx⟩ : ∃ x, x = X q := ⟨_, rfl⟩
      rw [← hx] at k0 x0
      have HX := Lib.hid hx
      have d0 : decide ((q : Int) < (len : Int)) = true := decide_eq_true (by omega)
      have d0' : decide (q < len) = true := decide_eq_true hlt
      have b1 : (q < len) = True := eq_true hlt
      have b2 : ((q : Int) < (len : Int)) = True := eq_true (by omega)
      have b3 : ((0 : Int) ≤ (q : Int)) = True := eq_true (by omega)
      have wq : IntKind.i64.wrap ((q : Int) + 1) = (q : Int) + 1 := IntWalk.i64_in _ (by omega)
      have wq2 : IntKind.i64.wrap ((q : Int) + 2) = (q : Int) + 2 := IntWalk.i64_in _ (by omega)
      have wx0 : IntKind.i64.wrap (x : Int) = (x : Int) := IntWalk.i64_in _ (by omega)
      have wx : IntKind.i64.wrap ((x : Int) * 256) = (x : Int) * 256 := IntWalk.i64_in _ (by omega)
      have HLT := Lib.hid hlt
      by_cases h1 : q + 1 < len
      · have k1 := HB.out.cell (q + 1) h1
        have HLT1 := Lib.hid h1
        have y0 := HB.out.bd (q + 1)
        obtain ⟨y, hy⟩ : ∃ y, y = X (q + 1) := ⟨_, rfl⟩
        rw [← hy] at k1 y0
        have hor := or_i64 x y x0 y0
        obtain ⟨Z, hZ⟩ : ∃ Z : Nat, Z = x * 256 + y := ⟨_, rfl⟩
        have hor2 : bits .or .i64 ((x : Int) * 256) (y : Int) = (Z : Int) := by rw [hor, hZ]; omega
        obtain ⟨T, hT⟩ : ∃ T : Nat, T = s + Z := ⟨_, rfl⟩
        have wT : IntKind.i64.wrap ((s : Int) + (Z : Int)) = (T : Int) := (IntWalk.i64_in _ (by omega)).trans (by omega)
        have wT2 : IntKind.i64.wrap ((T : Int) - 65535) = (T : Int) - 65535 := IntWalk.i64_in _ (by omega)
        have HN : Hid (psumW X (j + 1) = carN T ∧ T ≤ 131070) := Lib.hid ⟨by rw [psumW, ← hsj, ← hq, ← hx, ← hy, hT, hZ, Nat.add_assoc], by omega⟩
        have d1 : decide ((q : Int) + 1 < (len : Int)) = true := decide_eq_true (by omega)
        have d1' : decide (q + 1 < len) = true := decide_eq_true h1
        have c1 : (q + 1 < len) = True := eq_true h1
        have c2 : ((q : Int) + 1 < (len : Int)) = True := eq_true (by omega)
        have c3 : ((0 : Int) ≤ (q : Int) + 1) = True := eq_true (by omega)
        clear hor hx hy hT hZ hq hs hcase hqs hsj hlt h1
        by_cases hbig : 65535 < T
        · have d2 : decide ((65535 : Int) < (T : Int)) = true := decide_eq_true (by omega)
          have d2' : decide (65535 < T) = true := decide_eq_true hbig
          have HT : Hid (carN T = T - 65535 ∧ 65535 < T) := Lib.hid ⟨by unfold carN; rw [if_pos hbig], hbig⟩
          clear hbig
          go_wp2_with fail
          go_roundw
          case rel => exact ⟨j + 1, q + 2, T - 65535, by have := HQ.out; omega, by have := HN.out; omega, by have := HT.out.2; congr 1; omega, by go_num, .inl ⟨by have := HLT1.out; omega, by rw [HN.out.1, HT.out.1]⟩, by first | rfl | trivial⟩
          case measure => (have h8 := HLT.out; first | (simp [intOf]; done) | (simp [intOf]; omega))
        · have d2 : decide ((65535 : Int) < (T : Int)) = false := decide_eq_false (by omega)
          have d2' : decide (65535 < T) = false := decide_eq_false hbig
          have HT : Hid (carN T = T) := Lib.hid (by unfold carN; rw [if_neg hbig])
          clear hbig
          go_wp2_with fail
          go_roundw
          case rel => exact ⟨j + 1, q + 2, T, by have := HQ.out; omega, by have h8 := carN_le HN.out.2; rw [HT.out] at h8; exact h8, rfl, by go_num, .inl ⟨by have := HLT1.out; omega, by rw [HN.out.1, HT.out]⟩, by first | rfl | trivial⟩
          case measure => (have h8 := HLT.out; first | (simp [intOf]; done) | (simp [intOf]; omega))
      · have hlen : len = q + 1 := by omega
        obtain ⟨T, hT⟩ : ∃ T : Nat, T = s + x * 256 := ⟨_, rfl⟩
        have wT : IntKind.i64.wrap ((s : Int) + (x : Int) * 256) = (T : Int) := (IntWalk.i64_in _ (by omega)).trans (by omega)
        have wT2 : IntKind.i64.wrap ((T : Int) - 65535) = (T : Int) - 65535 := IntWalk.i64_in _ (by omega)
        have HN : Hid (S = carN T ∧ T ≤ 131070) := Lib.hid ⟨by rw [HSN.out, sumN16, if_neg (by omega), show len / 2 = j by omega, ← hsj, show len - 1 = q by omega, ← hx, hT], by omega⟩
        have d1 : decide ((q : Int) + 1 < (len : Int)) = false := decide_eq_false (by omega)
        have d1' : decide (q + 1 < len) = false := decide_eq_false h1
        have HLE := Lib.hid hlen
        clear hx hT hq hs hcase hqs hsj hlt h1 hlen
        by_cases hbig : 65535 < T
        · have d2 : decide ((65535 : Int) < (T : Int)) = true := decide_eq_true (by omega)
          have d2' : decide (65535 < T) = true := decide_eq_true hbig
          have HT : Hid (carN T = T - 65535 ∧ 65535 < T) := Lib.hid ⟨by unfold carN; rw [if_pos hbig], hbig⟩
          clear hbig
          go_wp2_with fail
          go_roundw
          case rel => exact ⟨j + 1, q + 2, T - 65535, by have := HQ.out; omega, by have := HN.out; omega, by have := HT.out.2; congr 1; omega, by go_num, .inr ⟨by have := HLE.out; omega, by rw [HN.out.1, HT.out.1]⟩, by first | rfl | trivial⟩
          case measure => (have h8 := HLT.out; first | (simp [intOf]; done) | (simp [intOf]; omega))
        · have d2 : decide ((65535 : Int) < (T : Int)) = false := decide_eq_false (by omega)
          have d2' : decide (65535 < T) = false := decide_eq_false hbig
          have HT : Hid (carN T = T) := Lib.hid (by unfold carN; rw [if_neg hbig])
          clear hbig
          go_wp2_with fail
          go_roundw
          case rel => exact ⟨j + 1, q + 2, T, by have := HQ.out; omega, by have h8 := carN_le HN.out.2; rw [HT.out] at h8; exact h8, rfl, by go_num, .inr ⟨by have := HLE.out; omega, by rw [HN.out.1, HT.out]⟩, by first | rfl | trivial⟩
          case measure => (have h8 := HLT.out; first | (simp [intOf]; done) | (simp [intOf]; omega))
    · have d0 : decide ((q : Int) < (len : Int)) = false := decide_eq_false (by omega)
      have d0' : decide (q < len) = false := decide_eq_false hlt
      have HE : Hid (s = S) := Lib.hid (by
        rcases hcase with ⟨h1, h2⟩ | ⟨_, h2⟩
        · have hql : q = len := by omega
          rw [HSN.out, sumN16, if_pos (by omega), h2, show len / 2 = j by omega]
        · exact h2)
      have wu : IntKind.u16.wrap (s : Int) = (s : Int) := by rw [IntKind.wrap_u16]; omega
      have hn := not_u16 s hs
      clear hq hs hcase hlt
      go_wp2_with fail
      go_ret
      exact ⟨by rw [← HE.out]; rfl, rfl⟩
end Go.Proofs.Ytoodmocapagapaa
namespace Go.Proofs.Ytoodmocapagapaa
open Go.RowKit
set_option linter.unusedSimpArgs false
set_option linter.unusedVariables false

theorem alloc_b9 (W : World) (o : Obj) : Below W.heap.size W (W.alloc o) := (Below.refl _ _).alloc (Nat.le_refl _) _
theorem by_grow {W : World} {M : Nat} {ty : TypeId} {v : Value} {ob : Option Nat} {n : Nat} {Y : Nat → Nat} {a : Option Addr} {m c b o : Nat} {X : Nat → Nat} (h : Row W v ob 5 1 n (rowV Y n)) (hO : ∀ g, ob = some g → M ≤ g) (h2 : ByIn W a m c b o X) (hM : M ≤ W.heap.size) (hn : n + m ≤ 1000000) :
    ∃ v' ob' w', (Builtin.append_ #[42, 42] ty #[v, .slice a m c]).run Try.prog W = .ok v' w' ∧ Row w' v' ob' 5 1 (n + m) (rowV (putB Y n X) (n + m)) ∧ (∀ g, ob' = some g → M ≤ g) ∧ Below M W w' ∧ W.grownBy w' ob ∧ (∀ g, ob' = some g → ob = some g ∨ g = W.heap.size) := by
  obtain ⟨i0, hi, hz0, hz1, hz2⟩ := info_parts infoU8'
  by_cases hm : m = 0
  · subst hm
    refine ⟨v, ob, W, run_append_row_zero W 42 ty 5 i0 1 Try.underlying42 hi v ob n (rowV Y n) h a c, ?_, hO, Below.refl _ _, ?_, fun g e => .inl e⟩
    · have e : rowV (putB Y n X) (n + 0) = rowV Y n := rowV_left Y X n
      rw [e]
      exact h
    · exact ⟨rfl, rfl, rfl, Nat.le_refl _, fun i hi hq => rfl⟩
  · obtain ⟨ea, hbl⟩ := h2.at_ (by omega)
    subst ea
    obtain ⟨v', ob', w', hrun, s1, s2, s3⟩ := run_append_row (P := Try.prog) W 42 ty 5 i0 _ 1 1 Try.underlying42 hi hz0 hz1 hz2 rfl (by decide) v ob n (rowV Y n) h ⟨b, o, none⟩ m c (rowV X m) (by omega) (by rw [rowV_len]; omega) (fun j u hu => by
      rw [addr_add]
      have hj : j < m := by have := (List.getElem?_eq_some_iff.1 hu).1; rwa [rowV_len] at this
      rw [rowV_at X m j hj] at hu
      rw [h2.cell j hj, ← hu]) (rowV_one X m) (by unfold maxLen; omega) (by omega)
    refine ⟨v', some ob', w', hrun, by rw [rowV_put]; exact s1, fun g e => ?_, (Below.refl M W).grown s2 hM hO, s2, fun g e => ?_⟩
    · obtain rfl := Option.some.inj e
      rcases s3 with h3 | h3
      · exact hO _ h3
      · omega
    · obtain rfl := Option.some.inj e
      exact s3
theorem head_row (t c n : Nat) : rowV (headB t c n) 8 = [.int .u8 105, .int .u8 (t : Nat), .int .u8 (c : Nat), .int .u8 0, .int .u8 ((n : Int) / 256), .int .u8 ((n : Int) % 256), .int .u8 0, .int .u8 0] := by
  simp [rowV, headB, List.range_succ]
set_option maxRecDepth 100000 in
set_option maxHeartbeats 16000000 in
theorem rbuild_any (num : Int) (t c : Nat) (a : Option Addr) (n ca b o : Nat) (X : Nat → Nat) (w : World) (h1 : ByIn w a n ca b o X) (ht : 1 ≤ t ∧ t ≤ 16) (hc : c ≤ 255) (hn : n ≤ 1492) :
    Calls Try.prog 38 #[.agg #[.int .i64 num, .int .i64 (t : Nat), .int .i64 (c : Nat), .slice a n ca]] w fun e w' => ∃ v ob, e = .returned (.tuple #[v, .int .i64 0]) ∧ Row w' v (some ob) 5 1 (8 + n) (rowV (fixB (putB (headB t c n) 8 X) (65535 - sumN16 (putB (headB t c n) 8 X) (8 + n))) (8 + n)) ∧ w.heap.size ≤ ob ∧ Below w.heap.size w w' := by
  obtain ⟨t1, t2⟩ := ht
  have d1 : decide ((t : Int) < 1) = false := by simp; omega
  have d2 : decide ((16 : Int) < t) = false := by simp; omega
  have d3 : decide ((c : Int) < 0) = false := by simp
  have d4 : decide ((255 : Int) < c) = false := by simp; omega
  have d5 : decide ((1492 : Int) < n) = false := by simp; omega
  have hm := h1.max
  have hl := h1.le
  unfold maxLen at hm
  have HA := Lib.hid h1
  have HN1492 : Hid (n ≤ 1492) := Lib.hid hn
  clear h1
  obtain ⟨N, hN⟩ : ∃ N, N = w.heap.size := ⟨_, rfl⟩
  obtain ⟨W1, hW1⟩ : ∃ W, W = w.alloc (.cells #[.int .i64 num, .int .i64 (t : Nat), .int .i64 (c : Nat), .slice a n ca] 53) := ⟨_, rfl⟩
  have hB1 : Below w.heap.size w W1 := by rw [hW1]; exact alloc_b9 _ _
  have HP1 := Lib.hid (show Blk W1 N #[.int .i64 num, .int .i64 (t : Nat), .int .i64 (c : Nat), .slice a n ca] 53 by rw [hW1, hN]; exact blk_new _ _ _)
  have HB1 := Lib.hid hB1
  have HNN : Hid (w.heap.size = N) := Lib.hid hN.symm
  clear hB1
  have wt8 : IntKind.u8.wrap (t : Int) = (t : Int) := by rw [IntKind.wrap_u8]; omega
  have wc8 : IntKind.u8.wrap (c : Int) = (c : Int) := by rw [IntKind.wrap_u8]; omega
  have wn8 : IntKind.u8.wrap ((n : Int) / 256) = (n : Int) / 256 := by rw [IntKind.wrap_u8]; omega
  have wn9 : IntKind.u8.wrap (n : Int) = (n : Int) % 256 := by rw [IntKind.wrap_u8]
  go_enter Try.func38, Try.ntmps38
  go_upto_region 1 with fail
  rw [← hN, ← hW1]
  clear hN hW1
  have p1 : W1.cell? ⟨N, 1, none⟩ = some (.int .i64 (t : Nat)) := cell_at HP1.out 1
  have p2 : W1.cell? ⟨N, 2, none⟩ = some (.int .i64 (c : Nat)) := cell_at HP1.out 2
  have p3 : W1.cell? ⟨N, 3, none⟩ = some (.slice a n ca) := cell_at HP1.out 3
  go_upto_region 6 with fail
  obtain ⟨NH, hNH⟩ : ∃ N, N = W1.heap.size := ⟨_, rfl⟩
  obtain ⟨W2, hW2⟩ : ∃ W, W = W1.alloc (.cells #[.int .u8 105, .int .u8 (t : Nat), .int .u8 (c : Nat), .int .u8 0, .int .u8 ((n : Int) / 256), .int .u8 ((n : Int) % 256), .int .u8 0, .int .u8 0] 5) := ⟨_, rfl⟩
  have hB2 : Below W1.heap.size W1 W2 := by rw [hW2]; exact alloc_b9 _ _
  have hh : Blk W2 NH #[.int .u8 105, .int .u8 (t : Nat), .int .u8 (c : Nat), .int .u8 0, .int .u8 ((n : Int) / 256), .int .u8 ((n : Int) % 256), .int .u8 0, .int .u8 0] 5 := by rw [hW2, hNH]; exact blk_new _ _ _
  have hrow : Row W2 (.slice (some ⟨NH, 0, none⟩) 8 8) (some NH) 5 1 8 (rowV (headB t c n) 8) := Row.mk hh (Nat.le_refl _) (by unfold maxLen; omega) rfl (by rw [head_row]; rfl)
  have HP2 := Lib.hid (HP1.out.step hB2)
  have HB2 := Lib.hid (HB1.out.trans (hB2.mono HB1.out.size))
  have hNHw : w.heap.size ≤ NH := by rw [hNH]; exact HB1.out.size
  obtain ⟨v3, ob3, W3, hrun3, hr3, ho3, hlo3, hg3, hs3⟩ := by_grow (M := w.heap.size) (ty := 42) hrow (fun g e => by obtain rfl := Option.some.inj e; exact hNHw) (HA.out.below HB2.out) HB2.out.size (by omega)
  have hZ : ∀ j, putB (headB t c n) 8 X j < 256 := head_bd (by omega) (by omega) (by omega) HA.out.bd
  obtain ⟨Z, hZe⟩ : ∃ Z, Z = putB (headB t c n) 8 X := ⟨_, rfl⟩
  rw [← hZe] at hr3 hZ
  obtain ⟨ob, rfl⟩ : ∃ g, ob3 = some g := by
    rcases hr3.cases with ⟨_, _, h, _⟩ | ⟨g, _, _, h, _⟩
    · omega
    · exact ⟨g, h⟩
  obtain ⟨av, cv, rfl, hby⟩ := row_by hr3 hZ
  have HRUN := Lib.hid hrun3
  have HR := Lib.hid hr3
  have HBY := Lib.hid hby
  have HOB := Lib.hid (ho3 ob rfl)
  have HB3 := Lib.hid (HB2.out.trans hlo3)
  have HZE := Lib.hid hZe
  have HS := Lib.hid (sumN16_le Z hZ (8 + n))
  have HZB := Lib.hid hZ
  have p3 : W2.cell? ⟨N, 3, none⟩ = some (.slice a n ca) := cell_at HP2.out 3
  rw [← hNH, ← hW2]
  clear hrun3 hr3 hby ho3 hlo3 hg3 hs3 hZ hZe hrow hh hB2 hNH hW2 hNHw p1 p2 wt8 wc8 wn8 wn9 d1 d2 d3 d4 d5
  go_wp2_with (at_builtin; refine Lib.wpList_append_run _ rfl (.tmp 44) (.tmp 46) 42 42 rfl _ _ rfl rfl _ _ HRUN.out ?_)
  go_at_call 60
  go_fit (rcheck_any _ _ _ _ _ Z _ HBY.out (by have := HN1492.out; omega))
  rintro e W4 ⟨rfl, rfl⟩
  obtain ⟨S, hS⟩ : ∃ S : Nat, (65535 : Int) - (sumN16 Z (8 + n) : Nat) = (S : Nat) := ⟨65535 - sumN16 Z (8 + n), by have := HS.out; omega⟩
  rw [hS]
  have hS9 : S ≤ 65535 := by omega
  obtain ⟨e0, _⟩ := HBY.out.at_ (by omega)
  simp only [Option.getD_some] at e0
  have HSS := Lib.hid hS
  subst e0
  obtain ⟨q6, hq6, hc6, hf6⟩ := HR.out.cell 6 (by omega)
  obtain rfl := Option.some.inj hq6
  obtain ⟨q7, hq7, hc7, hf7⟩ := HR.out.cell 7 (by omega)
  obtain rfl := Option.some.inj hq7
  rw [rowV_at Z (8 + n) 6 (by omega)] at hc6
  rw [rowV_at Z (8 + n) 7 (by omega)] at hc7
  have hlt := HR.out.lt
  have b6 : ((6 : Int) < ((8 + n : Nat) : Int)) = True := eq_true (by omega)
  have b7 : ((7 : Int) < ((8 + n : Nat) : Int)) = True := eq_true (by omega)
  have ws1 : IntKind.u8.wrap ((S : Int) / 256) = ((S / 256 : Nat) : Int) := by rw [IntKind.wrap_u8]; omega
  have ws2 : IntKind.u8.wrap (S : Int) = ((S % 256 : Nat) : Int) := by rw [IntKind.wrap_u8]; omega
  clear hS hq6 hq7 p3
  go_wp2_with fail
  try rw [Exit.noGoto_ret]
  refine bodyPost_ret (v := .tuple #[.slice (some ⟨ob, 0, none⟩) (8 + n) cv, .int .i64 0]) (by simp [results, Try.results38, go_sem]) rfl ⟨_, ob, rfl, ?_, HOB.out, ?_⟩
  · have hr := row_set (row_set HR.out 6 (by omega) (S / 256)) 7 (by omega) (S % 256)
    have e : rowV (fun j => if j = 7 then S % 256 else if j = 6 then S / 256 else Z j) (8 + n) = rowV (fixB Z (65535 - sumN16 Z (8 + n))) (8 + n) := by
      have e2 : S = 65535 - sumN16 Z (8 + n) := by have := HSS.out; have := HS.out; omega
      rw [← e2]
      congr 1
      funext j
      unfold fixB
      by_cases h6 : j = 6
      · subst h6; simp
      · simp [h6]
    rw [← HZE.out, ← e]
    exact hr
  · have := HOB.out
    exact (HB3.out.setCell (p := ⟨ob, 6, none⟩) (by simp only; omega) _).setCell (p := ⟨ob, 7, none⟩) (by simp only; omega) _
set_option maxRecDepth 100000 in
set_option maxHeartbeats 16000000 in
theorem rbuild_bad (num : Int) (t c : Nat) (a : Option Addr) (n ca : Nat) (w : World) (h : t < 1 ∨ 16 < t ∨ 1492 < n) (hc : c ≤ 255) (hn : n ≤ 9223372036854775000) :
    Calls Try.prog 38 #[.agg #[.int .i64 num, .int .i64 (t : Nat), .int .i64 (c : Nat), .slice a n ca]] w fun e w' => ∃ E : Int, e = .returned (.tuple #[.slice none 0 0, .int .i64 E]) ∧ E ≠ 0 ∧ Below w.heap.size w w' := by
  have d3 : decide ((c : Int) < 0) = false := by simp
  have d4 : decide ((255 : Int) < c) = false := by simp; omega
  obtain ⟨N, hN⟩ : ∃ N, N = w.heap.size := ⟨_, rfl⟩
  obtain ⟨W1, hW1⟩ : ∃ W, W = w.alloc (.cells #[.int .i64 num, .int .i64 (t : Nat), .int .i64 (c : Nat), .slice a n ca] 53) := ⟨_, rfl⟩
  have hB1 : Below w.heap.size w W1 := by rw [hW1]; exact alloc_b9 _ _
  have HP1 := Lib.hid (show Blk W1 N #[.int .i64 num, .int .i64 (t : Nat), .int .i64 (c : Nat), .slice a n ca] 53 by rw [hW1, hN]; exact blk_new _ _ _)
  have HB1 := Lib.hid hB1
  have p1 : W1.cell? ⟨N, 1, none⟩ = some (.int .i64 (t : Nat)) := cell_at HP1.out 1
  have p2 : W1.cell? ⟨N, 2, none⟩ = some (.int .i64 (c : Nat)) := cell_at HP1.out 2
  have p3 : W1.cell? ⟨N, 3, none⟩ = some (.slice a n ca) := cell_at HP1.out 3
  have hcs : (decide ((t : Int) < 1) = true) ∨ (decide ((t : Int) < 1) = false ∧ decide ((16 : Int) < t) = true) ∨ (decide ((t : Int) < 1) = false ∧ decide ((16 : Int) < t) = false ∧ decide ((1492 : Int) < n) = true) := by
    by_cases h1 : t < 1
    · exact .inl (decide_eq_true (by omega))
    · by_cases h2 : 16 < t
      · exact .inr (.inl ⟨decide_eq_false (by omega), decide_eq_true (by omega)⟩)
      · exact .inr (.inr ⟨decide_eq_false (by omega), decide_eq_false (by omega), decide_eq_true (by omega)⟩)
  clear h hc hB1
  rcases hcs with d1 | ⟨d1, d2⟩ | ⟨d1, d2, d5⟩
  · go_enter Try.func38, Try.ntmps38
    go_upto_region 1 with fail
    rw [← hN, ← hW1]
    clear hN hW1
    go_wp2_with fail
    try rw [Exit.noGoto_ret]
    exact bodyPost_ret (v := .tuple #[.slice none 0 0, .int .i64 2]) (by simp [results, Try.results38, go_sem]) rfl ⟨2, rfl, by decide, HB1.out⟩
  · go_enter Try.func38, Try.ntmps38
    go_upto_region 1 with fail
    rw [← hN, ← hW1]
    clear hN hW1
    go_wp2_with fail
    try rw [Exit.noGoto_ret]
    exact bodyPost_ret (v := .tuple #[.slice none 0 0, .int .i64 2]) (by simp [results, Try.results38, go_sem]) rfl ⟨2, rfl, by decide, HB1.out⟩
  · go_enter Try.func38, Try.ntmps38
    go_upto_region 1 with fail
    rw [← hN, ← hW1]
    clear hN hW1
    go_wp2_with fail
    try rw [Exit.noGoto_ret]
    exact bodyPost_ret (v := .tuple #[.slice none 0 0, .int .i64 3]) (by simp [results, Try.results38, go_sem]) rfl ⟨3, rfl, by decide, HB1.out⟩
end Go.Proofs.Ytoodmocapagapaa
namespace Go.Proofs.Ytoodmocapagapaa
open Go.RowKit
set_option linter.unusedSimpArgs false
set_option linter.unusedVariables false

theorem str_neq (w : World) (A B : List UInt8) : (binOp .neq 9 (.string ⟨A.toArray⟩) (.string ⟨B.toArray⟩)).run Try.prog w = .ok (.bool (!(A == B))) w := by
  have h : (binOp .neq 9 (.string ⟨A.toArray⟩) (.string ⟨B.toArray⟩)).run Try.prog w = .ok (.bool (!((⟨A.toArray⟩ : ByteArray).toList == (⟨B.toArray⟩ : ByteArray).toList))) w := rfl
  rw [h, ByteArray.toList_eq, ByteArray.toList_eq]
theorem sizeBy : ∀ W : World, (sizeOf (Try.prog.elem 42)).run Try.prog W = .ok 1 W := fun W => by kernel_rfl
theorem elemBy : Try.prog.underlying 42 = some (.slice (Try.prog.elem 42)) := by kernel_rfl
def tail8 (a : Option Addr) (c : Nat) : Option Addr := if c = 8 then a else a.map (·.add (8 * 1))
theorem by_tail {W : World} {a : Option Addr} {n c b o : Nat} {X : Nat → Nat} (h : ByIn W a n c b o X) (h8 : 8 ≤ n) :
    (∀ W' : World, (Instr.slice 42 (.slice a n c) (some (.int .i64 8)) none none).run Try.prog W' = .ok (.slice (tail8 a c) (n - 8) (c - 8)) W') ∧ ByIn W (tail8 a c) (n - 8) (c - 8) b (o + 8) (fun j => X (8 + j)) := by
  refine ⟨fun W' => ?_, ?_⟩
  · rw [run_slice_l W' 42 a n c elemBy .i64 8 (by omega) (by omega), sizeBy]
    rfl
  · have hl := h.le
    have hm := h.max
    obtain ⟨ea, hb⟩ := h.at_ (by omega)
    refine ⟨by omega, by omega, fun h0 => ⟨?_, hb⟩, fun k hk => ?_, fun k => h.bd _⟩
    · unfold tail8
      rw [if_neg (by omega), ea]
      show some ((⟨b, o, none⟩ : Addr).add (8 * 1)) = _
      rw [addr_add]
    · rw [Nat.add_assoc]
      exact h.cell (8 + k) (by omega)
theorem ByIn.fr {W W' : World} {a : Option Addr} {n c b o : Nat} {X : Nat → Nat} (h : ByIn W a n c b o X) {l : List Nat} (hf : Fr l W W') (hn : 0 < n → b ∉ l) : ByIn W' a n c b o X :=
  ⟨h.le, h.max, fun hk => ⟨(h.at_ hk).1, by have := (h.at_ hk).2; have := hf.size; omega⟩, fun k hk => by
    have hb := hf.block b (h.at_ (by omega)).2 (hn (by omega))
    exact (cell_congr hb _).trans (h.cell k hk), h.bd⟩
set_option maxRecDepth 100000 in
set_option maxHeartbeats 16000000 in
theorem rparse_any (a : Option Addr) (n ca b o : Nat) (X : Nat → Nat) (w : World) (h : ByIn w a n ca b o X) (hn : n ≤ 100000) :
    Calls Try.prog 19 #[.slice a n ca] w (ParseP w n X) := by
  have HA := Lib.hid h
  have HN := Lib.hid hn
  clear h
  obtain ⟨N, hN⟩ : ∃ N, N = w.heap.size := ⟨_, rfl⟩
  obtain ⟨W1, hW1⟩ : ∃ W, W = w.alloc (.cells #[.int .i64 0, .int .i64 0, .int .i64 0, .slice none 0 0] 53) := ⟨_, rfl⟩
  have hB1 : Below w.heap.size w W1 := by rw [hW1]; exact alloc_b9 _ _
  have HR1 := Lib.hid (show Blk W1 N #[.int .i64 0, .int .i64 0, .int .i64 0, .slice none 0 0] 53 by rw [hW1, hN]; exact blk_new _ _ _)
  have HB1 := Lib.hid hB1
  have HNN : Hid (w.heap.size = N) := Lib.hid hN.symm
  have HBAD : Hid (parseOk X n = false → ∀ W', Below w.heap.size w W' → ParseP w n X (.returned (.tuple #[.agg #[.int .i64 0, .int .i64 0, .int .i64 0, .slice none 0 0], .int .i64 230])) W') := Lib.hid (fun hp W' hB => ⟨hB, .inl ⟨hp, rfl⟩⟩)
  clear hB1
  by_cases h8 : n < 8
  · have d0 : decide ((n : Int) < 8) = true := decide_eq_true (by omega)
    have HP : Hid (parseOk X n = false) := Lib.hid (by unfold parseOk; rw [decide_eq_false (by omega)]; rfl)
    clear h8 hn
    go_enter Try.func19, Try.ntmps19
    go_upto_region 1 with fail
    rw [← hN, ← hW1]
    clear hN hW1
    have z0 : W1.cell? ⟨N, 0, none⟩ = some (.int .i64 0) := cell_at HR1.out 0
    have z1 : W1.cell? ⟨N, 1, none⟩ = some (.int .i64 0) := cell_at HR1.out 1
    have z2 : W1.cell? ⟨N, 2, none⟩ = some (.int .i64 0) := cell_at HR1.out 2
    have z3 : W1.cell? ⟨N, 3, none⟩ = some (.slice none 0 0) := cell_at HR1.out 3
    have zz : ∀ j, W1.frozen? ⟨N, j, none⟩ = false := fun j => free_at HR1.out j
    have zl : N < W1.heap.size := HR1.out.lt
    obtain ⟨WZ, hWZ⟩ : ∃ W, W = (((W1.setCell ⟨N, 0, none⟩ (.int .i64 0)).setCell ⟨N, 1, none⟩ (.int .i64 0)).setCell ⟨N, 2, none⟩ (.int .i64 0)).setCell ⟨N, 3, none⟩ (.slice none 0 0) := ⟨_, rfl⟩
    have hfz : Fr [N] W1 WZ := by rw [hWZ]; exact ((((Fr.refl _ _).setCell _ (.inl (by simp)) _).setCell _ (.inl (by simp)) _).setCell _ (.inl (by simp)) _).setCell _ (.inl (by simp)) _
    have HBZ := Lib.hid (HB1.out.trans (hfz.below HB1.out.size (by simp; have := HNN.out; omega)))
    have hrz : Blk WZ N #[.int .i64 0, .int .i64 0, .int .i64 0, .slice none 0 0] 53 := by rw [hWZ]; exact (((HR1.out.set 0 _).set 1 _).set 2 _).set 3 _
    have r0 : WZ.cell? ⟨N, 0, none⟩ = some (.int .i64 0) := cell_at hrz 0
    have r1 : WZ.cell? ⟨N, 1, none⟩ = some (.int .i64 0) := cell_at hrz 1
    have r2 : WZ.cell? ⟨N, 2, none⟩ = some (.int .i64 0) := cell_at hrz 2
    have r3 : WZ.cell? ⟨N, 3, none⟩ = some (.slice none 0 0) := cell_at hrz 3
    clear hfz hrz
    go_wp2_with fail
    rw [← hWZ]
    clear hWZ z0 z1 z2 z3 zz zl
    try rw [Exit.noGoto_ret]
    exact bodyPost_ret (v := .tuple #[.agg #[.int .i64 0, .int .i64 0, .int .i64 0, .slice none 0 0], .int .i64 230]) (by simp [results, Try.results19, go_sem, r0, r1, r2, r3]) rfl (HBAD.out HP.out _ HBZ.out)
  have d0 : decide ((n : Int) < 8) = false := decide_eq_false (by omega)
  have H8 : Hid (8 ≤ n) := Lib.hid (by omega)
  obtain ⟨ea, hbl⟩ := HA.out.at_ (by omega)
  subst ea
  have f1 := HA.out.cell 1 (by omega)
  have f2 := HA.out.cell 2 (by omega)
  have x1 := HA.out.bd 1
  have x2 := HA.out.bd 2
  obtain ⟨t, ht⟩ : ∃ t, t = X 1 := ⟨_, rfl⟩
  obtain ⟨c, hc⟩ : ∃ c, c = X 2 := ⟨_, rfl⟩
  rw [← ht] at f1 x1
  rw [← hc] at f2 x2
  have HT := Lib.hid ht
  have HC := Lib.hid hc
  have HX1 : Hid (t < 256 ∧ c < 256) := Lib.hid ⟨x1, x2⟩
  have wt : IntKind.i64.wrap (t : Int) = t := IntWalk.i64_in _ (by omega)
  have wc : IntKind.i64.wrap (c : Int) = c := IntWalk.i64_in _ (by omega)
  have HF : Hid (∀ W', Below w.heap.size w W' → W'.cell? ⟨b, o + 1, none⟩ = some (.int .u8 (t : Nat)) ∧ W'.cell? ⟨b, o + 2, none⟩ = some (.int .u8 (c : Nat))) := Lib.hid (fun W' hB => ⟨(hB.cell (p := ⟨b, o + 1, none⟩) hbl).trans f1, (hB.cell (p := ⟨b, o + 2, none⟩) hbl).trans f2⟩)
  have i1 : ((1 : Int) < (n : Int)) = True := eq_true (by omega)
  have i2 : ((2 : Int) < (n : Int)) = True := eq_true (by omega)
  have j1 : (1 < n) = True := eq_true (by omega)
  have j2 : (2 < n) = True := eq_true (by omega)
  clear ht hc f1 f2 x1 x2 hbl h8 hn
  go_enter Try.func19, Try.ntmps19
  go_upto_region 1 with fail
  rw [← hN, ← hW1]
  clear hN hW1
  go_upto_region 3 with fail
  refine wp_region_held_drew (S := fun X => X.cell? ⟨b, o + 1, none⟩ = some (.int .u8 (t : Nat)) ∧ X.cell? ⟨b, o + 2, none⟩ = some (.int .u8 (c : Nat))) (by kernel_rfl) (HF.out _ HB1.out.drew) (fun hHeld => ?_)
  try simp only [Act.put, List.setIfInBounds_toArray, List.set_cons_zero, List.set_cons_succ]
  ((refine wpAnyH_take (i := 0) (v := ?_) (by (simp only [List.getElem?_toArray, List.getElem?_cons_succ, List.getElem?_cons_zero]); rfl) (by kernel_rfl) (by kernel_rfl) (by kernel_rfl) (by exact fun _ _ _ h => h) (Or.inl ⟨by rfl, ?_⟩) (by assumption) ?_); rotate_left; focus (intro wS hSw; (try dsimp only at hSw); go_simp; first | done | with_reducible rfl); try simp only [Act.put, List.setIfInBounds_toArray, List.set_cons_zero, List.set_cons_succ])
  ((refine wpAnyH_take (i := 1) (v := ?_) (by (simp only [List.getElem?_toArray, List.getElem?_cons_succ, List.getElem?_cons_zero]); rfl) (by kernel_rfl) (by kernel_rfl) (by kernel_rfl) (by exact fun _ _ _ h => h) (Or.inl ⟨by rfl, ?_⟩) (by assumption) ?_); rotate_left; focus (intro wS hSw; (try dsimp only at hSw); go_simp; first | done | with_reducible rfl); try simp only [Act.put, List.setIfInBounds_toArray, List.set_cons_zero, List.set_cons_succ])
  ((refine wpAnyH_take (i := 2) (v := ?_) (by (simp only [List.getElem?_toArray, List.getElem?_cons_succ, List.getElem?_cons_zero]); rfl) (by kernel_rfl) (by kernel_rfl) (by kernel_rfl) (by exact fun _ _ _ h => h) (Or.inl ⟨by rfl, ?_⟩) (by assumption) ?_); rotate_left; focus (intro wS hSw; (try dsimp only at hSw); go_simp; first | done | with_reducible rfl); try simp only [Act.put, List.setIfInBounds_toArray, List.set_cons_zero, List.set_cons_succ])
  ((refine wpAnyH_take (i := 3) (v := ?_) (by (simp only [List.getElem?_toArray, List.getElem?_cons_succ, List.getElem?_cons_zero]); rfl) (by kernel_rfl) (by kernel_rfl) (by kernel_rfl) (by exact fun _ _ _ h => h) (Or.inl ⟨by rfl, ?_⟩) (by assumption) ?_); rotate_left; focus (intro wS hSw; (try dsimp only at hSw); go_simp; first | done | with_reducible rfl); try simp only [Act.put, List.setIfInBounds_toArray, List.set_cons_zero, List.set_cons_succ])
  ((refine wpAnyH_take (i := 4) (v := ?_) (by (simp only [List.getElem?_toArray, List.getElem?_cons_succ, List.getElem?_cons_zero]); rfl) (by kernel_rfl) (by kernel_rfl) (by kernel_rfl) (by exact fun _ _ _ h => h) (Or.inl ⟨by rfl, ?_⟩) (by assumption) ?_); rotate_left; focus (intro wS hSw; (try dsimp only at hSw); go_simp; first | done | with_reducible rfl); try simp only [Act.put, List.setIfInBounds_toArray, List.set_cons_zero, List.set_cons_succ])
  ((refine wpAnyH_take (i := 5) (v := ?_) (by (simp only [List.getElem?_toArray, List.getElem?_cons_succ, List.getElem?_cons_zero]); rfl) (by kernel_rfl) (by kernel_rfl) (by kernel_rfl) (by exact fun _ _ _ h => h) (Or.inl ⟨by rfl, ?_⟩) (by assumption) ?_); rotate_left; focus (intro wS hSw; (try dsimp only at hSw); go_simp; first | done | with_reducible rfl); try simp only [Act.put, List.setIfInBounds_toArray, List.set_cons_zero, List.set_cons_succ])
  ((refine wpAnyH_take (i := 6) (v := ?_) (by (simp only [List.getElem?_toArray, List.getElem?_cons_succ, List.getElem?_cons_zero]); rfl) (by kernel_rfl) (by kernel_rfl) (by kernel_rfl) (by exact fun _ _ _ h => h) (Or.inl ⟨by rfl, ?_⟩) (by assumption) ?_); rotate_left; focus (intro wS hSw; (try dsimp only at hSw); go_simp; first | done | with_reducible rfl); try simp only [Act.put, List.setIfInBounds_toArray, List.set_cons_zero, List.set_cons_succ])
  ((refine wpAnyH_take (i := 7) (v := ?_) (by (simp only [List.getElem?_toArray, List.getElem?_cons_succ, List.getElem?_cons_zero]); rfl) (by kernel_rfl) (by kernel_rfl) (by kernel_rfl) (by exact fun _ _ _ h => h) (Or.inl ⟨by rfl, ?_⟩) (by assumption) ?_); rotate_left; focus (intro wS hSw; (try dsimp only at hSw); go_simp; first | done | with_reducible rfl); try simp only [Act.put, List.setIfInBounds_toArray, List.set_cons_zero, List.set_cons_succ])
  ((refine wpAnyH_take (i := 8) (v := ?_) (by (simp only [List.getElem?_toArray, List.getElem?_cons_succ, List.getElem?_cons_zero]); rfl) (by kernel_rfl) (by kernel_rfl) (by kernel_rfl) (by exact fun _ _ _ h => h) (Or.inl ⟨by rfl, ?_⟩) (by assumption) ?_); rotate_left; focus (intro wS hSw; (try dsimp only at hSw); go_simp; first | done | with_reducible rfl); try simp only [Act.put, List.setIfInBounds_toArray, List.set_cons_zero, List.set_cons_succ])
  refine wpAnyH_ready (rs := [9]) (by kernel_rfl) (by simp) ?_
  refine AllReadyH.cons (by (simp only [List.getElem?_toArray, List.getElem?_cons_succ, List.getElem?_cons_zero]); rfl) (fun K hK => ?_) AllReadyH.nil
  go_simp
  obtain ⟨G, hG⟩ : ∃ N, N = W1.heap.size := ⟨_, rfl⟩
  obtain ⟨W2, hW2⟩ : ∃ W, W = (W1.alloc (.cells #[.int .i64 0, .int .i64 0, .int .i64 0, .slice none 0 0] 53)).drew := ⟨_, rfl⟩
  have hg2 : Blk W2 G #[.int .i64 0, .int .i64 0, .int .i64 0, .slice none 0 0] 53 := by rw [hW2, hG]; exact blk_new W1 _ _
  have hB2 : Below W1.heap.size W1 W2 := by rw [hW2]; exact (alloc_b9 W1 _).drew
  have HG2 := Lib.hid hg2
  have HR2 := Lib.hid (HR1.out.step hB2)
  have HB2 := Lib.hid (HB1.out.trans (hB2.mono HB1.out.size))
  have HGN : Hid (N < G) := Lib.hid (by rw [hG]; exact HR1.out.lt)
  have HGW : Hid (w.heap.size ≤ G) := Lib.hid (by rw [hG]; exact HB1.out.size)
  first | rw [← hG, ← hW2] | rw [← hW2, ← hG]
  (first | refine hK.out _ _ (HF.out _ HB2.out) (fun hHeld => ?_) | refine hK _ _ (HF.out _ HB2.out) (fun hHeld => ?_))
  clear hK K hg2 hB2 hG hW2
  try simp only [Act.put, List.setIfInBounds_toArray, List.set_cons_zero, List.set_cons_succ]
  have g0 : W2.cell? ⟨G, 0, none⟩ = some (.int .i64 0) := cell_at HG2.out 0
  have g1 : W2.cell? ⟨G, 1, none⟩ = some (.int .i64 0) := cell_at HG2.out 1
  have g2 : W2.cell? ⟨G, 2, none⟩ = some (.int .i64 0) := cell_at HG2.out 2
  have g3 : W2.cell? ⟨G, 3, none⟩ = some (.slice none 0 0) := cell_at HG2.out 3
  have gz : ∀ j, W2.frozen? ⟨G, j, none⟩ = false := fun j => free_at HG2.out j
  have gl : G < W2.heap.size := HG2.out.lt
  refine wpAnyH_ready (rs := [10]) (by kernel_rfl) (by simp) ?_
  refine AllReadyH.cons (by (simp only [List.getElem?_toArray, List.getElem?_cons_succ, List.getElem?_cons_zero]); rfl) (fun K hK => ?_) AllReadyH.nil
  generalize hW3' : (((W2.setCell ⟨G, 0, none⟩ (.int .i64 0)).setCell ⟨G, 1, none⟩ (.int .i64 (t : Nat))).setCell ⟨G, 2, none⟩ (.int .i64 (c : Nat))).setCell ⟨G, 3, none⟩ (.slice none 0 0) = W3
  have hW3 := hW3'.symm
  clear hW3'
  have hg3 : Blk W3 G #[.int .i64 0, .int .i64 (t : Nat), .int .i64 (c : Nat), .slice none 0 0] 53 := by rw [hW3]; exact (((HG2.out.set 0 _).set 1 _).set 2 _).set 3 _
  have hf3 : Fr [G] W2 W3 := by rw [hW3]; exact ((((Fr.refl _ _).setCell _ (.inl (by simp)) _).setCell _ (.inl (by simp)) _).setCell _ (.inl (by simp)) _).setCell _ (.inl (by simp)) _
  have HG3 := Lib.hid hg3
  have HR3 := Lib.hid (show Blk W3 N #[.int .i64 0, .int .i64 0, .int .i64 0, .slice none 0 0] 53 from (hf3.block N HR2.out.lt (by simp; have := HGN.out; omega)).trans HR2.out)
  have HB3 := Lib.hid (HB2.out.trans (hf3.below HB2.out.size (by simp; exact HGW.out)))
  go_simp
  rw [← hW3]
  (first | refine hK.out _ _ (HF.out _ HB3.out) (fun hHeld => ?_) | refine hK _ _ (HF.out _ HB3.out) (fun hHeld => ?_))
  clear hK K g0 g1 g2 g3 gz gl hW3 hg3 hf3
  try simp only [Act.put, List.setIfInBounds_toArray, List.set_cons_zero, List.set_cons_succ]
  refine wpAnyH_done (by kernel_rfl) ?_ _
  try simp only [Act.put, List.setIfInBounds_toArray, List.set_cons_zero, List.set_cons_succ]
  go_upto_region 4 with fail
  obtain ⟨htl, hby8⟩ := by_tail (HA.out.below HB3.out) H8.out
  obtain ⟨pa, hpa⟩ : ∃ x, x = tail8 (some ⟨b, o, none⟩) ca := ⟨_, rfl⟩
  obtain ⟨pn, hpn⟩ : ∃ x, x = n - 8 := ⟨_, rfl⟩
  obtain ⟨pc, hpc⟩ : ∃ x, x = ca - 8 := ⟨_, rfl⟩
  rw [← hpa, ← hpn, ← hpc] at htl hby8
  have HPN := Lib.hid hpn
  have HBY8 := Lib.hid hby8
  obtain ⟨v4, ob4, W4, hrun4, hr4, ho4, hlo4, hg4, hs4⟩ := by_grow (W := W3.drew) (M := W3.heap.size) (ty := 42) (Row.nil W3.drew 5 1) (fun g e => by cases e) (hby8.below (W' := W3.drew) (Below.refl _ _).drew) (Nat.le_refl _) (by have := HN.out; omega)
  rw [show (rowV (putB (fun _ => 0) 0 fun j => X (8 + j)) (0 + pn)) = rowV (fun j => X (8 + j)) pn by rw [rowV_put]; simp [rowV], Nat.zero_add] at hr4
  replace hlo4 : Below W3.heap.size W3 W4 := (show Below W3.heap.size W3 W3.drew from (Below.refl _ _).drew).trans hlo4
  obtain ⟨a4, c4, rfl, hby4⟩ := row_by hr4 (fun j => HA.out.bd _)
  have HRUN := Lib.hid hrun4
  have HBY4 := Lib.hid hby4
  have HG4 := Lib.hid (HG3.out.step hlo4)
  have HR4 := Lib.hid (HR3.out.step hlo4)
  have HB4 := Lib.hid (HB3.out.trans (hlo4.mono HB3.out.size))
  have HO4 : Hid (0 < pn → G < ob4.getD 0 ∧ w.heap.size ≤ ob4.getD 0) := Lib.hid (fun h0 => by
    rcases hr4.cases with ⟨_, _, h, _⟩ | ⟨g, _, _, h, _⟩
    · omega
    · rw [h]
      have h1 := ho4 g h
      have h2 := HG3.out.lt
      have h3 := HB3.out.size
      exact ⟨Nat.lt_of_lt_of_le h2 h1, Nat.le_trans h3 h1⟩)
  clear hrun4 hr4 ho4 hlo4 hg4 hs4 hby8 hby4 hpa hpn hpc
  refine wp_region_held_drew (S := fun _ => True) (by kernel_rfl) trivial (fun hHeld => ?_)
  try simp only [Act.put, List.setIfInBounds_toArray, List.set_cons_zero, List.set_cons_succ]
  ((refine wpAnyH_take (i := 0) (v := ?_) (by (simp only [List.getElem?_toArray, List.getElem?_cons_succ, List.getElem?_cons_zero]); rfl) (by kernel_rfl) (by kernel_rfl) (by kernel_rfl) (by exact fun _ _ _ h => h) (Or.inl ⟨by rfl, ?_⟩) (by assumption) ?_); rotate_left; focus (intro wS hSw; (try dsimp only at hSw); go_simp; first | done | with_reducible rfl); try simp only [Act.put, List.setIfInBounds_toArray, List.set_cons_zero, List.set_cons_succ])
  ((refine wpAnyH_take (i := 2) (v := ?_) (by (simp only [List.getElem?_toArray, List.getElem?_cons_succ, List.getElem?_cons_zero]); rfl) (by kernel_rfl) (by kernel_rfl) (by kernel_rfl) (by exact fun _ _ _ h => h) (Or.inl ⟨by rfl, ?_⟩) (by assumption) ?_); rotate_left; focus (intro wS hSw; (try dsimp only at hSw); go_simp; first | done | with_reducible rfl); try simp only [Act.put, List.setIfInBounds_toArray, List.set_cons_zero, List.set_cons_succ])
  ((refine wpAnyH_take (i := 3) (v := ?_) (by (simp only [List.getElem?_toArray, List.getElem?_cons_succ, List.getElem?_cons_zero]); rfl) (by kernel_rfl) (by kernel_rfl) (by kernel_rfl) (by exact fun _ _ _ h => h) (Or.inl ⟨by rfl, ?_⟩) (by assumption) ?_); rotate_left; focus (intro wS hSw; (try dsimp only at hSw); go_simp; first | done | with_reducible rfl); try simp only [Act.put, List.setIfInBounds_toArray, List.set_cons_zero, List.set_cons_succ])
  have g3 : W3.drew.cell? ⟨G, 3, none⟩ = some (.slice none 0 0) := cell_at HG3.out 3
  refine wpAnyH_ready (rs := [1]) (by kernel_rfl) (by simp) ?_
  refine AllReadyH.cons (by (simp only [List.getElem?_toArray, List.getElem?_cons_succ, List.getElem?_cons_zero]); rfl) (fun K hK => ?_) AllReadyH.nil
  go_simp
  (first | refine hK.out _ _ trivial (fun hHeld => ?_) | refine hK _ _ trivial (fun hHeld => ?_))
  clear hK K g3 htl
  try simp only [Act.put, List.setIfInBounds_toArray, List.set_cons_zero, List.set_cons_succ]
  refine wpAnyH_ready (rs := [4]) (by kernel_rfl) (by simp) ?_
  refine AllReadyH.cons (by (simp only [List.getElem?_toArray, List.getElem?_cons_succ, List.getElem?_cons_zero]); rfl) (fun K hK => ?_) AllReadyH.nil
  rw [if_pos (by rfl)]
  refine op_append_run (.tmp 21) (.tmp 23) 42 (by kernel_rfl) (by kernel_rfl) (by kernel_rfl) HRUN.out ?_
  (first | refine hK.out _ _ trivial (fun hHeld => ?_) | refine hK _ _ trivial (fun hHeld => ?_))
  clear hK K HRUN
  try simp only [Act.put, List.setIfInBounds_toArray, List.set_cons_zero, List.set_cons_succ]
  ((refine wpAnyH_take (i := 5) (v := ?_) (by (simp only [List.getElem?_toArray, List.getElem?_cons_succ, List.getElem?_cons_zero]); rfl) (by kernel_rfl) (by kernel_rfl) (by kernel_rfl) (by exact fun _ _ _ h => h) (Or.inl ⟨by rfl, ?_⟩) (by assumption) ?_); rotate_left; focus (intro wS hSw; (try dsimp only at hSw); go_simp; first | done | with_reducible rfl); try simp only [Act.put, List.setIfInBounds_toArray, List.set_cons_zero, List.set_cons_succ])
  have g3 : W4.cell? ⟨G, 3, none⟩ = some (.slice none 0 0) := cell_at HG4.out 3
  have gz : ∀ j, W4.frozen? ⟨G, j, none⟩ = false := fun j => free_at HG4.out j
  have gl : G < W4.heap.size := HG4.out.lt
  refine wpAnyH_ready (rs := [6]) (by kernel_rfl) (by simp) ?_
  refine AllReadyH.cons (by (simp only [List.getElem?_toArray, List.getElem?_cons_succ, List.getElem?_cons_zero]); rfl) (fun K hK => ?_) AllReadyH.nil
  generalize hW5' : W4.setCell ⟨G, 3, none⟩ (.slice a4 pn c4) = W5
  have hW5 := hW5'.symm
  clear hW5'
  have hf5 : Fr [G] W4 W5 := by rw [hW5]; exact (Fr.refl _ _).setCell _ (.inl (by simp)) _
  have HG5 := Lib.hid (show Blk W5 G #[.int .i64 0, .int .i64 (t : Nat), .int .i64 (c : Nat), .slice a4 pn c4] 53 by rw [hW5]; exact HG4.out.set 3 _)
  have HR5 := Lib.hid (show Blk W5 N #[.int .i64 0, .int .i64 0, .int .i64 0, .slice none 0 0] 53 from (hf5.block N HR4.out.lt (by simp; have := HGN.out; omega)).trans HR4.out)
  have HB5 := Lib.hid (HB4.out.trans (hf5.below HB4.out.size (by simp; exact HGW.out)))
  have HBY5 := Lib.hid (HBY4.out.fr hf5 (fun h0 => by simp; have := (HO4.out h0).1; omega))
  go_simp
  rw [← hW5]
  (first | refine hK.out _ _ trivial (fun hHeld => ?_) | refine hK _ _ trivial (fun hHeld => ?_))
  clear hK K g3 gz gl hW5 hf5 HG4 HR4 HB4 HBY4 HG3 HR3 HB3 HG2 HR2 HB2 HBY8
  try simp only [Act.put, List.setIfInBounds_toArray, List.set_cons_zero, List.set_cons_succ]
  refine wpAnyH_done (by kernel_rfl) ?_ _
  try simp only [Act.put, List.setIfInBounds_toArray, List.set_cons_zero, List.set_cons_succ]
  go_upto_region 5 with fail
  have g0 : W5.cell? ⟨G, 0, none⟩ = some (.int .i64 0) := cell_at HG5.out 0
  have g1 : W5.cell? ⟨G, 1, none⟩ = some (.int .i64 (t : Nat)) := cell_at HG5.out 1
  have g2 : W5.cell? ⟨G, 2, none⟩ = some (.int .i64 (c : Nat)) := cell_at HG5.out 2
  have g3 : W5.cell? ⟨G, 3, none⟩ = some (.slice a4 pn c4) := cell_at HG5.out 3
  by_cases hbad : t < 1 ∨ 16 < t ∨ 1492 < pn
  · have HP : Hid (parseOk X n = false) := Lib.hid (by
      unfold parseOk
      rcases hbad with h | h | h
      · rw [decide_eq_false (p := 1 ≤ X 1 ∧ X 1 ≤ 16) (by rw [← HT.out]; omega)]; simp
      · rw [decide_eq_false (p := 1 ≤ X 1 ∧ X 1 ≤ 16) (by rw [← HT.out]; omega)]; simp
      · rw [decide_eq_false (p := 8 ≤ n ∧ n ≤ 1500) (by have := HPN.out; omega)]; rfl)
    have RB := Lib.hid (rbuild_bad 0 t c a4 pn c4 W5 hbad (by have := HX1.out; omega) (by have := HPN.out; have := HN.out; omega))
    clear hbad
    go_wp2_with fail
    go_at_call 38
    go_fit (RB.out)
    rintro e W6 ⟨E, rfl, hE, hB6⟩
    have HR6 := Lib.hid (HR5.out.step hB6)
    have HB6 := Lib.hid (HB5.out.trans (hB6.mono HB5.out.size))
    have dE : ((E : Int) != 0) = true := by simpa using hE
    clear hE hB6 RB g0 g1 g2 g3
    have z0 : W6.cell? ⟨N, 0, none⟩ = some (.int .i64 0) := cell_at HR6.out 0
    have z1 : W6.cell? ⟨N, 1, none⟩ = some (.int .i64 0) := cell_at HR6.out 1
    have z2 : W6.cell? ⟨N, 2, none⟩ = some (.int .i64 0) := cell_at HR6.out 2
    have z3 : W6.cell? ⟨N, 3, none⟩ = some (.slice none 0 0) := cell_at HR6.out 3
    have zz : ∀ j, W6.frozen? ⟨N, j, none⟩ = false := fun j => free_at HR6.out j
    have zl : N < W6.heap.size := HR6.out.lt
    obtain ⟨WZ, hWZ⟩ : ∃ W, W = (((W6.setCell ⟨N, 0, none⟩ (.int .i64 0)).setCell ⟨N, 1, none⟩ (.int .i64 0)).setCell ⟨N, 2, none⟩ (.int .i64 0)).setCell ⟨N, 3, none⟩ (.slice none 0 0) := ⟨_, rfl⟩
    have hfz : Fr [N] W6 WZ := by rw [hWZ]; exact ((((Fr.refl _ _).setCell _ (.inl (by simp)) _).setCell _ (.inl (by simp)) _).setCell _ (.inl (by simp)) _).setCell _ (.inl (by simp)) _
    have HBZ := Lib.hid (HB6.out.trans (hfz.below HB6.out.size (by simp; have := HNN.out; omega)))
    have hrz : Blk WZ N #[.int .i64 0, .int .i64 0, .int .i64 0, .slice none 0 0] 53 := by rw [hWZ]; exact (((HR6.out.set 0 _).set 1 _).set 2 _).set 3 _
    have r0 : WZ.cell? ⟨N, 0, none⟩ = some (.int .i64 0) := cell_at hrz 0
    have r1 : WZ.cell? ⟨N, 1, none⟩ = some (.int .i64 0) := cell_at hrz 1
    have r2 : WZ.cell? ⟨N, 2, none⟩ = some (.int .i64 0) := cell_at hrz 2
    have r3 : WZ.cell? ⟨N, 3, none⟩ = some (.slice none 0 0) := cell_at hrz 3
    clear hfz hrz
    go_wp2_with fail
    rw [← hWZ]
    clear hWZ z0 z1 z2 z3 zz zl
    try rw [Exit.noGoto_ret]
    exact bodyPost_ret (v := .tuple #[.agg #[.int .i64 0, .int .i64 0, .int .i64 0, .slice none 0 0], .int .i64 230]) (by simp [results, Try.results19, go_sem, r0, r1, r2, r3]) rfl (HBAD.out HP.out _ HBZ.out)
  · have htc : 1 ≤ t ∧ t ≤ 16 := by omega
    have hp92 : pn ≤ 1492 := by omega
    have RB := Lib.hid (rbuild_any 0 t c a4 pn c4 (ob4.getD 0) 0 (fun j => X (8 + j)) W5 HBY5.out htc (by have := HX1.out; omega) hp92)
    have hbdZ : ∀ j, (fixB (putB (headB t c pn) 8 fun j => X (8 + j)) (65535 - sumN16 (putB (headB t c pn) 8 fun j => X (8 + j)) (8 + pn))) j < 256 := fun j => fix_bd (head_bd HX1.out.1 HX1.out.2 (by omega) fun j => HA.out.bd _) (by omega) j
    have h8p : 8 + pn = n := by have := HPN.out; have := H8.out; omega
    obtain ⟨q, hq⟩ : ∃ q, q = eqB (againB X n) X n := ⟨_, rfl⟩
    have HPQ : Hid (parseOk X n = q) := Lib.hid (by unfold parseOk; rw [← HT.out, decide_eq_true ⟨H8.out, by omega⟩, decide_eq_true htc, hq]; rfl)
    have hzz : (fixB (putB (headB t c pn) 8 fun j => X (8 + j)) (65535 - sumN16 (putB (headB t c pn) 8 fun j => X (8 + j)) (8 + pn))) = againB X n := by
      rw [againB, ← HT.out, ← HC.out, ← HPN.out, h8p]
    rw [hzz, h8p] at RB
    rw [hzz] at hbdZ
    have HZB := Lib.hid hbdZ
    have HQ := Lib.hid hq
    clear hbad htc hp92 hbdZ h8p hq hzz
    go_wp2_with fail
    go_at_call 38
    go_fit (RB.out)
    rintro e W6 ⟨v6, ob6, rfl, hr6, ho6, hB6⟩
    obtain ⟨a6, c6, rfl, hby6⟩ := row_by hr6 HZB.out
    have HR6 := Lib.hid (HR5.out.step hB6)
    have HG6 := Lib.hid (HG5.out.step hB6)
    have HBY6 := Lib.hid (HBY5.out.below hB6)
    have HB6 := Lib.hid (HB5.out.trans (hB6.mono HB5.out.size))
    have cv1 := hby6.string
    have cv2 := (HA.out.below HB6.out).string
    have hne := str_neq W6 (bytesOf (againB X n) n) (bytesOf X n)
    rw [bytesOf_eq _ _ HZB.out HA.out.bd, show ((n == n) && eqB (againB X n) X n) = q by rw [HQ.out]; simp] at hne
    obtain ⟨S1, hS1⟩ : ∃ S, S = (⟨(bytesOf (againB X n) n).toArray⟩ : ByteArray) := ⟨_, rfl⟩
    obtain ⟨S2, hS2⟩ : ∃ S, S = (⟨(bytesOf X n).toArray⟩ : ByteArray) := ⟨_, rfl⟩
    rw [← hS1] at cv1
    rw [← hS2] at cv2
    have hte : (S1.toList == S2.toList) = q := by rw [hS1, hS2, ByteArray.toList_eq, ByteArray.toList_eq, bytesOf_eq _ _ HZB.out HA.out.bd, HQ.out]; simp
    clear hne
    clear hr6 ho6 hby6 hB6 RB g0 g1 g2 g3 hS1 hS2
    cases q
    · have HP := HPQ
      have z0 : W6.cell? ⟨N, 0, none⟩ = some (.int .i64 0) := cell_at HR6.out 0
      have z1 : W6.cell? ⟨N, 1, none⟩ = some (.int .i64 0) := cell_at HR6.out 1
      have z2 : W6.cell? ⟨N, 2, none⟩ = some (.int .i64 0) := cell_at HR6.out 2
      have z3 : W6.cell? ⟨N, 3, none⟩ = some (.slice none 0 0) := cell_at HR6.out 3
      have zz : ∀ j, W6.frozen? ⟨N, j, none⟩ = false := fun j => free_at HR6.out j
      have zl : N < W6.heap.size := HR6.out.lt
      obtain ⟨WZ, hWZ⟩ : ∃ W, W = (((W6.setCell ⟨N, 0, none⟩ (.int .i64 0)).setCell ⟨N, 1, none⟩ (.int .i64 0)).setCell ⟨N, 2, none⟩ (.int .i64 0)).setCell ⟨N, 3, none⟩ (.slice none 0 0) := ⟨_, rfl⟩
      have hfz : Fr [N] W6 WZ := by rw [hWZ]; exact ((((Fr.refl _ _).setCell _ (.inl (by simp)) _).setCell _ (.inl (by simp)) _).setCell _ (.inl (by simp)) _).setCell _ (.inl (by simp)) _
      have HBZ := Lib.hid (HB6.out.trans (hfz.below HB6.out.size (by simp; have := HNN.out; omega)))
      have hrz : Blk WZ N #[.int .i64 0, .int .i64 0, .int .i64 0, .slice none 0 0] 53 := by rw [hWZ]; exact (((HR6.out.set 0 _).set 1 _).set 2 _).set 3 _
      have r0 : WZ.cell? ⟨N, 0, none⟩ = some (.int .i64 0) := cell_at hrz 0
      have r1 : WZ.cell? ⟨N, 1, none⟩ = some (.int .i64 0) := cell_at hrz 1
      have r2 : WZ.cell? ⟨N, 2, none⟩ = some (.int .i64 0) := cell_at hrz 2
      have r3 : WZ.cell? ⟨N, 3, none⟩ = some (.slice none 0 0) := cell_at hrz 3
      clear hfz hrz
      go_wp2_with fail
      rw [← hWZ]
      clear hWZ z0 z1 z2 z3 zz zl
      try rw [Exit.noGoto_ret]
      exact bodyPost_ret (v := .tuple #[.agg #[.int .i64 0, .int .i64 0, .int .i64 0, .slice none 0 0], .int .i64 230]) (by simp [results, Try.results19, go_sem, r0, r1, r2, r3]) rfl (HBAD.out HP.out _ HBZ.out)
    · have z0 : W6.cell? ⟨N, 0, none⟩ = some (.int .i64 0) := cell_at HR6.out 0
      have z1 : W6.cell? ⟨N, 1, none⟩ = some (.int .i64 0) := cell_at HR6.out 1
      have z2 : W6.cell? ⟨N, 2, none⟩ = some (.int .i64 0) := cell_at HR6.out 2
      have z3 : W6.cell? ⟨N, 3, none⟩ = some (.slice none 0 0) := cell_at HR6.out 3
      have zz : ∀ j, W6.frozen? ⟨N, j, none⟩ = false := fun j => free_at HR6.out j
      have zl : N < W6.heap.size := HR6.out.lt
      have g0 : W6.cell? ⟨G, 0, none⟩ = some (.int .i64 0) := cell_at HG6.out 0
      have g1 : W6.cell? ⟨G, 1, none⟩ = some (.int .i64 (t : Nat)) := cell_at HG6.out 1
      have g2 : W6.cell? ⟨G, 2, none⟩ = some (.int .i64 (c : Nat)) := cell_at HG6.out 2
      have g3 : W6.cell? ⟨G, 3, none⟩ = some (.slice a4 pn c4) := cell_at HG6.out 3
      obtain ⟨WZ, hWZ⟩ : ∃ W, W = (((W6.setCell ⟨N, 0, none⟩ (.int .i64 0)).setCell ⟨N, 1, none⟩ (.int .i64 (t : Nat))).setCell ⟨N, 2, none⟩ (.int .i64 (c : Nat))).setCell ⟨N, 3, none⟩ (.slice a4 pn c4) := ⟨_, rfl⟩
      have hfz : Fr [N] W6 WZ := by rw [hWZ]; exact ((((Fr.refl _ _).setCell _ (.inl (by simp)) _).setCell _ (.inl (by simp)) _).setCell _ (.inl (by simp)) _).setCell _ (.inl (by simp)) _
      have HBZ := Lib.hid (HB6.out.trans (hfz.below HB6.out.size (by simp; have := HNN.out; omega)))
      have HBYZ := Lib.hid (HBY6.out.fr hfz (fun h0 => by simp; have := (HO4.out h0).1; have := HGN.out; omega))
      have hrz : Blk WZ N #[.int .i64 0, .int .i64 (t : Nat), .int .i64 (c : Nat), .slice a4 pn c4] 53 := by rw [hWZ]; exact (((HR6.out.set 0 _).set 1 _).set 2 _).set 3 _
      have r0 : WZ.cell? ⟨N, 0, none⟩ = some (.int .i64 0) := cell_at hrz 0
      have r1 : WZ.cell? ⟨N, 1, none⟩ = some (.int .i64 (t : Nat)) := cell_at hrz 1
      have r2 : WZ.cell? ⟨N, 2, none⟩ = some (.int .i64 (c : Nat)) := cell_at hrz 2
      have r3 : WZ.cell? ⟨N, 3, none⟩ = some (.slice a4 pn c4) := cell_at hrz 3
      clear hfz hrz
      go_wp2_with fail
      rw [← hWZ]
      clear hWZ z0 z1 z2 z3 zz zl
      try rw [Exit.noGoto_ret]
      refine bodyPost_ret (v := .tuple #[.agg #[.int .i64 0, .int .i64 (t : Nat), .int .i64 (c : Nat), .slice a4 pn c4], .int .i64 0]) (by simp [results, Try.results19, go_sem, r0, r1, r2, r3]) rfl ⟨HBZ.out, .inr ⟨HPQ.out, a4, c4, ob4.getD 0, ?_, ?_, ?_⟩⟩
      · rw [HT.out, HC.out, HPN.out]
      · rw [← HPN.out]; exact HBYZ.out
      · intro h0
        exact (HO4.out (by have := HPN.out; omega)).2
end Go.Proofs.Ytoodmocapagapaa
namespace Go.Proofs.Ytoodmocapagapaa
open Go.RowKit
set_option linter.unusedSimpArgs false
set_option linter.unusedVariables false

theorem dN9 (w : World) (n : Nat) : Below w.heap.size w (w.drewN n) := ⟨rfl, rfl, rfl, Nat.le_refl _, fun _ _ => rfl⟩
structure BsE where
  a : Option Addr
  n : Nat
  c : Nat
  b : Nat
  o : Nat
  X : Nat → Nat
structure BsIn (W : World) (a : Option Addr) (len cap b o : Nat) (H : Nat → BsE) : Prop where
  le : len ≤ cap
  max : cap ≤ maxLen
  at_ : 0 < len → a = some ⟨b, o, none⟩ ∧ b < W.heap.size
  cell : ∀ k, k < len → W.cell? ⟨b, o + k, none⟩ = some (.slice (H k).a (H k).n (H k).c)
  by_ : ∀ k, k < len → ByIn W (H k).a (H k).n (H k).c (H k).b (H k).o (H k).X
theorem BsIn.below {W W' : World} {a : Option Addr} {len cap b o : Nat} {H : Nat → BsE} (h : BsIn W a len cap b o H) (hB : Below W.heap.size W W') : BsIn W' a len cap b o H :=
  ⟨h.le, h.max, fun hk => ⟨(h.at_ hk).1, by have := (h.at_ hk).2; have := hB.size; omega⟩, fun k hk => (hB.cell (p := ⟨b, _, none⟩) (h.at_ (by omega)).2).trans (h.cell k hk), fun k hk => (h.by_ k hk).below hB⟩
theorem bs_cells (W : World) {a : Option Addr} {len cap : Nat} {xs : List Dt} (h : SliceFits Try.prog W 42 a len cap xs) : ∃ (b o : Nat) (H : Nat → BsE), BsIn W a len cap b o H := by
  have hc : Try.prog.cellsOf 42 = 1 := by kernel_rfl
  obtain ⟨b, o, h1, h2⟩ := h.spot (by rw [hc]; omega)
  have hex : ∀ k, ∃ q : BsE, k < len → W.cell? ⟨b, o + k, none⟩ = some (.slice q.a q.n q.c) ∧ ByIn W q.a q.n q.c q.b q.o q.X := fun k => by
    by_cases hk : k < len
    · have hl := h.length
      have hx := List.getElem?_eq_getElem (l := xs) (i := k) (by omega)
      obtain ⟨a1, n1, c1, ys, e0, f0⟩ := (h.each k _ hx).1.slice_inv Try.underlying42
      obtain ⟨b1, o1, X1, hX⟩ := by_cells W f0
      have hcell := h2 k _ hx
      rw [e0, hc] at hcell
      exact ⟨⟨a1, n1, c1, b1, o1, X1⟩, fun _ => ⟨by have := hcell 0 _ rfl; rwa [Nat.mul_one] at this, hX⟩⟩
    · exact ⟨⟨none, 0, 0, 0, 0, fun _ => 0⟩, fun h => absurd h hk⟩
  have hg := fun k => Classical.choose_spec (hex k)
  exact ⟨b, o, fun k => Classical.choose (hex k), h.le, h.max, h1, fun k hk => (hg k hk).1, fun k hk => (hg k hk).2⟩
def eqS (A B : BsE) : Bool := A.n == B.n && eqB A.X B.X A.n
structure OkR (nI : Nat) (HI HB : Nat → BsE) (S : Nat → SentE) (FE : Nat → FlowE) (nf i : Nat) : Prop where
  lo : 1 ≤ (S i).pk
  hi : (S i).pk ≤ nI
  eq : eqS (HB i) (HI ((S i).pk.toNat - 1)) = true
  ok : parseOk (HB i).X (HB i).n = true
  f : flowE ((HB i).X 1 : Nat) ((HB i).X 2 : Nat) FE nf = 0
  ten : (S i).ten = ((HB i).X 1 : Nat)
  fl : (S i).fl = flowK ((HB i).X 1 : Nat) ((HB i).X 2 : Nat) FE nf
  sz : (S i).sz = ((HB i).n : Nat)
structure WhP (w : World) (P : Prop) (e : Ending) (w' : World) : Prop where
  ex : ∃ B : Bool, e = .returned (.bool B) ∧ (B = true ↔ P)
  b : Below w.heap.size w w'
def NoD (S : Nat → SentE) (i : Nat) : Prop := ∀ j, j < i → (S j).pk ≠ (S i).pk ∧ ¬ ((S j).fl = (S i).fl ∧ (S i).pk < (S j).pk)
def WOk (nI : Nat) (HI HB : Nat → BsE) (S : Nat → SentE) (FE : Nat → FlowE) (nf no nB : Nat) : Prop := no = nB ∧ ∀ i, i < no → OkR nI HI HB S FE nf i ∧ NoD S i
theorem parse_out {w w' : World} {n : Nat} {X : Nat → Nat} {e : Ending} (h : ParseP w n X e w') : Below w.heap.size w w' ∧ ∃ (t c : Int) (a' : Option Addr) (n' c' : Nat) (E : Int), e = .returned (.tuple #[.agg #[.int .i64 0, .int .i64 t, .int .i64 c, .slice a' n' c'], .int .i64 E]) ∧ ((E = 230 ∧ parseOk X n = false ∧ n' = 0) ∨ (E = 0 ∧ parseOk X n = true ∧ t = (X 1 : Nat) ∧ c = (X 2 : Nat) ∧ n' = n - 8)) := by
  obtain ⟨hB, h⟩ := h
  refine ⟨hB, ?_⟩
  rcases h with ⟨h1, h2⟩ | ⟨h1, a', c', b', h2, _⟩
  · exact ⟨0, 0, none, 0, 0, 230, h2, .inl ⟨rfl, h1, rfl⟩⟩
  · exact ⟨_, _, a', n - 8, c', 0, h2, .inr ⟨rfl, h1, rfl, rfl, rfl⟩⟩
theorem by_eq {W : World} {A B : BsE} (hA : ByIn W A.a A.n A.c A.b A.o A.X) (hB : ByIn W B.a B.n B.c B.b B.o B.X) (h : eqS A B = true) : ByIn W B.a B.n B.c B.b B.o A.X := by
  unfold eqS at h
  simp only [Bool.and_eq_true, beq_iff_eq] at h
  have h2 := (eqB_iff _ _ _).1 h.2
  exact ⟨hB.le, hB.max, hB.at_, fun k hk => by rw [h2 k (by rw [h.1]; exact hk)]; exact hB.cell k hk, hA.bd⟩
set_option maxRecDepth 100000 in
set_option maxHeartbeats 40000000 in
theorem rwhole_any (ia : Option Addr) (nI ic ib io : Nat) (HI : Nat → BsE) (fa : Option Addr) (nf fc fb fo : Nat) (FE : Nat → FlowE) (oa : Option Addr) (no oc ob oo : Nat) (S : Nat → SentE) (ba : Option Addr) (nB bc bb bo : Nat) (HB : Nat → BsE) (w : World)
    (hI : BsIn w ia nI ic ib io HI) (hF : FlowIn w fa nf fc fb fo FE) (hO : SentIn w oa no oc ob oo S) (hB : BsIn w ba nB bc bb bo HB) (l1 : nI ≤ 6000) (l2 : nf ≤ 60) (l3 : no ≤ 6000) (l4 : ∀ k, k < nI → (HI k).n ≤ 60000) (l5 : ∀ k, k < nB → (HB k).n ≤ 60000) :
    Calls Try.prog 17 #[.slice ia nI ic, .slice fa nf fc, .slice oa no oc, .slice ba nB bc] w (WhP w (WOk nI HI HB S FE nf no nB)) := by
  have HHI := Lib.hid hI
  have HHF := Lib.hid hF
  have HHO := Lib.hid hO
  have HHB := Lib.hid hB
  have HL := Lib.hid (show nI ≤ 6000 ∧ nf ≤ 60 ∧ no ≤ 6000 from ⟨l1, l2, l3⟩)
  have HLI := Lib.hid l4
  have HLB := Lib.hid l5
  clear hI hF hO hB l1 l2 l4 l5
  by_cases hne : no = nB
  rotate_left
  · have HNO : Hid (¬ WOk nI HI HB S FE nf no nB) := Lib.hid (fun h => hne h.1)
    have d1 : ((no : Int) != (nB : Int)) = true := by simp; omega
    clear hne
    go_enter Try.func17, Try.ntmps17
    go_wp2_with fail
    try rw [Exit.noGoto_ret]
    go_ret
    exact ⟨⟨false, rfl, (fun h => by cases h), fun h => absurd h HNO.out⟩, Below.refl _ _⟩
  subst hne
  have d1 : ((no : Int) != (no : Int)) = false := by simp
  go_enter Try.func17, Try.ntmps17
  go_wp2_with fail
  go_loopw [9, 10, 11, 12, 13, 14, 15, 16] (fun vi _ _ _ _ _ _ _ wr => ∃ k : Nat, k ≤ no ∧ vi = .int .i64 k ∧ (∀ i, i < k → OkR nI HI HB S FE nf i ∧ NoD S i) ∧ Below w.heap.size w wr) (fun vi _ _ _ _ _ _ _ _ => no - (intOf vi).toNat)
  case atStart => exact ⟨0, Nat.zero_le _, rfl, (fun i h => by omega), Below.refl _ _⟩
  case round =>
    obtain ⟨k, hk, rfl, hok, hBk⟩ := hrel
    have HOK := Lib.hid hok
    have HBK := Lib.hid hBk
    by_cases hlt : k < no
    rotate_left
    · obtain rfl : k = no := by omega
      clear hok hBk hlt
      go_wp2_with fail
      try rw [Exit.noGoto_ret]
      go_ret
      exact ⟨⟨true, rfl, (fun _ => ⟨rfl, HOK.out⟩), fun _ => rfl⟩, HBK.out⟩
    have HLT := Lib.hid hlt
    obtain ⟨ea, hol⟩ := HHO.out.at_ (by omega)
    subst ea
    obtain ⟨eb, hbl⟩ := HHB.out.at_ (by omega)
    subst eb
    have b9 : ((k : Int) < (no : Int)) = True := eq_true (by omega)
    have bk1 : (k < no) = True := eq_true hlt
    have b0 : ((0 : Int) ≤ (k : Int)) = True := eq_true (by omega)
    have wk5 : IntKind.i64.wrap ((k : Int) + 1) = (k : Int) + 1 := IntWalk.i64_in _ (by omega)
    have HSC := Lib.hid (fun (W' : World) (hB' : Below w.heap.size w W') => (HHO.out.below hB').cell k HLT.out)
    have HBC := Lib.hid (fun (W' : World) (hB' : Below w.heap.size w W') => (HHB.out.below hB').cell k HLT.out)
    have HBY := Lib.hid (fun (W' : World) (hB' : Below w.heap.size w W') => (HHB.out.below hB').by_ k HLT.out)
    obtain ⟨Y, hY⟩ : ∃ y, y = HB k := ⟨_, rfl⟩
    rw [← hY] at HBC HBY
    have HYE := Lib.hid hY
    have hly : Y.n ≤ 60000 := by rw [hY]; exact HLB.out k hlt
    have HYN := Lib.hid hly
    obtain ⟨PK, hPK⟩ : ∃ x, x = (S k).pk := ⟨_, rfl⟩
    obtain ⟨TEN, hTEN⟩ : ∃ x, x = (S k).ten := ⟨_, rfl⟩
    obtain ⟨FL, hFL⟩ : ∃ x, x = (S k).fl := ⟨_, rfl⟩
    obtain ⟨SZ, hSZ⟩ : ∃ x, x = (S k).sz := ⟨_, rfl⟩
    rw [← hPK, ← hTEN, ← hFL, ← hSZ] at HSC
    have HPK := Lib.hid hPK
    have HTEN := Lib.hid hTEN
    have HFL := Lib.hid hFL
    have HSZ := Lib.hid hSZ
    have hpb := (HHO.out.bd k hlt).2.2.2.2.2
    rw [← hPK] at hpb
    obtain ⟨-, -, -, -, -, c5⟩ := HSC.out wr hBk
    clear hok hBk hlt hY hPK hTEN hFL hSZ hly hol hbl
    by_cases hlo : PK < 1
    · have HNO : Hid (¬ WOk nI HI HB S FE nf no no) := Lib.hid (fun h => by have := (h.2 k HLT.out).1.lo; rw [← HPK.out] at this; omega)
      have d2 : decide (PK < 1) = true := decide_eq_true hlo
      clear hlo
      go_wp2_with fail
      try rw [Exit.noGoto_ret]
      go_ret
      exact ⟨⟨false, rfl, (fun h => by cases h), fun h => absurd h HNO.out⟩, HBK.out⟩
    by_cases hhi : (nI : Int) < PK
    · have HNO : Hid (¬ WOk nI HI HB S FE nf no no) := Lib.hid (fun h => by have := (h.2 k HLT.out).1.hi; rw [← HPK.out] at this; omega)
      have d2 : decide (PK < 1) = false := decide_eq_false hlo
      have d3 : decide ((nI : Int) < PK) = true := decide_eq_true hhi
      clear hlo hhi
      go_wp2_with fail
      try rw [Exit.noGoto_ret]
      go_ret
      exact ⟨⟨false, rfl, (fun h => by cases h), fun h => absurd h HNO.out⟩, HBK.out⟩
    have d2 : decide (PK < 1) = false := decide_eq_false hlo
    have d3 : decide ((nI : Int) < PK) = false := decide_eq_false hhi
    obtain ⟨P, hP⟩ : ∃ P : Nat, PK = (P : Int) + 1 := ⟨(PK - 1).toNat, by omega⟩
    have hPn : P < nI := by omega
    have wp : IntKind.i64.wrap (PK - 1) = (P : Int) := (IntWalk.i64_in _ (by omega)).trans (by omega)
    have HP := Lib.hid hP
    have HPN := Lib.hid hPn
    obtain ⟨ei, hil⟩ := HHI.out.at_ (by omega)
    subst ei
    have HIC := Lib.hid (fun (W' : World) (hB' : Below w.heap.size w W') => (HHI.out.below hB').cell P HPN.out)
    have hiy := fun (W' : World) (hB' : Below w.heap.size w W') => (HHI.out.below hB').by_ P HPN.out
    obtain ⟨Z, hZ⟩ : ∃ y, y = HI P := ⟨_, rfl⟩
    rw [← hZ] at HIC hiy
    have HZE : Hid (Z = HI ((S k).pk.toNat - 1)) := Lib.hid (by rw [hZ, ← HPK.out, hP]; congr 1)
    have HZN : Hid (Z.n ≤ 60000) := Lib.hid (by rw [hZ]; exact HLI.out P hPn)
    obtain ⟨XP, hxp, hxe⟩ : ∃ XP : Nat → Nat, (∀ W', Below w.heap.size w W' → ByIn W' Z.a Z.n Z.c Z.b Z.o XP) ∧ (eqS Y Z = true → XP = Y.X) := by
      by_cases h : eqS Y Z = true
      · exact ⟨Y.X, fun W' hB' => by_eq (HBY.out W' hB') (hiy W' hB') h, fun _ => rfl⟩
      · exact ⟨Z.X, hiy, fun h2 => absurd h2 h⟩
    have HXP := Lib.hid hxp
    have HXE := Lib.hid hxe
    have HZS : Hid (∀ W', Below w.heap.size w W' → (convert 42 9 (.slice Z.a Z.n Z.c)).run Try.prog W' = .ok (.string ⟨(bytesOf Z.X Z.n).toArray⟩) W') := Lib.hid (fun W' hB' => (hiy W' hB').string)
    have HYS : Hid (∀ W', Below w.heap.size w W' → (convert 42 9 (.slice Y.a Y.n Y.c)).run Try.prog W' = .ok (.string ⟨(bytesOf Y.X Y.n).toArray⟩) W') := Lib.hid (fun W' hB' => (HBY.out W' hB').string)
    have HTE : Hid ((bytesOf Z.X Z.n == bytesOf Y.X Y.n) = eqS Y Z) := Lib.hid (by
      rw [bytesOf_eq _ _ (hiy w (Below.refl _ _)).bd (HBY.out w (Below.refl _ _)).bd]
      unfold eqS
      rw [Bool.eq_iff_iff]
      simp only [Bool.and_eq_true, beq_iff_eq, eqB_iff]
      constructor
      · rintro ⟨h1, h2⟩; exact ⟨h1.symm, fun j hj => (h2 j (by omega)).symm⟩
      · rintro ⟨h1, h2⟩; exact ⟨h1.symm, fun j hj => (h2 j (by omega)).symm⟩)
    have bp1 : (P < nI) = True := eq_true hPn
    have bp2 : ((P : Int) < (nI : Int)) = True := eq_true (by omega)
    have bp0 : ((0 : Int) ≤ (P : Int)) = True := eq_true (by omega)
    have ci := HIC.out wr HBK.out
    clear hlo hhi hP hPn hil hiy hZ hxp hxe
    go_wp2_with fail
    go_at_call 19
    go_fit (rparse_any _ _ _ _ _ XP _ (HXP.out _ HBK.out) (by have := HZN.out; omega))
    rintro e W1 hp
    obtain ⟨hB1, t, c, a', n', c', E, rfl, hE⟩ := parse_out hp
    have HB1 := Lib.hid (HBK.out.trans (hB1.mono HBK.out.size))
    have HE := Lib.hid hE
    obtain ⟨G, hG⟩ : ∃ N, N = W1.heap.size := ⟨_, rfl⟩
    obtain ⟨W2, hW2⟩ : ∃ W, W = W1.alloc (.cells #[.int .i64 0, .int .i64 t, .int .i64 c, .slice a' n' c'] 53) := ⟨_, rfl⟩
    have hB2 : Below W1.heap.size W1 W2 := by rw [hW2]; exact alloc_b9 _ _
    have HG2 := Lib.hid (show Blk W2 G #[.int .i64 0, .int .i64 t, .int .i64 c, .slice a' n' c'] 53 by rw [hW2, hG]; exact blk_new _ _ _)
    have HB2 := Lib.hid (HB1.out.trans (hB2.mono HB1.out.size))
    clear hp hB1 hE hB2 c5 ci
    go_upto_region 11 with fail
    rw [← hG, ← hW2]
    clear hG hW2
    have g0 : W2.cell? ⟨G, 0, none⟩ = some (.int .i64 0) := cell_at HG2.out 0
    have g1 : W2.cell? ⟨G, 1, none⟩ = some (.int .i64 t) := cell_at HG2.out 1
    have g2 : W2.cell? ⟨G, 2, none⟩ = some (.int .i64 c) := cell_at HG2.out 2
    have g3 : W2.cell? ⟨G, 3, none⟩ = some (.slice a' n' c') := cell_at HG2.out 3
    go_wp2_with fail
    go_at_call 37
    go_fit (rflow_any 0 t c a' n' c' fa nf fc fb fo FE _ (HHF.out.below HB2.out) (by have := HL.out; omega))
    rintro e W3 ⟨rfl, hB3⟩
    have HG3 := Lib.hid (HG2.out.step hB3)
    have HB3 := Lib.hid (HB2.out.trans (hB3.mono HB2.out.size))
    obtain ⟨K0, hK0⟩ : ∃ x, x = flowK t c FE nf := ⟨_, rfl⟩
    obtain ⟨F0, hF0⟩ : ∃ x, x = flowE t c FE nf := ⟨_, rfl⟩
    rw [← hK0, ← hF0]
    have HK0 := Lib.hid hK0
    have HF0 := Lib.hid hF0
    clear g0 g1 g2 g3 hB3 hK0 hF0 HG2
    have g1 : W3.cell? ⟨G, 1, none⟩ = some (.int .i64 t) := cell_at HG3.out 1
    obtain ⟨-, -, c2, c3, c4, c5⟩ := HSC.out W3 HB3.out
    have cb := HBC.out W3 HB3.out
    have cvZ := fun m => HZS.out (W3.drewN m) (HB3.out.trans ((dN9 W3 m).mono HB3.out.size))
    have cvY := fun m => HYS.out (W3.drewN m) (HB3.out.trans ((dN9 W3 m).mono HB3.out.size))
    obtain ⟨S1, hS1⟩ : ∃ S, S = (⟨(bytesOf Z.X Z.n).toArray⟩ : ByteArray) := ⟨_, rfl⟩
    obtain ⟨S2, hS2⟩ : ∃ S, S = (⟨(bytesOf Y.X Y.n).toArray⟩ : ByteArray) := ⟨_, rfl⟩
    rw [← hS1] at cvZ
    rw [← hS2] at cvY
    have hte : (S1.toList == S2.toList) = eqS Y Z := by rw [hS1, hS2, ByteArray.toList_eq, ByteArray.toList_eq]; exact HTE.out
    obtain ⟨EQ, hEQ⟩ : ∃ b, b = eqS Y Z := ⟨_, rfl⟩
    rw [← hEQ] at hte
    have HEQ := Lib.hid hEQ
    clear hS1 hS2 hEQ
    go_upto_region 12 with fail
    rcases HE.out with ⟨e1, e2, e3⟩ | ⟨e1, e2, e3, e4, e5⟩
    · subst e1
      have HNO : Hid (¬ WOk nI HI HB S FE nf no no) := Lib.hid (fun h => by
        have h9 := (h.2 k HLT.out).1
        have h10 := h9.eq
        rw [← HZE.out, ← HYE.out] at h10
        have h11 := h9.ok
        rw [← HYE.out] at h11
        rw [HXE.out h10] at e2
        have h12 : Y.n = Z.n := by unfold eqS at h10; simp only [Bool.and_eq_true, beq_iff_eq] at h10; exact h10.1
        rw [← h12, h11] at e2
        cases e2
      )
      clear e2 e3
      (refine wp_region_quiet_lit (by kernel_rfl) (by kernel_rfl) ?_; (repeat (first | go_big_quiet_step (fail) | (refine BigFrame.wpQuiet_skip (by rfl) ?_; try simp only [Act.put, List.setIfInBounds_toArray, List.set_cons_zero, List.set_cons_succ]))); refine wpQuiet_nil ?_; intro _ hw9; obtain ⟨nq, hw8⟩ := hw9; subst hw8)
      go_wp2_with fail
      try rw [Exit.noGoto_ret]
      go_ret
      exact ⟨⟨false, rfl, (fun h => by cases h), fun h => absurd h HNO.out⟩, HB3.out.trans ((dN9 W3 nq).mono HB3.out.size)⟩

    subst e1
    have HXY : Hid (EQ = true → XP = Y.X) := Lib.hid (fun h => HXE.out (by rw [← HEQ.out]; exact h))
    by_cases hf : F0 = 0
    rotate_left
    · have dF : ((F0 : Int) != 0) = true := by simpa using hf
      have HNO : Hid (¬ WOk nI HI HB S FE nf no no) := Lib.hid (fun h => by
        have h9 := (h.2 k HLT.out).1
        have h10 := h9.eq
        rw [← HZE.out, ← HYE.out, ← HEQ.out] at h10
        have h11 := h9.f
        rw [← HYE.out, ← HXY.out h10, ← e3, ← e4, ← HF0.out] at h11
        exact hf h11
      )
      clear hf e2 e3 e4 e5
      (refine wp_region_quiet_lit (by kernel_rfl) (by kernel_rfl) ?_; (repeat (first | go_big_quiet_step (fail) | (refine BigFrame.wpQuiet_skip (by rfl) ?_; try simp only [Act.put, List.setIfInBounds_toArray, List.set_cons_zero, List.set_cons_succ]))); refine wpQuiet_nil ?_; intro _ hw9; obtain ⟨nq, hw8⟩ := hw9; subst hw8)
      go_wp2_with fail
      try rw [Exit.noGoto_ret]
      go_ret
      exact ⟨⟨false, rfl, (fun h => by cases h), fun h => absurd h HNO.out⟩, HB3.out.trans ((dN9 W3 nq).mono HB3.out.size)⟩
    have dF : ((F0 : Int) != 0) = false := by simpa using hf
    cases EQ
    · have HNO : Hid (¬ WOk nI HI HB S FE nf no no) := Lib.hid (fun h => by
        have h9 := (h.2 k HLT.out).1
        have h10 := h9.eq
        rw [← HZE.out, ← HYE.out, ← HEQ.out] at h10
        cases h10
      )
      clear hf e2 e3 e4 e5
      (refine wp_region_quiet_lit (by kernel_rfl) (by kernel_rfl) ?_; (repeat (first | go_big_quiet_step (fail) | (refine BigFrame.wpQuiet_skip (by rfl) ?_; try simp only [Act.put, List.setIfInBounds_toArray, List.set_cons_zero, List.set_cons_succ]))); refine wpQuiet_nil ?_; intro _ hw9; obtain ⟨nq, hw8⟩ := hw9; subst hw8)
      go_wp2_with fail
      try rw [Exit.noGoto_ret]
      go_ret
      exact ⟨⟨false, rfl, (fun h => by cases h), fun h => absurd h HNO.out⟩, HB3.out.trans ((dN9 W3 nq).mono HB3.out.size)⟩
    have hX := HXY.out rfl
    subst hX
    by_cases hten : TEN = t
    rotate_left
    · have dT : ((TEN : Int) != t) = true := by simpa using hten
      have HNO : Hid (¬ WOk nI HI HB S FE nf no no) := Lib.hid (fun h => by
        have h9 := (h.2 k HLT.out).1
        have h11 := h9.ten
        rw [← HYE.out, ← HTEN.out, ← e3] at h11
        exact hten h11
      )
      clear hf hten e2 e3 e4 e5
      (refine wp_region_quiet_lit (by kernel_rfl) (by kernel_rfl) ?_; (repeat (first | go_big_quiet_step (fail) | (refine BigFrame.wpQuiet_skip (by rfl) ?_; try simp only [Act.put, List.setIfInBounds_toArray, List.set_cons_zero, List.set_cons_succ]))); refine wpQuiet_nil ?_; intro _ hw9; obtain ⟨nq, hw8⟩ := hw9; subst hw8)
      go_wp2_with fail
      try rw [Exit.noGoto_ret]
      go_ret
      exact ⟨⟨false, rfl, (fun h => by cases h), fun h => absurd h HNO.out⟩, HB3.out.trans ((dN9 W3 nq).mono HB3.out.size)⟩
    have dT : ((TEN : Int) != t) = false := by simpa using hten
    by_cases hfl : FL = K0
    rotate_left
    · have dL : ((FL : Int) != K0) = true := by simpa using hfl
      have HNO : Hid (¬ WOk nI HI HB S FE nf no no) := Lib.hid (fun h => by
        have h9 := (h.2 k HLT.out).1
        have h11 := h9.fl
        rw [← HYE.out, ← HFL.out, ← e3, ← e4, ← HK0.out] at h11
        exact hfl h11
      )
      clear hf hten hfl e2 e3 e4 e5
      (refine wp_region_quiet_lit (by kernel_rfl) (by kernel_rfl) ?_; (repeat (first | go_big_quiet_step (fail) | (refine BigFrame.wpQuiet_skip (by rfl) ?_; try simp only [Act.put, List.setIfInBounds_toArray, List.set_cons_zero, List.set_cons_succ]))); refine wpQuiet_nil ?_; intro _ hw9; obtain ⟨nq, hw8⟩ := hw9; subst hw8)
      go_wp2_with fail
      try rw [Exit.noGoto_ret]
      go_ret
      exact ⟨⟨false, rfl, (fun h => by cases h), fun h => absurd h HNO.out⟩, HB3.out.trans ((dN9 W3 nq).mono HB3.out.size)⟩
    have dL : ((FL : Int) != K0) = false := by simpa using hfl
    have hYZ : Y.n = Z.n := by have h10 := HEQ.out; unfold eqS at h10; have := h10.symm; simp only [Bool.and_eq_true, beq_iff_eq] at this; exact this.1
    by_cases hsz : SZ = (Z.n : Int)
    rotate_left
    · have dS : ((SZ : Int) != (Z.n : Int)) = true := by simpa using hsz
      have HNO : Hid (¬ WOk nI HI HB S FE nf no no) := Lib.hid (fun h => by
        have h9 := (h.2 k HLT.out).1
        have h11 := h9.sz
        rw [← HYE.out, ← HSZ.out, hYZ] at h11
        exact hsz h11
      )
      clear hf hten hfl hsz hYZ e2 e3 e4 e5
      (refine wp_region_quiet_lit (by kernel_rfl) (by kernel_rfl) ?_; (repeat (first | go_big_quiet_step (fail) | (refine BigFrame.wpQuiet_skip (by rfl) ?_; try simp only [Act.put, List.setIfInBounds_toArray, List.set_cons_zero, List.set_cons_succ]))); refine wpQuiet_nil ?_; intro _ hw9; obtain ⟨nq, hw8⟩ := hw9; subst hw8)
      go_wp2_with fail
      try rw [Exit.noGoto_ret]
      go_ret
      exact ⟨⟨false, rfl, (fun h => by cases h), fun h => absurd h HNO.out⟩, HB3.out.trans ((dN9 W3 nq).mono HB3.out.size)⟩
    have dS : ((SZ : Int) != (Z.n : Int)) = false := by simpa using hsz
    have HOKK : Hid (OkR nI HI HB S FE nf k) := Lib.hid ⟨by rw [← HPK.out, HP.out]; omega, by rw [← HPK.out, HP.out]; have := HPN.out; omega, by rw [← HZE.out, ← HYE.out, ← HEQ.out], by rw [← HYE.out, hYZ]; exact e2, by rw [← HYE.out, ← e3, ← e4, ← HF0.out]; exact hf, by rw [← HYE.out, ← HTEN.out, ← e3]; exact hten, by rw [← HYE.out, ← HFL.out, ← e3, ← e4, ← HK0.out]; exact hfl, by rw [← HYE.out, ← HSZ.out, hYZ]; exact hsz⟩
    have HFK : Hid (FL = K0) := Lib.hid hfl
    clear hf hten hfl hsz hYZ e2 e3 e4 e5
    (refine wp_region_quiet_lit (by kernel_rfl) (by kernel_rfl) ?_; (repeat (first | go_big_quiet_step (fail) | (refine BigFrame.wpQuiet_skip (by rfl) ?_; try simp only [Act.put, List.setIfInBounds_toArray, List.set_cons_zero, List.set_cons_succ]))); refine wpQuiet_nil ?_; intro _ hw9; obtain ⟨nq, hw8⟩ := hw9; subst hw8)
    obtain ⟨W4, hW4⟩ : ∃ X, X = W3.drewN nq := ⟨_, rfl⟩
    rw [← hW4]
    have HB4 : Hid (Below w.heap.size w W4) := Lib.hid (by rw [hW4]; exact HB3.out.trans ((dN9 W3 nq).mono HB3.out.size))
    clear hW4 g1 c2 c3 c4 c5 cb cvZ cvY hte
    go_wp2_with fail
    go_loopw [16] (fun vj wq => ∃ j : Nat, j ≤ k ∧ vj = .int .i64 j ∧ (∀ i, i < j → (S i).pk ≠ PK ∧ ¬ ((S i).fl = K0 ∧ PK < (S i).pk)) ∧ Below w.heap.size w wq) (fun vj _ => k - (intOf vj).toNat)
    case atStart => exact ⟨0, Nat.zero_le _, rfl, (fun i h => by omega), HB4.out⟩
    case round =>
      obtain ⟨j, hj, rfl, hnd, hBj⟩ := hrel
      have HND := Lib.hid hnd
      have HBJ := Lib.hid hBj
      by_cases hlj : j < k
      rotate_left
      · obtain rfl : j = k := by omega
        clear hnd hBj hlj
        go_wp2_with fail
        go_roundw
        case rel => exact ⟨j + 1, by have := HLT.out; omega, by go_num, (fun i hi => by
          by_cases hij : i = j
          · subst hij
            refine ⟨HOKK.out, fun i2 hi2 => ?_⟩
            have := HND.out i2 hi2
            rw [← HPK.out, ← HFL.out, HFK.out]
            exact this
          · exact HOK.out i (by omega)), HBJ.out⟩
        case measure => (have h8 := HLT.out; first | (simp [intOf]; done) | (simp [intOf]; omega))
      obtain ⟨-, -, -, j3, -, j5⟩ := (HHO.out.below hBj).cell j (by have := HLT.out; omega)
      obtain ⟨PJ, hPJ⟩ : ∃ x, x = (S j).pk := ⟨_, rfl⟩
      obtain ⟨FJ, hFJ⟩ : ∃ x, x = (S j).fl := ⟨_, rfl⟩
      rw [← hPJ] at j5
      rw [← hFJ] at j3
      have HPJ := Lib.hid hPJ
      have HFJ := Lib.hid hFJ
      have hjn : j < no := by have := HLT.out; omega
      have m9 : ((j : Int) < (k : Int)) = True := eq_true (by omega)
      have m1 : (j < k) = True := eq_true hlj
      have m2 : (j < no) = True := eq_true hjn
      have m3 : ((j : Int) < (no : Int)) = True := eq_true (by omega)
      have m0 : ((0 : Int) ≤ (j : Int)) = True := eq_true (by omega)
      have mw : IntKind.i64.wrap ((j : Int) + 1) = (j : Int) + 1 := IntWalk.i64_in _ (by have := HL.out; omega)
      have HLJ := Lib.hid hlj
      clear hnd hBj hPJ hFJ hjn hlj
      by_cases hp : PJ = PK
      · have HNO : Hid (¬ WOk nI HI HB S FE nf no no) := Lib.hid (fun h => ((h.2 k HLT.out).2 j HLJ.out).1 (by rw [← HPJ.out, ← HPK.out]; exact hp))
        have q1 : ((PJ : Int) == PK) = true := by simpa using hp
        clear hp
        go_wp2_with fail
        try rw [Exit.noGoto_ret]
        go_ret
        exact ⟨⟨false, rfl, (fun h => by cases h), fun h => absurd h HNO.out⟩, HBJ.out⟩
      have q1 : ((PJ : Int) == PK) = false := by simpa using hp
      have HPP : Hid (PJ ≠ PK) := Lib.hid hp
      clear hp
      by_cases hfj : FJ = K0
      · have q2 : ((FJ : Int) == K0) = true := by simpa using hfj
        by_cases hg : PK < PJ
        · have HNO : Hid (¬ WOk nI HI HB S FE nf no no) := Lib.hid (fun h => ((h.2 k HLT.out).2 j HLJ.out).2 ⟨by rw [← HFJ.out, ← HFL.out, HFK.out]; exact hfj, by rw [← HPJ.out, ← HPK.out]; exact hg⟩)
          have q3 : decide (PK < PJ) = true := decide_eq_true hg
          clear hfj hg
          go_wp2_with fail
          try rw [Exit.noGoto_ret]
          go_ret
          exact ⟨⟨false, rfl, (fun h => by cases h), fun h => absurd h HNO.out⟩, HBJ.out⟩
        have q3 : decide (PK < PJ) = false := decide_eq_false hg
        have HGG : Hid (¬ (FJ = K0 ∧ PK < PJ)) := Lib.hid (fun h => hg h.2)
        clear hfj hg
        go_wp2_with fail
        go_roundw
        case rel => exact ⟨j + 1, by have := HLJ.out; omega, by go_num, (fun i hi => by
          by_cases hij : i = j
          · subst hij; rw [← HPJ.out, ← HFJ.out]; exact ⟨HPP.out, HGG.out⟩
          · exact HND.out i (by omega)), HBJ.out⟩
        case measure => (have h8 := HLJ.out; first | (simp [intOf]; done) | (simp [intOf]; omega))
      · have q2 : ((FJ : Int) == K0) = false := by simpa using hfj
        have HGG : Hid (¬ (FJ = K0 ∧ PK < PJ)) := Lib.hid (fun h => hfj h.1)
        clear hfj
        go_wp2_with fail
        go_roundw
        case rel => exact ⟨j + 1, by have := HLJ.out; omega, by go_num, (fun i hi => by
          by_cases hij : i = j
          · subst hij; rw [← HPJ.out, ← HFJ.out]; exact ⟨HPP.out, HGG.out⟩
          · exact HND.out i (by omega)), HBJ.out⟩
        case measure => (have h8 := HLJ.out; first | (simp [intOf]; done) | (simp [intOf]; omega))
end Go.Proofs.Ytoodmocapagapaa
namespace Go.Proofs.Ytoodmocapagapaa
open Go.RowKit
set_option linter.unusedSimpArgs false
set_option linter.unusedVariables false

theorem sact_inv {W : World} {x : Dt} (h : Fits Try.prog W 44 x) : ∃ (k t v : Int) (a : Option Addr) (n c : Nat) (xs : List Dt), x.cells = [.int .i64 k, .int .i64 t, .int .i64 v, .slice a n c] ∧ (-9223372036854775808 ≤ k ∧ k ≤ 9223372036854775807) ∧ (-9223372036854775808 ≤ t ∧ t ≤ 9223372036854775807) ∧ (-9223372036854775808 ≤ v ∧ v ≤ 9223372036854775807) ∧ (SliceFits Try.prog W 5 a n c xs) := by
  obtain ⟨l0, rfl, hl0, hf0⟩ := h.agg_inv Try.underlying44
  obtain ⟨y0, e0, f0⟩ := hf0 0 _ rfl
  obtain ⟨y1, e1, f1⟩ := hf0 1 _ rfl
  obtain ⟨y2, e2, f2⟩ := hf0 2 _ rfl
  obtain ⟨y3, e3, f3⟩ := hf0 3 _ rfl
  obtain ⟨v0, rfl, g0⟩ := f0.int_inv Try.underlying3
  obtain ⟨v1, rfl, g1⟩ := f1.int_inv Try.underlying3
  obtain ⟨v2, rfl, g2⟩ := f2.int_inv Try.underlying3
  obtain ⟨a, n, c, xs, rfl, g3⟩ := f3.slice_inv Try.underlying42
  match l0, hl0 with
  | [z0, z1, z2, z3], _ =>
    obtain rfl : z0 = _ := by simpa using e0
    obtain rfl : z1 = _ := by simpa using e1
    obtain rfl : z2 = _ := by simpa using e2
    obtain rfl : z3 = _ := by simpa using e3
    exact ⟨v0, v1, v2, a, n, c, xs, rfl, g0, g1, g2, g3⟩
/-- an act, and where its bytes lie -/
structure AtE where
  k : Int
  t : Int
  v : Int
  B : BsE
def AtE.cells (x : AtE) : List Value := [.int .i64 x.k, .int .i64 x.t, .int .i64 x.v, .slice x.B.a x.B.n x.B.c]
structure AtIn (W : World) (a : Option Addr) (len cap b o : Nat) (A : Nat → AtE) : Prop where
  le : len ≤ cap
  max : cap ≤ maxLen
  at_ : 0 < len → a = some ⟨b, o, none⟩ ∧ b < W.heap.size
  cell : ∀ k, k < len → ∀ i, i < 4 → W.cell? ⟨b, o + k * 4 + i, none⟩ = (A k).cells[i]?
  ld : ∀ k, k < len → ByIn W (A k).B.a (A k).B.n (A k).B.c (A k).B.b (A k).B.o (A k).B.X
  bd : ∀ k, k < len → (A k).B.n ≤ 140737488351232
theorem AtIn.below {W W' : World} {a : Option Addr} {len cap b o : Nat} {A : Nat → AtE} (h : AtIn W a len cap b o A) (hB : Below W.heap.size W W') : AtIn W' a len cap b o A :=
  ⟨h.le, h.max, fun hk => ⟨(h.at_ hk).1, by have := (h.at_ hk).2; have := hB.size; omega⟩, fun k hk i hi => (hB.cell (p := ⟨b, _, none⟩) (h.at_ (by omega)).2).trans (h.cell k hk i hi), fun k hk => (h.ld k hk).below hB, h.bd⟩
set_option maxRecDepth 100000 in
set_option maxHeartbeats 1000000 in
theorem sacts_cells (W : World) {a : Option Addr} {len cap : Nat} {xs : List Dt} (h : SliceFits Try.prog W 44 a len cap xs) : ∃ (b o : Nat) (A : Nat → AtE), AtIn W a len cap b o A := by
  have hc : Try.prog.cellsOf 44 = 4 := by kernel_rfl
  have hb : Try.prog.bytesOf 5 = 1 := by kernel_rfl
  obtain ⟨b, o, h1, h2⟩ := h.spot (by rw [hc]; omega)
  have hex : ∀ k, ∃ q : AtE, k < len → (∀ i, i < 4 → W.cell? ⟨b, o + k * 4 + i, none⟩ = q.cells[i]?) ∧ ByIn W q.B.a q.B.n q.B.c q.B.b q.B.o q.B.X ∧ q.B.n ≤ 140737488351232 := fun k => by
    by_cases hk : k < len
    · have hl := h.length
      have hx := List.getElem?_eq_getElem (l := xs) (i := k) (by omega)
      obtain ⟨d, kk, n0, da, dl, dc, ys, hcs, _, _, _, g4⟩ := sact_inv (h.each k _ hx).1
      obtain ⟨db, od, X, hX⟩ := by_cells W g4
      have hs := g4.short
      rw [hb, Nat.mul_one] at hs
      have hcell := h2 k _ hx
      rw [hcs, hc] at hcell
      refine ⟨⟨d, kk, n0, ⟨da, dl, dc, db, od, X⟩⟩, fun _ => ⟨fun i hi => ?_, hX, hs⟩⟩
      rw [Nat.add_assoc]
      match i, hi with
      | 0, _ => exact hcell 0 _ rfl
      | 1, _ => exact hcell 1 _ rfl
      | 2, _ => exact hcell 2 _ rfl
      | 3, _ => exact hcell 3 _ rfl
    · exact ⟨⟨0, 0, 0, ⟨none, 0, 0, 0, 0, fun _ => 0⟩⟩, fun h => absurd h hk⟩
  have hg := fun k => Classical.choose_spec (hex k)
  exact ⟨b, o, fun k => Classical.choose (hex k), h.le, h.max, h1, fun k hk => (hg k hk).1, fun k hk => (hg k hk).2.1, fun k hk => (hg k hk).2.2⟩
def sumA (A : Nat → AtE) : Nat → Nat
  | 0 => 0
  | k + 1 => sumA A k + (A k).B.n
theorem sumA_mono (A : Nat → AtE) {j : Nat} : ∀ {k : Nat}, j ≤ k → sumA A j ≤ sumA A k
  | 0, h => by obtain rfl : j = 0 := by omega
               exact Nat.le_refl _
  | k + 1, h => by
    by_cases e : j = k + 1
    · subst e; exact Nat.le_refl _
    · have := sumA_mono A (by omega : j ≤ k)
      rw [sumA]; omega
/-- what the statements go through -/
def okA (A : Nat → AtE) (n : Nat) : Prop := n ≤ 120 ∧ sumA A n ≤ 20000
theorem okA.le {A : Nat → AtE} {n : Nat} (h : okA A n) {k : Nat} (hk : k < n) : (A k).B.n ≤ 20000 := by
  have h1 := sumA_mono A (by omega : k + 1 ≤ n)
  have h2 := h.2
  rw [sumA] at h1
  omega
structure GrP (W : World) (A : Nat → AtE) (n : Nat) (e : Ending) (w' : World) : Prop where
  ex : ∃ B : Bool, e = .returned (.bool B) ∧ (B = false → okA A n) ∧ Below W.heap.size W w'
set_option maxRecDepth 100000 in
set_option maxHeartbeats 16000000 in
theorem great_any (a : Option Addr) (n c b o : Nat) (A : Nat → AtE) (W : World) (hs : AtIn W a n c b o A) : Calls Try.prog 15 #[.slice a n c] W (GrP W A n) := by
  have m1 := hs.le
  have m2 := hs.max
  unfold maxLen at m2
  have HH := Lib.hid hs
  clear hs
  go_enter Try.func15, Try.ntmps15
  go_wp2_with fail
  go_loopw [3, 4, 7] (fun v3 _ vi wr => ∃ k : Nat, k ≤ n ∧ vi = .int .i64 k ∧ v3 = .int .i64 (sumA A k : Nat) ∧ k ≤ 120 ∧ sumA A k ≤ 20000 ∧ wr = W) (fun _ _ vi _ => n - (intOf vi).toNat)
  case atStart => exact ⟨0, Nat.zero_le _, rfl, rfl, by omega, by simp [sumA], rfl⟩
  case round =>
    obtain ⟨k, hk, rfl, rfl, h120, hsum, rfl⟩ := hrel
    have HSM := Lib.hid (show k ≤ 120 ∧ sumA A k ≤ 20000 from ⟨h120, hsum⟩)
    by_cases hlt : k < n
    rotate_left
    · obtain rfl : k = n := by omega
      clear hlt h120 hsum
      go_wp2_with fail
      try rw [Exit.noGoto_ret]
      go_ret
      exact ⟨⟨false, rfl, fun _ => HSM.out, Below.refl _ _⟩⟩
    obtain ⟨e0, hbl⟩ := HH.out.at_ (by omega)
    subst e0
    have cc := HH.out.cell k hlt 3 (by omega)
    have cc3 : wr.cell? ⟨b, o + k * 4 + 3, none⟩ = some (.slice (A k).B.a (A k).B.n (A k).B.c) := cc
    have hbn := HH.out.bd k hlt
    obtain ⟨sa, hsa⟩ : ∃ x, x = (A k).B.a := ⟨_, rfl⟩
    obtain ⟨sn, hsn⟩ : ∃ x, x = (A k).B.n := ⟨_, rfl⟩
    obtain ⟨sc, hsc⟩ : ∃ x, x = (A k).B.c := ⟨_, rfl⟩
    obtain ⟨su, hsu⟩ : ∃ x, x = sumA A k := ⟨_, rfl⟩
    rw [← hsa, ← hsn, ← hsc] at cc3
    rw [← hsu] at HSM hsum
    rw [← hsn] at hbn
    have HNX : Hid (sumA A (k + 1) = su + sn) := Lib.hid (by rw [sumA, hsu, hsn])
    have HLT := Lib.hid hlt
    have b1 : (k < n) = True := eq_true hlt
    have b2 : ((k : Int) < (n : Int)) = True := eq_true (by omega)
    have b0 : ((0 : Int) ≤ (k : Int)) = True := eq_true (by omega)
    have wk : IntKind.i64.wrap ((k : Int) + 1) = (k : Int) + 1 := IntWalk.i64_in _ (by omega)
    have wv : IntKind.i64.wrap ((su : Int) + (sn : Int)) = (su : Int) + (sn : Int) := IntWalk.i64_in _ (by omega)
    rw [← hsu]
    by_cases hbig : 120 ≤ k ∨ 20000 < su + sn
    · by_cases h1 : 120 ≤ k
      · have d1 : decide ((120 : Int) ≤ (k : Int)) = true := decide_eq_true (by omega)
        have d2 : decide (120 ≤ k) = true := decide_eq_true h1
        clear cc hsa hsn hsc hsu hlt hbig h1 hbn h120 hsum
        go_wp2_with fail
        try rw [Exit.noGoto_ret]
        go_ret
        exact ⟨⟨true, rfl, fun h => (Bool.noConfusion h), Below.refl _ _⟩⟩
      · have d1 : decide ((120 : Int) ≤ (k : Int)) = false := decide_eq_false (by omega)
        have d2 : decide (120 ≤ k) = false := decide_eq_false h1
        have d3 : decide ((20000 : Int) < (su : Int) + (sn : Int)) = true := decide_eq_true (by omega)
        clear cc hsa hsn hsc hsu hlt hbig h1 hbn h120 hsum
        go_wp2_with fail
        try rw [Exit.noGoto_ret]
        go_ret
        exact ⟨⟨true, rfl, fun h => (Bool.noConfusion h), Below.refl _ _⟩⟩
    · have d1 : decide ((120 : Int) ≤ (k : Int)) = false := decide_eq_false (by omega)
      have d2 : decide (120 ≤ k) = false := decide_eq_false (by omega)
      have d3 : decide ((20000 : Int) < (su : Int) + (sn : Int)) = false := decide_eq_false (by omega)
      have HBG : Hid (k + 1 ≤ 120 ∧ su + sn ≤ 20000) := Lib.hid (by omega)
      clear cc hsa hsn hsc hsu hlt hbig hbn h120 hsum
      go_wp2_with fail
      go_roundw
      case rel => exact ⟨k + 1, HLT.out, by go_num, by rw [HNX.out]; simp, HBG.out.1, by rw [HNX.out]; exact HBG.out.2, by trivial⟩
      case measure => (have h8 := HLT.out; first | (simp [intOf]; done) | (simp [intOf]; omega))
end Go.Proofs.Ytoodmocapagapaa
namespace Go.Proofs.Ytoodmocapagapaa
open Go.RowKit
set_option linter.unusedSimpArgs false
set_option linter.unusedVariables false

/-- a packet that came in as its number says, by flow k -/
structure Good (I : List (Nat × (Nat → Nat))) (fl : Nat → FlowE) (n k : Nat) (p : PD) : Prop where
  ex : ∃ (len : Nat) (X : Nat → Nat), I[p.num.toNat - 1]? = some (len, X) ∧ parseOk X len = true ∧ flowE (X 1 : Nat) (X 2 : Nat) fl n = 0 ∧ inK fl n X = k ∧ p.t = (X 1 : Nat) ∧ p.c = (X 2 : Nat) ∧ p.n = len - 8 ∧ p.X = (fun j => X (8 + j)) ∧ ∀ j, X j < 256
  lo : 1 ≤ p.num
theorem Good.hi {I : List (Nat × (Nat → Nat))} {fl : Nat → FlowE} {n k : Nat} {p : PD} (h : Good I fl n k p) : p.num ≤ (I.length : Int) := by
  obtain ⟨len, X, h1, _⟩ := h.ex
  have := (List.getElem?_eq_some_iff.1 h1).1
  have := h.lo
  omega
theorem Good.more {I : List (Nat × (Nat → Nat))} {fl : Nat → FlowE} {n k : Nat} {p : PD} (h : Good I fl n k p) (y : Nat × (Nat → Nat)) : Good (I ++ [y]) fl n k p := by
  obtain ⟨len, X, h1, h2⟩ := h.ex
  have := (List.getElem?_eq_some_iff.1 h1).1
  exact ⟨⟨len, X, by rw [List.getElem?_append_left this]; exact h1, h2⟩, h.lo⟩
theorem Good.one {I : List (Nat × (Nat → Nat))} {fl : Nat → FlowE} {n k k' : Nat} {p p' : PD} (h : Good I fl n k p) (h' : Good I fl n k' p') (e : p.num = p'.num) : k = k' := by
  obtain ⟨len, X, h1, _, _, h4, _⟩ := h.ex
  obtain ⟨len', X', g1, _, _, g4, _⟩ := h'.ex
  rw [e, g1] at h1
  injection h1 with h1
  injection h1 with h1 h2
  subst h2
  exact h4.symm.trans g4
theorem parse_bd {X : Nat → Nat} {len : Nat} (h : parseOk X len = true) : (8 ≤ len ∧ len ≤ 1500) ∧ (1 ≤ X 1 ∧ X 1 ≤ 16) ∧ eqB (againB X len) X len = true := by
  unfold parseOk at h
  simp only [Bool.and_eq_true, decide_eq_true_eq] at h
  exact ⟨h.1, h.2.1, h.2.2⟩
theorem Good.bd {I : List (Nat × (Nat → Nat))} {fl : Nat → FlowE} {n k : Nat} {p : PD} (h : Good I fl n k p) : (1 ≤ p.t ∧ p.t ≤ 16) ∧ p.n ≤ 1492 ∧ (k < n ∧ (fl k).t = p.t) := by
  obtain ⟨len, X, h1, h2, h3, h4, h5, _, h7, _⟩ := h.ex
  obtain ⟨b1, b2, _⟩ := parse_bd h2
  obtain ⟨k', e1, e2, e3⟩ := flow_in h3
  have : k' = k := by rw [← h4]; unfold inK; rw [e1]; rfl
  subst this
  refine ⟨by omega, by omega, e2, by rw [e3, h5]⟩
structure WI (I : List (Nat × (Nat → Nat))) (fl : Nat → FlowE) (n : Nat) (s : SS) (O : List (Nat × PD)) : Prop where
  num : s.num = (I.length : Int)
  q : ∀ k, k < n → ∀ p ∈ s.q k, Good I fl n k p
  o : ∀ x ∈ O, x.1 < n ∧ Good I fl n x.1 x.2
  cnt : totL s.q n + O.length = I.length
  oo : O.Pairwise (fun x y => x.1 = y.1 → x.2.num < y.2.num)
  qq : ∀ k, k < n → (s.q k).Pairwise (fun p p' => p.num < p'.num)
  oq : ∀ x ∈ O, ∀ p ∈ s.q x.1, x.2.num < p.num
theorem totL_push {q : Nat → List PD} {k : Nat} {p : PD} : ∀ {n : Nat}, k < n → totL (upf q k (q k ++ [p])) n = totL q n + 1
  | 0, hk => by omega
  | n + 1, hk => by
    rw [totL, totL]
    by_cases e : k = n
    · subst e
      rw [totL_ge (Nat.le_refl _), upf_at]
      simp
      omega
    · rw [upf_ne _ _ (fun e' => e e'.symm), totL_push (by omega : k < n)]
      omega
theorem WI.same {I : List (Nat × (Nat → Nat))} {fl : Nat → FlowE} {n : Nat} {s s' : SS} {O : List (Nat × PD)} (h : WI I fl n s O) (h1 : s'.q = s.q) (h2 : s'.num = s.num) : WI I fl n s' O :=
  ⟨by rw [h2]; exact h.num, by rw [h1]; exact h.q, h.o, by rw [h1]; exact h.cnt, h.oo, by rw [h1]; exact h.qq, by rw [h1]; exact h.oq⟩
theorem inE_parts {fl : Nat → FlowE} {n : Nat} {s : SS} {X : Nat → Nat} {len : Nat} (h : inE fl n s X len = 0) : parseOk X len = true ∧ flowE (X 1 : Nat) (X 2 : Nat) fl n = 0 := by
  unfold inE at h
  split at h
  · cases h
  · rename_i h1
    split at h
    · rename_i h2; exact absurd h h2
    · rename_i h2
      refine ⟨by simpa using h1, ?_⟩
      by_cases e : flowE (X 1 : Nat) (X 2 : Nat) fl n = 0
      · exact e
      · exact absurd e h2
theorem inK_lt {fl : Nat → FlowE} {n : Nat} {X : Nat → Nat} (h : flowE (X 1 : Nat) (X 2 : Nat) fl n = 0) : inK fl n X < n := by
  obtain ⟨k', e1, e2, e3⟩ := flow_in h
  unfold inK
  rw [e1, Int.toNat_natCast]
  exact e2
theorem WI.in_ {I : List (Nat × (Nat → Nat))} {fl : Nat → FlowE} {n : Nat} {s : SS} {O : List (Nat × PD)} (h : WI I fl n s O) {X : Nat → Nat} {len : Nat} (hX : ∀ j, X j < 256) (he : inE fl n s X len = 0) : WI (I ++ [(len, X)]) fl n (inS fl n s X len) O := by
  obtain ⟨h1, h2⟩ := inE_parts he
  have hk := inK_lt h2
  have hg : Good (I ++ [(len, X)]) fl n (inK fl n X) (inP s X len) := ⟨⟨len, X, by
    have e : (inP s X len).num.toNat - 1 = I.length := by show (s.num + 1).toNat - 1 = _; rw [h.num]; omega
    rw [e, List.getElem?_append_right (Nat.le_refl _), Nat.sub_self]; rfl, h1, h2, rfl, rfl, rfl, rfl, rfl, hX⟩, by show 1 ≤ s.num + 1; rw [h.num]; omega⟩
  have hlt : ∀ k p, Good I fl n k p → p.num < (inP s X len).num := fun k p hp => by have := hp.hi; show p.num < s.num + 1; rw [h.num]; omega
  unfold inS
  rw [if_pos he]
  refine ⟨by show s.num + 1 = _; rw [h.num]; simp, fun k hk' p hp => ?_, fun x hx => ⟨(h.o x hx).1, (h.o x hx).2.more _⟩, by show totL (upf s.q _ _) n + _ = _; rw [totL_push hk]; have := h.cnt; simp; omega, h.oo, fun k hk' => ?_, fun x hx p hp => ?_⟩
  · show Good _ fl n k p
    have hp' : p ∈ upf s.q (inK fl n X) (s.q (inK fl n X) ++ [inP s X len]) k := hp
    by_cases e : k = inK fl n X
    · subst e
      rw [upf_at] at hp'
      rcases List.mem_append.1 hp' with hp' | hp'
      · exact (h.q _ hk' p hp').more _
      · obtain rfl : p = inP s X len := by simpa using hp'
        exact hg
    · rw [upf_ne _ _ e] at hp'
      exact (h.q k hk' p hp').more _
  · show (upf s.q (inK fl n X) (s.q (inK fl n X) ++ [inP s X len]) k).Pairwise _
    by_cases e : k = inK fl n X
    · subst e
      rw [upf_at, List.pairwise_append]
      refine ⟨h.qq _ hk', List.pairwise_singleton _ _, fun p hp p' hp' => ?_⟩
      obtain rfl : p' = inP s X len := by simpa using hp'
      exact hlt _ p (h.q _ hk' p hp)
    · rw [upf_ne _ _ e]
      exact h.qq k hk'
  · have hp' : p ∈ upf s.q (inK fl n X) (s.q (inK fl n X) ++ [inP s X len]) x.1 := hp
    by_cases e : x.1 = inK fl n X
    · rw [e, upf_at] at hp'
      rcases List.mem_append.1 hp' with hp' | hp'
      · exact h.oq x hx p (by rw [e]; exact hp')
      · obtain rfl : p = inP s X len := by simpa using hp'
        exact hlt _ _ (h.o x hx).2
    · rw [upf_ne _ _ e] at hp'
      exact h.oq x hx p hp'
def tokAfter : (Nat → Int) → List (Nat × PD) → (Nat → Int)
  | tok, [] => tok
  | tok, x :: r => tokAfter (upf tok x.2.t.toNat (tok x.2.t.toNat - x.2.sz)) r
def canPay : (Nat → Int) → List (Nat × PD) → Prop
  | _, [] => True
  | tok, x :: r => (1 ≤ x.2.t ∧ x.2.t ≤ 16) ∧ x.2.sz ≤ tok x.2.t.toNat ∧ canPay (upf tok x.2.t.toNat (tok x.2.t.toNat - x.2.sz)) r
theorem wi_let {I : List (Nat × (Nat → Nat))} {fl : Nat → FlowE} {n : Nat} {s : SS} {O : List (Nat × PD)} (h : WI I fl n s O) {k : Nat} (hk : k < n) {p : PD} {r : List PD} (hq : s.q k = p :: r) (f' : FS) : WI I fl n (letS s f' k p r) (O ++ [(k, p)]) := by
  have hqk := h.qq k hk
  rw [hq] at hqk
  have hsub : ∀ k' p', p' ∈ upf s.q k r k' → p' ∈ s.q k' := fun k' p' hp' => by
    by_cases e : k' = k
    · subst e; rw [upf_at] at hp'; rw [hq]; exact List.mem_cons_of_mem _ hp'
    · rw [upf_ne _ _ e] at hp'; exact hp'
  refine ⟨h.num, fun k' hk' p' hp' => h.q k' hk' p' (hsub k' p' hp'), fun x hx => ?_, ?_, ?_, fun k' hk' => ?_, fun x hx p' hp' => ?_⟩
  · rcases List.mem_append.1 hx with hx | hx
    · exact h.o x hx
    · obtain rfl : x = (k, p) := by simpa using hx
      exact ⟨hk, h.q k hk p (by rw [hq]; simp)⟩
  · show totL (upf s.q k r) n + _ = _
    have := totL_up hq hk
    have := h.cnt
    rw [List.length_append]
    simp
    omega
  · rw [List.pairwise_append]
    refine ⟨h.oo, List.pairwise_singleton _ _, fun x hx y hy e => ?_⟩
    obtain rfl : y = (k, p) := by simpa using hy
    exact h.oq x hx p (by rw [e]; show p ∈ s.q k; rw [hq]; simp)
  · show (upf s.q k r k').Pairwise _
    by_cases e : k' = k
    · subst e; rw [upf_at]; exact (List.pairwise_cons.1 hqk).2
    · rw [upf_ne _ _ e]; exact h.qq k' hk'
  · rcases List.mem_append.1 hx with hx | hx
    · exact h.oq x hx p' (hsub _ _ hp')
    · obtain rfl : x = (k, p) := by simpa using hx
      have hp2 : p' ∈ upf s.q k r k := hp'
      rw [upf_at] at hp2
      exact (List.pairwise_cons.1 hqk).1 p' hp2
theorem wi_hd {I : List (Nat × (Nat → Nat))} {fl : Nat → FlowE} {n : Nat} {s : SS} {O : List (Nat × PD)} (h : WI I fl n s O) : okHd (sndK fl s) n := fun k hk => by
  cases hq : s.q k with
  | nil => rw [sndK_nil hq]; omega
  | cons p r =>
    rw [sndK_cons hq]
    have := (h.q k hk p (by rw [hq]; simp)).bd.2.1
    unfold PD.sz
    split <;> omega
theorem wi_pump {I : List (Nat × (Nat → Nat))} {fl : Nat → FlowE} {n : Nat} (hf : FlOk fl n) : ∀ (f : Nat) {s : SS} {O : List (Nat × PD)}, WI I fl n s O → Inv n s.fs → WI I fl n (pumpF fl n f s).1 (O ++ (pumpF fl n f s).2) ∧ canPay s.tok (pumpF fl n f s).2 ∧ tokAfter s.tok (pumpF fl n f s).2 = (pumpF fl n f s).1.tok
  | 0, s, O, h, hi => by
    refine ⟨?_, trivial, rfl⟩
    show WI I fl n s (O ++ [])
    rw [List.append_nil]; exact h
  | f + 1, s, O, h, hi => by
    by_cases hb : s.bud ≤ 0
    · rw [pumpF_stop hb]
      exact ⟨by rw [List.append_nil]; exact h, trivial, rfl⟩
    · have hpk := inv_pk hf.wt (wi_hd h) hi
      cases hp : pkK n (gI (wL fl n)) (alF fl n) (sndK fl s) s.fs with
      | none =>
        rw [pumpF_none hb hp]
        exact ⟨by rw [List.append_nil]; exact h.same rfl rfl, trivial, rfl⟩
      | some k =>
        obtain ⟨hk, hz⟩ := hpk.2 k hp
        obtain ⟨p, r, hq, hle⟩ := snd_pos hz
        have hg := (h.q k hk p (by rw [hq]; simp)).bd
        rw [pumpF_some hb hp hq]
        obtain ⟨h1, h2, h3⟩ := wi_pump hf f (wi_let h hk hq (pkS n (gI (wL fl n)) (alF fl n) (sndK fl s) s.fs)) hpk.1
        rw [List.append_assoc] at h1
        exact ⟨h1, ⟨hg.1, by rw [← hg.2.2.2]; exact hle, h2⟩, h3⟩
theorem canPay_at : ∀ {O : List (Nat × PD)} {tok : Nat → Int} {i : Nat} {x : Nat × PD}, canPay tok O → O[i]? = some x → (1 ≤ x.2.t ∧ x.2.t ≤ 16) ∧ x.2.sz ≤ tokAfter tok (O.take i) x.2.t.toNat ∧ tokAfter tok (O.take (i + 1)) = upf (tokAfter tok (O.take i)) x.2.t.toNat (tokAfter tok (O.take i) x.2.t.toNat - x.2.sz)
  | [], _, i, x, _, h => by simp at h
  | y :: O, tok, 0, x, h, hx => by
    obtain rfl : y = x := by simpa using hx
    exact ⟨h.1, h.2.1, by simp [tokAfter]⟩
  | y :: O, tok, i + 1, x, h, hx => by
    have := canPay_at h.2.2 (show O[i]? = some x by simpa using hx)
    simpa [tokAfter] using this
theorem bldX_at1 (p : PD) (j : Nat) (hj : j ≠ 6 ∧ j ≠ 7) : bldX p j = putB (headB p.t.toNat p.c.toNat p.n) 8 p.X j := by
  unfold bldX fixB
  rw [if_neg hj.1, if_neg hj.2]
theorem bldX_again (p : PD) : againB (bldX p) (8 + p.n) = bldX p := by
  have h1 : bldX p 1 = p.t.toNat := by rw [bldX_at1 p 1 (by omega)]; simp [putB, headB]
  have h2 : bldX p 2 = p.c.toNat := by rw [bldX_at1 p 2 (by omega)]; simp [putB, headB]
  have h3 : (fun j => bldX p (8 + j)) = p.X := by
    funext j
    rw [bldX_at1 p (8 + j) (by omega)]
    unfold putB
    rw [if_neg (by omega)]
    congr 1
    omega
  unfold againB
  rw [h1, h2, h3, Nat.add_sub_cancel_left]
  rfl
/-- how the laws' rows stand for what came in and went out -/
structure RowsOf (I : List (Nat × (Nat → Nat))) (O : List (Nat × PD)) (HI HB : Nat → BsE) (S : Nat → SentE) : Prop where
  i : ∀ i x, I[i]? = some x → (HI i).n = x.1 ∧ (HI i).X = x.2
  s : ∀ i x, O[i]? = some x → S i = ⟨0, 0, x.2.t, x.1, x.2.sz, x.2.num⟩
  b : ∀ i x, O[i]? = some x → (HB i).n = 8 + x.2.n ∧ (HB i).X = bldX x.2
theorem wi_whole {I : List (Nat × (Nat → Nat))} {fl : Nat → FlowE} {n : Nat} {s : SS} {O : List (Nat × PD)} (h : WI I fl n s O) {HI HB : Nat → BsE} {S : Nat → SentE} (hr : RowsOf I O HI HB S) : WOk I.length HI HB S fl n O.length O.length := by
  refine ⟨rfl, fun i hi => ?_⟩
  obtain ⟨x, hx⟩ : ∃ x, O[i]? = some x := ⟨O[i], List.getElem?_eq_getElem hi⟩
  have hs := hr.s i x hx
  obtain ⟨b1, b2⟩ := hr.b i x hx
  obtain ⟨hk, hg⟩ := h.o x (List.mem_of_getElem? hx)
  obtain ⟨len, X, g1, g2, g3, g4, g5, g6, g7, g8, g9⟩ := hg.ex
  obtain ⟨c1, c2⟩ := hr.i _ _ g1
  obtain ⟨p1, p2, p3⟩ := parse_bd g2
  have hlen : 8 + x.2.n = len := by omega
  have hbx : bldX x.2 = againB X len := by
    unfold bldX againB
    rw [g5, g6, g7, g8, Int.toNat_natCast, Int.toNat_natCast, show 8 + (len - 8) = len by omega]
  have hX1 : bldX x.2 1 = X 1 := by rw [bldX_at1 x.2 1 (by omega), g5, Int.toNat_natCast]; simp [putB, headB]
  have hX2 : bldX x.2 2 = X 2 := by rw [bldX_at1 x.2 2 (by omega), g6, Int.toNat_natCast]; simp [putB, headB]
  refine ⟨⟨by rw [hs]; exact hg.lo, by rw [hs]; exact hg.hi, ?_, ?_, by rw [b2, hX1, hX2]; exact g3, by rw [hs, b2, hX1]; exact g5, ?_, by rw [hs, b1]; unfold PD.sz; push_cast; rfl⟩, fun j hj => ?_⟩
  · rw [hs]
    show eqS (HB i) (HI (x.2.num.toNat - 1)) = true
    unfold eqS
    rw [b1, b2, c1, c2, hlen, hbx, p3]
    simp
  · rw [b1, b2]
    unfold parseOk
    rw [bldX_again, hX1, hlen, decide_eq_true p1, decide_eq_true p2, (eqB_iff _ _ _).2 (fun k _ => rfl)]
    rfl
  · rw [hs, b2, hX1, hX2]
    show ((x.1 : Nat) : Int) = _
    obtain ⟨k', e1, e2, e3⟩ := flow_in g3
    rw [e1, ← g4]
    unfold inK
    rw [e1, Int.toNat_natCast]
  · obtain ⟨y, hy⟩ : ∃ y, O[j]? = some y := ⟨O[j]'(by omega), List.getElem?_eq_getElem (by omega)⟩
    have hsy := hr.s j y hy
    have hpw : y.1 = x.1 → y.2.num < x.2.num := by
      have := List.pairwise_iff_getElem.1 h.oo j i (by omega) hi hj
      rw [List.getElem?_eq_getElem (by omega)] at hy
      rw [List.getElem?_eq_getElem hi] at hx
      rw [Option.some.inj hy, Option.some.inj hx] at this
      exact this
    obtain ⟨hk', hg'⟩ := h.o y (List.mem_of_getElem? hy)
    rw [hs, hsy]
    refine ⟨fun e => ?_, fun e => ?_⟩
    · have e' : y.2.num = x.2.num := e
      have := hpw (hg'.one hg e')
      omega
    · obtain ⟨e1, e2⟩ := e
      have e1' : ((y.1 : Nat) : Int) = ((x.1 : Nat) : Int) := e1
      have e2' : x.2.num < y.2.num := e2
      have := hpw (by omega)
      omega
end Go.Proofs.Ytoodmocapagapaa
namespace Go.Proofs.Ytoodmocapagapaa
open Go.RowKit
set_option linter.unusedSimpArgs false
set_option linter.unusedVariables false

theorem snL_append (O O2 : List (Nat × PD)) : snL (O ++ O2) = snL O ++ snL O2 := by simp [snL, List.flatMap_append]
theorem snL_ones (O : List (Nat × PD)) : ∀ u ∈ snL O, u.oneCell' = true := by
  intro u hu
  simp only [snL, List.mem_flatMap] at hu
  obtain ⟨x, _, hu⟩ := hu
  exact sentV_ones _ _ u hu
theorem sn_app {W : World} {M M2 : Nat} {ty : TypeId} {v v2 : Value} {ob o2 : Option Nat} {O O2 : List (Nat × PD)} (h : SnO W M v ob O) (h2 : SnO W M2 v2 o2 O2) (hM : M ≤ W.heap.size) (hn : O.length + O2.length ≤ 100000) :
    ∃ v' ob' w', (Builtin.append_ #[27, 27] ty #[v, v2]).run Try.prog W = .ok v' w' ∧ SnO w' M v' ob' (O ++ O2) ∧ Fr ob.toList W w' ∧ Below M W w' := by
  obtain ⟨r1, r5⟩ := h
  obtain ⟨a2, c2, rfl, _, _, e2⟩ := h2.row.shape
  obtain ⟨i0, hi, hz0, hz1, hz2⟩ := info_parts senInfo
  rcases Nat.eq_zero_or_pos O2.length with h0 | h0
  · have hL2 : O2 = [] := List.eq_nil_of_length_eq_zero h0
    subst hL2
    rw [List.append_nil]
    exact ⟨v, ob, W, run_append_row_zero (P := Try.prog) (w := W) 27 ty 46 i0 6 Try.underlying27 hi v ob _ _ r1 a2 c2, ⟨r1, r5⟩, Fr.refl _ _, Below.refl _ _⟩
  · obtain ⟨g2, e, _⟩ := h2.row.cell 0 (by omega)
    subst e
    obtain rfl : a2 = some ⟨g2, 0, none⟩ := e2
    obtain ⟨v', ob', w', hrun, s1, s2, s3⟩ := run_append_row (P := Try.prog) W 27 ty 46 i0 _ 6 48 Try.underlying27 hi hz0 hz1 hz2 rfl (by decide) v ob O.length (snL O) r1 ⟨g2, 0, none⟩ O2.length c2 (snL O2) h0 (snL_len O2) (fun j u hu => by
      have hj := (List.getElem?_eq_some_iff.1 hu).1
      rw [snL_len] at hj
      obtain ⟨g, e, hc, _⟩ := h2.row.cell j (by omega)
      obtain rfl := Option.some.inj e
      rw [addr_add, Nat.zero_add, hc, hu]) (snL_ones O2) (by unfold maxLen; omega) (by omega)
    refine ⟨v', some ob', w', hrun, ⟨by rw [List.length_append, snL_append]; exact s1, fun g e => ?_⟩, fr_grown s2, (Below.refl M W).grown s2 hM r5⟩
    obtain rfl := Option.some.inj e
    rcases s3 with h | h
    · exact r5 _ h
    · omega
theorem BsO.frN {W W' : World} {M : Nat} {v : Value} {ob : Option Nat} {O : List (Nat × PD)} (h : BsO W M v ob O) {L : List Nat} (hf : Fr L W W') (hn : ∀ g, ob = some g → g ∉ L) (hl : OT W L [5]) : BsO W' M v ob O := by
  obtain ⟨vs, h1, h2⟩ := h.ex
  refine ⟨⟨vs, h1.congr fun g e => hf.block g (by subst e; exact h1.lt) (hn g e), fun i x hx => ?_⟩, h.ge⟩
  obtain ⟨u, g, e1, e2, e3⟩ := h2 i x hx
  exact ⟨u, g, e1, e2, row_ot e3 hf hl (by simp)⟩
theorem row_one {W : World} {u : Value} {g : Nat} {n : Nat} {xs : List Value} (h : Row W u (some g) 5 1 n xs) : u.oneCell' = true := by
  obtain ⟨a, c, rfl, _, _, _⟩ := h.shape
  rfl
theorem bs_app {W : World} {M M2 : Nat} {ty : TypeId} {v v2 : Value} {ob o2 : Option Nat} {O O2 : List (Nat × PD)} (h : BsO W M v ob O) (h2 : BsO W M2 v2 o2 O2) (hM : M ≤ W.heap.size) (hM2 : M ≤ M2) (hn : O.length + O2.length ≤ 100000) :
    ∃ v' ob' w', (Builtin.append_ #[28, 28] ty #[v, v2]).run Try.prog W = .ok v' w' ∧ BsO w' M v' ob' (O ++ O2) ∧ Fr ob.toList W w' ∧ Below M W w' ∧ (∀ g, ob' = some g → ob = some g ∨ W.heap.size ≤ g) := by
  obtain ⟨⟨vs, r1, r2⟩, r5⟩ := h
  obtain ⟨⟨vs2, q1, q2⟩, q5⟩ := h2
  obtain ⟨a2, c2, rfl, _, _, e2⟩ := q1.shape
  obtain ⟨i0, hi, hz0, hz1, hz2⟩ := info_parts byInfo
  have hl1 : vs.length = O.length := by have := r1.len; omega
  have hl2 : vs2.length = O2.length := by have := q1.len; omega
  rcases Nat.eq_zero_or_pos O2.length with h0 | h0
  · have hL2 : O2 = [] := List.eq_nil_of_length_eq_zero h0
    subst hL2
    rw [List.append_nil]
    exact ⟨v, ob, W, run_append_row_zero (P := Try.prog) (w := W) 28 ty 42 i0 1 Try.underlying28 hi v ob _ _ r1 a2 c2, ⟨⟨vs, r1, r2⟩, r5⟩, Fr.refl _ _, Below.refl _ _, fun g e => .inl e⟩
  · obtain ⟨g2, e, _⟩ := q1.cell 0 (by omega)
    subst e
    obtain rfl : a2 = some ⟨g2, 0, none⟩ := e2
    have hones : ∀ u ∈ vs2, u.oneCell' = true := fun u hu => by
      obtain ⟨i, hi', hu'⟩ := List.getElem_of_mem hu
      obtain ⟨u', g', e1, _, e3⟩ := q2 i O2[i] (List.getElem?_eq_getElem (by omega))
      rw [List.getElem?_eq_getElem hi', hu'] at e1
      obtain rfl := Option.some.inj e1
      exact row_one e3
    obtain ⟨v', ob', w', hrun, s1, s2, s3⟩ := run_append_row (P := Try.prog) W 28 ty 42 i0 _ 1 24 Try.underlying28 hi hz0 hz1 hz2 rfl (by decide) v ob O.length vs r1 ⟨g2, 0, none⟩ O2.length c2 vs2 h0 (by omega) (fun j u hu => by
      have hj := (List.getElem?_eq_some_iff.1 hu).1
      obtain ⟨g, e, hc, _⟩ := q1.cell j (by omega)
      obtain rfl := Option.some.inj e
      rw [addr_add, Nat.zero_add, hc, hu]) hones (by unfold maxLen; omega) (by omega)
    have hf := fr_grown s2
    have ho : OT W ob.toList [5] := ot_row r1 (by decide)
    refine ⟨v', some ob', w', hrun, ⟨⟨vs ++ vs2, by rw [List.length_append]; exact s1, fun i x hx => ?_⟩, fun g e => ?_⟩, hf, (Below.refl M W).grown s2 hM r5, fun g e => ?_⟩
    · by_cases hi' : i < O.length
      · rw [List.getElem?_append_left hi'] at hx
        obtain ⟨u', g', e1, e2, e3⟩ := r2 i x hx
        exact ⟨u', g', by rw [List.getElem?_append_left (by omega)]; exact e1, e2, row_ot e3 hf ho (by simp)⟩
      · rw [List.getElem?_append_right (by omega)] at hx
        obtain ⟨u', g', e1, e2, e3⟩ := q2 _ x hx
        exact ⟨u', g', by rw [List.getElem?_append_right (by omega), hl1]; exact e1, by omega, row_ot e3 hf ho (by simp)⟩
    · obtain rfl := Option.some.inj e
      rcases s3 with h | h
      · exact r5 _ h
      · omega
    · obtain rfl := Option.some.inj e
      rcases s3 with h | h
      · exact .inl h
      · exact .inr (by omega)
/-- the row of what came in -/
structure InR (W0 W : World) (M : Nat) (v : Value) (ob : Option Nat) (I : List (Nat × (Nat → Nat))) : Prop where
  ex : ∃ vs : List Value, Row W v ob 42 1 I.length vs ∧ ∀ (i : Nat) (x : Nat × (Nat → Nat)), I[i]? = some x → ∃ a c b o, vs[i]? = some (.slice a x.1 c) ∧ ByIn W0 a x.1 c b o x.2
  ge : ∀ g, ob = some g → M ≤ g
theorem InR.fr {W0 W W' : World} {M : Nat} {v : Value} {ob : Option Nat} {I : List (Nat × (Nat → Nat))} (h : InR W0 W M v ob I) {L : List Nat} (hf : Fr L W W') (hl : OT W L [42]) : InR W0 W' M v ob I := by
  obtain ⟨vs, h1, h2⟩ := h.ex
  exact ⟨⟨vs, row_otO h1 hf hl (by simp), h2⟩, h.ge⟩
theorem InR.frN {W0 W W' : World} {M : Nat} {v : Value} {ob : Option Nat} {I : List (Nat × (Nat → Nat))} (h : InR W0 W M v ob I) {L : List Nat} (hf : Fr L W W') (hn : ∀ g, ob = some g → g ∉ L) : InR W0 W' M v ob I := by
  obtain ⟨vs, h1, h2⟩ := h.ex
  exact ⟨⟨vs, h1.congr fun g e => hf.block g (by subst e; exact h1.lt) (hn g e), h2⟩, h.ge⟩
theorem in_grow1 {W0 W : World} {M b : Nat} {ty : TypeId} {v : Value} {ob : Option Nat} {I : List (Nat × (Nat → Nat))} {a : Option Addr} {n c ab ao : Nat} {X : Nat → Nat} (h : InR W0 W M v ob I) (hb : Blk W b #[.slice a n c] 42) (hy : ByIn W0 a n c ab ao X) (hM : M ≤ W.heap.size) (hn : I.length ≤ 100000) :
    ∃ v' ob' w', (Builtin.append_ #[28, 28] ty #[v, .slice (some ⟨b, 0, none⟩) 1 1]).run Try.prog W = .ok v' w' ∧ InR W0 w' M v' (some ob') (I ++ [(n, X)]) ∧ Fr ob.toList W w' ∧ Below M W w' ∧ (ob = some ob' ∨ ob' = W.heap.size) := by
  obtain ⟨⟨vs, r1, r2⟩, r5⟩ := h
  obtain ⟨i0, hi, hz0, hz1, hz2⟩ := info_parts byInfo
  have hl : vs.length = I.length := by have := r1.len; omega
  obtain ⟨v', ob', w', hrun, s1, s2, s3⟩ := run_append_row (P := Try.prog) W 28 ty 42 i0 _ 1 24 Try.underlying28 hi hz0 hz1 hz2 rfl (by decide) v ob I.length vs r1 ⟨b, 0, none⟩ 1 1 [.slice a n c] (by decide) rfl (fun j x hx => by
    rw [addr_add, cell_at hb, Nat.zero_add]
    simpa using hx) (by simp [Value.oneCell']) (by unfold maxLen; omega) (by omega)
  refine ⟨v', ob', w', hrun, ⟨⟨vs ++ [.slice a n c], by rw [List.length_append]; exact s1, fun i x hx => ?_⟩, fun g e => ?_⟩, fr_grown s2, (Below.refl M W).grown s2 hM r5, s3⟩
  · by_cases hi : i < I.length
    · rw [List.getElem?_append_left hi] at hx
      obtain ⟨a', c', b', o', e1, e2⟩ := r2 i x hx
      exact ⟨a', c', b', o', by rw [List.getElem?_append_left (by omega)]; exact e1, e2⟩
    · rw [List.getElem?_append_right (by omega)] at hx
      have hi0 : i = I.length := by
        have := (List.getElem?_eq_some_iff.1 hx).1
        simp at this
        omega
      subst hi0
      rw [Nat.sub_self] at hx
      obtain rfl : (n, X) = x := by simpa using hx
      exact ⟨a, c, ab, ao, by rw [List.getElem?_append_right (by omega), hl, Nat.sub_self]; rfl, hy⟩
  · obtain rfl := Option.some.inj e
    rcases s3 with h | h
    · exact r5 _ h
    · omega
def tokC (f : Nat → Int) : Array Value := #[.int .i64 (f 0), .int .i64 (f 1), .int .i64 (f 2), .int .i64 (f 3), .int .i64 (f 4), .int .i64 (f 5), .int .i64 (f 6), .int .i64 (f 7), .int .i64 (f 8), .int .i64 (f 9), .int .i64 (f 10), .int .i64 (f 11), .int .i64 (f 12), .int .i64 (f 13), .int .i64 (f 14), .int .i64 (f 15), .int .i64 (f 16)]
theorem tokC_at (f : Nat → Int) (t : Nat) (ht : t ≤ 16) : (tokC f)[t]? = some (.int .i64 (f t)) := by
  rcases (show t = 0 ∨ t = 1 ∨ t = 2 ∨ t = 3 ∨ t = 4 ∨ t = 5 ∨ t = 6 ∨ t = 7 ∨ t = 8 ∨ t = 9 ∨ t = 10 ∨ t = 11 ∨ t = 12 ∨ t = 13 ∨ t = 14 ∨ t = 15 ∨ t = 16 by omega) with rfl | rfl | rfl | rfl | rfl | rfl | rfl | rfl | rfl | rfl | rfl | rfl | rfl | rfl | rfl | rfl | rfl <;> rfl
theorem tokC_set (f : Nat → Int) (t : Nat) (ht : t ≤ 16) (v : Int) : (tokC f).setIfInBounds t (.int .i64 v) = tokC (upf f t v) := by
  rcases (show t = 0 ∨ t = 1 ∨ t = 2 ∨ t = 3 ∨ t = 4 ∨ t = 5 ∨ t = 6 ∨ t = 7 ∨ t = 8 ∨ t = 9 ∨ t = 10 ∨ t = 11 ∨ t = 12 ∨ t = 13 ∨ t = 14 ∨ t = 15 ∨ t = 16 by omega) with rfl | rfl | rfl | rfl | rfl | rfl | rfl | rfl | rfl | rfl | rfl | rfl | rfl | rfl | rfl | rfl | rfl <;> rfl
/-- the law's memory: its rows and its tokens -/
structure LwR (W0 W : World) (tb : Nat) (tok : Nat → Int) (I : List (Nat × (Nat → Nat))) (O : List (Nat × PD)) (v7 v8 v9 : Value) (oI oB oS : Option Nat) : Prop where
  i : InR W0 W W0.heap.size v7 oI I
  bs : BsO W W0.heap.size v8 oB O
  sn : SnO W W0.heap.size v9 oS O
  tk : Blk W tb (tokC tok) 41
  ne : ∀ g, oI = some g → oB ≠ some g
  gt : W0.heap.size ≤ tb
  b : Below W0.heap.size W0 W
def lwTy : List TypeId := [42, 5, 46, 41]
section
variable {W0 W W' : World} {tb : Nat} {tok : Nat → Int} {I : List (Nat × (Nat → Nat))} {O : List (Nat × PD)} {v7 v8 v9 : Value} {oI oB oS : Option Nat}
theorem row_tyO {v : Value} {x : Option Nat} {e : TypeId} {sz n : Nat} {xs : List Value} {l : List TypeId} (h : Row W v x e sz n xs) (ht : TyL l W W') (he : e ∉ l) : Row W' v x e sz n xs := by
  cases x with
  | none => exact h.congr fun q e => by cases e
  | some g => exact row_tyl h ht he
theorem SnO.ty {M : Nat} (h : SnO W M v9 oS O) {l : List TypeId} (ht : TyL l W W') (hl : 46 ∉ l) : SnO W' M v9 oS O := ⟨row_tyO h.row ht hl, h.ge⟩
theorem BsO.ty {M : Nat} (h : BsO W M v8 oB O) {l : List TypeId} (ht : TyL l W W') (hl : 42 ∉ l) (hl2 : 5 ∉ l) : BsO W' M v8 oB O := by
  obtain ⟨vs, h1, h2⟩ := h.ex
  refine ⟨⟨vs, row_tyO h1 ht hl, fun i x hx => ?_⟩, h.ge⟩
  obtain ⟨u, g, e1, e2, e3⟩ := h2 i x hx
  exact ⟨u, g, e1, e2, row_tyl e3 ht hl2⟩
theorem InR.ty {M : Nat} (h : InR W0 W M v7 oI I) {l : List TypeId} (ht : TyL l W W') (hl : 42 ∉ l) : InR W0 W' M v7 oI I := by
  obtain ⟨vs, h1, h2⟩ := h.ex
  exact ⟨⟨vs, row_tyO h1 ht hl, h2⟩, h.ge⟩
/-- a shaper's call keeps the law's memory -/
theorem LwR.bs_ {M : Nat} (h : LwR W0 W tb tok I O v7 v8 v9 oI oB oS) (hb : BS M W W') (hM : W0.heap.size ≤ M) : LwR W0 W' tb tok I O v7 v8 v9 oI oB oS :=
  ⟨h.i.ty hb.t (by decide), h.bs.ty hb.t (by decide) (by decide), h.sn.ty hb.t (by decide), hb.t _ _ _ h.tk (by decide), h.ne, h.gt, h.b.trans (hb.b.mono hM)⟩
theorem LwR.ot (h : LwR W0 W tb tok I O v7 v8 v9 oI oB oS) {L : List Nat} (hf : Fr L W W') (hl : OT W L lwTy) (hg : ∀ x ∈ L, W0.heap.size ≤ x) : LwR W0 W' tb tok I O v7 v8 v9 oI oB oS :=
  ⟨h.i.fr hf (hl.mono (by simp [lwTy])), h.bs.fr hf (hl.mono (by simp [lwTy])), h.sn.fr hf (hl.mono (by simp [lwTy])), (blk_ot h.tk hf hl (by simp [lwTy])).trans h.tk, h.ne, h.gt, h.b.trans (hf.below h.b.size hg)⟩
theorem LwR.step (h : LwR W0 W tb tok I O v7 v8 v9 oI oB oS) (hB : Below W.heap.size W W') : LwR W0 W' tb tok I O v7 v8 v9 oI oB oS := h.ot (Fr.of_below hB) (ot_nil _ _) (by simp)
theorem LwR.put (h : LwR W0 W tb tok I O v7 v8 v9 oI oB oS) {t : Nat} (ht : t ≤ 16) (v : Int) (hW : W' = W.setCell ⟨tb, t, none⟩ (.int .i64 v)) : LwR W0 W' tb (upf tok t v) I O v7 v8 v9 oI oB oS ∧ Fr [tb] W W' := by
  have hf : Fr [tb] W W' := by rw [hW]; exact (Fr.refl _ _).setCell _ (.inl (by simp)) _
  have ho : ∀ l : List TypeId, 41 ∉ l → OT W [tb] l := fun l h1 => ot_one h.tk h1
  refine ⟨⟨h.i.fr hf (ho _ (by decide)), h.bs.fr hf (ho _ (by decide)), h.sn.fr hf (ho _ (by decide)), ?_, h.ne, h.gt, h.b.trans (hf.below h.b.size (by simpa using h.gt))⟩, hf⟩
  rw [hW, ← tokC_set tok t ht v]
  exact h.tk.set _ _
end
end Go.Proofs.Ytoodmocapagapaa
namespace Go.Proofs.Ytoodmocapagapaa
open Go.RowKit
set_option linter.unusedSimpArgs false
set_option linter.unusedVariables false

theorem sz_pos (p : PD) : 8 ≤ p.sz := by unfold PD.sz; omega
theorem tokAfter_le : ∀ (O : List (Nat × PD)) (tok : Nat → Int) (t : Nat), tokAfter tok O t ≤ tok t
  | [], _, _ => Int.le_refl _
  | x :: O, tok, t => by
    have h := tokAfter_le O (upf tok x.2.t.toNat (tok x.2.t.toNat - x.2.sz)) t
    have := sz_pos x.2
    show tokAfter (upf tok x.2.t.toNat (tok x.2.t.toNat - x.2.sz)) O t ≤ tok t
    by_cases e : t = x.2.t.toNat
    · subst e; rw [upf_at] at h; omega
    · rw [upf_ne _ _ e] at h; exact h
/-- what a pump does to what came in and went out -/
theorem pumpS_wi {I : List (Nat × (Nat → Nat))} {fl : Nat → FlowE} {n : Nat} (hf : FlOk fl n) {s : SS} {O : List (Nat × PD)} (b : Int) (h : WI I fl n s O) (hi : Inv n s.fs) : WI I fl n (pumpS fl n b s).1 (O ++ (pumpS fl n b s).2) ∧ canPay s.tok (pumpS fl n b s).2 ∧ tokAfter s.tok (pumpS fl n b s).2 = (pumpS fl n b s).1.tok := by
  obtain ⟨h1, h2, h3⟩ := wi_pump hf (totL s.q n + 1) (h.same (s' := budIn s b) rfl rfl) hi
  exact ⟨h1.same rfl rfl, h2, h3⟩
end Go.Proofs.Ytoodmocapagapaa
namespace Go.Proofs.Ytoodmocapagapaa
open Go.RowKit
set_option linter.unusedSimpArgs false
set_option linter.unusedVariables false

theorem inr_bsin {W0 W : World} {M : Nat} {a : Option Addr} {n c : Nat} {ob : Option Nat} {I : List (Nat × (Nat → Nat))} (h : InR W0 W M (.slice a n c) ob I) (hB : Below W0.heap.size W0 W) : n = I.length ∧ ∃ ib HI, BsIn W a n c ib 0 HI ∧ ∀ i x, I[i]? = some x → (HI i).n = x.1 ∧ (HI i).X = x.2 := by
  obtain ⟨vs, hr, hx⟩ := h.ex
  obtain ⟨a', c', e, h1, h2, h3⟩ := hr.shape
  injection e with e1 e2 e3
  subst e1 e2 e3
  refine ⟨rfl, ob.getD 0, ?_⟩
  have hex : ∀ i : Nat, ∃ q : BsE, ∀ (x : Nat × (Nat → Nat)), I[i]? = some x → vs[i]? = some (.slice q.a q.n q.c) ∧ ByIn W0 q.a q.n q.c q.b q.o q.X ∧ q.n = x.1 ∧ q.X = x.2 := fun i => by
    cases hi : I[i]? with
    | none => exact ⟨⟨none, 0, 0, 0, 0, fun _ => 0⟩, fun x hx => by cases hx⟩
    | some y =>
      obtain ⟨a1, c1, b1, o1, g1, g2⟩ := hx i y hi
      exact ⟨⟨a1, y.1, c1, b1, o1, y.2⟩, fun x hx => by obtain rfl := Option.some.inj hx; exact ⟨g1, g2, rfl, rfl⟩⟩
  have hg := fun i => Classical.choose_spec (hex i)
  refine ⟨fun i => Classical.choose (hex i), ⟨h1, h2, fun h0 => ?_, fun i hi => ?_, fun i hi => ?_⟩, fun i x hx => ⟨(hg i x hx).2.2.1, (hg i x hx).2.2.2⟩⟩
  · obtain ⟨g, e, _⟩ := hr.cell 0 (by omega)
    subst e
    exact ⟨h3, hr.lt⟩
  · obtain ⟨g, e, hc, _⟩ := hr.cell i (by omega)
    subst e
    rw [Nat.zero_add]
    exact hc.trans (hg i _ (List.getElem?_eq_getElem hi)).1
  · exact ((hg i _ (List.getElem?_eq_getElem hi)).2.1).below hB
theorem good_bld {I : List (Nat × (Nat → Nat))} {fl : Nat → FlowE} {n k : Nat} {p : PD} (h : Good I fl n k p) : ∀ j, bldX p j < 256 := by
  obtain ⟨len, X, _, h2, _, _, h5, h6, h7, h8, h9⟩ := h.ex
  obtain ⟨b1, b2, _⟩ := parse_bd h2
  have := h9 1
  have := h9 2
  exact bldX_bd p (by omega) (by omega) (by omega) (by rw [h8]; exact fun j => h9 _)
theorem bso_bsin {W : World} {M : Nat} {a : Option Addr} {n c : Nat} {ob : Option Nat} {O : List (Nat × PD)} (h : BsO W M (.slice a n c) ob O) (hb : ∀ x ∈ O, ∀ j, bldX x.2 j < 256) : n = O.length ∧ ∃ bb HB, BsIn W a n c bb 0 HB ∧ ∀ i x, O[i]? = some x → (HB i).n = 8 + x.2.n ∧ (HB i).X = bldX x.2 := by
  obtain ⟨vs, hr, hx⟩ := h.ex
  obtain ⟨a', c', e, h1, h2, h3⟩ := hr.shape
  injection e with e1 e2 e3
  subst e1 e2 e3
  refine ⟨rfl, ob.getD 0, ?_⟩
  have hex : ∀ i : Nat, ∃ q : BsE, ∀ (x : Nat × PD), O[i]? = some x → vs[i]? = some (.slice q.a q.n q.c) ∧ ByIn W q.a q.n q.c q.b q.o q.X ∧ q.n = 8 + x.2.n ∧ q.X = bldX x.2 := fun i => by
    cases hi : O[i]? with
    | none => exact ⟨⟨none, 0, 0, 0, 0, fun _ => 0⟩, fun x hx => by cases hx⟩
    | some y =>
      obtain ⟨u, g, g1, _, g2⟩ := hx i y hi
      obtain ⟨a1, c1, rfl, hby⟩ := row_by g2 (hb y (List.mem_of_getElem? hi))
      exact ⟨⟨a1, 8 + y.2.n, c1, _, 0, bldX y.2⟩, fun x hx => by obtain rfl := Option.some.inj hx; exact ⟨g1, hby, rfl, rfl⟩⟩
  have hg := fun i => Classical.choose_spec (hex i)
  refine ⟨fun i => Classical.choose (hex i), ⟨h1, h2, fun h0 => ?_, fun i hi => ?_, fun i hi => ?_⟩, fun i x hx => ⟨(hg i x hx).2.2.1, (hg i x hx).2.2.2⟩⟩
  · obtain ⟨g, e, _⟩ := hr.cell 0 (by omega)
    subst e
    exact ⟨h3, hr.lt⟩
  · obtain ⟨g, e, hc, _⟩ := hr.cell i (by omega)
    subst e
    rw [Nat.zero_add]
    exact hc.trans (hg i _ (List.getElem?_eq_getElem hi)).1
  · exact (hg i _ (List.getElem?_eq_getElem hi)).2.1
def snS (O : List (Nat × PD)) (i : Nat) : SentE := match O[i]? with
  | some x => ⟨0, 0, x.2.t, x.1, x.2.sz, x.2.num⟩
  | none => ⟨0, 0, 0, 0, 0, 0⟩
theorem snS_at {O : List (Nat × PD)} {i : Nat} {x : Nat × PD} (h : O[i]? = some x) : snS O i = ⟨0, 0, x.2.t, x.1, x.2.sz, x.2.num⟩ := by unfold snS; rw [h]
theorem sno_sentin {W : World} {M : Nat} {a : Option Addr} {n c : Nat} {ob : Option Nat} {O : List (Nat × PD)} (h : SnO W M (.slice a n c) ob O) (hb : ∀ x ∈ O, (1 ≤ x.2.t ∧ x.2.t ≤ 16) ∧ x.2.n ≤ 1492 ∧ x.1 ≤ 100 ∧ 1 ≤ x.2.num ∧ x.2.num ≤ 100000) : n = O.length ∧ ∃ b, SentIn W a n c b 0 (snS O) := by
  obtain ⟨a', c', e, h1, h2, h3⟩ := h.row.shape
  injection e with e1 e2 e3
  subst e1 e2 e3
  refine ⟨rfl, ob.getD 0, h1, h2, fun h0 => ?_, fun i hi => ?_, fun i hi => ?_⟩
  · obtain ⟨g, e, _⟩ := h.row.cell 0 (by omega)
    subst e
    exact ⟨h3, h.row.lt⟩
  · have hcc : ∀ j, j < 6 → W.cell? ⟨ob.getD 0, 0 + i * 6 + j, none⟩ = (sentV (O[i]).1 (O[i]).2)[j]? := fun j hj => by
      obtain ⟨g, e, hc, _⟩ := h.row.cell (i * 6 + j) (by omega)
      subst e
      rw [Nat.zero_add]
      exact hc.trans (snL_at O i j _ (List.getElem?_eq_getElem hi) hj)
    rw [snS_at (List.getElem?_eq_getElem hi)]
    exact ⟨hcc 0 (by omega), hcc 1 (by omega), hcc 2 (by omega), hcc 3 (by omega), hcc 4 (by omega), hcc 5 (by omega)⟩
  · rw [snS_at (List.getElem?_eq_getElem hi)]
    obtain ⟨⟨u1, u2⟩, u3, u4, u5, u6⟩ := hb _ (List.getElem_mem hi)
    unfold SentE.ok PD.sz
    simp only
    omega
end Go.Proofs.Ytoodmocapagapaa
