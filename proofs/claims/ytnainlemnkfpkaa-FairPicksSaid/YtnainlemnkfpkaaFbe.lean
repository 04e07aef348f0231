/-
  Picks as heads come and go: the law.
-/
import Derived.Test.YtnainlemnkfpkaaFbd
import Derived.Test.YtnainlemnkfpkaaFaf
import Derived.Test.YtnainlemnkfpkaaFb6
namespace Go.Proofs.Ytnainlemnkfpkaa
open Go.RowKit
set_option linter.unusedSimpArgs false
set_option linter.unusedVariables false

structure HsE where
  a : Option Addr
  n : Nat
  c : Nat
  b : Nat
  o : Nat
  E : Nat → HdE
structure HsIn (W : World) (a : Option Addr) (len cap b o : Nat) (H : Nat → HsE) : Prop where
  le : len ≤ cap
  max : cap ≤ maxLen
  at_ : 0 < len → a = some ⟨b, o, none⟩ ∧ b < W.heap.size
  cell : ∀ k, k < len → W.cell? ⟨b, o + k, none⟩ = some (.slice (H k).a (H k).n (H k).c)
  hd : ∀ k, k < len → HdIn W (H k).a (H k).n (H k).c (H k).b (H k).o (H k).E
theorem hs_cells (W : World) {a : Option Addr} {len cap : Nat} {xs : List Dt} (h : SliceFits Try.prog W 32 a len cap xs) : ∃ (b o : Nat) (H : Nat → HsE), HsIn W a len cap b o H := by
  have hc : Try.prog.cellsOf 32 = 1 := by kernel_rfl
  obtain ⟨b, o, h1, h2⟩ := h.spot (by rw [hc]; omega)
  have hex : ∀ k, ∃ q : HsE, k < len → W.cell? ⟨b, o + k, none⟩ = some (.slice q.a q.n q.c) ∧ HdIn W q.a q.n q.c q.b q.o q.E := fun k => by
    by_cases hk : k < len
    · have hl := h.length
      have hx := List.getElem?_eq_getElem (l := xs) (i := k) (by omega)
      obtain ⟨a1, n1, c1, ys, e0, f0⟩ := (h.each k _ hx).1.slice_inv Try.underlying32
      obtain ⟨b1, o1, E1, hE⟩ := hd_cells W f0
      have hcell := h2 k _ hx
      rw [e0, hc] at hcell
      exact ⟨⟨a1, n1, c1, b1, o1, E1⟩, fun _ => ⟨by have := hcell 0 _ rfl; rwa [Nat.mul_one] at this, hE⟩⟩
    · exact ⟨⟨none, 0, 0, 0, 0, fun _ => ⟨0, 0⟩⟩, fun h => absurd h hk⟩
  have hg := fun k => Classical.choose_spec (hex k)
  exact ⟨b, o, fun k => Classical.choose (hex k), h.le, h.max, h1, fun k hk => (hg k hk).1, fun k hk => (hg k hk).2⟩
theorem fnew_all (va : Value) (L : List Int) (w : World) (hv : InV w va L) :
    Calls Try.prog 8 #[va] w fun e w' => (okWt L ∧ ∃ g fo ft c1 c2, e = .returned (.tuple #[.pointer (some ⟨g, 0, none⟩), .int .i64 0]) ∧ FrAt w' w.heap.size g fo ft L.length c1 c2 (gI L) (sumW (gI L) L.length) s0F ∧ Below w.heap.size w w') ∨ (¬ okWt L ∧ e = .returned (.tuple #[.pointer none, .int .i64 2]) ∧ Below w.heap.size w w') := by
  by_cases hl : L.length < 1 ∨ 8 < L.length
  · refine (fnew_len va L w hv hl).mono ?_
    rintro e w' ⟨rfl, hB⟩
    exact .inr ⟨fun h => by have := h.1; have := h.2.1; omega, rfl, hB⟩
  · exact fnew_any va L w hv (by omega) (by omega)
theorem rfnew_all (va : Value) (L : List Int) (w : World) (hv : InV w va L) :
    Calls Try.prog 9 #[va] w fun e w' => (okWt L ∧ ∃ (x : RL) (ft c2 : Nat), e = .returned (.tuple #[.pointer (some ⟨x.g, 0, none⟩), .int .i64 0]) ∧ x.n = L.length ∧ RfAt w' w.heap.size x ft c2 (gI L) (sumW (gI L) L.length) s0F ∧ Below w.heap.size w w') ∨ (¬ okWt L ∧ e = .returned (.tuple #[.pointer none, .int .i64 2]) ∧ Below w.heap.size w w') := by
  by_cases hl : L.length < 1 ∨ 8 < L.length
  · refine (rfnew_len va L w hv hl).mono ?_
    rintro e w' ⟨rfl, hB⟩
    exact .inr ⟨fun h => by have := h.1; have := h.2.1; omega, rfl, hB⟩
  · exact rfnew_any va L w hv (by omega) (by omega)
structure PxAt (W0 W : World) (Mf g fo ft n c1 c2 : Nat) (Mr : Nat) (x : RL) (fr c3 : Nat) (wt : Nat → Int) (al : Int) (s : FS) : Prop where
  f : FrAt W Mf g fo ft n c1 c2 wt al s
  r : RfAt W Mr x fr c3 wt al s
  iv : Inv n s
  ne : ft ≠ fr
  b : Below W0.heap.size W0 W
  m : W0.heap.size ≤ Mf ∧ W0.heap.size ≤ Mr
theorem PxAt.copy {W0 W W' : World} {Mf g fo ft n c1 c2 : Nat} {Mr : Nat} {x : RL} {fr c3 : Nat} {gc foc ftc d1 d2 : Nat} {wt : Nat → Int} {al : Int} {s : FS} (h : PxAt W0 W Mf g fo ft n c1 c2 Mr x fr c3 wt al s) (hc : FrAt W' W.heap.size gc foc ftc n d1 d2 wt al s) (hB : Below W.heap.size W W') : PyAt W0 W' Mf g fo ft n c1 c2 Mr x fr c3 W.heap.size gc foc ftc d1 d2 wt al s s s := by
  obtain ⟨_, _, _, f1, f2, f3⟩ := h.f.blks
  obtain ⟨_, _, _, _, _, r1, r2, r3, r4, r5⟩ := h.r.blks
  have := f1.lt
  have := f2.lt
  have := f3.lt
  have := r5.lt
  have := hc.ge
  exact ⟨h.f.step hB, h.r.step hB, hc, ⟨h.ne, by omega, by omega⟩, ⟨by omega, by omega⟩, h.b.trans (hB.mono h.b.size), ⟨h.m.1, h.m.2, h.b.size⟩⟩
theorem PyAt.px {W0 W : World} {Mf g fo ft n c1 c2 : Nat} {Mr : Nat} {x : RL} {fr c3 : Nat} {Mc gc foc ftc d1 d2 : Nat} {wt : Nat → Int} {al : Int} {s sc : FS} (h : PyAt W0 W Mf g fo ft n c1 c2 Mr x fr c3 Mc gc foc ftc d1 d2 wt al s s sc) (hi : Inv n s) : PxAt W0 W Mf g fo ft n c1 c2 Mr x fr c3 wt al s :=
  ⟨h.f, h.r, hi, h.ne.1, h.b, ⟨h.m.1, h.m.2.1⟩⟩
theorem tin0 (W : World) : TagsIn W none 0 0 0 0 s0F.T := ⟨Nat.le_refl _, Nat.zero_le _, fun h => by omega, fun k h => by omega, fun k h => by omega⟩
set_option maxRecDepth 100000 in
set_option maxHeartbeats 40000000 in
theorem fairPicks_walk (va : Value) (L : List Int) (a : Option Addr) (n cap b o : Nat) (H : Nat → HsE) (w : World) (hv : InV w va L) (hq : HsIn w a n cap b o H) :
    Calls Try.prog 3 #[va, .slice a n cap] w fun e w' => e = .returned (.bool true) ∧ Below w.heap.size w w' := by
  have m1 := hq.le
  have m2 := hq.max
  unfold maxLen at m2
  obtain ⟨xa, xn, xc, rfl, HXN, x1, x2⟩ := hv.sh
  have HV := Lib.hid hv
  have HQ := Lib.hid hq
  have WK := Lib.hid (fun W => fwakes_any W)
  clear hv hq
  by_cases hbig : 20 < xn ∨ 100 < n
  · have hb2 : (decide ((20 : Int) < (xn : Int)) = true) ∨ (decide ((20 : Int) < (xn : Int)) = false ∧ decide ((100 : Int) < (n : Int)) = true) := by
      by_cases h : 20 < xn
      · exact .inl (decide_eq_true (by omega))
      · exact .inr ⟨decide_eq_false (by omega), decide_eq_true (by omega)⟩
    clear hbig
    rcases hb2 with d1 | ⟨d1, d2⟩
    all_goals
      go_enter Try.func3, Try.ntmps3
      go_wp2_with fail
      go_at_call 7
      go_fit (WK.out _)
      rintro e Wz ⟨rfl, hBz⟩
      have HBz := Lib.hid (hBz)
      clear hBz
      go_wp2_with fail
      try rw [Exit.noGoto_ret]
      go_ret
      exact ⟨rfl, HBz.out⟩
  have d1 : decide ((20 : Int) < (xn : Int)) = false := decide_eq_false (by omega)
  have d2 : decide ((100 : Int) < (n : Int)) = false := decide_eq_false (by omega)
  have HN20 : Hid (xn ≤ 20 ∧ n ≤ 100) := Lib.hid (by omega)
  have NW := Lib.hid (fnew_all _ L w HV.out)
  clear hbig
  go_enter Try.func3, Try.ntmps3
  go_wp2_with fail
  go_at_call 8
  go_fit (NW.out)
  intro e W1 hnew
  clear NW
  rcases hnew with ⟨hwt, g, fo, ft, c1, c2, rfl, hfr, hB1⟩ | ⟨hwt, rfl, hB1⟩
  rotate_left
  · have HB1 := Lib.hid hB1
    have HWT := Lib.hid hwt
    have NR := Lib.hid (rfnew_all _ L W1 (HV.out.below hB1))
    clear hB1 hwt
    go_wp2_with fail
    go_at_call 9
    go_fit (NR.out)
    intro e W2 hnew
    clear NR
    rcases hnew with ⟨hwt, _⟩ | ⟨_, rfl, hB2⟩
    · exact absurd hwt HWT.out
    have HB2 := Lib.hid (HB1.out.trans (hB2.mono HB1.out.size))
    clear hB2
    go_wp2_with fail
    go_loopw [9] (fun vi wr => vi = .int .i64 0 ∧ wr = W2) (fun _ _ => 0)
    case atStart => exact ⟨rfl, rfl⟩
    case round =>
      obtain ⟨rfl, rfl⟩ := hrel
      by_cases h0 : 0 < n
      · have d0 : decide ((0 : Int) < (n : Int)) = true := decide_eq_true (by omega)
        have d0' : decide (0 < n) = true := decide_eq_true h0
        clear h0
        go_wp2_with fail
        go_at_call 11
        go_fit (fpick_none _)
        rintro e Wa ⟨rfl, hBa⟩
        have HBa := Lib.hid (HB2.out.trans (hBa.mono HB2.out.size))
        clear hBa
        go_wp2_with fail
        go_at_call 10
        go_fit (fcopy_none _)
        rintro e Wb ⟨rfl, hBb⟩
        have HBb := Lib.hid (HBa.out.trans (hBb.mono HBa.out.size))
        clear hBb
        go_wp2_with fail
        go_at_call 14
        go_fit (fstate_none _)
        rintro e Wc ⟨rfl, hBc⟩
        have HBc := Lib.hid (HBb.out.trans (hBc.mono HBb.out.size))
        clear hBc
        go_wp2_with fail
        go_at_call 13
        go_fit (fvirt_any 0 none 0 0 0 0 s0F.T none 0 0 0 s0F.T _ (tin0 _) (tin0 _) (fun _ _ => rfl))
        rintro e Wd ⟨rfl, hBd⟩
        have HBd := Lib.hid (HBc.out.trans (hBd.mono HBc.out.size))
        clear hBd
        go_wp2_with fail
        go_at_call 7
        go_fit (WK.out _)
        rintro e We ⟨rfl, hBe⟩
        have HBe := Lib.hid (HBd.out.trans (hBe.mono HBd.out.size))
        clear hBe
        go_wp2_with fail
        try rw [Exit.noGoto_ret]
        go_ret
        exact ⟨rfl, HBe.out⟩
      · have d0 : decide ((0 : Int) < (n : Int)) = false := decide_eq_false (by omega)
        have d0' : decide (0 < n) = false := decide_eq_false h0
        clear h0
        go_wp2_with fail
        go_at_call 11
        go_fit (fpick_none _)
        rintro e Wa ⟨rfl, hBa⟩
        have HBa := Lib.hid (HB2.out.trans (hBa.mono HB2.out.size))
        clear hBa
        go_wp2_with fail
        go_at_call 10
        go_fit (fcopy_none _)
        rintro e Wb ⟨rfl, hBb⟩
        have HBb := Lib.hid (HBa.out.trans (hBb.mono HBa.out.size))
        clear hBb
        go_wp2_with fail
        go_at_call 14
        go_fit (fstate_none _)
        rintro e Wc ⟨rfl, hBc⟩
        have HBc := Lib.hid (HBb.out.trans (hBc.mono HBb.out.size))
        clear hBc
        go_wp2_with fail
        go_at_call 13
        go_fit (fvirt_any 0 none 0 0 0 0 s0F.T none 0 0 0 s0F.T _ (tin0 _) (tin0 _) (fun _ _ => rfl))
        rintro e Wd ⟨rfl, hBd⟩
        have HBd := Lib.hid (HBc.out.trans (hBd.mono HBc.out.size))
        clear hBd
        go_wp2_with fail
        go_at_call 7
        go_fit (WK.out _)
        rintro e We ⟨rfl, hBe⟩
        have HBe := Lib.hid (HBd.out.trans (hBe.mono HBd.out.size))
        clear hBe
        go_wp2_with fail
        try rw [Exit.noGoto_ret]
        go_ret
        exact ⟨rfl, HBe.out⟩
  have HB1 := Lib.hid hB1
  have HFR := Lib.hid hfr
  have HWT := Lib.hid hwt
  have NR := Lib.hid (rfnew_all _ L W1 (HV.out.below hB1))
  clear hB1 hfr hwt
  go_wp2_with fail
  go_at_call 9
  go_fit (NR.out)
  intro e W2 hnew
  clear NR
  rcases hnew with ⟨_, x, fr, c3, rfl, hxn, hrr, hB2⟩ | ⟨hwt, _⟩
  rotate_left
  · exact absurd HWT.out hwt
  have hB02 := HB1.out.trans (hB2.mono HB1.out.size)
  have HXK : Hid (x.n = xn) := Lib.hid (hxn.trans HXN.out.symm)
  have HX8 : Hid (1 ≤ xn ∧ xn ≤ 8) := Lib.hid (by rw [HXN.out]; exact ⟨HWT.out.1, HWT.out.2.1⟩)
  have hwk := HWT.out.ok
  have hfr := HFR.out.step hB2
  obtain ⟨ct, hct⟩ := blk_row HFR.out.tg
  have hft := hct.lt
  have hpx0 : PxAt w W2 w.heap.size g fo ft L.length c1 c2 W1.heap.size x fr c3 (gI L) (sumW (gI L) L.length) s0F := ⟨hfr, hrr, inv0 HWT.out.2.1, by have := hrr.ge; omega, hB02, ⟨Nat.le_refl _, HB1.out.size⟩⟩
  rw [← HXN.out] at hpx0 hwk
  obtain ⟨wt, hwt⟩ : ∃ f, f = gI L := ⟨_, rfl⟩
  obtain ⟨al, hal⟩ : ∃ y, y = sumW (gI L) xn := ⟨_, rfl⟩
  rw [← hal, ← hwt] at hpx0 hwk
  have HPX := Lib.hid hpx0
  have HWK := Lib.hid hwk
  clear hB2 hB02 hxn hrr hfr hct hft hpx0 hwk hwt hal HFR
  go_wp2_with fail
  go_loopw [9, 10, 11, 12, 13, 14, 15, 16] (fun vi _ _ _ _ _ _ _ wr => ∃ (k : Nat) (s : FS) (ft c2 fr c3 : Nat), k ≤ n ∧ vi = .int .i64 k ∧ PxAt w wr w.heap.size g fo ft xn c1 c2 W1.heap.size x fr c3 wt al s) (fun vi _ _ _ _ _ _ _ _ => n - (intOf vi).toNat)
  case atStart => exact ⟨0, s0F, ft, c2, fr, c3, Nat.zero_le _, rfl, HPX.out⟩
  case round =>
    clear HPX
    obtain ⟨k, s, ft, c2, fr, c3, hk, rfl, hpx⟩ := hrel
    have HPX := Lib.hid hpx
    by_cases hlt : k < n
    rotate_left
    · obtain rfl : k = n := by omega
      have HBX := Lib.hid hpx.b
      clear hpx HPX
      go_wp2_with fail
      go_at_call 11
      go_fit (fpick_none _)
      rintro e Wa ⟨rfl, hBa⟩
      have HBa := Lib.hid (HBX.out.trans (hBa.mono HBX.out.size))
      clear hBa
      go_wp2_with fail
      go_at_call 10
      go_fit (fcopy_none _)
      rintro e Wb ⟨rfl, hBb⟩
      have HBb := Lib.hid (HBa.out.trans (hBb.mono HBa.out.size))
      clear hBb
      go_wp2_with fail
      go_at_call 14
      go_fit (fstate_none _)
      rintro e Wc ⟨rfl, hBc⟩
      have HBc := Lib.hid (HBb.out.trans (hBc.mono HBb.out.size))
      clear hBc
      go_wp2_with fail
      go_at_call 13
      go_fit (fvirt_any 0 none 0 0 0 0 s0F.T none 0 0 0 s0F.T _ (tin0 _) (tin0 _) (fun _ _ => rfl))
      rintro e Wd ⟨rfl, hBd⟩
      have HBd := Lib.hid (HBc.out.trans (hBd.mono HBc.out.size))
      clear hBd
      go_wp2_with fail
      go_at_call 7
      go_fit (WK.out _)
      rintro e We ⟨rfl, hBe⟩
      have HBe := Lib.hid (HBd.out.trans (hBe.mono HBd.out.size))
      clear hBe
      go_wp2_with fail
      try rw [Exit.noGoto_ret]
      go_ret
      exact ⟨rfl, HBe.out⟩
    obtain ⟨ea, hbl⟩ := HQ.out.at_ (by omega)
    subst ea
    have HC0 := Lib.hid (fun (W' : World) (hB : Below w.heap.size w W') => (hB.cell (p := ⟨b, o + k, none⟩) hbl).trans (HQ.out.cell k hlt))
    have HHD := Lib.hid (fun (W' : World) (hB : Below w.heap.size w W') => (HQ.out.hd k hlt).below hB)
    have hmx := (HQ.out.hd k hlt).max
    have hml := (HQ.out.hd k hlt).le
    obtain ⟨⟨ha, m, hc, hb, ho, E⟩, hH⟩ : ∃ q, q = H k := ⟨_, rfl⟩
    rw [← hH] at HC0 HHD hmx hml
    simp only at HC0 HHD hmx hml
    unfold maxLen at hmx
    have b9 : ((k : Int) < (n : Int)) = True := eq_true (by omega)
    have bk1 : (k < n) = True := eq_true hlt
    have d0' : decide (k < n) = true := decide_eq_true hlt
    have b0 : ((0 : Int) ≤ (k : Int)) = True := eq_true (by omega)
    have ww5 : IntKind.i64.wrap ((k : Int) + 1) = (k : Int) + 1 := IntWalk.i64_in _ (by have := HN20.out; omega)
    have HLT := Lib.hid hlt
    have c0 := HC0.out _ hpx.b
    clear hH hlt hbl
    by_cases h20 : 20 < m
    · have d3 : decide ((20 : Int) < (m : Int)) = true := decide_eq_true (by omega)
      have HBX := Lib.hid hpx.b
      clear h20 hpx HPX
      go_wp2_with fail
      go_at_call 7
      go_fit (WK.out _)
      rintro e Wz ⟨rfl, hBz⟩
      have HBz := Lib.hid (HBX.out.trans (hBz.mono HBX.out.size))
      clear hBz
      go_wp2_with fail
      try rw [Exit.noGoto_ret]
      go_ret
      exact ⟨rfl, HBz.out⟩
    have d3 : decide ((20 : Int) < (m : Int)) = false := decide_eq_false (by omega)
    have HM20 : Hid (m ≤ 20) := Lib.hid (by omega)
    have CP := Lib.hid (fcopy_any w.heap.size g fo ft xn c1 c2 wt al s wr hpx.f hpx.iv (by have := HX8.out; omega))
    clear h20 hpx
    go_wp2_with fail
    go_at_call 10
    go_fit (CP.out)
    rintro e W3 ⟨gc, foc, ftc, e1, e2, rfl, hcc, hB3⟩
    have HPY := Lib.hid (HPX.out.copy hcc hB3)
    have HIV := Lib.hid HPX.out.iv
    clear hcc hB3 CP c0 HPX
    obtain ⟨oo, s', hpk⟩ := pkR_ex xn m wt al E s
    have HPK := Lib.hid hpk
    have HIV2 := Lib.hid (hpk.inv HWK.out HIV.out)
    have H0 : Hid (0 < xn) := Lib.hid (by have := HX8.out; omega)
    clear hpk
    have c0 := HC0.out _ HPY.out.b
    have P1 := Lib.hid (fpick_all w.heap.size g fo ft xn c1 c2 wt al s ha m hc hb ho E W3 oo s' HPY.out.f (fun W' hB => HHD.out W' (HPY.out.b.trans hB)) HIV.out HWK.out H0.out HPK.out)
    go_wp2_with fail
    go_at_call 11
    go_fit (P1.out)
    rintro e W4 ⟨rfl, hp4⟩
    obtain ⟨ft4, c4, hpy4⟩ := HPY.out.pickF hp4
    have HPY4 := Lib.hid hpy4
    clear hp4 hpy4 P1 c0 HPY
    have c0 := HC0.out _ HPY4.out.b
    have P2 := Lib.hid (rfpick_all W1.heap.size x fr c3 wt al s ha m hc hb ho E W4 oo s' HPY4.out.r (fun W' hB => HHD.out W' (HPY4.out.b.trans (hB.mono HB1.out.size))) (by rw [HXK.out]; exact HIV.out) (by rw [HXK.out]; exact HWK.out) (by rw [HXK.out]; exact H0.out) (by rw [HXK.out]; exact HPK.out))
    go_wp2_with fail
    go_at_call 12
    go_fit (P2.out)
    rintro e W5 ⟨rfl, hp5⟩
    obtain ⟨fr5, c5, hpy5⟩ := HPY4.out.pickR hp5
    have HPY5 := Lib.hid hpy5
    clear hp5 hpy5 P2 c0 HPY4
    have c0 := HC0.out _ HPY5.out.b
    have P3 := Lib.hid (fpick_all wr.heap.size gc foc ftc xn e1 e2 wt al s ha m hc hb ho E W5 oo s' HPY5.out.c (fun W' hB => HHD.out W' (HPY5.out.b.trans (hB.mono HPY5.out.m.2.2))) HIV.out HWK.out H0.out HPK.out)
    go_wp2_with fail
    go_at_call 11
    go_fit (P3.out)
    rintro e W6 ⟨rfl, hp6⟩
    obtain ⟨ftc6, c6, hpy6⟩ := HPY5.out.pickC hp6
    have HPY6 := Lib.hid hpy6
    clear hp6 hpy6 P3 c0 HPY5 HPK
    obtain ⟨K0, hK0⟩ : ∃ K0, K0 = kI oo := ⟨_, rfl⟩
    obtain ⟨B0, hB0⟩ : ∃ B0, B0 = oo.isSome := ⟨_, rfl⟩
    rw [← hK0, ← hB0]
    clear hK0 hB0
    have dk : ((K0 : Int) != K0) = false := by simp
    have db : ((B0 : Bool) != B0) = false := by simp
    go_upto_region 16 with fail
    refine wp_region_held_drew (S := fun X => X.cell? ⟨x.g, 2, none⟩ = some (.int .i64 s'.V) ∧ X.cell? ⟨x.g, 3, none⟩ = some (.slice (some ⟨fr5, 0, none⟩) x.n c5)) (by kernel_rfl) HPY6.out.held (fun hHeld => ?_)
    try simp only [Act.put, List.setIfInBounds_toArray, List.set_cons_zero, List.set_cons_succ]
    have HPY7 := Lib.hid (HPY6.out.step (W' := W6.drew) (belowN (Below.refl W6.heap.size W6) 1))
    clear HPY6
    ((refine wpAnyH_take (i := 0) (v := ?_) (by (simp only [List.getElem?_toArray, List.getElem?_cons_succ, List.getElem?_cons_zero]); rfl) (by kernel_rfl) (by kernel_rfl) (by kernel_rfl) (by exact fun _ _ _ h => h) (Or.inl ⟨by rfl, ?_⟩) (by assumption) ?_); rotate_left; focus (intro wS hSw; (try dsimp only at hSw); go_simp; first | done | with_reducible rfl); try simp only [Act.put, List.setIfInBounds_toArray, List.set_cons_zero, List.set_cons_succ])
    ((refine wpAnyH_take (i := 1) (v := ?_) (by (simp only [List.getElem?_toArray, List.getElem?_cons_succ, List.getElem?_cons_zero]); rfl) (by kernel_rfl) (by kernel_rfl) (by kernel_rfl) (by exact fun _ _ _ h => h) (Or.inl ⟨by rfl, ?_⟩) (by assumption) ?_); rotate_left; focus (intro wS hSw; (try dsimp only at hSw); go_simp; first | done | with_reducible rfl); try simp only [Act.put, List.setIfInBounds_toArray, List.set_cons_zero, List.set_cons_succ])
    ((refine wpAnyH_take (i := 2) (v := ?_) (by (simp only [List.getElem?_toArray, List.getElem?_cons_succ, List.getElem?_cons_zero]); rfl) (by kernel_rfl) (by kernel_rfl) (by kernel_rfl) (by exact fun _ _ _ h => h) (Or.inl ⟨by rfl, ?_⟩) (by assumption) ?_); rotate_left; focus (intro wS hSw; (try dsimp only at hSw); go_simp; first | done | with_reducible rfl); try simp only [Act.put, List.setIfInBounds_toArray, List.set_cons_zero, List.set_cons_succ])
    ((refine wpAnyH_take (i := 3) (v := ?_) (by (simp only [List.getElem?_toArray, List.getElem?_cons_succ, List.getElem?_cons_zero]); rfl) (by kernel_rfl) (by kernel_rfl) (by kernel_rfl) (by exact fun _ _ _ h => h) (Or.inl ⟨by rfl, ?_⟩) (by assumption) ?_); rotate_left; focus (intro wS hSw; (try dsimp only at hSw); go_simp; first | done | with_reducible rfl); try simp only [Act.put, List.setIfInBounds_toArray, List.set_cons_zero, List.set_cons_succ])
    ((refine wpAnyH_take (i := 4) (v := ?_) (by (simp only [List.getElem?_toArray, List.getElem?_cons_succ, List.getElem?_cons_zero]); rfl) (by kernel_rfl) (by kernel_rfl) (by kernel_rfl) (by exact fun _ _ _ h => h) (Or.inl ⟨by (go_simp; try rfl), ?_⟩) (by assumption) ?_); rotate_left; focus (intro wS hSw; (try dsimp only at hSw); go_simp; first | done | with_reducible rfl); try simp only [Act.put, List.setIfInBounds_toArray, List.set_cons_zero, List.set_cons_succ])
    ((refine wpAnyH_take (i := 5) (v := ?_) (by (simp only [List.getElem?_toArray, List.getElem?_cons_succ, List.getElem?_cons_zero]); rfl) (by kernel_rfl) (by kernel_rfl) (by kernel_rfl) (by exact fun _ _ _ h => h) (Or.inl ⟨by (go_simp; try rfl), ?_⟩) (by assumption) ?_); rotate_left; focus (intro wS hSw; (try dsimp only at hSw); go_simp; first | done | with_reducible rfl); try simp only [Act.put, List.setIfInBounds_toArray, List.set_cons_zero, List.set_cons_succ])
    ((refine wpAnyH_take (i := 6) (v := ?_) (by (simp only [List.getElem?_toArray, List.getElem?_cons_succ, List.getElem?_cons_zero]); rfl) (by kernel_rfl) (by kernel_rfl) (by kernel_rfl) (by exact fun _ _ _ h => h) (Or.inl ⟨by (go_simp; try rfl), ?_⟩) (by assumption) ?_); rotate_left; focus (intro wS hSw; (try dsimp only at hSw); go_simp; first | done | with_reducible rfl); try simp only [Act.put, List.setIfInBounds_toArray, List.set_cons_zero, List.set_cons_succ])
    ((refine wpAnyH_take (i := 7) (v := ?_) (by (simp only [List.getElem?_toArray, List.getElem?_cons_succ, List.getElem?_cons_zero]); rfl) (by kernel_rfl) (by kernel_rfl) (by kernel_rfl) (by exact fun _ _ _ h => h) (Or.inl ⟨by rfl, ?_⟩) (by assumption) ?_); rotate_left; focus (intro wS hSw; (try dsimp only at hSw); go_simp; first | done | with_reducible rfl); try simp only [Act.put, List.setIfInBounds_toArray, List.set_cons_zero, List.set_cons_succ])
    ((refine wpAnyH_take (i := 8) (v := ?_) (by (simp only [List.getElem?_toArray, List.getElem?_cons_succ, List.getElem?_cons_zero]); rfl) (by kernel_rfl) (by kernel_rfl) (by kernel_rfl) (by exact fun _ _ _ h => h) (Or.inl ⟨by rfl, ?_⟩) (by assumption) ?_); rotate_left; focus (intro wS hSw; (try dsimp only at hSw); go_simp; first | done | with_reducible rfl); try simp only [Act.put, List.setIfInBounds_toArray, List.set_cons_zero, List.set_cons_succ])
    ((refine wpAnyH_take (i := 9) (v := ?_) (by (simp only [List.getElem?_toArray, List.getElem?_cons_succ, List.getElem?_cons_zero]); rfl) (by kernel_rfl) (by kernel_rfl) (by kernel_rfl) (by exact fun _ _ _ h => h) (Or.inl ⟨by (go_simp; try rfl), ?_⟩) (by assumption) ?_); rotate_left; focus (intro wS hSw; (try dsimp only at hSw); go_simp; first | done | with_reducible rfl); try simp only [Act.put, List.setIfInBounds_toArray, List.set_cons_zero, List.set_cons_succ])
    ((refine wpAnyH_take (i := 10) (v := ?_) (by (simp only [List.getElem?_toArray, List.getElem?_cons_succ, List.getElem?_cons_zero]); rfl) (by kernel_rfl) (by kernel_rfl) (by kernel_rfl) (by exact fun _ _ _ h => h) (Or.inl ⟨by (go_simp; try rfl), ?_⟩) (by assumption) ?_); rotate_left; focus (intro wS hSw; (try dsimp only at hSw); go_simp; first | done | with_reducible rfl); try simp only [Act.put, List.setIfInBounds_toArray, List.set_cons_zero, List.set_cons_succ])
    ((refine wpAnyH_take (i := 11) (v := ?_) (by (simp only [List.getElem?_toArray, List.getElem?_cons_succ, List.getElem?_cons_zero]); rfl) (by kernel_rfl) (by kernel_rfl) (by kernel_rfl) (by exact fun _ _ _ h => h) (Or.inl ⟨by (go_simp; try rfl), ?_⟩) (by assumption) ?_); rotate_left; focus (intro wS hSw; (try dsimp only at hSw); go_simp; first | done | with_reducible rfl); try simp only [Act.put, List.setIfInBounds_toArray, List.set_cons_zero, List.set_cons_succ])
    ((refine wpAnyH_take (i := 12) (v := ?_) (by (simp only [List.getElem?_toArray, List.getElem?_cons_succ, List.getElem?_cons_zero]); rfl) (by kernel_rfl) (by kernel_rfl) (by kernel_rfl) (by exact fun _ _ _ h => h) (Or.inl ⟨by rfl, ?_⟩) (by assumption) ?_); rotate_left; focus (intro wS hSw; (try dsimp only at hSw); go_simp; first | done | with_reducible rfl); try simp only [Act.put, List.setIfInBounds_toArray, List.set_cons_zero, List.set_cons_succ])
    ((refine wpAnyH_take (i := 13) (v := ?_) (by (simp only [List.getElem?_toArray, List.getElem?_cons_succ, List.getElem?_cons_zero]); rfl) (by kernel_rfl) (by kernel_rfl) (by kernel_rfl) (by exact fun _ _ _ h => h) (Or.inl ⟨by rfl, ?_⟩) (by assumption) ?_); rotate_left; focus (intro wS hSw; (try dsimp only at hSw); go_simp; first | done | with_reducible rfl); try simp only [Act.put, List.setIfInBounds_toArray, List.set_cons_zero, List.set_cons_succ])
    ((refine wpAnyH_take (i := 14) (v := ?_) (by (simp only [List.getElem?_toArray, List.getElem?_cons_succ, List.getElem?_cons_zero]); rfl) (by kernel_rfl) (by kernel_rfl) (by kernel_rfl) (by exact fun _ _ _ h => h) (Or.inl ⟨by (go_simp; try rfl), ?_⟩) (by assumption) ?_); rotate_left; focus (intro wS hSw; (try dsimp only at hSw); go_simp; first | done | with_reducible rfl); try simp only [Act.put, List.setIfInBounds_toArray, List.set_cons_zero, List.set_cons_succ])
    ((refine wpAnyH_take (i := 15) (v := ?_) (by (simp only [List.getElem?_toArray, List.getElem?_cons_succ, List.getElem?_cons_zero]); rfl) (by kernel_rfl) (by kernel_rfl) (by kernel_rfl) (by exact fun _ _ _ h => h) (Or.inl ⟨by (go_simp; try rfl), ?_⟩) (by assumption) ?_); rotate_left; focus (intro wS hSw; (try dsimp only at hSw); go_simp; first | done | with_reducible rfl); try simp only [Act.put, List.setIfInBounds_toArray, List.set_cons_zero, List.set_cons_succ])
    ((refine wpAnyH_take (i := 16) (v := ?_) (by (simp only [List.getElem?_toArray, List.getElem?_cons_succ, List.getElem?_cons_zero]); rfl) (by kernel_rfl) (by kernel_rfl) (by kernel_rfl) (by exact fun _ _ _ h => h) (Or.inl ⟨by (go_simp; try rfl), ?_⟩) (by assumption) ?_); rotate_left; focus (intro wS hSw; (try dsimp only at hSw); go_simp; first | done | with_reducible rfl); try simp only [Act.put, List.setIfInBounds_toArray, List.set_cons_zero, List.set_cons_succ])
    ((refine wpAnyH_take (i := 17) (v := ?_) (by (simp only [List.getElem?_toArray, List.getElem?_cons_succ, List.getElem?_cons_zero]); rfl) (by kernel_rfl) (by kernel_rfl) (by kernel_rfl) (by exact fun _ _ _ h => h) (Or.inl ⟨by rfl, ?_⟩) (by assumption) ?_); rotate_left; focus (intro wS hSw; (try dsimp only at hSw); go_simp; first | done | with_reducible rfl); try simp only [Act.put, List.setIfInBounds_toArray, List.set_cons_zero, List.set_cons_succ])
    ((refine wpAnyH_take (i := 18) (v := ?_) (by (simp only [List.getElem?_toArray, List.getElem?_cons_succ, List.getElem?_cons_zero]); rfl) (by kernel_rfl) (by kernel_rfl) (by kernel_rfl) (by exact fun _ _ _ h => h) (Or.inl ⟨by rfl, ?_⟩) (by assumption) ?_); rotate_left; focus (intro wS hSw; (try dsimp only at hSw); go_simp; first | done | with_reducible rfl); try simp only [Act.put, List.setIfInBounds_toArray, List.set_cons_zero, List.set_cons_succ])
    ((refine wpAnyH_take (i := 19) (v := ?_) (by (simp only [List.getElem?_toArray, List.getElem?_cons_succ, List.getElem?_cons_zero]); rfl) (by kernel_rfl) (by kernel_rfl) (by kernel_rfl) (by exact fun _ _ _ h => h) (Or.inl ⟨by (go_simp; try rfl), ?_⟩) (by assumption) ?_); rotate_left; focus (intro wS hSw; (try dsimp only at hSw); go_simp; first | done | with_reducible rfl); try simp only [Act.put, List.setIfInBounds_toArray, List.set_cons_zero, List.set_cons_succ])
    ((refine wpAnyH_take (i := 21) (v := ?_) (by (simp only [List.getElem?_toArray, List.getElem?_cons_succ, List.getElem?_cons_zero]); rfl) (by kernel_rfl) (by kernel_rfl) (by kernel_rfl) (by exact fun _ _ _ h => h) (Or.inl ⟨by (go_simp; try rfl), ?_⟩) (by assumption) ?_); rotate_left; focus (intro wS hSw; (try dsimp only at hSw); go_simp; first | done | with_reducible rfl); try simp only [Act.put, List.setIfInBounds_toArray, List.set_cons_zero, List.set_cons_succ])
    ((refine wpAnyH_take (i := 22) (v := ?_) (by (simp only [List.getElem?_toArray, List.getElem?_cons_succ, List.getElem?_cons_zero]); rfl) (by kernel_rfl) (by kernel_rfl) (by kernel_rfl) (by exact fun _ _ _ h => h) (Or.inl ⟨by (go_simp; try rfl), ?_⟩) (by assumption) ?_); rotate_left; focus (intro wS hSw; (try dsimp only at hSw); go_simp; first | done | with_reducible rfl); try simp only [Act.put, List.setIfInBounds_toArray, List.set_cons_zero, List.set_cons_succ])
    ((refine wpAnyH_take (i := 23) (v := ?_) (by (simp only [List.getElem?_toArray, List.getElem?_cons_succ, List.getElem?_cons_zero]); rfl) (by kernel_rfl) (by kernel_rfl) (by kernel_rfl) (by exact fun _ _ _ h => h) (Or.inl ⟨by (go_simp; try rfl), ?_⟩) (by assumption) ?_); rotate_left; focus (intro wS hSw; (try dsimp only at hSw); go_simp; first | done | with_reducible rfl); try simp only [Act.put, List.setIfInBounds_toArray, List.set_cons_zero, List.set_cons_succ])
    ((refine wpAnyH_take (i := 24) (v := ?_) (by (simp only [List.getElem?_toArray, List.getElem?_cons_succ, List.getElem?_cons_zero]); rfl) (by kernel_rfl) (by kernel_rfl) (by kernel_rfl) (by exact fun _ _ _ h => h) (Or.inl ⟨by (go_simp; try rfl), ?_⟩) (by assumption) ?_); rotate_left; focus (intro wS hSw; (try dsimp only at hSw); go_simp; first | done | with_reducible rfl); try simp only [Act.put, List.setIfInBounds_toArray, List.set_cons_zero, List.set_cons_succ])
    refine wpAnyH_ready (rs := [20]) (by kernel_rfl) (by simp) ?_
    refine AllReadyH.cons (by (simp only [List.getElem?_toArray, List.getElem?_cons_succ, List.getElem?_cons_zero]); rfl) (fun K hK => ?_) AllReadyH.nil
    go_simp
    go_fit (fstate_any w.heap.size g fo ft4 xn c1 c4 wt al s' _ HPY7.out.f HIV2.out H0.out)
    rintro e W8 ⟨fts, cs8, rfl, hr8, _, hB8⟩
    have HPY8 := Lib.hid (HPY7.out.step hB8)
    have HTS := Lib.hid (show TagsIn W8 (some ⟨fts, 0, none⟩) xn cs8 fts 0 s'.T by
      obtain ⟨a', c', he, ht⟩ := tags_row hr8 (fun q hq => HIV2.out.tok q hq)
      injection he with e1 e2 e3
      subst e1 e3
      exact ht)
    have HTR := Lib.hid (show TagsIn W8 (some ⟨fr5, 0, none⟩) x.n c5 fr5 0 s'.T from HPY8.out.r.tags (fun q hq => HIV2.out.tok q (by rw [← HXK.out]; exact hq)))
    rw [HXK.out] at HTR
    clear hr8 hB8 HPY7
    go_wp2_with fail
    refine hK.out _ _ HPY8.out.held (fun hHeld => ?_)
    clear hK K
    try simp only [Act.put, List.setIfInBounds_toArray, List.set_cons_zero, List.set_cons_succ]
    refine wpAnyH_ready (rs := [25]) (by kernel_rfl) (by simp) ?_
    refine AllReadyH.cons (by (simp only [List.getElem?_toArray, List.getElem?_cons_succ, List.getElem?_cons_zero]); rfl) (fun K hK => ?_) AllReadyH.nil
    go_simp
    rw [HXK.out]
    go_fit (fvirt_any s'.V (some ⟨fts, 0, none⟩) xn cs8 fts 0 s'.T (some ⟨fr5, 0, none⟩) c5 fr5 0 s'.T W8 HTS.out HTR.out (fun _ _ => rfl))
    rintro e W9 ⟨rfl, hB9⟩
    have HPY9 := Lib.hid (HPY8.out.step hB9)
    clear hB9 HPY8 HTS HTR
    go_wp2_with fail
    refine hK.out _ _ HPY9.out.held (fun hHeld => ?_)
    clear hK K
    try simp only [Act.put, List.setIfInBounds_toArray, List.set_cons_zero, List.set_cons_succ]
    ((refine wpAnyH_take (i := 26) (v := ?_) (by (simp only [List.getElem?_toArray, List.getElem?_cons_succ, List.getElem?_cons_zero]); rfl) (by kernel_rfl) (by kernel_rfl) (by kernel_rfl) (by exact fun _ _ _ h => h) (Or.inl ⟨by (go_simp; try rfl), ?_⟩) (by assumption) ?_); rotate_left; focus (intro wS hSw; (try dsimp only at hSw); go_simp; first | done | with_reducible rfl); try simp only [Act.put, List.setIfInBounds_toArray, List.set_cons_zero, List.set_cons_succ])
    ((refine wpAnyH_take (i := 27) (v := ?_) (by (simp only [List.getElem?_toArray, List.getElem?_cons_succ, List.getElem?_cons_zero]); rfl) (by kernel_rfl) (by kernel_rfl) (by kernel_rfl) (by exact fun _ _ _ h => h) (Or.inl ⟨by rfl, ?_⟩) (by assumption) ?_); rotate_left; focus (intro wS hSw; (try dsimp only at hSw); go_simp; first | done | with_reducible rfl); try simp only [Act.put, List.setIfInBounds_toArray, List.set_cons_zero, List.set_cons_succ])
    ((refine wpAnyH_take (i := 28) (v := ?_) (by (simp only [List.getElem?_toArray, List.getElem?_cons_succ, List.getElem?_cons_zero]); rfl) (by kernel_rfl) (by kernel_rfl) (by kernel_rfl) (by exact fun _ _ _ h => h) (Or.inl ⟨by rfl, ?_⟩) (by assumption) ?_); rotate_left; focus (intro wS hSw; (try dsimp only at hSw); go_simp; first | done | with_reducible rfl); try simp only [Act.put, List.setIfInBounds_toArray, List.set_cons_zero, List.set_cons_succ])
    ((refine wpAnyH_take (i := 29) (v := ?_) (by (simp only [List.getElem?_toArray, List.getElem?_cons_succ, List.getElem?_cons_zero]); rfl) (by kernel_rfl) (by kernel_rfl) (by kernel_rfl) (by exact fun _ _ _ h => h) (Or.inl ⟨by (go_simp; try rfl), ?_⟩) (by assumption) ?_); rotate_left; focus (intro wS hSw; (try dsimp only at hSw); go_simp; first | done | with_reducible rfl); try simp only [Act.put, List.setIfInBounds_toArray, List.set_cons_zero, List.set_cons_succ])
    ((refine wpAnyH_take (i := 31) (v := ?_) (by (simp only [List.getElem?_toArray, List.getElem?_cons_succ, List.getElem?_cons_zero]); rfl) (by kernel_rfl) (by kernel_rfl) (by kernel_rfl) (by exact fun _ _ _ h => h) (Or.inl ⟨by (go_simp; try rfl), ?_⟩) (by assumption) ?_); rotate_left; focus (intro wS hSw; (try dsimp only at hSw); go_simp; first | done | with_reducible rfl); try simp only [Act.put, List.setIfInBounds_toArray, List.set_cons_zero, List.set_cons_succ])
    ((refine wpAnyH_take (i := 32) (v := ?_) (by (simp only [List.getElem?_toArray, List.getElem?_cons_succ, List.getElem?_cons_zero]); rfl) (by kernel_rfl) (by kernel_rfl) (by kernel_rfl) (by exact fun _ _ _ h => h) (Or.inl ⟨by (go_simp; try rfl), ?_⟩) (by assumption) ?_); rotate_left; focus (intro wS hSw; (try dsimp only at hSw); go_simp; first | done | with_reducible rfl); try simp only [Act.put, List.setIfInBounds_toArray, List.set_cons_zero, List.set_cons_succ])
    ((refine wpAnyH_take (i := 33) (v := ?_) (by (simp only [List.getElem?_toArray, List.getElem?_cons_succ, List.getElem?_cons_zero]); rfl) (by kernel_rfl) (by kernel_rfl) (by kernel_rfl) (by exact fun _ _ _ h => h) (Or.inl ⟨by (go_simp; try rfl), ?_⟩) (by assumption) ?_); rotate_left; focus (intro wS hSw; (try dsimp only at hSw); go_simp; first | done | with_reducible rfl); try simp only [Act.put, List.setIfInBounds_toArray, List.set_cons_zero, List.set_cons_succ])
    ((refine wpAnyH_take (i := 34) (v := ?_) (by (simp only [List.getElem?_toArray, List.getElem?_cons_succ, List.getElem?_cons_zero]); rfl) (by kernel_rfl) (by kernel_rfl) (by kernel_rfl) (by exact fun _ _ _ h => h) (Or.inl ⟨by (go_simp; try rfl), ?_⟩) (by assumption) ?_); rotate_left; focus (intro wS hSw; (try dsimp only at hSw); go_simp; first | done | with_reducible rfl); try simp only [Act.put, List.setIfInBounds_toArray, List.set_cons_zero, List.set_cons_succ])
    refine wpAnyH_ready (rs := [30]) (by kernel_rfl) (by simp) ?_
    refine AllReadyH.cons (by (simp only [List.getElem?_toArray, List.getElem?_cons_succ, List.getElem?_cons_zero]); rfl) (fun K hK => ?_) AllReadyH.nil
    go_simp
    go_fit (fstate_any wr.heap.size gc foc ftc6 xn e1 c6 wt al s' _ HPY9.out.c HIV2.out H0.out)
    rintro e W10 ⟨ftt, cs10, rfl, hr10, _, hB10⟩
    have HPY10 := Lib.hid (HPY9.out.step hB10)
    have HTS := Lib.hid (show TagsIn W10 (some ⟨ftt, 0, none⟩) xn cs10 ftt 0 s'.T by
      obtain ⟨a', c', he, ht⟩ := tags_row hr10 (fun q hq => HIV2.out.tok q hq)
      injection he with e1 e2 e3
      subst e1 e3
      exact ht)
    have HTR := Lib.hid (show TagsIn W10 (some ⟨fr5, 0, none⟩) x.n c5 fr5 0 s'.T from HPY10.out.r.tags (fun q hq => HIV2.out.tok q (by rw [← HXK.out]; exact hq)))
    rw [HXK.out] at HTR
    clear hr10 hB10 HPY9
    go_wp2_with fail
    refine hK.out _ _ HPY10.out.held (fun hHeld => ?_)
    clear hK K
    try simp only [Act.put, List.setIfInBounds_toArray, List.set_cons_zero, List.set_cons_succ]
    refine wpAnyH_ready (rs := [35]) (by kernel_rfl) (by simp) ?_
    refine AllReadyH.cons (by (simp only [List.getElem?_toArray, List.getElem?_cons_succ, List.getElem?_cons_zero]); rfl) (fun K hK => ?_) AllReadyH.nil
    go_simp
    rw [HXK.out]
    go_fit (fvirt_any s'.V (some ⟨ftt, 0, none⟩) xn cs10 ftt 0 s'.T (some ⟨fr5, 0, none⟩) c5 fr5 0 s'.T W10 HTS.out HTR.out (fun _ _ => rfl))
    rintro e W11 ⟨rfl, hB11⟩
    have HPY11 := Lib.hid (HPY10.out.step hB11)
    clear hB11 HPY10 HTS HTR
    go_wp2_with fail
    refine hK.out _ _ HPY11.out.held (fun hHeld => ?_)
    clear hK K
    try simp only [Act.put, List.setIfInBounds_toArray, List.set_cons_zero, List.set_cons_succ]
    ((refine wpAnyH_take (i := 36) (v := ?_) (by (simp only [List.getElem?_toArray, List.getElem?_cons_succ, List.getElem?_cons_zero]); rfl) (by kernel_rfl) (by kernel_rfl) (by kernel_rfl) (by exact fun _ _ _ h => h) (Or.inl ⟨by (go_simp; try rfl), ?_⟩) (by assumption) ?_); rotate_left; focus (intro wS hSw; (try dsimp only at hSw); go_simp; first | done | with_reducible rfl); try simp only [Act.put, List.setIfInBounds_toArray, List.set_cons_zero, List.set_cons_succ])
    ((refine wpAnyH_take (i := 37) (v := ?_) (by (simp only [List.getElem?_toArray, List.getElem?_cons_succ, List.getElem?_cons_zero]); rfl) (by kernel_rfl) (by kernel_rfl) (by kernel_rfl) (by exact fun _ _ _ h => h) (Or.inl ⟨by rfl, ?_⟩) (by assumption) ?_); rotate_left; focus (intro wS hSw; (try dsimp only at hSw); go_simp; first | done | with_reducible rfl); try simp only [Act.put, List.setIfInBounds_toArray, List.set_cons_zero, List.set_cons_succ])
    refine wpAnyH_done (by kernel_rfl) ?_ _
    try simp only [Act.put, List.setIfInBounds_toArray, List.set_cons_zero, List.set_cons_succ]
    have HPXN := Lib.hid (HPY11.out.px HIV2.out)
    clear HPY11
    go_wp2_with fail
    go_roundw
    case rel => exact ⟨k + 1, s', ft4, c4, fr5, c5, by have := HLT.out; omega, by go_num, HPXN.out⟩
    case measure => (have h8 := HLT.out; first | (simp [intOf]; done) | (simp [intOf]; omega))
theorem fairPicks_dt (a : Option Addr) (n c : Nat) (xs : List Dt) (a2 : Option Addr) (n2 c2 : Nat) (xs2 : List Dt) (w : World) (h : SliceFits Try.prog w 3 a n c xs) (h2 : SliceFits Try.prog w 32 a2 n2 c2 xs2) : Calls Try.prog 3 #[.slice a n c, .slice a2 n2 c2] w fun e w' => e = .returned (.bool true) ∧ Below w.heap.size w w' := by
  obtain ⟨L, _, hL⟩ := inv_cells w h
  obtain ⟨b, o, H, hH⟩ := hs_cells w h2
  exact fairPicks_walk _ L a2 n2 c2 b o H w hL hH
end Go.Proofs.Ytnainlemnkfpkaa
