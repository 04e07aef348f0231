/-
  A lease made: the document.
-/
import Derived.Test.YthmjlomlceljkaaGp1
import Derived.Deep.DeepFit
import Derived.Lib.AppendZeros
import Derived.Deep.RegionLaw
import Derived.Deep.RegionWith
import Derived.Lib.EndianBits
import Derived.Deep.MidRow
namespace Go.Proofs.Ythmjlomlceljkaa
open Go.RowKit
set_option linter.unusedSimpArgs false
set_option linter.unusedVariables false

def mdE (el lease t : Int) : Int := if lease < 1 ∨ t < el then 2 else 0
def mdN (el now lease t : Int) : Int := if lease < 1 ∨ t < el then now else max now t
def mdL (el lease t : Int) (Ls : List Int) : List Int := if lease < 1 ∨ t < el then Ls else if fnd lease 0 Ls < 0 then Ls ++ [lease] else Ls
def mdT (el lease t : Int) (Ls Ts : List Int) : List Int := if lease < 1 ∨ t < el then Ts else if fnd lease 0 Ls < 0 then Ts ++ [t] else Ts
set_option maxRecDepth 100000 in
set_option maxHeartbeats 16000000 in
theorem rmade_any (lease t : Int) (M g : Nat) (tk rho el now : Int) (vl vt : Value) (ol ot : Option Nat) (Ls Ts : List Int) (w : World) (h : RDk M w g tk rho el now vl vt ol ot Ls Ts) (hl : -9223372036854775808 ≤ lease ∧ lease ≤ 9223372036854775807) (ht : -9223372036854775808 ≤ t ∧ t ≤ 9223372036854775807) (h1 : Ls.length ≤ 100000) (h2 : Ts.length ≤ 100000) :
    Calls Try.prog 15 #[.pointer (some ⟨g, 0, none⟩), .int .i64 lease, .int .i64 t] w fun e w' => e = .returned (.int .i64 (mdE el lease t)) ∧ BT M w w' ∧ ∃ vl' vt' ol' ot', RDk M w' g tk rho el (mdN el now lease t) vl' vt' ol' ot' (mdL el lease t Ls) (mdT el lease t Ls Ts) := by
  obtain ⟨a, n, cap, rfl, HN, m1, m2⟩ := h.ls.v.sh
  obtain ⟨b, tn, tcap, rfl, HT, t1, t2⟩ := h.ts.v.sh
  have HR := Lib.hid h
  have HLE := Lib.hid hl
  have HTE := Lib.hid ht
  have hM : M ≤ w.heap.size := by have := h.blk.lt; have := h.ge; omega
  have HM := Lib.hid hM
  have H1 := Lib.hid h1
  have H2 := Lib.hid h2
  have HF := Lib.hid (fun W now (h : RDk M W g tk rho el now (.slice a n cap) (.slice b tn tcap) ol ot Ls Ts) => rfind_any lease M g tk rho el now _ _ ol ot Ls Ts W h)
  have e2 : w.cell? ⟨g, 2, none⟩ = some (.int .i64 el) := cell_at h.blk 2
  have e3 : w.cell? ⟨g, 3, none⟩ = some (.int .i64 now) := cell_at h.blk 3
  have ez : ∀ j, w.frozen? ⟨g, j, none⟩ = false := fun j => free_at h.blk j
  have el0 : g < w.heap.size := h.blk.lt
  obtain ⟨R, hR⟩ : ∃ R, R = fnd lease 0 Ls := ⟨_, rfl⟩
  rw [← hR] at HF
  have HRR := Lib.hid hR
  clear h hl ht hM h1 h2 hR
  by_cases c1 : lease < 1
  · skip
    have d1 : decide (lease < 1) = true := decide_eq_true c1
    have C1 := Lib.hid c1
    clear c1
    go_enter Try.func15, Try.ntmps15
    go_wp2_with fail
    try rw [Exit.noGoto_ret]
    go_ret
    exact ⟨by unfold mdE; rw [if_pos (.inl C1.out)]; rfl, BT.refl _ _, _, _, _, _, by unfold mdN mdL mdT; rw [if_pos (.inl C1.out), if_pos (.inl C1.out), if_pos (.inl C1.out)]; exact HR.out⟩
  have d1 : decide (lease < 1) = false := decide_eq_false c1
  by_cases c2 : t < el
  · skip
    have d2 : decide (t < el) = true := decide_eq_true c2
    have C2 := Lib.hid c2
    clear c1 c2
    go_enter Try.func15, Try.ntmps15
    go_wp2_with fail
    try rw [Exit.noGoto_ret]
    go_ret
    exact ⟨by unfold mdE; rw [if_pos (.inr C2.out)]; rfl, BT.refl _ _, _, _, _, _, by unfold mdN mdL mdT; rw [if_pos (.inr C2.out), if_pos (.inr C2.out), if_pos (.inr C2.out)]; exact HR.out⟩
  have d2 : decide (t < el) = false := decide_eq_false c2
  have hnb : ¬ (lease < 1 ∨ t < el) := by omega
  have HNB := Lib.hid hnb
  clear c1 c2 hnb
  obtain ⟨Nw, hNw⟩ : ∃ N, N = max now t := ⟨_, rfl⟩
  have e1 : (if now < t then t else now) = Nw := by rw [hNw]; split <;> omega
  have HNW := Lib.hid hNw
  clear hNw
  go_enter Try.func15, Try.ntmps15
  go_upto_region 4 with fail
  obtain ⟨W1, hW1⟩ : ∃ X, X = w.setCell ⟨g, 3, none⟩ (.int .i64 (Nw)) := ⟨_, rfl⟩
  rw [← hW1]
  obtain ⟨hR1, hB1⟩ := HR.out.set hW1 HM.out
  have HR1 := Lib.hid hR1
  have HB1 := Lib.hid hB1
  clear hR1 hB1 hW1 e1 e2 e3 ez el0
  go_wp2_with fail
  go_at_call 37
  go_fit (HF.out W1 _ HR1.out)
  rintro e W2 ⟨rfl, rfl⟩
  by_cases c3 : R < 0
  rotate_left
  · have d3 : decide (R < 0) = false := decide_eq_false c3
    have C3 : Hid (¬ R < 0) := Lib.hid c3
    clear c3
    go_wp2_with fail
    try rw [Exit.noGoto_ret]
    go_ret
    exact ⟨by unfold mdE; rw [if_neg HNB.out]; rfl, HB1.out, _, _, _, _, by unfold mdN mdL mdT; rw [if_neg HNB.out, if_neg HNB.out, if_neg HNB.out, ← HNW.out, ← HRR.out, if_neg (show ¬ R < 0 by have := C3.out; omega), if_neg (show ¬ R < 0 by have := C3.out; omega)]; exact HR1.out⟩
  have d3 : decide (R < 0) = true := decide_eq_true c3
  have C3 := Lib.hid c3
  clear c3
  have hM1 : M ≤ W1.heap.size := Nat.le_trans HM.out HB1.out.size
  have hB2 : Below W1.heap.size W1 (W1.alloc (.cells #[.int .i64 lease] 3)) := (Below.refl _ _).alloc (Nat.le_refl _) _
  have hR2 := HR1.out.step hB2
  obtain ⟨v3, o3, W3, hrun, hio, hgr, hnw, hlo⟩ := in_grow (ty := 33) hR2.ls (blk_new W1 #[.int .i64 lease] 3) HLE.out (Nat.le_trans hM1 hB2.size) (by have := H1.out; omega)
  obtain ⟨a3, n3, c3, rfl, H3, q31, q32⟩ := hio.v.sh
  have HRUN := Lib.hid hrun
  have f4 : W1.cell? ⟨g, 4, none⟩ = some (.slice a n cap) := cell_at HR1.out.blk 4
  have hb3 : Blk W3 g #[.int .i64 tk, .int .i64 rho, .int .i64 el, .int .i64 (Nw), .slice a n cap, .slice b tn tcap] 75 := (hgr.block g hR2.blk.lt (fun e => hR2.ls.ne hR2.blk (by decide) e.symm)).trans hR2.blk
  have g4 : W3.cell? ⟨g, 4, none⟩ = some (.slice a n cap) := cell_at hb3 4
  have gz : ∀ j, W3.frozen? ⟨g, j, none⟩ = false := fun j => free_at hb3 j
  have gl : g < W3.heap.size := hb3.lt
  have HADD := Lib.hid (fun W' hW => hR2.setL (W' := W') hio hgr hlo (.inr rfl) (by
    rcases hnw with h | h
    · exact .inr (.inl h.symm)
    · refine .inr (.inr ⟨_, rfl, fun y hy e => ?_⟩)
      have := hR2.ts.lt y hy
      omega) hW (Nat.le_trans hM1 hB2.size))
  have HB2 := Lib.hid (HB1.out.trans (bt_new hB2 hM1))
  clear hrun hio hgr hnw hlo hB2 hR2 hb3 hM1
  go_upto_region 6 with (at_builtin; refine Lib.wpList_append_run _ rfl (.tmp 34) (.tmp 36) 33 33 rfl _ _ rfl rfl _ _ HRUN.out ?_)
  obtain ⟨W4, hW4⟩ : ∃ X, X = W3.setCell ⟨g, 4, none⟩ (.slice a3 n3 c3) := ⟨_, rfl⟩
  rw [← hW4]
  obtain ⟨hR4, hB4⟩ := HADD.out W4 hW4
  have HR4 := Lib.hid hR4
  have HB4 := Lib.hid (HB2.out.trans hB4)
  clear hR4 hB4 HADD HB2 HRUN f4 g4 gz gl hW4
  have hM4 : M ≤ W4.heap.size := Nat.le_trans HM.out HB4.out.size
  have hB5 : Below W4.heap.size W4 (W4.alloc (.cells #[.int .i64 t] 3)) := (Below.refl _ _).alloc (Nat.le_refl _) _
  have hR5 := HR4.out.step hB5
  obtain ⟨v5, o5, W5, hrun, hio, hgr, hnw, hlo⟩ := in_grow (ty := 33) hR5.ts (blk_new W4 #[.int .i64 t] 3) HTE.out (Nat.le_trans hM4 hB5.size) (by have := H2.out; omega)
  obtain ⟨a5, n5, c5, rfl, H5, q51, q52⟩ := hio.v.sh
  have HRUN := Lib.hid hrun
  have f5 : W4.cell? ⟨g, 5, none⟩ = some (.slice b tn tcap) := cell_at HR4.out.blk 5
  have hb5 : Blk W5 g #[.int .i64 tk, .int .i64 rho, .int .i64 el, .int .i64 (Nw), .slice a3 n3 c3, .slice b tn tcap] 75 := (hgr.block g hR5.blk.lt (fun e => hR5.ts.ne hR5.blk (by decide) e.symm)).trans hR5.blk
  have g5 : W5.cell? ⟨g, 5, none⟩ = some (.slice b tn tcap) := cell_at hb5 5
  have gz : ∀ j, W5.frozen? ⟨g, j, none⟩ = false := fun j => free_at hb5 j
  have gl : g < W5.heap.size := hb5.lt
  have HADD := Lib.hid (fun W' hW => hR5.setT (W' := W') hio hgr hlo (.inr rfl) (by
    rcases hnw with h | h
    · exact .inr (.inl h.symm)
    · refine .inr (.inr ⟨_, rfl, fun y hy e => ?_⟩)
      have := hR5.ls.lt y hy
      omega) hW (Nat.le_trans hM4 hB5.size))
  have HB5 := Lib.hid (HB4.out.trans (bt_new hB5 hM4))
  clear hrun hio hgr hnw hlo hB5 hR5 hb5 hM4
  go_upto_region 7 with (at_builtin; refine Lib.wpList_append_run _ rfl (.tmp 44) (.tmp 46) 33 33 rfl _ _ rfl rfl _ _ HRUN.out ?_)
  obtain ⟨W6, hW6⟩ : ∃ X, X = W5.setCell ⟨g, 5, none⟩ (.slice a5 n5 c5) := ⟨_, rfl⟩
  rw [← hW6]
  obtain ⟨hR6, hB6⟩ := HADD.out W6 hW6
  have HR6 := Lib.hid hR6
  have HB6 := Lib.hid (HB5.out.trans hB6)
  clear hR6 hB6 HADD HB5 HRUN f5 g5 gz gl hW6
  go_wp2_with fail
  try rw [Exit.noGoto_ret]
  go_ret
  exact ⟨by unfold mdE; rw [if_neg HNB.out]; rfl, HB6.out, _, _, _, _, by unfold mdN mdL mdT; rw [if_neg HNB.out, if_neg HNB.out, if_neg HNB.out, ← HNW.out, ← HRR.out, if_pos C3.out, if_pos C3.out]; exact HR6.out⟩
end Go.Proofs.Ythmjlomlceljkaa
