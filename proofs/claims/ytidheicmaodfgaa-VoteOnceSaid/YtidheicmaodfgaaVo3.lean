/-
  VoteOnce, walked.
-/
import Derived.Test.YtidheicmaodfgaaVo
namespace Go.Proofs.Ytidheicmaodfgaa
open Go.RowKit

/-- two boxes of parameters, the first one written -/
def OQ (w : World) (c1 c2 : Array Value) (V : World) : Prop := V.heap[w.heap.size]? = some (.cells c1 23 (0, 0)) ∧ V.heap[w.heap.size + 1]? = some (.cells c2 26 (0, 0)) ∧ Below w.heap.size w V
theorem OQ.lt {w V : World} {c1 c2 : Array Value} (h : OQ w c1 c2 V) : w.heap.size + 1 < V.heap.size := (Array.getElem?_eq_some_iff.1 h.2.1).1
theorem OQ.step {w V W : World} {c1 c2 : Array Value} (h : OQ w c1 c2 V) (hB : Below V.heap.size V W) : OQ w c1 c2 W :=
  have hl := h.lt
  ⟨(hB.block _ (by omega)).trans h.1, (hB.block _ hl).trans h.2.1, h.2.2.trans (hB.mono h.2.2.size)⟩
theorem OQ.bel {w V : World} {c1 c2 : Array Value} (h : OQ w c1 c2 V) : Below w.heap.size w V := h.2.2
theorem OQ.alloc {w V : World} {c1 c2 : Array Value} (h : OQ w c1 c2 V) (o : Obj) : OQ w c1 c2 (V.alloc o) := h.step ((Below.refl _ _).alloc (Nat.le_refl _) o)
theorem OQ.drew {w V : World} {c1 c2 : Array Value} (h : OQ w c1 c2 V) : OQ w c1 c2 V.drew := ⟨h.1, h.2.1, h.2.2.drew⟩
theorem below_drewN {B : Nat} {w X : World} (h : Below B w X) (n : Nat) : Below B w (X.drewN n) := ⟨h.os, h.tape, h.output, h.size, h.block⟩
theorem OQ.drewN {w V : World} {c1 c2 : Array Value} (h : OQ w c1 c2 V) (n : Nat) : OQ w c1 c2 (V.drewN n) := ⟨h.1, h.2.1, below_drewN h.2.2 n⟩
theorem OQ.set {w V : World} {c1 c2 : Array Value} (h : OQ w c1 c2 V) (j : Nat) (u : Value) : OQ w (c1.setIfInBounds j u) c2 (V.setCell ⟨w.heap.size, j, none⟩ u) :=
  ⟨heap_setCell_same h.1 j u, (heap_setCell_ne V ⟨w.heap.size, j, none⟩ u _ (by simp only; omega)).trans h.2.1, h.2.2.setCell (by simp only; omega) _⟩
theorem OQ.far {w V : World} {c1 c2 : Array Value} {n j : Nat} {u : Value} (h : OQ w c1 c2 V) (hn : w.heap.size + 1 < n) : OQ w c1 c2 (V.setCell ⟨n, j, none⟩ u) :=
  ⟨(heap_setCell_ne V ⟨n, j, none⟩ u _ (by simp only; omega)).trans h.1, (heap_setCell_ne V ⟨n, j, none⟩ u _ (by simp only; omega)).trans h.2.1, h.2.2.setCell (by simp only; omega) _⟩
theorem OQ.mk0 (w : World) (c1 c2 : Array Value) : OQ w c1 c2 ((w.alloc (.cells c1 23)).alloc (.cells c2 26)) := by
  refine ⟨(Below.heap_alloc _ _ _ (by simp)).trans (heap_alloc_new w _), ?_, ((Below.refl _ _).alloc (Nat.le_refl _) _).alloc (by simp) _⟩
  have := heap_alloc_new (w.alloc (.cells c1 23)) (.cells c2 26)
  simpa using this
/-- what an ask's answer leaves in two boxes -/
def Told (X : World) (x y : Value) (A : Ans) : Prop := ∃ p q, x = .pointer (some ⟨p, 0, none⟩) ∧ y = .pointer (some ⟨q, 0, none⟩) ∧ X.cell? ⟨p, 0, none⟩ = some (.int .i64 A.t) ∧ X.cell? ⟨p, 1, none⟩ = some (.int .i64 A.v) ∧ X.cell? ⟨p, 2, none⟩ = some (.int .i64 A.b) ∧
  X.cell? ⟨q, 3, none⟩ = some (.int .i64 A.t2) ∧ X.cell? ⟨q, 7, none⟩ = some (.bool A.ok)

def CondS (w : World) (c0 c1 c2 r0 r1 r2 : Value) (b o k : Nat) (m : MsgE) (X : World) : Prop :=
  (X.cell? ⟨w.heap.size, 0, none⟩ = some c0 ∧ X.cell? ⟨w.heap.size, 1, none⟩ = some c1 ∧ X.cell? ⟨w.heap.size, 2, none⟩ = some c2) ∧
  (X.cell? ⟨w.heap.size + 1, 0, none⟩ = some r0 ∧ X.cell? ⟨w.heap.size + 1, 1, none⟩ = some r1 ∧ X.cell? ⟨w.heap.size + 1, 2, none⟩ = some r2)

set_option maxRecDepth 100000 in
set_option maxHeartbeats 40000000 in
theorem voteOnce_loop (ht hv hb base term self : Int) (a : Option Addr) (len cap b o : Nat) (E : Nat → Ent) (ma : Option Addr) (mn mc mb mo : Nat) (M : Nat → MsgE) (w : World) (hs : EntsIn w a len cap b o E) (hm : MsgIn w ma mn mc mb mo M)
    (h0 : 0 ≤ ht) (hg : ¬ 300 < len) (hmn : mn ≤ 60) (hr : rowsB base term len E = true) (hwk : ∀ w, Calls Try.prog 11 #[] w fun e w' => e = .returned (.bool true) ∧ Below w.heap.size w w') :
    Calls Try.prog 6 #[.agg #[.int .i64 ht, .int .i64 hv, .int .i64 hb], .agg #[.int .i64 base, .int .i64 term, .slice a len cap], .int .i64 self, .slice ma mn mc] w fun e w' => e = .returned (.bool true) ∧ Below w.heap.size w w' := by
  have HS := Lib.hid hs
  have HM := Lib.hid hm
  have HWK := Lib.hid hwk
  have HR := Lib.hid hr
  have HQ := Lib.hid (OQ.mk0 w #[.int .i64 ht, .int .i64 hv, .int .i64 hb] #[.int .i64 base, .int .i64 term, .slice a len cap])
  have G1 : Hid (decide (300 < len) = false) := Lib.hid (by simpa using hg)
  have R1 : Hid (∀ w, EntsIn w a len cap b o E → Calls Try.prog 24 #[.agg #[.int .i64 base, .int .i64 term, .slice a len cap]] w fun e w' => e = .returned (.int .i64 0) ∧ Below w.heap.size w w') := Lib.hid (fun w hs => by
    have := rcheck_any base term a len cap b o E w hs
    unfold rowsE at this
    rw [if_pos hr] at this
    exact this)
  clear hs hm hwk hg hr
  go_enter Try.func6, Try.ntmps6
  go_wp2_with (first
      | (go_at_call 10; refine (great_any _ _ _ _ _ _).mono ?_; rw [G1.out]; rintro e W ⟨rfl, rfl⟩)
      | (go_at_call 24; refine Calls.mono (R1.out _ ?_) ?_; exact HS.out.below (HQ.out.2.2.alloc (by simp; omega) _); rintro e W1 ⟨rfl, hW1⟩; have HQ1 := Lib.hid ((HQ.out.alloc _).step hW1); have c0 := cell_at HQ1.out.1 0))
  go_loopw [9] (fun i wr => ∃ (k : Nat) (t v : Int), k ≤ mn ∧ i = .int .i64 k ∧ 0 ≤ t ∧ OQ w #[.int .i64 t, .int .i64 v, .int .i64 hb] #[.int .i64 base, .int .i64 term, .slice a len cap] wr) (fun i _ => mn - (intOf i).toNat)
  case atStart => exact ⟨0, ht, hv, Nat.zero_le _, rfl, h0, HQ1.out⟩
  case round =>
    obtain ⟨k, t, v, hk, rfl, ht0, hoq⟩ := hrel
    have hml := HM.out.le
    have hmm := HM.out.max
    unfold maxLen at hmm
    have f0 := cell_at hoq.1 0
    by_cases hlt : k < mn
    · obtain ⟨e0, e1⟩ := HM.out.at_ (by omega)
      subst e0
      obtain ⟨⟨mk, mf, mtt, mt, mi, ml, mcc, mg, mea, men, mec, msi, mst, mss, msa, msn, msc, mda, mdn, mdc⟩, hM⟩ : ∃ q, M k = q := ⟨_, rfl⟩
      have HMK : Hid (∀ X, Below w.heap.size w X → X.cell? ⟨mb, mo + k * 14, none⟩ = some (.int .i8 mk) ∧ X.cell? ⟨mb, mo + k * 14 + 1, none⟩ = some (.int .i64 mf) ∧ X.cell? ⟨mb, mo + k * 14 + 2, none⟩ = some (.int .i64 mtt) ∧ X.cell? ⟨mb, mo + k * 14 + 3, none⟩ = some (.int .i64 mt) ∧ X.cell? ⟨mb, mo + k * 14 + 4, none⟩ = some (.int .i64 mi) ∧ X.cell? ⟨mb, mo + k * 14 + 5, none⟩ = some (.int .i64 ml) ∧ X.cell? ⟨mb, mo + k * 14 + 6, none⟩ = some (.int .i64 mcc) ∧ X.cell? ⟨mb, mo + k * 14 + 7, none⟩ = some (.bool mg) ∧ X.cell? ⟨mb, mo + k * 14 + 8, none⟩ = some (.slice mea men mec) ∧ X.cell? ⟨mb, mo + k * 14 + 9, none⟩ = some (.int .i64 msi) ∧ X.cell? ⟨mb, mo + k * 14 + 10, none⟩ = some (.int .i64 mst) ∧ X.cell? ⟨mb, mo + k * 14 + 11, none⟩ = some (.int .u8 mss) ∧ X.cell? ⟨mb, mo + k * 14 + 12, none⟩ = some (.slice msa msn msc) ∧ X.cell? ⟨mb, mo + k * 14 + 13, none⟩ = some (.slice mda mdn mdc)) := Lib.hid (fun X hX => by have := (HM.out.below hX).cell k hlt; rw [hM] at this; exact this)
      have HOQ := Lib.hid hoq
      obtain ⟨A, hA⟩ : ∃ A, ansS t v hb true (newerB base term len E mi ml) self mk mf mt = A := ⟨_, rfl⟩
      have A1 : Hid (∀ X, EntsIn X a len cap b o E → Calls Try.prog 15 #[.agg #[.int .i64 t, .int .i64 v, .int .i64 hb], .agg #[.int .i64 base, .int .i64 term, .slice a len cap], .int .i64 self, .agg #[.int .i8 mk, .int .i64 mf, .int .i64 mtt, .int .i64 mt, .int .i64 mi, .int .i64 ml, .int .i64 mcc, .bool mg, .slice mea men mec, .int .i64 msi, .int .i64 mst, .int .u8 mss, .slice msa msn msc, .slice mda mdn mdc]] X fun e w' => e = .returned (.tuple #[.agg #[.int .i64 A.t, .int .i64 A.v, .int .i64 A.b], .agg #[.int .i8 A.k, .int .i64 A.f, .int .i64 A.tt, .int .i64 A.t2, .int .i64 0, .int .i64 0, .int .i64 0, .bool A.ok, .slice none 0 0, .int .i64 0, .int .i64 0, .int .u8 0, .slice none 0 0, .slice none 0 0], .int .i64 A.e]) ∧ Below X.heap.size X w') :=
        Lib.hid (fun X hX => answer_any t v hb base term self a len cap b o E mk mf mtt mt mi ml mcc mg mea men mec msi mst mss msa msn msc mda mdn mdc X hX A (by rw [HR.out]; exact hA))
      have HON := Lib.hid (ans_once ht0 hA)
      clear hA hoq hM
      obtain ⟨ae, at_, av, ab, ak, af, att, at2, aok⟩ := A
      simp only at A1 HON
      have hl1 := HOQ.out.lt
      go_wp2_with fail
      go_cut [10, 11, 12] (fun x y z wx => Told wx x y ⟨ae, at_, av, ab, ak, af, att, at2, aok⟩ ∧ z = .int .i64 ae ∧ OQ w #[.int .i64 t, .int .i64 v, .int .i64 hb] #[.int .i64 base, .int .i64 term, .slice a len cap] wx)
      case first =>
        have c0 : wr.cell? ⟨w.heap.size, 0, none⟩ = some (.int .i64 t) := cell_at HOQ.out.1 0
        have c1 : wr.cell? ⟨w.heap.size, 1, none⟩ = some (.int .i64 v) := cell_at HOQ.out.1 1
        have c2 : wr.cell? ⟨w.heap.size, 2, none⟩ = some (.int .i64 hb) := cell_at HOQ.out.1 2
        have d0 : wr.cell? ⟨w.heap.size + 1, 0, none⟩ = some (.int .i64 base) := cell_at HOQ.out.2.1 0
        have d1 : wr.cell? ⟨w.heap.size + 1, 1, none⟩ = some (.int .i64 term) := cell_at HOQ.out.2.1 1
        have d2 : wr.cell? ⟨w.heap.size + 1, 2, none⟩ = some (.slice a len cap) := cell_at HOQ.out.2.1 2
        have mm := HMK.out wr HOQ.out.bel
        obtain ⟨m0, m1, m2, m3, m4, m5, m6, m7, m8, m9, m10, m11, m12, m13⟩ := mm
        have k0 : w.heap.size < wr.heap.size := by omega
        have k1 : w.heap.size < wr.heap.size + 1 := by omega
        have k2 : w.heap.size + 1 < wr.heap.size + 1 := by omega
        have k3 : mb < wr.heap.size := Nat.lt_of_lt_of_le e1 HOQ.out.bel.size
        have k4 : mb < wr.heap.size + 1 := by omega
        have k5 : w.heap.size < wr.heap.size + 1 + 1 := by omega
        have k6 : w.heap.size + 1 < wr.heap.size + 1 + 1 := by omega
        have k7 : mb < wr.heap.size + 1 + 1 := by omega
        have za0 : (w.heap.size = wr.heap.size) = False := eq_false (by omega)
        have za1 : (wr.heap.size = w.heap.size) = False := eq_false (by omega)
        have za2 : (w.heap.size = wr.heap.size + 1) = False := eq_false (by omega)
        have za3 : (wr.heap.size + 1 = w.heap.size) = False := eq_false (by omega)
        have za4 : (w.heap.size + 1 = wr.heap.size) = False := eq_false (by omega)
        have za5 : (wr.heap.size = w.heap.size + 1) = False := eq_false (by omega)
        have za6 : (w.heap.size + 1 = wr.heap.size + 1) = False := eq_false (by omega)
        have za7 : (wr.heap.size + 1 = w.heap.size + 1) = False := eq_false (by omega)
        have za8 : (mb = wr.heap.size) = False := eq_false (by omega)
        have za9 : (wr.heap.size = mb) = False := eq_false (by omega)
        have za10 : (mb = wr.heap.size + 1) = False := eq_false (by omega)
        have za11 : (wr.heap.size + 1 = mb) = False := eq_false (by omega)
        go_region_held3 (fun X => X.cell? ⟨w.heap.size, 0, none⟩ = some (.int .i64 t) ∧ X.cell? ⟨w.heap.size, 1, none⟩ = some (.int .i64 v) ∧ X.cell? ⟨w.heap.size, 2, none⟩ = some (.int .i64 hb) ∧ X.cell? ⟨w.heap.size + 1, 0, none⟩ = some (.int .i64 base) ∧ X.cell? ⟨w.heap.size + 1, 1, none⟩ = some (.int .i64 term) ∧ X.cell? ⟨w.heap.size + 1, 2, none⟩ = some (.slice a len cap) ∧ X.cell? ⟨mb, mo + k * 14, none⟩ = some (.int .i8 mk) ∧ X.cell? ⟨mb, mo + k * 14 + 1, none⟩ = some (.int .i64 mf) ∧ X.cell? ⟨mb, mo + k * 14 + 2, none⟩ = some (.int .i64 mtt) ∧ X.cell? ⟨mb, mo + k * 14 + 3, none⟩ = some (.int .i64 mt) ∧ X.cell? ⟨mb, mo + k * 14 + 4, none⟩ = some (.int .i64 mi) ∧ X.cell? ⟨mb, mo + k * 14 + 5, none⟩ = some (.int .i64 ml) ∧ X.cell? ⟨mb, mo + k * 14 + 6, none⟩ = some (.int .i64 mcc) ∧ X.cell? ⟨mb, mo + k * 14 + 7, none⟩ = some (.bool mg) ∧ X.cell? ⟨mb, mo + k * 14 + 8, none⟩ = some (.slice mea men mec) ∧ X.cell? ⟨mb, mo + k * 14 + 9, none⟩ = some (.int .i64 msi) ∧ X.cell? ⟨mb, mo + k * 14 + 10, none⟩ = some (.int .i64 mst) ∧ X.cell? ⟨mb, mo + k * 14 + 11, none⟩ = some (.int .u8 mss) ∧ X.cell? ⟨mb, mo + k * 14 + 12, none⟩ = some (.slice msa msn msc) ∧ X.cell? ⟨mb, mo + k * 14 + 13, none⟩ = some (.slice mda mdn mdc)) (first | with_reducible exact ⟨c0, c1, c2, d0, d1, d2, m0, m1, m2, m3, m4, m5, m6, m7, m8, m9, m10, m11, m12, m13⟩ | with_reducible exact ⟨xc0, xc1, xc2, xd0, xd1, xd2, xm0, xm1, xm2, xm3, xm4, xm5, xm6, xm7, xm8, xm9, xm10, xm11, xm12, xm13⟩ | (refine ⟨?_, ?_, ?_, ?_, ?_, ?_, ?_, ?_, ?_, ?_, ?_, ?_, ?_, ?_, ?_, ?_, ?_, ?_, ?_, ?_⟩ <;> go_simp <;> done) | go_keep)
          (first | (go_at_call 15; refine Calls.mono (A1.out _ ?_) ?_; (first | with_reducible exact HS.out.below HOQ.out.drew.bel | with_reducible exact HS.out.below (HOQ.out.alloc _).drew.bel | with_reducible exact HS.out.below ((HOQ.out.alloc _).alloc _).drew.bel); rintro e X ⟨rfl, hX⟩; have hc2 : OQ w #[.int .i64 t, .int .i64 v, .int .i64 hb] #[.int .i64 base, .int .i64 term, .slice a len cap] X := (by first | with_reducible exact HOQ.out.step (below_undrew hX) | with_reducible exact (HOQ.out.alloc _).step (below_undrew hX) | with_reducible exact ((HOQ.out.alloc _).alloc _).step (below_undrew hX)); have xc0 : X.cell? ⟨w.heap.size, 0, none⟩ = some (.int .i64 t) := cell_at hc2.1 0; have xc1 : X.cell? ⟨w.heap.size, 1, none⟩ = some (.int .i64 v) := cell_at hc2.1 1; have xc2 : X.cell? ⟨w.heap.size, 2, none⟩ = some (.int .i64 hb) := cell_at hc2.1 2; have xd0 : X.cell? ⟨w.heap.size + 1, 0, none⟩ = some (.int .i64 base) := cell_at hc2.2.1 0; have xd1 : X.cell? ⟨w.heap.size + 1, 1, none⟩ = some (.int .i64 term) := cell_at hc2.2.1 1; have xd2 : X.cell? ⟨w.heap.size + 1, 2, none⟩ = some (.slice a len cap) := cell_at hc2.2.1 2; have xmm := HMK.out X hc2.bel; obtain ⟨xm0, xm1, xm2, xm3, xm4, xm5, xm6, xm7, xm8, xm9, xm10, xm11, xm12, xm13⟩ := xmm; have l1 : wr.heap.size ≤ X.heap.size := (by have := (below_undrew hX).size; first | omega | (simp at this; omega)); have g1 : w.heap.size < X.heap.size := (by omega); have g2 : w.heap.size < X.heap.size + 1 := (by omega); have g3 : w.heap.size + 1 < X.heap.size := (by omega); have g4 : w.heap.size + 1 < X.heap.size + 1 := (by omega); have g5 : mb < X.heap.size := (by omega); have g6 : mb < X.heap.size + 1 := (by omega); have zb0 : (w.heap.size = X.heap.size) = False := eq_false (by omega); have zb1 : (X.heap.size = w.heap.size) = False := eq_false (by omega); have zb2 : (w.heap.size = X.heap.size + 1) = False := eq_false (by omega); have zb3 : (X.heap.size + 1 = w.heap.size) = False := eq_false (by omega); have zb4 : (w.heap.size + 1 = X.heap.size) = False := eq_false (by omega); have zb5 : (X.heap.size = w.heap.size + 1) = False := eq_false (by omega); have zb6 : (w.heap.size + 1 = X.heap.size + 1) = False := eq_false (by omega); have zb7 : (X.heap.size + 1 = w.heap.size + 1) = False := eq_false (by omega); have zb8 : (mb = X.heap.size) = False := eq_false (by omega); have zb9 : (X.heap.size = mb) = False := eq_false (by omega); have zb10 : (mb = X.heap.size + 1) = False := eq_false (by omega); have zb11 : (X.heap.size + 1 = mb) = False := eq_false (by omega); (first | (have T := tw2 (n := wr.heap.size) (below_undrew hX) rfl; obtain ⟨⟨a1, b1, n1⟩, ⟨a2, b2, n2⟩⟩ := T; have HT1 := Lib.hid n1; have e0 : (wr.heap.size = X.heap.size) = False := eq_false (by omega); have e1 : (wr.heap.size + 1 = X.heap.size) = False := eq_false (by omega)) | (have T := tw1 (n := wr.heap.size) (below_undrew hX) rfl; obtain ⟨a1, b1, n1⟩ := T; have e0 : (wr.heap.size = X.heap.size) = False := eq_false (by omega)) | skip); have HOX := Lib.hid hc2; clear hX hc2))
        all_goals
          go_wp2_with fail
          go_meet
          refine ⟨⟨_, _, rfl, rfl, by go_simp, by go_simp, by go_simp, by go_simp, by go_simp⟩, rfl, ?_⟩
          (repeat (first | with_reducible exact HOX.out | with_reducible refine OQ.alloc ?_ _ | with_reducible refine OQ.drew ?_ | with_reducible refine OQ.far ?_ (by omega)))
      case rest =>
        obtain ⟨hT, rfl, hoq⟩ := hcut
        obtain ⟨p, q, rfl, rfl, p0, p1, p2, q3, q7⟩ := hT
        (try simp only at p0 p1 p2 q3 q7)
        have HOQ2 := Lib.hid hoq
        by_cases he : ae = 0
        · have hon := HON.out he
          (try simp only at hon)
          obtain ⟨h1, h2, h3, h4, h5, h6⟩ := hon
          obtain rfl := h4.symm
          obtain rfl := h6.symm
          obtain rfl := he.symm
          have c0 := cell_at hoq.1 0
          have c1 := cell_at hoq.1 1
          have c2 := cell_at hoq.1 2
          have f0 := free_at hoq.1 0
          have f1 := free_at hoq.1 1
          have f2 := free_at hoq.1 2
          have hmm := HMK.out _ hoq.bel
          obtain ⟨_, m1, _, m3, _⟩ := hmm
          have hsz := hoq.lt
          have hcs : (t < at_ ∨ (at_ = t ∧ v = 0) ∨ (at_ = t ∧ v ≠ 0 ∧ av = v)) ∧ (aok = false ∨ (aok = true ∧ av = mf ∧ at_ = mt)) := by
            refine ⟨?_, ?_⟩
            · by_cases h : at_ = t
              · by_cases hv : v = 0
                · exact .inr (.inl ⟨h, hv⟩)
                · exact .inr (.inr ⟨h, hv, h3 h hv⟩)
              · exact .inl (by omega)
            · cases aok
              · exact .inl rfl
              · exact .inr ⟨rfl, h5 rfl⟩
          clear h3 h5 hoq
          obtain ⟨ha, hb⟩ := hcs
          have hd : decide (at_ < t) = false := by simp; omega
          have hbe : (t < at_ ∧ (at_ == t) = false) ∨ (at_ == t) = true := by
            by_cases h : at_ = t
            · exact .inr (by simpa using h)
            · exact .inl ⟨by omega, by simpa using h⟩
          rcases ha with ha | ⟨ha, hv⟩ | ⟨ha, hv, hav⟩
          · have x1 : (at_ == t) = false := by simp; omega
            clear hbe
            rcases hb with rfl | ⟨rfl, rfl, rfl⟩
            all_goals
              go_wp2_with fail
              go_quiet (fail)
              go_wp2_with fail
              go_roundw
              case rel => exact ⟨k + 1, _, _, by omega, by go_num, h2, (((HOQ2.out.drewN _).set 0 _).set 1 _).set 2 _⟩
              case measure => simp [intOf]; omega
          · subst ha hv
            clear hbe
            rcases hb with rfl | ⟨rfl, rfl, rfl⟩
            all_goals
              go_wp2_with fail
              go_quiet (fail)
              go_wp2_with fail
              go_roundw
              case rel => exact ⟨k + 1, _, _, by omega, by go_num, h2, (((HOQ2.out.drewN _).set 0 _).set 1 _).set 2 _⟩
              case measure => simp [intOf]; omega
          · have x2 : (v != 0) = true := by rw [bne_iff_ne]; exact hv
            subst ha hav
            clear hbe hv
            rcases hb with rfl | ⟨rfl, rfl, rfl⟩
            all_goals
              go_wp2_with fail
              go_quiet (fail)
              go_wp2_with fail
              go_roundw
              case rel => exact ⟨k + 1, _, _, by omega, by go_num, h2, (((HOQ2.out.drewN _).set 0 _).set 1 _).set 2 _⟩
              case measure => simp [intOf]; omega
        · have b1 : (ae != 0) = true := by rw [bne_iff_ne]; exact he
          clear hoq he p0 p1 p2 q3 q7
          go_wp2_with fail
          go_roundw
          case rel => exact ⟨k + 1, t, v, by omega, by go_num, ht0, HOQ2.out⟩
          case measure => simp [intOf]; omega
    · obtain rfl : k = mn := by omega
      have HOQ := Lib.hid hoq
      clear hoq
      go_wp2_with (go_at_call 11; refine (HWK.out _).mono ?_; rintro e WK ⟨rfl, hWK⟩)
      go_ret
      exact ⟨rfl, HOQ.out.bel.trans (hWK.mono HOQ.out.bel.size)⟩
set_option maxRecDepth 100000 in
set_option maxHeartbeats 4000000 in
theorem voteOnce_head (ht hv hb base term self : Int) (a : Option Addr) (len cap b o : Nat) (E : Nat → Ent) (ma : Option Addr) (mn mc mb mo : Nat) (M : Nat → MsgE) (w : World) (hs : EntsIn w a len cap b o E) (hm : MsgIn w ma mn mc mb mo M)
    (hh : 300 < len ∨ (¬ 300 < len ∧ 60 < mn) ∨ (¬ 300 < len ∧ ¬ 60 < mn ∧ rowsB base term len E = false) ∨ (¬ 300 < len ∧ ¬ 60 < mn ∧ rowsB base term len E = true ∧ ht < 0)) (hwk : ∀ w, Calls Try.prog 11 #[] w fun e w' => e = .returned (.bool true) ∧ Below w.heap.size w w') :
    Calls Try.prog 6 #[.agg #[.int .i64 ht, .int .i64 hv, .int .i64 hb], .agg #[.int .i64 base, .int .i64 term, .slice a len cap], .int .i64 self, .slice ma mn mc] w fun e w' => e = .returned (.bool true) ∧ Below w.heap.size w w' := by
  have HS := Lib.hid hs
  have HWK := Lib.hid hwk
  have hml := hm.le
  have hmm := hm.max
  unfold maxLen at hmm
  have HQ := Lib.hid (OQ.mk0 w #[.int .i64 ht, .int .i64 hv, .int .i64 hb] #[.int .i64 base, .int .i64 term, .slice a len cap])
  obtain ⟨R, hR⟩ : ∃ R, R = rowsE base term len E := ⟨_, rfl⟩
  have R1 : Hid (∀ w, EntsIn w a len cap b o E → Calls Try.prog 24 #[.agg #[.int .i64 base, .int .i64 term, .slice a len cap]] w fun e w' => e = .returned (.int .i64 R) ∧ Below w.heap.size w w') := Lib.hid (fun w hs => by rw [hR]; exact rcheck_any base term a len cap b o E w hs)
  unfold rowsE at hR
  have hcs : decide (300 < len) = true ∨ (decide (300 < len) = false ∧ 60 < mn) ∨ (decide (300 < len) = false ∧ mn ≤ 60 ∧ R = 90) ∨ (decide (300 < len) = false ∧ mn ≤ 60 ∧ R = 0 ∧ ht < 0) := by
    rcases hh with h | ⟨h, h2⟩ | ⟨h, h2, h3⟩ | ⟨h, h2, h3, h4⟩
    · exact .inl (by simpa using h)
    · exact .inr (.inl ⟨by simpa using h, h2⟩)
    · rw [if_neg (by rw [h3]; simp)] at hR
      exact .inr (.inr (.inl ⟨by simpa using h, by omega, hR⟩))
    · rw [if_pos h3] at hR
      exact .inr (.inr (.inr ⟨by simpa using h, by omega, hR, h4⟩))
  clear hs hm hwk hh hR
  rcases hcs with G0 | ⟨G0, h⟩ | ⟨G0, h, rfl⟩ | ⟨G0, h, rfl, h2⟩
  · have G1 := Lib.hid G0
    clear G0
    go_enter Try.func6, Try.ntmps6
    go_wp2_with (first
      | (go_at_call 10; refine (great_any _ _ _ _ _ _).mono ?_; rw [G1.out]; rintro e W ⟨rfl, rfl⟩)
      | (go_at_call 11; refine (HWK.out _).mono ?_; rintro e WK ⟨rfl, hWK⟩))
    go_ret
    exact ⟨rfl, (HQ.out.alloc _).bel.trans (hWK.mono (HQ.out.alloc _).bel.size)⟩
  · have G1 := Lib.hid G0
    clear G0
    go_enter Try.func6, Try.ntmps6
    go_wp2_with (first
      | (go_at_call 10; refine (great_any _ _ _ _ _ _).mono ?_; rw [G1.out]; rintro e W ⟨rfl, rfl⟩)
      | (go_at_call 11; refine (HWK.out _).mono ?_; rintro e WK ⟨rfl, hWK⟩))
    go_ret
    exact ⟨rfl, (HQ.out.alloc _).bel.trans (hWK.mono (HQ.out.alloc _).bel.size)⟩
  · have G1 := Lib.hid G0
    clear G0
    go_enter Try.func6, Try.ntmps6
    go_wp2_with (first
      | (go_at_call 10; refine (great_any _ _ _ _ _ _).mono ?_; rw [G1.out]; rintro e W ⟨rfl, rfl⟩)
      | (go_at_call 24; refine Calls.mono (R1.out _ ?_) ?_; exact HS.out.below (HQ.out.alloc _).bel; rintro e W1 ⟨rfl, hW1⟩; have HQ1 := Lib.hid ((HQ.out.alloc _).step hW1); have c0 := cell_at HQ1.out.1 0)
      | (go_at_call 11; refine (HWK.out _).mono ?_; rintro e WK ⟨rfl, hWK⟩))
    go_ret
    exact ⟨rfl, HQ1.out.bel.trans (hWK.mono HQ1.out.bel.size)⟩
  · have G1 := Lib.hid G0
    clear G0
    go_enter Try.func6, Try.ntmps6
    go_wp2_with (first
      | (go_at_call 10; refine (great_any _ _ _ _ _ _).mono ?_; rw [G1.out]; rintro e W ⟨rfl, rfl⟩)
      | (go_at_call 24; refine Calls.mono (R1.out _ ?_) ?_; exact HS.out.below (HQ.out.alloc _).bel; rintro e W1 ⟨rfl, hW1⟩; have HQ1 := Lib.hid ((HQ.out.alloc _).step hW1); have c0 := cell_at HQ1.out.1 0)
      | (go_at_call 11; refine (HWK.out _).mono ?_; rintro e WK ⟨rfl, hWK⟩))
    go_ret
    exact ⟨rfl, HQ1.out.bel.trans (hWK.mono HQ1.out.bel.size)⟩

theorem voteOnce_any (ht hv hb base term self : Int) (a : Option Addr) (len cap b o : Nat) (E : Nat → Ent) (ma : Option Addr) (mn mc mb mo : Nat) (M : Nat → MsgE) (w : World) (hs : EntsIn w a len cap b o E) (hm : MsgIn w ma mn mc mb mo M) (hwk : ∀ w, Calls Try.prog 11 #[] w fun e w' => e = .returned (.bool true) ∧ Below w.heap.size w w') :
    Calls Try.prog 6 #[.agg #[.int .i64 ht, .int .i64 hv, .int .i64 hb], .agg #[.int .i64 base, .int .i64 term, .slice a len cap], .int .i64 self, .slice ma mn mc] w fun e w' => e = .returned (.bool true) ∧ Below w.heap.size w w' := by
  by_cases h1 : 300 < len
  · exact voteOnce_head ht hv hb base term self a len cap b o E ma mn mc mb mo M w hs hm (.inl h1) hwk
  · by_cases h2 : 60 < mn
    · exact voteOnce_head ht hv hb base term self a len cap b o E ma mn mc mb mo M w hs hm (.inr (.inl ⟨h1, h2⟩)) hwk
    · cases h3 : rowsB base term len E
      · exact voteOnce_head ht hv hb base term self a len cap b o E ma mn mc mb mo M w hs hm (.inr (.inr (.inl ⟨h1, h2, h3⟩))) hwk
      · by_cases h4 : ht < 0
        · exact voteOnce_head ht hv hb base term self a len cap b o E ma mn mc mb mo M w hs hm (.inr (.inr (.inr ⟨h1, h2, h3, h4⟩))) hwk
        · exact voteOnce_loop ht hv hb base term self a len cap b o E ma mn mc mb mo M w hs hm (by omega) h1 (by omega) h3 hwk
end Go.Proofs.Ytidheicmaodfgaa
