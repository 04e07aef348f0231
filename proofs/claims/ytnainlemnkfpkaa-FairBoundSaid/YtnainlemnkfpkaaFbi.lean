/-
  The next pick, of flows of which a mask says whether they may go.
-/
import Derived.Test.YtnainlemnkfpkaaFbh
import Derived.Test.YtnainlemnkfpkaaFb9
namespace Go.Proofs.Ytnainlemnkfpkaa
open Go.RowKit
set_option linter.unusedSimpArgs false
set_option linter.unusedVariables false


def bitV (mask : Int) (j : Nat) : Int := bits .and .i64 (mask / 2 ^ min j 64) 1
def mayB (mask : Int) (j : Nat) : Bool := decide (bitV mask j = 0)
/-- heads as a mask leaves them -/
def mH (mask : Int) (Q : Nat → List Int) (at_ : Nat → Nat) (j : Nat) : Int := if decide (at_ j < (Q j).length) && mayB mask j then hdQ Q at_ j else 0
theorem mH_ok {mask : Int} {Q : Nat → List Int} {at_ : Nat → Nat} {n : Nat} (h : ∀ k, k < n → ∀ x ∈ Q k, 1 ≤ x ∧ x ≤ 1500) : okHd (mH mask Q at_) n := fun k hk => by
  unfold mH
  split
  · next hh =>
    simp at hh
    have hx : hdQ Q at_ k ∈ Q k := by
      unfold hdQ gI
      rw [List.getElem?_eq_getElem hh.1]
      exact List.getElem_mem hh.1
    have := h k hk _ hx
    omega
  · omega
structure HrAt (W0 W : World) (v : Value) (oh : Option Nat) (j : Nat) (m : Nat → Int) : Prop where
  row : Row W v oh 67 2 j (hdL (fun q => ⟨m q, 0⟩) j)
  ge : ∀ q, oh = some q → W0.heap.size ≤ q
  b : Below W0.heap.size W0 W
theorem shr_run (mask : Int) (j : Nat) (W : World) : (binOp .shr 3 (.int .i64 mask) (.int .i64 (j : Int))).run Try.prog W = .ok (.int .i64 (mask / 2 ^ min j 64)) W := by
  have := shift_shr_any .i64 .i64 mask (j : Int) (by omega)
  show Sem.run Try.prog (Op.shift .shr .i64 mask .i64 (j : Int)) W = _
  rw [this]
  rfl
def zK (m : Nat → Int) : Option Nat → Int
  | some q => m q
  | none => 0
theorem FrAt.blks' {W : World} {M g fo ft n c1 c2 : Nat} {wt : Nat → Int} {al : Int} {s : FS} (h : FrAt W M g fo ft n c1 c2 wt al s) : ∃ a b c, Blk W g a 60 ∧ Blk W fo b 63 ∧ Blk W ft c 80 := by
  obtain ⟨cf, hcf, _⟩ := h.fl
  obtain ⟨ct, hct⟩ := blk_row h.tg
  exact ⟨_, _, _, h.blk, hcf, hct⟩
theorem PkP.drewN {M g fo ft n c1 : Nat} {wt : Nat → Int} {al : Int} {s' : FS} {w w' : World} (h : PkP M g fo ft n c1 wt al s' w w') (k : Nat) : PkP M g fo ft n c1 wt al s' w (w'.drewN k) := by
  obtain ⟨ft', c', f1, f2, f3⟩ := h
  exact ⟨ft', c', f1.step (dN _ _), f2.trans (Fr.of_below (dN _ _)) (by simp), f3⟩
theorem fr_cell {l : List Nat} {W W' : World} (h : Fr l W W') {b j : Nat} (hn : b ∉ l) (hl : b < W.heap.size) : W'.cell? ⟨b, j, none⟩ = W.cell? ⟨b, j, none⟩ := by
  unfold World.cell?
  simp only [h.block b hl hn]
set_option maxRecDepth 100000 in
set_option maxHeartbeats 40000000 in
theorem fp_any (M g fo ft n c1 c2 : Nat) (wt : Nat → Int) (al : Int) (s : FS) (a : Option Addr) (cap b o : Nat) (vs : Nat → Value) (Q : Nat → List Int) (ab ac : Nat) (at_ : Nat → Nat) (mask : Int) (w : World) (h : FrAt w M g fo ft n c1 c2 wt al s) (hq : QIn w a n cap b o vs Q) (ha : IAt w ab n (fun k => (at_ k : Nat))) (hQ : ∀ k, k < n → ∀ x ∈ Q k, 1 ≤ x ∧ x ≤ 1500) (hi : Inv n s) (hw : WtOk n wt al) (h0 : 0 < n) :
    Calls Try.prog 18 #[.pointer (some ⟨g, 0, none⟩), .slice a n cap, .slice (some ⟨ab, 0, none⟩) n ac, .int .i64 mask] w fun e w' => e = .returned (.tuple #[.int .i64 (kI (pkK n wt al (mH mask Q at_) s)), .int .i64 (zK (mH mask Q at_) (pkK n wt al (mH mask Q at_) s)), .bool (pkK n wt al (mH mask Q at_) s).isSome]) ∧ PkP M g fo ft n c1 wt al (pkS n wt al (mH mask Q at_) s) w w' := by
  have HQ := Lib.hid hq
  have HA := Lib.hid ha
  have HMO := Lib.hid (mH_ok (mask := mask) (at_ := at_) hQ)
  have HI := Lib.hid hi
  have HW := Lib.hid hw
  have H0 := Lib.hid h0
  have HN8 := Lib.hid hi.n8
  have h0 := Lib.hid h
  have m1 := hq.le
  have m2 := hq.max
  unfold maxLen at m2
  have hshr := fun j W => shr_run mask j W
  clear h hq ha hQ hi hw
  go_enter Try.func18, Try.ntmps18
  go_wp2_with fail
  go_loopw [11, 12, 13] (fun vh vi _ wq => ∃ (j : Nat) (oh : Option Nat), j ≤ n ∧ vi = .int .i64 j ∧ Row wq vh oh 67 2 j (hdL (fun q => ⟨mH mask Q at_ q, 0⟩) j) ∧ (∀ q, oh = some q → w.heap.size ≤ q) ∧ Below w.heap.size w wq) (fun _ vi _ _ => n - (intOf vi).toNat)
  case atStart => exact ⟨0, none, Nat.zero_le _, rfl, Row.nil _ _ _, (fun q e => by cases e), Below.refl _ _⟩
  case round =>
    obtain ⟨j, oh, hj, rfl, hrow, hoh, hB⟩ := hrel
    have HROW := Lib.hid hrow
    have HOH := Lib.hid hoh
    by_cases hlj : j < n
    · have HNQ : Hid (∀ q, oh = some q → q ≠ wr.heap.size) := Lib.hid (fun q e => by have h9 := hrow; rw [e] at h9; have := h9.lt; omega)
      obtain ⟨ah, ch, rfl, -, -, -⟩ := hrow.shape
      obtain ⟨ea, hbl⟩ := HQ.out.at_ (by omega)
      subst ea
      have hv := HQ.out.inv j hlj
      obtain ⟨ya, yn, yc, ev, HYN, y1, y2⟩ := hv.sh
      have HEV := Lib.hid ev
      have HV := Lib.hid hv
      have HLJ := Lib.hid hlj
      obtain ⟨NH, hNH⟩ : ∃ N, N = wr.heap.size := ⟨_, rfl⟩
      have b9 : ((j : Int) < (n : Int)) = True := eq_true (by omega)
      have bk1 : (j < n) = True := eq_true hlj
      have b0 : ((0 : Int) ≤ (j : Int)) = True := eq_true (by omega)
      obtain ⟨W5, hW5⟩ : ∃ W, W = wr.alloc (.cells #[.int .i64 0, .int .i64 0] 67) := ⟨_, rfl⟩
      have hB5 : Below wr.heap.size wr W5 := by rw [hW5]; exact alloc_b _ _
      have HX5 := Lib.hid (show Blk W5 NH #[.int .i64 0, .int .i64 0] 67 by rw [hW5, hNH]; exact blk_new _ _ _)
      have HB5 := Lib.hid (hB.trans (hB5.mono hB.size))
      have HROW5 := Lib.hid (hrow.congr (w' := W5) fun q e => hB5.block q (by rw [e] at hrow; exact hrow.lt))
      have HNN : Hid (w.heap.size ≤ NH) := Lib.hid (by rw [hNH]; exact hB.size)
      have HBL := Lib.hid hbl
      clear hbl hv ev hrow hoh hB
      go_upto_region 6 with fail
      obtain ⟨PP, hPP⟩ : ∃ P, P = at_ j := ⟨_, rfl⟩
      have ca := (HA.out.fr (Fr.of_below HB5.out) (by simp)).cell (k := j) hlj
      rw [← hPP] at ca
      have c0 := (HQ.out.below HB5.out).cell j hlj
      rw [HEV.out] at c0
      have HPP := Lib.hid hPP
      clear hPP hB5
      rw [← hNH] at HNQ
      rw [← hNH, ← hW5]
      clear hNH hW5
      by_cases hpy : PP < yn
      · have d3 : decide ((PP : Int) < (yn : Int)) = true := decide_eq_true (by omega)
        have d3' : decide (PP < yn) = true := decide_eq_true hpy
        have hvk := HV.out.below HB5.out
        rw [HEV.out] at hvk
        obtain ⟨gy, oy, y, ey, _, hyy, cy, _⟩ := hvk.at PP hpy
        subst ey
        have HGY : Hid (gy < w.heap.size) := Lib.hid (by
          have h9 := HV.out
          rw [HEV.out] at h9
          obtain ⟨g9, o9, y9, e9, l9, _⟩ := h9.at PP hpy
          injection e9 with e9
          injection e9 with e9 _ _
          rw [e9]; exact l9)
        have HYQ : Hid (hdQ Q at_ j = y) := Lib.hid (by unfold hdQ gI; rw [← HPP.out, hyy]; rfl)
        have HLEN : Hid (decide (at_ j < (Q j).length) = true) := Lib.hid (decide_eq_true (by rw [← HPP.out]; have h9 := HYN.out; omega))
        have bpp : (PP < yn) = True := eq_true hpy
        have bpp2 : ((PP : Int) < (yn : Int)) = True := eq_true (by omega)
        have bp0 : ((0 : Int) ≤ (PP : Int)) = True := eq_true (by omega)
        clear hvk hyy hpy
        cases hmb : mayB mask j
        · have HYY : Hid (mH mask Q at_ j = 0) := Lib.hid (by unfold mH; rw [HLEN.out, hmb]; rfl)
          have db : decide (bitV mask j = 0) = false := hmb
          unfold bitV at db
          have db2 : (bits .and .i64 (mask / 2 ^ min j 64) 1 == 0) = false := by simpa using db
          clear hmb cy
          refine wp_region_held_drew (S := fun X => X.cell? ⟨b, o + j, none⟩ = some (.slice (some ⟨gy, oy, none⟩) yn yc) ∧ X.cell? ⟨ab, j, none⟩ = some (.int .i64 (PP : Int))) (by kernel_rfl) ⟨c0, ca⟩ (fun hHeld => ?_)
          try simp only [Act.put, List.setIfInBounds_toArray, List.set_cons_zero, List.set_cons_succ]
          ((refine wpAnyH_take (i := 0) (v := ?_) (by (simp only [List.getElem?_toArray, List.getElem?_cons_succ, List.getElem?_cons_zero]); rfl) (by kernel_rfl) (by kernel_rfl) (by kernel_rfl) (by exact fun _ _ _ h => h) (Or.inl ⟨by rfl, ?_⟩) (by assumption) ?_); rotate_left; focus (intro wS hSw; (try dsimp only at hSw); go_simp; first | done | with_reducible rfl); try simp only [Act.put, List.setIfInBounds_toArray, List.set_cons_zero, List.set_cons_succ])
          ((refine wpAnyH_take (i := 1) (v := ?_) (by (simp only [List.getElem?_toArray, List.getElem?_cons_succ, List.getElem?_cons_zero]); rfl) (by kernel_rfl) (by kernel_rfl) (by kernel_rfl) (by exact fun _ _ _ h => h) (Or.inl ⟨by rfl, ?_⟩) (by assumption) ?_); rotate_left; focus (intro wS hSw; (try dsimp only at hSw); go_simp; first | done | with_reducible rfl); try simp only [Act.put, List.setIfInBounds_toArray, List.set_cons_zero, List.set_cons_succ])
          ((refine wpAnyH_take (i := 2) (v := ?_) (by (simp only [List.getElem?_toArray, List.getElem?_cons_succ, List.getElem?_cons_zero]); rfl) (by kernel_rfl) (by kernel_rfl) (by kernel_rfl) (by exact fun _ _ _ h => h) (Or.inl ⟨by rfl, ?_⟩) (by assumption) ?_); rotate_left; focus (intro wS hSw; (try dsimp only at hSw); go_simp; first | done | with_reducible rfl); try simp only [Act.put, List.setIfInBounds_toArray, List.set_cons_zero, List.set_cons_succ])
          ((refine wpAnyH_take (i := 3) (v := ?_) (by (simp only [List.getElem?_toArray, List.getElem?_cons_succ, List.getElem?_cons_zero]); rfl) (by kernel_rfl) (by kernel_rfl) (by kernel_rfl) (by exact fun _ _ _ h => h) (Or.inl ⟨by rfl, ?_⟩) (by assumption) ?_); rotate_left; focus (intro wS hSw; (try dsimp only at hSw); go_simp; first | done | with_reducible rfl); try simp only [Act.put, List.setIfInBounds_toArray, List.set_cons_zero, List.set_cons_succ])
          ((refine wpAnyH_take (i := 4) (v := ?_) (by (simp only [List.getElem?_toArray, List.getElem?_cons_succ, List.getElem?_cons_zero]); rfl) (by kernel_rfl) (by kernel_rfl) (by kernel_rfl) (by exact fun _ _ _ h => h) (Or.inl ⟨by rfl, ?_⟩) (by assumption) ?_); rotate_left; focus (intro wS hSw; (try dsimp only at hSw); go_simp; first | done | with_reducible rfl); try simp only [Act.put, List.setIfInBounds_toArray, List.set_cons_zero, List.set_cons_succ])
          ((refine wpAnyH_take (i := 5) (v := ?_) (by (simp only [List.getElem?_toArray, List.getElem?_cons_succ, List.getElem?_cons_zero]); rfl) (by kernel_rfl) (by kernel_rfl) (by kernel_rfl) (by exact fun _ _ _ h => h) (Or.inl ⟨by rfl, ?_⟩) (by assumption) ?_); rotate_left; focus (intro wS hSw; (try dsimp only at hSw); go_simp; first | done | with_reducible rfl); try simp only [Act.put, List.setIfInBounds_toArray, List.set_cons_zero, List.set_cons_succ])
          ((refine wpAnyH_take (i := 6) (v := ?_) (by (simp only [List.getElem?_toArray, List.getElem?_cons_succ, List.getElem?_cons_zero]); rfl) (by kernel_rfl) (by kernel_rfl) (by kernel_rfl) (by exact fun _ _ _ h => h) (Or.inl ⟨by rfl, ?_⟩) (by assumption) ?_); rotate_left; focus (intro wS hSw; (try dsimp only at hSw); go_simp; first | done | with_reducible rfl); try simp only [Act.put, List.setIfInBounds_toArray, List.set_cons_zero, List.set_cons_succ])
          ((refine wpAnyH_take (i := 7) (v := ?_) (by (simp only [List.getElem?_toArray, List.getElem?_cons_succ, List.getElem?_cons_zero]); rfl) (by kernel_rfl) (by kernel_rfl) (by kernel_rfl) (by exact fun _ _ _ h => h) (Or.inl ⟨by rfl, ?_⟩) (by assumption) ?_); rotate_left; focus (intro wS hSw; (try dsimp only at hSw); go_simp; first | done | with_reducible rfl); try simp only [Act.put, List.setIfInBounds_toArray, List.set_cons_zero, List.set_cons_succ])
          ((refine wpAnyH_take (i := 8) (v := ?_) (by (simp only [List.getElem?_toArray, List.getElem?_cons_succ, List.getElem?_cons_zero]); rfl) (by kernel_rfl) (by kernel_rfl) (by kernel_rfl) (by exact fun _ _ _ h => h) (Or.inl ⟨by rfl, ?_⟩) (by assumption) ?_); rotate_left; focus (intro wS hSw; (try dsimp only at hSw); go_simp; first | done | with_reducible rfl); try simp only [Act.put, List.setIfInBounds_toArray, List.set_cons_zero, List.set_cons_succ])
          ((refine wpAnyH_take (i := 9) (v := ?_) (by (simp only [List.getElem?_toArray, List.getElem?_cons_succ, List.getElem?_cons_zero]); rfl) (by kernel_rfl) (by kernel_rfl) (by kernel_rfl) (by exact fun _ _ _ h => h) (Or.inl ⟨by rfl, ?_⟩) (by assumption) ?_); rotate_left; focus (intro wS hSw; (try dsimp only at hSw); go_simp; first | done | with_reducible rfl); try simp only [Act.put, List.setIfInBounds_toArray, List.set_cons_zero, List.set_cons_succ])
          ((refine wpAnyH_take (i := 10) (v := ?_) (by (simp only [List.getElem?_toArray, List.getElem?_cons_succ, List.getElem?_cons_zero]); rfl) (by kernel_rfl) (by kernel_rfl) (by kernel_rfl) (by exact fun _ _ _ h => h) (Or.inl ⟨by rfl, ?_⟩) (by assumption) ?_); rotate_left; focus (intro wS hSw; (try dsimp only at hSw); go_simp; first | done | with_reducible rfl); try simp only [Act.put, List.setIfInBounds_toArray, List.set_cons_zero, List.set_cons_succ])
          ((refine wpAnyH_take (i := 11) (v := ?_) (by (simp only [List.getElem?_toArray, List.getElem?_cons_succ, List.getElem?_cons_zero]); rfl) (by kernel_rfl) (by kernel_rfl) (by kernel_rfl) (by exact fun _ _ _ h => h) (Or.inl ⟨by (go_simp; try rfl), ?_⟩) (by assumption) ?_); rotate_left; focus (intro wS hSw; (try dsimp only at hSw); go_simp; first | done | with_reducible rfl); try simp only [Act.put, List.setIfInBounds_toArray, List.set_cons_zero, List.set_cons_succ])
          ((refine wpAnyH_take (i := 12) (v := ?_) (by (simp only [List.getElem?_toArray, List.getElem?_cons_succ, List.getElem?_cons_zero]); rfl) (by kernel_rfl) (by kernel_rfl) (by kernel_rfl) (by exact fun _ _ _ h => h) (Or.inl ⟨by (go_simp; try rfl), ?_⟩) (by assumption) ?_); rotate_left; focus (intro wS hSw; (try dsimp only at hSw); go_simp; first | done | with_reducible rfl); try simp only [Act.put, List.setIfInBounds_toArray, List.set_cons_zero, List.set_cons_succ])
          ((refine wpAnyH_take (i := 13) (v := ?_) (by (simp only [List.getElem?_toArray, List.getElem?_cons_succ, List.getElem?_cons_zero]); rfl) (by kernel_rfl) (by kernel_rfl) (by kernel_rfl) (by exact fun _ _ _ h => h) (Or.inl ⟨by (go_simp; try rfl), ?_⟩) (by assumption) ?_); rotate_left; focus (intro wS hSw; (try dsimp only at hSw); go_simp; first | done | with_reducible rfl); try simp only [Act.put, List.setIfInBounds_toArray, List.set_cons_zero, List.set_cons_succ])
          ((refine wpAnyH_take (i := 14) (v := ?_) (by (simp only [List.getElem?_toArray, List.getElem?_cons_succ, List.getElem?_cons_zero]); rfl) (by kernel_rfl) (by kernel_rfl) (by kernel_rfl) (by exact fun _ _ _ h => h) (Or.inl ⟨by (go_simp; try rfl), ?_⟩) (by assumption) ?_); rotate_left; focus (intro wS hSw; (try dsimp only at hSw); go_simp; first | done | with_reducible rfl); try simp only [Act.put, List.setIfInBounds_toArray, List.set_cons_zero, List.set_cons_succ])
          ((refine wpAnyH_take (i := 15) (v := ?_) (by (simp only [List.getElem?_toArray, List.getElem?_cons_succ, List.getElem?_cons_zero]); rfl) (by kernel_rfl) (by kernel_rfl) (by kernel_rfl) (by exact fun _ _ _ h => h) (Or.inl ⟨by (go_simp; try rfl), ?_⟩) (by assumption) ?_); rotate_left; focus (intro wS hSw; (try dsimp only at hSw); go_simp; first | done | with_reducible rfl); try simp only [Act.put, List.setIfInBounds_toArray, List.set_cons_zero, List.set_cons_succ])
          ((refine wpAnyH_take (i := 16) (v := ?_) (by (simp only [List.getElem?_toArray, List.getElem?_cons_succ, List.getElem?_cons_zero]); rfl) (by kernel_rfl) (by kernel_rfl) (by kernel_rfl) (by exact fun _ _ _ h => h) (Or.inl ⟨by rfl, ?_⟩) (by assumption) ?_); rotate_left; focus (intro wS hSw; (try dsimp only at hSw); go_simp; first | done | with_reducible rfl); try simp only [Act.put, List.setIfInBounds_toArray, List.set_cons_zero, List.set_cons_succ])
          refine wpAnyH_done (by kernel_rfl) ?_ _
          try simp only [Act.put, List.setIfInBounds_toArray, List.set_cons_zero, List.set_cons_succ]
          have Bz := belowN (Below.refl W5.heap.size W5) 1
          obtain ⟨W6, hW6⟩ : ∃ X, X = W5.drew := ⟨_, rfl⟩
          have hB6 : Below W5.heap.size W5 W6 := by rw [hW6]; exact Bz
          have HBn := Lib.hid (HB5.out.trans (hB6.mono HB5.out.size))
          have HROWn := Lib.hid (HROW5.out.congr (w' := W6) fun q e => hB6.block q (by have h9 := HROW5.out; rw [e] at h9; exact h9.lt))
          have HXn := Lib.hid (HX5.out.step hB6)
          rw [← hW6]
          clear hW6 hB6 Bz ca c0 HB5 HROW5 HX5

          obtain ⟨v8, o8, W9, hrun9, hrow9, hg9, hs9, hlo9, hm9⟩ := hd_grow (M := w.heap.size) (ty := 32) (E := fun q => ⟨mH mask Q at_ q, 0⟩) (n := j) (W := W6.alloc (.cells #[.int .i64 0, .int .i64 0] 67)) (HROWn.out.congr fun q e => (alloc_b W6 _).block q (by have h9 := HROWn.out; rw [e] at h9; exact h9.lt)) HOH.out (by have h9 := blk_new W6 #[.int .i64 0, .int .i64 0] 67; rw [← HYY.out] at h9 ⊢; exact h9) (Nat.le_trans HBn.out.size (alloc_b W6 _).size) (by have := HN8.out; have := HLJ.out; omega)
          have HRUN9 := Lib.hid hrun9
          have HROW9 := Lib.hid hrow9
          have HOH9 := Lib.hid hm9
          have HB9 := Lib.hid ((HBn.out.trans ((alloc_b W6 _).mono HBn.out.size)).trans hlo9)
          have x0 : W6.cell? ⟨NH, 0, none⟩ = some (.int .i64 0) := cell_at HXn.out 0
          have x1 : W6.cell? ⟨NH, 1, none⟩ = some (.int .i64 0) := cell_at HXn.out 1
          have ww5 : IntKind.i64.wrap ((j : Int) + 1) = (j : Int) + 1 := IntWalk.i64_in _ (by have := HN8.out; have := HLJ.out; omega)
          clear hrun9 hrow9 hg9 hs9 hlo9 hm9
          go_wp2_with (at_builtin; refine Lib.wpList_append_run _ rfl (.tmp 51) (.tmp 53) 32 32 rfl _ _ rfl rfl _ _ HRUN9.out ?_)
          go_roundw
          case rel => exact ⟨j + 1, some o8, by have := HLJ.out; omega, by go_num, HROW9.out, (fun q e => by obtain rfl := Option.some.inj e; exact HOH9.out), HB9.out⟩
          case measure => (have h8 := HLJ.out; first | (simp [intOf]; done) | (simp [intOf]; omega))
        · have HYY : Hid (mH mask Q at_ j = y) := Lib.hid (by unfold mH; rw [HLEN.out, hmb, ← HYQ.out]; rfl)
          have db : decide (bitV mask j = 0) = true := hmb
          unfold bitV at db
          have db2 : (bits .and .i64 (mask / 2 ^ min j 64) 1 == 0) = true := by simpa using db
          clear hmb
          refine wp_region_held_drew (S := fun X => X.cell? ⟨b, o + j, none⟩ = some (.slice (some ⟨gy, oy, none⟩) yn yc) ∧ X.cell? ⟨ab, j, none⟩ = some (.int .i64 (PP : Int))) (by kernel_rfl) ⟨c0, ca⟩ (fun hHeld => ?_)
          try simp only [Act.put, List.setIfInBounds_toArray, List.set_cons_zero, List.set_cons_succ]
          ((refine wpAnyH_take (i := 0) (v := ?_) (by (simp only [List.getElem?_toArray, List.getElem?_cons_succ, List.getElem?_cons_zero]); rfl) (by kernel_rfl) (by kernel_rfl) (by kernel_rfl) (by exact fun _ _ _ h => h) (Or.inl ⟨by rfl, ?_⟩) (by assumption) ?_); rotate_left; focus (intro wS hSw; (try dsimp only at hSw); go_simp; first | done | with_reducible rfl); try simp only [Act.put, List.setIfInBounds_toArray, List.set_cons_zero, List.set_cons_succ])
          ((refine wpAnyH_take (i := 1) (v := ?_) (by (simp only [List.getElem?_toArray, List.getElem?_cons_succ, List.getElem?_cons_zero]); rfl) (by kernel_rfl) (by kernel_rfl) (by kernel_rfl) (by exact fun _ _ _ h => h) (Or.inl ⟨by rfl, ?_⟩) (by assumption) ?_); rotate_left; focus (intro wS hSw; (try dsimp only at hSw); go_simp; first | done | with_reducible rfl); try simp only [Act.put, List.setIfInBounds_toArray, List.set_cons_zero, List.set_cons_succ])
          ((refine wpAnyH_take (i := 2) (v := ?_) (by (simp only [List.getElem?_toArray, List.getElem?_cons_succ, List.getElem?_cons_zero]); rfl) (by kernel_rfl) (by kernel_rfl) (by kernel_rfl) (by exact fun _ _ _ h => h) (Or.inl ⟨by rfl, ?_⟩) (by assumption) ?_); rotate_left; focus (intro wS hSw; (try dsimp only at hSw); go_simp; first | done | with_reducible rfl); try simp only [Act.put, List.setIfInBounds_toArray, List.set_cons_zero, List.set_cons_succ])
          ((refine wpAnyH_take (i := 3) (v := ?_) (by (simp only [List.getElem?_toArray, List.getElem?_cons_succ, List.getElem?_cons_zero]); rfl) (by kernel_rfl) (by kernel_rfl) (by kernel_rfl) (by exact fun _ _ _ h => h) (Or.inl ⟨by rfl, ?_⟩) (by assumption) ?_); rotate_left; focus (intro wS hSw; (try dsimp only at hSw); go_simp; first | done | with_reducible rfl); try simp only [Act.put, List.setIfInBounds_toArray, List.set_cons_zero, List.set_cons_succ])
          ((refine wpAnyH_take (i := 4) (v := ?_) (by (simp only [List.getElem?_toArray, List.getElem?_cons_succ, List.getElem?_cons_zero]); rfl) (by kernel_rfl) (by kernel_rfl) (by kernel_rfl) (by exact fun _ _ _ h => h) (Or.inl ⟨by rfl, ?_⟩) (by assumption) ?_); rotate_left; focus (intro wS hSw; (try dsimp only at hSw); go_simp; first | done | with_reducible rfl); try simp only [Act.put, List.setIfInBounds_toArray, List.set_cons_zero, List.set_cons_succ])
          ((refine wpAnyH_take (i := 5) (v := ?_) (by (simp only [List.getElem?_toArray, List.getElem?_cons_succ, List.getElem?_cons_zero]); rfl) (by kernel_rfl) (by kernel_rfl) (by kernel_rfl) (by exact fun _ _ _ h => h) (Or.inl ⟨by rfl, ?_⟩) (by assumption) ?_); rotate_left; focus (intro wS hSw; (try dsimp only at hSw); go_simp; first | done | with_reducible rfl); try simp only [Act.put, List.setIfInBounds_toArray, List.set_cons_zero, List.set_cons_succ])
          ((refine wpAnyH_take (i := 6) (v := ?_) (by (simp only [List.getElem?_toArray, List.getElem?_cons_succ, List.getElem?_cons_zero]); rfl) (by kernel_rfl) (by kernel_rfl) (by kernel_rfl) (by exact fun _ _ _ h => h) (Or.inl ⟨by rfl, ?_⟩) (by assumption) ?_); rotate_left; focus (intro wS hSw; (try dsimp only at hSw); go_simp; first | done | with_reducible rfl); try simp only [Act.put, List.setIfInBounds_toArray, List.set_cons_zero, List.set_cons_succ])
          ((refine wpAnyH_take (i := 7) (v := ?_) (by (simp only [List.getElem?_toArray, List.getElem?_cons_succ, List.getElem?_cons_zero]); rfl) (by kernel_rfl) (by kernel_rfl) (by kernel_rfl) (by exact fun _ _ _ h => h) (Or.inl ⟨by rfl, ?_⟩) (by assumption) ?_); rotate_left; focus (intro wS hSw; (try dsimp only at hSw); go_simp; first | done | with_reducible rfl); try simp only [Act.put, List.setIfInBounds_toArray, List.set_cons_zero, List.set_cons_succ])
          ((refine wpAnyH_take (i := 8) (v := ?_) (by (simp only [List.getElem?_toArray, List.getElem?_cons_succ, List.getElem?_cons_zero]); rfl) (by kernel_rfl) (by kernel_rfl) (by kernel_rfl) (by exact fun _ _ _ h => h) (Or.inl ⟨by rfl, ?_⟩) (by assumption) ?_); rotate_left; focus (intro wS hSw; (try dsimp only at hSw); go_simp; first | done | with_reducible rfl); try simp only [Act.put, List.setIfInBounds_toArray, List.set_cons_zero, List.set_cons_succ])
          ((refine wpAnyH_take (i := 9) (v := ?_) (by (simp only [List.getElem?_toArray, List.getElem?_cons_succ, List.getElem?_cons_zero]); rfl) (by kernel_rfl) (by kernel_rfl) (by kernel_rfl) (by exact fun _ _ _ h => h) (Or.inl ⟨by rfl, ?_⟩) (by assumption) ?_); rotate_left; focus (intro wS hSw; (try dsimp only at hSw); go_simp; first | done | with_reducible rfl); try simp only [Act.put, List.setIfInBounds_toArray, List.set_cons_zero, List.set_cons_succ])
          ((refine wpAnyH_take (i := 10) (v := ?_) (by (simp only [List.getElem?_toArray, List.getElem?_cons_succ, List.getElem?_cons_zero]); rfl) (by kernel_rfl) (by kernel_rfl) (by kernel_rfl) (by exact fun _ _ _ h => h) (Or.inl ⟨by rfl, ?_⟩) (by assumption) ?_); rotate_left; focus (intro wS hSw; (try dsimp only at hSw); go_simp; first | done | with_reducible rfl); try simp only [Act.put, List.setIfInBounds_toArray, List.set_cons_zero, List.set_cons_succ])
          ((refine wpAnyH_take (i := 11) (v := ?_) (by (simp only [List.getElem?_toArray, List.getElem?_cons_succ, List.getElem?_cons_zero]); rfl) (by kernel_rfl) (by kernel_rfl) (by kernel_rfl) (by exact fun _ _ _ h => h) (Or.inl ⟨by (go_simp; try rfl), ?_⟩) (by assumption) ?_); rotate_left; focus (intro wS hSw; (try dsimp only at hSw); go_simp; first | done | with_reducible rfl); try simp only [Act.put, List.setIfInBounds_toArray, List.set_cons_zero, List.set_cons_succ])
          ((refine wpAnyH_take (i := 12) (v := ?_) (by (simp only [List.getElem?_toArray, List.getElem?_cons_succ, List.getElem?_cons_zero]); rfl) (by kernel_rfl) (by kernel_rfl) (by kernel_rfl) (by exact fun _ _ _ h => h) (Or.inl ⟨by (go_simp; try rfl), ?_⟩) (by assumption) ?_); rotate_left; focus (intro wS hSw; (try dsimp only at hSw); go_simp; first | done | with_reducible rfl); try simp only [Act.put, List.setIfInBounds_toArray, List.set_cons_zero, List.set_cons_succ])
          ((refine wpAnyH_take (i := 13) (v := ?_) (by (simp only [List.getElem?_toArray, List.getElem?_cons_succ, List.getElem?_cons_zero]); rfl) (by kernel_rfl) (by kernel_rfl) (by kernel_rfl) (by exact fun _ _ _ h => h) (Or.inl ⟨by (go_simp; try rfl), ?_⟩) (by assumption) ?_); rotate_left; focus (intro wS hSw; (try dsimp only at hSw); go_simp; first | done | with_reducible rfl); try simp only [Act.put, List.setIfInBounds_toArray, List.set_cons_zero, List.set_cons_succ])
          ((refine wpAnyH_take (i := 14) (v := ?_) (by (simp only [List.getElem?_toArray, List.getElem?_cons_succ, List.getElem?_cons_zero]); rfl) (by kernel_rfl) (by kernel_rfl) (by kernel_rfl) (by exact fun _ _ _ h => h) (Or.inl ⟨by (go_simp; try rfl), ?_⟩) (by assumption) ?_); rotate_left; focus (intro wS hSw; (try dsimp only at hSw); go_simp; first | done | with_reducible rfl); try simp only [Act.put, List.setIfInBounds_toArray, List.set_cons_zero, List.set_cons_succ])
          ((refine wpAnyH_take (i := 15) (v := ?_) (by (simp only [List.getElem?_toArray, List.getElem?_cons_succ, List.getElem?_cons_zero]); rfl) (by kernel_rfl) (by kernel_rfl) (by kernel_rfl) (by exact fun _ _ _ h => h) (Or.inl ⟨by (go_simp; try rfl), ?_⟩) (by assumption) ?_); rotate_left; focus (intro wS hSw; (try dsimp only at hSw); go_simp; first | done | with_reducible rfl); try simp only [Act.put, List.setIfInBounds_toArray, List.set_cons_zero, List.set_cons_succ])
          ((refine wpAnyH_take (i := 16) (v := ?_) (by (simp only [List.getElem?_toArray, List.getElem?_cons_succ, List.getElem?_cons_zero]); rfl) (by kernel_rfl) (by kernel_rfl) (by kernel_rfl) (by exact fun _ _ _ h => h) (Or.inl ⟨by rfl, ?_⟩) (by assumption) ?_); rotate_left; focus (intro wS hSw; (try dsimp only at hSw); go_simp; first | done | with_reducible rfl); try simp only [Act.put, List.setIfInBounds_toArray, List.set_cons_zero, List.set_cons_succ])
          refine wpAnyH_done (by kernel_rfl) ?_ _
          try simp only [Act.put, List.setIfInBounds_toArray, List.set_cons_zero, List.set_cons_succ]
          have Bz := belowN (Below.refl W5.heap.size W5) 1
          obtain ⟨W6, hW6⟩ : ∃ X, X = W5.drew := ⟨_, rfl⟩
          have hB6 : Below W5.heap.size W5 W6 := by rw [hW6]; exact Bz
          have hc6 : ∀ p : Addr, W6.cell? p = W5.cell? p := fun p => by rw [hW6]; rfl
          rw [← hc6] at ca c0 cy
          have HB6 := Lib.hid (HB5.out.trans (hB6.mono HB5.out.size))
          have HROW6 := Lib.hid (HROW5.out.congr (w' := W6) fun q e => hB6.block q (by have h9 := HROW5.out; rw [e] at h9; exact h9.lt))
          have HX6 := Lib.hid (HX5.out.step hB6)
          have HCS := Lib.hid (show W6.cell? ⟨b, o + j, none⟩ = some (.slice (some ⟨gy, oy, none⟩) yn yc) ∧ W6.cell? ⟨ab, j, none⟩ = some (.int .i64 (PP : Int)) ∧ W6.cell? ⟨gy, oy + PP, none⟩ = some (.int .i64 y) from ⟨c0, ca, cy⟩)
          have hab := HA.out.lt
          have HNE := Lib.hid (show b ≠ NH ∧ ab ≠ NH ∧ gy ≠ NH from ⟨by have h9 := HBL.out; have := HNN.out; omega, by have := HNN.out; omega, by have h9 := HGY.out; have := HNN.out; omega⟩)
          have HLTS := Lib.hid (show b < W6.heap.size ∧ ab < W6.heap.size ∧ gy < W6.heap.size from ⟨by have h9 := HBL.out; have := HB6.out.size; omega, by have := HB6.out.size; omega, by have h9 := HGY.out; have := HB6.out.size; omega⟩)
          rw [← hW6]
          clear hW6 hB6 hc6 ca c0 cy HB5 HROW5 HX5 Bz hab
          go_upto_region 7 with fail
          refine wp_region_held_drew (S := fun X => X.cell? ⟨b, o + j, none⟩ = some (.slice (some ⟨gy, oy, none⟩) yn yc) ∧ X.cell? ⟨ab, j, none⟩ = some (.int .i64 (PP : Int)) ∧ X.cell? ⟨gy, oy + PP, none⟩ = some (.int .i64 y)) (by kernel_rfl) HCS.out (fun hHeld => ?_)
          try simp only [Act.put, List.setIfInBounds_toArray, List.set_cons_zero, List.set_cons_succ]
          have Bz := belowN (Below.refl W6.heap.size W6) 1
          have HX7 := Lib.hid (show Blk W6.drew NH #[.int .i64 0, .int .i64 0] 67 from HX6.out.step Bz)
          ((refine wpAnyH_take (i := 0) (v := ?_) (by (simp only [List.getElem?_toArray, List.getElem?_cons_succ, List.getElem?_cons_zero]); rfl) (by kernel_rfl) (by kernel_rfl) (by kernel_rfl) (by exact fun _ _ _ h => h) (Or.inl ⟨by rfl, ?_⟩) (by assumption) ?_); rotate_left; focus (intro wS hSw; (try dsimp only at hSw); go_simp; first | done | with_reducible rfl); try simp only [Act.put, List.setIfInBounds_toArray, List.set_cons_zero, List.set_cons_succ])
          ((refine wpAnyH_take (i := 1) (v := ?_) (by (simp only [List.getElem?_toArray, List.getElem?_cons_succ, List.getElem?_cons_zero]); rfl) (by kernel_rfl) (by kernel_rfl) (by kernel_rfl) (by exact fun _ _ _ h => h) (Or.inl ⟨by rfl, ?_⟩) (by assumption) ?_); rotate_left; focus (intro wS hSw; (try dsimp only at hSw); go_simp; first | done | with_reducible rfl); try simp only [Act.put, List.setIfInBounds_toArray, List.set_cons_zero, List.set_cons_succ])
          ((refine wpAnyH_take (i := 2) (v := ?_) (by (simp only [List.getElem?_toArray, List.getElem?_cons_succ, List.getElem?_cons_zero]); rfl) (by kernel_rfl) (by kernel_rfl) (by kernel_rfl) (by exact fun _ _ _ h => h) (Or.inl ⟨by rfl, ?_⟩) (by assumption) ?_); rotate_left; focus (intro wS hSw; (try dsimp only at hSw); go_simp; first | done | with_reducible rfl); try simp only [Act.put, List.setIfInBounds_toArray, List.set_cons_zero, List.set_cons_succ])
          ((refine wpAnyH_take (i := 3) (v := ?_) (by (simp only [List.getElem?_toArray, List.getElem?_cons_succ, List.getElem?_cons_zero]); rfl) (by kernel_rfl) (by kernel_rfl) (by kernel_rfl) (by exact fun _ _ _ h => h) (Or.inl ⟨by rfl, ?_⟩) (by assumption) ?_); rotate_left; focus (intro wS hSw; (try dsimp only at hSw); go_simp; first | done | with_reducible rfl); try simp only [Act.put, List.setIfInBounds_toArray, List.set_cons_zero, List.set_cons_succ])
          ((refine wpAnyH_take (i := 4) (v := ?_) (by (simp only [List.getElem?_toArray, List.getElem?_cons_succ, List.getElem?_cons_zero]); rfl) (by kernel_rfl) (by kernel_rfl) (by kernel_rfl) (by exact fun _ _ _ h => h) (Or.inl ⟨by rfl, ?_⟩) (by assumption) ?_); rotate_left; focus (intro wS hSw; (try dsimp only at hSw); go_simp; first | done | with_reducible rfl); try simp only [Act.put, List.setIfInBounds_toArray, List.set_cons_zero, List.set_cons_succ])
          ((refine wpAnyH_take (i := 5) (v := ?_) (by (simp only [List.getElem?_toArray, List.getElem?_cons_succ, List.getElem?_cons_zero]); rfl) (by kernel_rfl) (by kernel_rfl) (by kernel_rfl) (by exact fun _ _ _ h => h) (Or.inl ⟨by rfl, ?_⟩) (by assumption) ?_); rotate_left; focus (intro wS hSw; (try dsimp only at hSw); go_simp; first | done | with_reducible rfl); try simp only [Act.put, List.setIfInBounds_toArray, List.set_cons_zero, List.set_cons_succ])
          ((refine wpAnyH_take (i := 6) (v := ?_) (by (simp only [List.getElem?_toArray, List.getElem?_cons_succ, List.getElem?_cons_zero]); rfl) (by kernel_rfl) (by kernel_rfl) (by kernel_rfl) (by exact fun _ _ _ h => h) (Or.inl ⟨by rfl, ?_⟩) (by assumption) ?_); rotate_left; focus (intro wS hSw; (try dsimp only at hSw); go_simp; first | done | with_reducible rfl); try simp only [Act.put, List.setIfInBounds_toArray, List.set_cons_zero, List.set_cons_succ])
          ((refine wpAnyH_take (i := 7) (v := ?_) (by (simp only [List.getElem?_toArray, List.getElem?_cons_succ, List.getElem?_cons_zero]); rfl) (by kernel_rfl) (by kernel_rfl) (by kernel_rfl) (by exact fun _ _ _ h => h) (Or.inl ⟨by rfl, ?_⟩) (by assumption) ?_); rotate_left; focus (intro wS hSw; (try dsimp only at hSw); go_simp; first | done | with_reducible rfl); try simp only [Act.put, List.setIfInBounds_toArray, List.set_cons_zero, List.set_cons_succ])
          ((refine wpAnyH_take (i := 8) (v := ?_) (by (simp only [List.getElem?_toArray, List.getElem?_cons_succ, List.getElem?_cons_zero]); rfl) (by kernel_rfl) (by kernel_rfl) (by kernel_rfl) (by exact fun _ _ _ h => h) (Or.inl ⟨by rfl, ?_⟩) (by assumption) ?_); rotate_left; focus (intro wS hSw; (try dsimp only at hSw); go_simp; first | done | with_reducible rfl); try simp only [Act.put, List.setIfInBounds_toArray, List.set_cons_zero, List.set_cons_succ])
          ((refine wpAnyH_take (i := 9) (v := ?_) (by (simp only [List.getElem?_toArray, List.getElem?_cons_succ, List.getElem?_cons_zero]); rfl) (by kernel_rfl) (by kernel_rfl) (by kernel_rfl) (by exact fun _ _ _ h => h) (Or.inl ⟨by rfl, ?_⟩) (by assumption) ?_); rotate_left; focus (intro wS hSw; (try dsimp only at hSw); go_simp; first | done | with_reducible rfl); try simp only [Act.put, List.setIfInBounds_toArray, List.set_cons_zero, List.set_cons_succ])
          ((refine wpAnyH_take (i := 10) (v := ?_) (by (simp only [List.getElem?_toArray, List.getElem?_cons_succ, List.getElem?_cons_zero]); rfl) (by kernel_rfl) (by kernel_rfl) (by kernel_rfl) (by exact fun _ _ _ h => h) (Or.inl ⟨by rfl, ?_⟩) (by assumption) ?_); rotate_left; focus (intro wS hSw; (try dsimp only at hSw); go_simp; first | done | with_reducible rfl); try simp only [Act.put, List.setIfInBounds_toArray, List.set_cons_zero, List.set_cons_succ])
          have x0 : W6.drew.cell? ⟨NH, 0, none⟩ = some (.int .i64 0) := cell_at HX7.out 0
          have xz : ∀ j, W6.drew.frozen? ⟨NH, j, none⟩ = false := fun j => free_at HX7.out j
          have xl : NH < W6.drew.heap.size := HX7.out.lt
          refine wpAnyH_ready (rs := [11]) (by kernel_rfl) (by simp) ?_
          refine AllReadyH.cons (by (simp only [List.getElem?_toArray, List.getElem?_cons_succ, List.getElem?_cons_zero]); rfl) (fun K hK => ?_) AllReadyH.nil
          go_simp
          generalize hW8' : (W6.setCell ⟨NH, 0, none⟩ (.int .i64 y)).drew = W8
          have hW8 := hW8'.symm
          clear hW8'
          have hf8 : Fr [NH] W6 W8 := by rw [hW8]; exact ((Fr.refl _ _).setCell _ (.inl (by simp)) _).trans (Fr.of_below (belowN (Below.refl _ _) 1)) (by simp)
          have HXn := Lib.hid (show Blk W8 NH #[.int .i64 y, .int .i64 0] 67 by rw [hW8]; exact HX6.out.set 0 _)
          have HBn := Lib.hid (HB6.out.trans (hf8.below HB6.out.size (by simp; exact HNN.out)))
          have HROWn := Lib.hid (HROW6.out.congr (w' := W8) fun q e => hf8.block q (by have h9 := HROW6.out; rw [e] at h9; exact h9.lt) (by simpa using fun e2 => HNQ.out q e e2))
          have HCS8 := Lib.hid (show W8.cell? ⟨b, o + j, none⟩ = some (.slice (some ⟨gy, oy, none⟩) yn yc) ∧ W8.cell? ⟨ab, j, none⟩ = some (.int .i64 (PP : Int)) ∧ W8.cell? ⟨gy, oy + PP, none⟩ = some (.int .i64 y) from ⟨(fr_cell hf8 (by simpa using HNE.out.1) HLTS.out.1).trans HCS.out.1, (fr_cell hf8 (by simpa using HNE.out.2.1) HLTS.out.2.1).trans HCS.out.2.1, (fr_cell hf8 (by simpa using HNE.out.2.2) HLTS.out.2.2).trans HCS.out.2.2⟩)
          refine hK _ _ HCS8.out (fun hHeld => ?_)
          clear hK K x0 xz xl hW8 hf8 Bz HX7 HX6 HB6 HROW6 HCS HCS8
          try simp only [Act.put, List.setIfInBounds_toArray, List.set_cons_zero, List.set_cons_succ]
          refine wpAnyH_done (by kernel_rfl) ?_ _
          try simp only [Act.put, List.setIfInBounds_toArray, List.set_cons_zero, List.set_cons_succ]
          obtain ⟨v8, o8, W9, hrun9, hrow9, hg9, hs9, hlo9, hm9⟩ := hd_grow (M := w.heap.size) (ty := 32) (E := fun q => ⟨mH mask Q at_ q, 0⟩) (n := j) (W := W8.alloc (.cells #[.int .i64 y, .int .i64 0] 67)) (HROWn.out.congr fun q e => (alloc_b W8 _).block q (by have h9 := HROWn.out; rw [e] at h9; exact h9.lt)) HOH.out (by have h9 := blk_new W8 #[.int .i64 y, .int .i64 0] 67; rw [← HYY.out] at h9 ⊢; exact h9) (Nat.le_trans HBn.out.size (alloc_b W8 _).size) (by have := HN8.out; have := HLJ.out; omega)
          have HRUN9 := Lib.hid hrun9
          have HROW9 := Lib.hid hrow9
          have HOH9 := Lib.hid hm9
          have HB9 := Lib.hid ((HBn.out.trans ((alloc_b W8 _).mono HBn.out.size)).trans hlo9)
          have x0 : W8.cell? ⟨NH, 0, none⟩ = some (.int .i64 y) := cell_at HXn.out 0
          have x1 : W8.cell? ⟨NH, 1, none⟩ = some (.int .i64 0) := cell_at HXn.out 1
          have ww5 : IntKind.i64.wrap ((j : Int) + 1) = (j : Int) + 1 := IntWalk.i64_in _ (by have := HN8.out; have := HLJ.out; omega)
          clear hrun9 hrow9 hg9 hs9 hlo9 hm9
          go_wp2_with (at_builtin; refine Lib.wpList_append_run _ rfl (.tmp 51) (.tmp 53) 32 32 rfl _ _ rfl rfl _ _ HRUN9.out ?_)
          go_roundw
          case rel => exact ⟨j + 1, some o8, by have := HLJ.out; omega, by go_num, HROW9.out, (fun q e => by obtain rfl := Option.some.inj e; exact HOH9.out), HB9.out⟩
          case measure => (have h8 := HLJ.out; first | (simp [intOf]; done) | (simp [intOf]; omega))
      · have d3 : decide ((PP : Int) < (yn : Int)) = false := decide_eq_false (by omega)
        have d3' : decide (PP < yn) = false := decide_eq_false hpy
        have HYY : Hid (mH mask Q at_ j = 0) := Lib.hid (by unfold mH; rw [decide_eq_false (by rw [← HPP.out]; have h9 := HYN.out; omega)]; rfl)
        clear hpy
        refine wp_region_held_drew (S := fun X => X.cell? ⟨b, o + j, none⟩ = some (.slice ya yn yc) ∧ X.cell? ⟨ab, j, none⟩ = some (.int .i64 (PP : Int))) (by kernel_rfl) ⟨c0, ca⟩ (fun hHeld => ?_)
        try simp only [Act.put, List.setIfInBounds_toArray, List.set_cons_zero, List.set_cons_succ]
        ((refine wpAnyH_take (i := 0) (v := ?_) (by (simp only [List.getElem?_toArray, List.getElem?_cons_succ, List.getElem?_cons_zero]); rfl) (by kernel_rfl) (by kernel_rfl) (by kernel_rfl) (by exact fun _ _ _ h => h) (Or.inl ⟨by rfl, ?_⟩) (by assumption) ?_); rotate_left; focus (intro wS hSw; (try dsimp only at hSw); go_simp; first | done | with_reducible rfl); try simp only [Act.put, List.setIfInBounds_toArray, List.set_cons_zero, List.set_cons_succ])
        ((refine wpAnyH_take (i := 1) (v := ?_) (by (simp only [List.getElem?_toArray, List.getElem?_cons_succ, List.getElem?_cons_zero]); rfl) (by kernel_rfl) (by kernel_rfl) (by kernel_rfl) (by exact fun _ _ _ h => h) (Or.inl ⟨by rfl, ?_⟩) (by assumption) ?_); rotate_left; focus (intro wS hSw; (try dsimp only at hSw); go_simp; first | done | with_reducible rfl); try simp only [Act.put, List.setIfInBounds_toArray, List.set_cons_zero, List.set_cons_succ])
        ((refine wpAnyH_take (i := 2) (v := ?_) (by (simp only [List.getElem?_toArray, List.getElem?_cons_succ, List.getElem?_cons_zero]); rfl) (by kernel_rfl) (by kernel_rfl) (by kernel_rfl) (by exact fun _ _ _ h => h) (Or.inl ⟨by rfl, ?_⟩) (by assumption) ?_); rotate_left; focus (intro wS hSw; (try dsimp only at hSw); go_simp; first | done | with_reducible rfl); try simp only [Act.put, List.setIfInBounds_toArray, List.set_cons_zero, List.set_cons_succ])
        ((refine wpAnyH_take (i := 3) (v := ?_) (by (simp only [List.getElem?_toArray, List.getElem?_cons_succ, List.getElem?_cons_zero]); rfl) (by kernel_rfl) (by kernel_rfl) (by kernel_rfl) (by exact fun _ _ _ h => h) (Or.inl ⟨by rfl, ?_⟩) (by assumption) ?_); rotate_left; focus (intro wS hSw; (try dsimp only at hSw); go_simp; first | done | with_reducible rfl); try simp only [Act.put, List.setIfInBounds_toArray, List.set_cons_zero, List.set_cons_succ])
        ((refine wpAnyH_take (i := 4) (v := ?_) (by (simp only [List.getElem?_toArray, List.getElem?_cons_succ, List.getElem?_cons_zero]); rfl) (by kernel_rfl) (by kernel_rfl) (by kernel_rfl) (by exact fun _ _ _ h => h) (Or.inl ⟨by rfl, ?_⟩) (by assumption) ?_); rotate_left; focus (intro wS hSw; (try dsimp only at hSw); go_simp; first | done | with_reducible rfl); try simp only [Act.put, List.setIfInBounds_toArray, List.set_cons_zero, List.set_cons_succ])
        ((refine wpAnyH_take (i := 5) (v := ?_) (by (simp only [List.getElem?_toArray, List.getElem?_cons_succ, List.getElem?_cons_zero]); rfl) (by kernel_rfl) (by kernel_rfl) (by kernel_rfl) (by exact fun _ _ _ h => h) (Or.inl ⟨by rfl, ?_⟩) (by assumption) ?_); rotate_left; focus (intro wS hSw; (try dsimp only at hSw); go_simp; first | done | with_reducible rfl); try simp only [Act.put, List.setIfInBounds_toArray, List.set_cons_zero, List.set_cons_succ])
        ((refine wpAnyH_take (i := 6) (v := ?_) (by (simp only [List.getElem?_toArray, List.getElem?_cons_succ, List.getElem?_cons_zero]); rfl) (by kernel_rfl) (by kernel_rfl) (by kernel_rfl) (by exact fun _ _ _ h => h) (Or.inl ⟨by rfl, ?_⟩) (by assumption) ?_); rotate_left; focus (intro wS hSw; (try dsimp only at hSw); go_simp; first | done | with_reducible rfl); try simp only [Act.put, List.setIfInBounds_toArray, List.set_cons_zero, List.set_cons_succ])
        ((refine wpAnyH_take (i := 7) (v := ?_) (by (simp only [List.getElem?_toArray, List.getElem?_cons_succ, List.getElem?_cons_zero]); rfl) (by kernel_rfl) (by kernel_rfl) (by kernel_rfl) (by exact fun _ _ _ h => h) (Or.inl ⟨by rfl, ?_⟩) (by assumption) ?_); rotate_left; focus (intro wS hSw; (try dsimp only at hSw); go_simp; first | done | with_reducible rfl); try simp only [Act.put, List.setIfInBounds_toArray, List.set_cons_zero, List.set_cons_succ])
        ((refine wpAnyH_take (i := 8) (v := ?_) (by (simp only [List.getElem?_toArray, List.getElem?_cons_succ, List.getElem?_cons_zero]); rfl) (by kernel_rfl) (by kernel_rfl) (by kernel_rfl) (by exact fun _ _ _ h => h) (Or.inl ⟨by rfl, ?_⟩) (by assumption) ?_); rotate_left; focus (intro wS hSw; (try dsimp only at hSw); go_simp; first | done | with_reducible rfl); try simp only [Act.put, List.setIfInBounds_toArray, List.set_cons_zero, List.set_cons_succ])
        ((refine wpAnyH_take (i := 9) (v := ?_) (by (simp only [List.getElem?_toArray, List.getElem?_cons_succ, List.getElem?_cons_zero]); rfl) (by kernel_rfl) (by kernel_rfl) (by kernel_rfl) (by exact fun _ _ _ h => h) (Or.inl ⟨by rfl, ?_⟩) (by assumption) ?_); rotate_left; focus (intro wS hSw; (try dsimp only at hSw); go_simp; first | done | with_reducible rfl); try simp only [Act.put, List.setIfInBounds_toArray, List.set_cons_zero, List.set_cons_succ])
        ((refine wpAnyH_take (i := 10) (v := ?_) (by (simp only [List.getElem?_toArray, List.getElem?_cons_succ, List.getElem?_cons_zero]); rfl) (by kernel_rfl) (by kernel_rfl) (by kernel_rfl) (by exact fun _ _ _ h => h) (Or.inl ⟨by rfl, ?_⟩) (by assumption) ?_); rotate_left; focus (intro wS hSw; (try dsimp only at hSw); go_simp; first | done | with_reducible rfl); try simp only [Act.put, List.setIfInBounds_toArray, List.set_cons_zero, List.set_cons_succ])
        ((refine wpAnyH_take (i := 11) (v := undef) (by (simp only [List.getElem?_toArray, List.getElem?_cons_succ, List.getElem?_cons_zero]); rfl) (by kernel_rfl) (by kernel_rfl) (by kernel_rfl) (by exact fun _ _ _ h => h) (Or.inr ⟨by (go_simp; try (intro hh; cases hh)), rfl⟩) (by assumption) ?_); try simp only [Act.put, List.setIfInBounds_toArray, List.set_cons_zero, List.set_cons_succ])
        ((refine wpAnyH_take (i := 12) (v := undef) (by (simp only [List.getElem?_toArray, List.getElem?_cons_succ, List.getElem?_cons_zero]); rfl) (by kernel_rfl) (by kernel_rfl) (by kernel_rfl) (by exact fun _ _ _ h => h) (Or.inr ⟨by (go_simp; try (intro hh; cases hh)), rfl⟩) (by assumption) ?_); try simp only [Act.put, List.setIfInBounds_toArray, List.set_cons_zero, List.set_cons_succ])
        ((refine wpAnyH_take (i := 13) (v := undef) (by (simp only [List.getElem?_toArray, List.getElem?_cons_succ, List.getElem?_cons_zero]); rfl) (by kernel_rfl) (by kernel_rfl) (by kernel_rfl) (by exact fun _ _ _ h => h) (Or.inr ⟨by (go_simp; try (intro hh; cases hh)), rfl⟩) (by assumption) ?_); try simp only [Act.put, List.setIfInBounds_toArray, List.set_cons_zero, List.set_cons_succ])
        ((refine wpAnyH_take (i := 14) (v := undef) (by (simp only [List.getElem?_toArray, List.getElem?_cons_succ, List.getElem?_cons_zero]); rfl) (by kernel_rfl) (by kernel_rfl) (by kernel_rfl) (by exact fun _ _ _ h => h) (Or.inr ⟨by (go_simp; try (intro hh; cases hh)), rfl⟩) (by assumption) ?_); try simp only [Act.put, List.setIfInBounds_toArray, List.set_cons_zero, List.set_cons_succ])
        ((refine wpAnyH_take (i := 15) (v := undef) (by (simp only [List.getElem?_toArray, List.getElem?_cons_succ, List.getElem?_cons_zero]); rfl) (by kernel_rfl) (by kernel_rfl) (by kernel_rfl) (by exact fun _ _ _ h => h) (Or.inr ⟨by (go_simp; try (intro hh; cases hh)), rfl⟩) (by assumption) ?_); try simp only [Act.put, List.setIfInBounds_toArray, List.set_cons_zero, List.set_cons_succ])
        ((refine wpAnyH_take (i := 16) (v := ?_) (by (simp only [List.getElem?_toArray, List.getElem?_cons_succ, List.getElem?_cons_zero]); rfl) (by kernel_rfl) (by kernel_rfl) (by kernel_rfl) (by exact fun _ _ _ h => h) (Or.inl ⟨by rfl, ?_⟩) (by assumption) ?_); rotate_left; focus (intro wS hSw; (try dsimp only at hSw); go_simp; first | done | with_reducible rfl); try simp only [Act.put, List.setIfInBounds_toArray, List.set_cons_zero, List.set_cons_succ])
        refine wpAnyH_done (by kernel_rfl) ?_ _
        try simp only [Act.put, List.setIfInBounds_toArray, List.set_cons_zero, List.set_cons_succ]
        have Bz := belowN (Below.refl W5.heap.size W5) 1
        obtain ⟨W6, hW6⟩ : ∃ X, X = W5.drew := ⟨_, rfl⟩
        have hB6 : Below W5.heap.size W5 W6 := by rw [hW6]; exact Bz
        have HBn := Lib.hid (HB5.out.trans (hB6.mono HB5.out.size))
        have HROWn := Lib.hid (HROW5.out.congr (w' := W6) fun q e => hB6.block q (by have h9 := HROW5.out; rw [e] at h9; exact h9.lt))
        have HXn := Lib.hid (HX5.out.step hB6)
        rw [← hW6]
        clear hW6 hB6 Bz ca c0 HB5 HROW5 HX5

        obtain ⟨v8, o8, W9, hrun9, hrow9, hg9, hs9, hlo9, hm9⟩ := hd_grow (M := w.heap.size) (ty := 32) (E := fun q => ⟨mH mask Q at_ q, 0⟩) (n := j) (W := W6.alloc (.cells #[.int .i64 0, .int .i64 0] 67)) (HROWn.out.congr fun q e => (alloc_b W6 _).block q (by have h9 := HROWn.out; rw [e] at h9; exact h9.lt)) HOH.out (by have h9 := blk_new W6 #[.int .i64 0, .int .i64 0] 67; rw [← HYY.out] at h9 ⊢; exact h9) (Nat.le_trans HBn.out.size (alloc_b W6 _).size) (by have := HN8.out; have := HLJ.out; omega)
        have HRUN9 := Lib.hid hrun9
        have HROW9 := Lib.hid hrow9
        have HOH9 := Lib.hid hm9
        have HB9 := Lib.hid ((HBn.out.trans ((alloc_b W6 _).mono HBn.out.size)).trans hlo9)
        have x0 : W6.cell? ⟨NH, 0, none⟩ = some (.int .i64 0) := cell_at HXn.out 0
        have x1 : W6.cell? ⟨NH, 1, none⟩ = some (.int .i64 0) := cell_at HXn.out 1
        have ww5 : IntKind.i64.wrap ((j : Int) + 1) = (j : Int) + 1 := IntWalk.i64_in _ (by have := HN8.out; have := HLJ.out; omega)
        clear hrun9 hrow9 hg9 hs9 hlo9 hm9
        go_wp2_with (at_builtin; refine Lib.wpList_append_run _ rfl (.tmp 51) (.tmp 53) 32 32 rfl _ _ rfl rfl _ _ HRUN9.out ?_)
        go_roundw
        case rel => exact ⟨j + 1, some o8, by have := HLJ.out; omega, by go_num, HROW9.out, (fun q e => by obtain rfl := Option.some.inj e; exact HOH9.out), HB9.out⟩
        case measure => (have h8 := HLJ.out; first | (simp [intOf]; done) | (simp [intOf]; omega))
    obtain rfl : j = n := by omega
    obtain ⟨ah, ch, rfl, -, -, -⟩ := hrow.shape
    have HOKE : Hid (∀ k, k < j → (⟨mH mask Q at_ k, 0⟩ : HdE).ok) := Lib.hid (fun q hq => by
      have := HMO.out q hq
      exact ⟨⟨by show _ ≤ mH mask Q at_ q; omega, by show mH mask Q at_ q ≤ _; omega⟩, by show _ ≤ (0 : Int); omega, by show (0 : Int) ≤ _; omega⟩)
    have HEE : Hid (∀ W', BG M wr W' → HdIn W' ah j ch (oh.getD 0) 0 (fun q => ⟨mH mask Q at_ q, 0⟩)) := Lib.hid (fun W' hg => by
      have hr9 := HROW.out.congr (w' := W') fun q e => by
        have h9 := HROW.out
        rw [e] at h9
        obtain ⟨cs, hb⟩ := blk_row h9
        exact (hg.t q cs _ hb (by simp [gTy])).trans hb.symm
      obtain ⟨a9, c9, he, hh⟩ := hd_row hr9 HOKE.out
      injection he with e1 e2 e3
      rw [e1, e3]
      exact hh)
    have HF := Lib.hid (h0.out.step hB)
    have PK := Lib.hid (fpick_good M g fo ft j c1 c2 wt al s ah ch (oh.getD 0) 0 (fun q => ⟨mH mask Q at_ q, 0⟩) wr HF.out HEE.out HMO.out HI.out HW.out H0.out)
    have HBR := Lib.hid hB
    clear hrow hoh hB hlj HEE HF
    go_wp2_with fail
    go_at_call 11
    go_fit (PK.out)
    rintro e W5 ⟨rfl, hp5⟩
    have hs9 : pkS j wt al (hsz fun q => (⟨mH mask Q at_ q, 0⟩ : HdE)) s = pkS j wt al (mH mask Q at_) s := rfl
    have hpc9 : pkK j wt al (hsz fun q => (⟨mH mask Q at_ q, 0⟩ : HdE)) s = pkK j wt al (mH mask Q at_) s := rfl
    rw [hs9] at hp5
    rw [hpc9]
    clear PK hs9 hpc9
    have hpp : PkP M g fo ft j c1 wt al (pkS j wt al (mH mask Q at_) s) w W5 := by
      obtain ⟨ft', c', f1, f2, f3⟩ := hp5
      exact ⟨ft', c', f1, ((Fr.of_below HBR.out).mono (l' := [g, fo, ft]) (by simp)).trans f2 (fun x hx => .inl hx), by rcases f3 with e | e; exact .inl e; exact .inr (Nat.le_trans HBR.out.size e)⟩
    have HPP := Lib.hid hpp
    have hrow5 : Row W5 (.slice ah j ch) oh 67 2 j (hdL (fun q => ⟨mH mask Q at_ q, 0⟩) j) := by
      obtain ⟨ft', c', f1, f2, f3⟩ := hp5
      refine hd_fr HROW.out f2 (fun q hq => ?_)
      obtain ⟨_, _, _, g1, g2, g3⟩ := (h0.out.step HBR.out).blks'
      simp at hq
      rcases hq with rfl | rfl | rfl
      · exact ⟨_, _, g1, by decide⟩
      · exact ⟨_, _, g2, by decide⟩
      · exact ⟨_, _, g3, by decide⟩
    have HROW5 := Lib.hid hrow5
    have hpk := inv_pk HW.out HMO.out HI.out
    clear hp5 hpp hrow5 HROW HOH
    cases hpc : pkK j wt al (mH mask Q at_) s with
    | none =>
      have HPC := Lib.hid hpc
      clear hpc hpk
      simp only [kI, Option.isSome_none]
      go_wp2_with fail
      try rw [Exit.noGoto_ret]
      exact bodyPost_ret (v := .tuple #[.int .i64 0, .int .i64 0, .bool false]) (by simp [results, Try.results18, go_sem]) rfl ⟨by rw [HPC.out]; rfl, HPP.out⟩
    | some q =>
      have HPC := Lib.hid hpc
      obtain ⟨hk, hz⟩ := hpk.2 q hpc
      obtain ⟨a9, c9, he, hh⟩ := hd_row HROW5.out HOKE.out
      injection he with e1 e2 e3
      subst e1 e3
      obtain ⟨ea9, _⟩ := hh.at_ H0.out
      have c0 := (hh.cell q hk).1
      rw [ea9]
      obtain ⟨Y, hY⟩ : ∃ y, y = mH mask Q at_ q := ⟨_, rfl⟩
      have cz : W5.cell? ⟨oh.getD 0, 0 + q * 2, none⟩ = some (.int .i64 Y) := by rw [c0, hY]
      rw [Nat.zero_add] at cz
      have HY := Lib.hid hY
      have bk1 : (q < j) = True := eq_true hk
      have bk2 : ((q : Int) < (j : Int)) = True := eq_true (by omega)
      have bk0 : ((0 : Int) ≤ (q : Int)) = True := eq_true (by omega)
      clear hpc hpk hk hz hh ea9 c0 hY HROW5
      simp only [kI, Option.isSome_some]
      go_wp2_with fail
      (refine wp_region_quiet_lit (by kernel_rfl) (by kernel_rfl) ?_; (repeat (first | go_big_quiet_step (fail) | (refine BigFrame.wpQuiet_skip (by rfl) ?_; try simp only [Act.put, List.setIfInBounds_toArray, List.set_cons_zero, List.set_cons_succ]))); refine wpQuiet_nil ?_; intro _ hw9; obtain ⟨nq, hw8⟩ := hw9; subst hw8)
      go_wp2_with fail
      try rw [Exit.noGoto_ret]
      exact bodyPost_ret (v := .tuple #[.int .i64 q, .int .i64 Y, .bool true]) (by simp [results, Try.results18, go_sem]) rfl ⟨by rw [HPC.out, HY.out]; rfl, HPP.out.drewN _⟩
end Go.Proofs.Ytnainlemnkfpkaa
