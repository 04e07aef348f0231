/-
  Package wire: several texts in one.
-/
import Derived.Test.YtiednacpmlilbaaDoorWk5
namespace Go.Proofs.YtiednacpmlilbaaDoor
open Go.RowKit
set_option linter.unusedSimpArgs false
set_option linter.unusedVariables false

abbrev RdS := Except Nat Nat
def atS (n : Nat) : RdS → Nat
  | .ok s => s
  | .error _ => n
def badS : RdS → Int
  | .ok _ => -1
  | .error e => (e : Nat)
/-- the reader in memory -/
def RdIn (R lo : Nat) (bs : List Nat) (W : World) (S : RdS) : Prop := ∃ v, Blk W R #[v, .int .i64 (atS bs.length S : Nat), .int .i64 (badS S)] 103 ∧ BL lo W v bs ∧ lo ≤ R ∧ atS bs.length S ≤ bs.length ∧ bs.length ≤ 1048576 ∧ badS S ≤ 1048576
def failS (S : RdS) (a : Nat) : RdS := match S with
  | .ok _ => .error a
  | .error e => .error e
theorem fr_below {L : List Nat} {W W' : World} (h : Below W.heap.size W W') : Fr L W W' := ⟨h.os, h.tape, h.output, h.size, fun q hq _ => h.block q hq⟩
theorem Fr.tr {L : List Nat} {a b c : World} (h : Fr L a b) (k : Fr L b c) : Fr L a c := ⟨k.os.trans h.os, k.tape.trans h.tape, k.output.trans h.output, Nat.le_trans h.size k.size, fun q hq hm => (k.block q (Nat.lt_of_lt_of_le hq h.size) hm).trans (h.block q hq hm)⟩
section
variable {R lo : Nat} {bs : List Nat}
theorem RdIn.below {W W' : World} {S : RdS} (h : RdIn R lo bs W S) (hB : Below W.heap.size W W') : RdIn R lo bs W' S := by
  obtain ⟨v, h1, h2, h3, h4⟩ := h
  have := h1.lt
  exact ⟨v, h1.step hB, h2.fr (fun q hq => hB.block q (by omega)) hB.size, h3, h4⟩
theorem bl_set {W : World} {v : Value} {j : Nat} {u : Value} (h : BL lo W v bs) (hR : lo ≤ R) : BL lo (W.setCell ⟨R, j, none⟩ u) v bs :=
  h.fr (fun q hq => heap_setCell_ne W ⟨R, j, none⟩ u q (fun e => by dsimp only at e; omega)) (by simp)
set_option maxRecDepth 100000 in
set_option maxHeartbeats 8000000 in
theorem fails_any (W : World) (S : RdS) (a : Nat) (h : RdIn R lo bs W S) (ha : a ≤ 1048576) :
    Calls Tryd.prog 96 #[.pointer (some ⟨R, 0, none⟩), .int .i64 (a : Nat)] W fun e W' => e = .returned (.tuple #[]) ∧ RdIn R lo bs W' (failS S a) ∧ Fr [R] W W' := by
  obtain ⟨v, hb, hbl, hR, hat, hlen, hbad⟩ := h
  have hbl0 := hbl
  obtain ⟨va, vb, vo, vc, rfl, -, -⟩ := hbl
  obtain ⟨ln, hln⟩ : ∃ ln, ln = bs.length := ⟨_, rfl⟩
  rw [← hln] at hb hbl0
  have x0 : W.cell? ⟨R, 0, none⟩ = some (.slice va ln vc) := cell_at hb 0
  have x1 : W.cell? ⟨R, 1, none⟩ = some (.int .i64 (atS bs.length S : Nat)) := by rw [hln] at hb; exact cell_at hb 1
  have x2 : W.cell? ⟨R, 2, none⟩ = some (.int .i64 (badS S)) := cell_at hb 2
  have xf : ∀ j, W.frozen? ⟨R, j, none⟩ = false := fun j => free_at hb j
  have xl : R < W.heap.size := hb.lt
  cases S with
  | ok s =>
    have hb2 := (hb.set 2 (.int .i64 (a : Nat))).set 1 (.int .i64 (ln : Nat))
    have HEND := Lib.hid (show RdIn R lo bs ((W.setCell ⟨R, 2, none⟩ (.int .i64 (a : Nat))).setCell ⟨R, 1, none⟩ (.int .i64 (ln : Nat))) (.error a) ∧ Fr [R] W ((W.setCell ⟨R, 2, none⟩ (.int .i64 (a : Nat))).setCell ⟨R, 1, none⟩ (.int .i64 (ln : Nat))) from
      ⟨⟨_, by have h9 := hb2; rw [hln] at h9 ⊢; exact h9, bl_set (bl_set hbl0 hR) hR, hR, Nat.le_refl _, hlen, by show ((a : Nat) : Int) ≤ 1048576; omega⟩, ((Fr.refl _ _).setCell _ (.inl (by simp)) _).setCell _ (.inl (by simp)) _⟩)
    clear hb2 hb hbl0 hR hat hlen hln hbad
    replace x2 : W.cell? ⟨R, 2, none⟩ = some (.int .i64 (-1)) := x2
    go_enter Tryd.func96, Tryd.ntmps96
    go_wp2_with fail
    go_end0
    exact ⟨rfl, HEND.out.1, HEND.out.2⟩
  | error e =>
    have hb2 := hb.set 1 (.int .i64 (ln : Nat))
    have HEND := Lib.hid (show RdIn R lo bs (W.setCell ⟨R, 1, none⟩ (.int .i64 (ln : Nat))) (.error e) ∧ Fr [R] W (W.setCell ⟨R, 1, none⟩ (.int .i64 (ln : Nat))) from
      ⟨⟨_, by have h9 := hb2; rw [hln] at h9 ⊢; exact h9, bl_set hbl0 hR, hR, Nat.le_refl _, hlen, hbad⟩, (Fr.refl _ _).setCell _ (.inl (by simp)) _⟩)
    clear hb2 hb hbl0 hR hat hlen hln hbad
    replace x2 : W.cell? ⟨R, 2, none⟩ = some (.int .i64 (e : Nat)) := x2
    go_enter Tryd.func96, Tryd.ntmps96
    go_wp2_with fail
    go_end0
    exact ⟨rfl, HEND.out.1, HEND.out.2⟩
def smallS (bs : List Nat) (S : RdS) : Nat × RdS := match S with
  | .error e => (0, .error e)
  | .ok s => if h : s < bs.length then (bs[s], .ok (s + 1)) else (0, .error bs.length)
set_option maxRecDepth 100000 in
set_option maxHeartbeats 8000000 in
theorem rsmall_any (W : World) (S : RdS) (h : RdIn R lo bs W S) :
    Calls Tryd.prog 51 #[.pointer (some ⟨R, 0, none⟩)] W fun e W' => e = .returned (.int .u8 ((smallS bs S).1 : Nat)) ∧ RdIn R lo bs W' (smallS bs S).2 ∧ Fr [R] W W' ∧ (smallS bs S).1 < 256 := by
  have h0 := h
  obtain ⟨v, hb, hbl, hR, hat, hlen, hbad⟩ := h
  have hbl0 := hbl
  obtain ⟨va, vb, vo, vc, rfl, hby, hbl2⟩ := hbl
  obtain ⟨p, hp⟩ : ∃ p, p = atS bs.length S := ⟨_, rfl⟩
  obtain ⟨ln, hln⟩ : ∃ ln, ln = bs.length := ⟨_, rfl⟩
  obtain ⟨WD, hWD⟩ : ∃ X, X = W.drew := ⟨_, rfl⟩
  have hdb : Below W.heap.size W WD := by rw [hWD]; exact drew_b W
  have hbd := hb.step hdb
  rw [← hp, ← hln] at hbd
  have x0 : WD.cell? ⟨R, 0, none⟩ = some (.slice va ln vc) := cell_at hbd 0
  have x1 : WD.cell? ⟨R, 1, none⟩ = some (.int .i64 (p : Nat)) := cell_at hbd 1
  by_cases hpl : p < ln
  · have hS : S = .ok p := by
      cases S with
      | ok s => rw [hp]; rfl
      | error e => exfalso; rw [hp, hln] at hpl; exact Nat.lt_irrefl _ hpl
    subst hS
    have hgb := gB_lt (L := bs) (k := p) (by omega)
    obtain ⟨x, hx⟩ : ∃ x, x = gB bs p := ⟨_, rfl⟩
    have hx2 : x < 256 := by rw [hx]; exact hby.bd p (by omega)
    have hsm : smallS bs (.ok p) = (x, .ok (p + 1)) := by
      unfold smallS
      simp only
      rw [dif_pos (by omega)]
      rw [List.getElem?_eq_getElem (by omega)] at hgb
      rw [Option.some.inj hgb, hx]
    obtain ⟨p1, hp1⟩ : ∃ p1, p1 = p + 1 := ⟨_, rfl⟩
    rw [hsm, ← hp1]
    have hc := hby.cell p (by omega)
    rw [← hx] at hc
    obtain ⟨ea, hlt⟩ := hby.at_ (by omega)
    subst ea
    have hvb := hbl2 (by omega)
    obtain ⟨W2, hW2⟩ : ∃ X, X = (WD.drew.setCell ⟨R, 1, none⟩ (.int .i64 ((p1 : Nat) : Int))) := ⟨_, rfl⟩
    have hd2 : Below WD.heap.size WD WD.drew := drew_b WD
    have HEND := Lib.hid (show RdIn R lo bs W2 (.ok p1) ∧ Fr [R] W W2 from by
      rw [hW2]
      refine ⟨⟨_, by have h9 := (hbd.step hd2).set 1 (.int .i64 ((p1 : Nat) : Int)); rw [hln] at h9; exact h9, bl_set ((hbl0.fr (fun q hq => hdb.block q (by have := hb.lt; omega)) hdb.size).fr (fun q hq => hd2.block q (by have := hbd.lt; omega)) hd2.size) hR, hR, by show p1 ≤ bs.length; omega, hlen, hbad⟩, ?_⟩
      exact ((fr_below hdb).tr (fr_below hd2)).tr ((Fr.refl _ _).setCell _ (.inl (by simp)) _))
    have w1 : IntKind.i64.wrap ((p : Int) + 1) = (p1 : Int) := by rw [IntWalk.i64_in _ (by omega)]; omega
    have c1 : ((ln : Int) ≤ (p : Int)) = False := eq_false (by omega)
    have c2 : (ln ≤ p) = False := eq_false (by omega)
    have c3 : (p < ln) = True := eq_true hpl
    have c4 : ((p : Int) < (ln : Int)) = True := eq_true (by omega)
    have hcd : WD.drew.cell? ⟨vb, vo + p, none⟩ = some (.int .u8 (x : Nat)) := (hd2.cell (p := ⟨vb, vo + p, none⟩) (Nat.lt_of_lt_of_le hlt hdb.size)).trans ((hdb.cell (p := ⟨vb, vo + p, none⟩) hlt).trans hc)
    have HB := Lib.hid hbd
    have HBD := Lib.hid (hbd.step hd2)
    have HX2 := Lib.hid hx2
    have HCD := Lib.hid hcd
    clear hp1 hgb hx hx2 hsm hc hb hbl0 hR hat hlen hln hbad hdb h0 hby hbl2 hd2 hp hcd hvb hlt
    go_enter Tryd.func51, Tryd.ntmps51
    go_upto_region 1 with fail
    refine wp_region_held_drew (S := fun X => X.cell? ⟨R, 0, none⟩ = some (.slice (some ⟨vb, vo, none⟩) ln vc) ∧ X.cell? ⟨R, 1, none⟩ = some (.int .i64 (p : Nat))) (by kernel_rfl) (by rw [← hWD]; exact ⟨x0, x1⟩) (fun hHeld => ?_)
    rw [← hWD] at hHeld ⊢
    clear hWD
    ((refine wpAnyH_take (i := 0) (v := ?_) (by (simp only [List.getElem?_toArray, List.getElem?_cons_succ, List.getElem?_cons_zero]); rfl) (by kernel_rfl) (by kernel_rfl) (by kernel_rfl) (by exact fun _ _ _ h => h) (Or.inl ⟨by rfl, ?_⟩) (by assumption) ?_); rotate_left; focus (intro wS hSw; (try dsimp only at hSw); go_simp; first | done | with_reducible rfl); try simp only [Act.put, List.setIfInBounds_toArray, List.set_cons_zero, List.set_cons_succ])
    ((refine wpAnyH_take (i := 1) (v := ?_) (by (simp only [List.getElem?_toArray, List.getElem?_cons_succ, List.getElem?_cons_zero]); rfl) (by kernel_rfl) (by kernel_rfl) (by kernel_rfl) (by exact fun _ _ _ h => h) (Or.inl ⟨by rfl, ?_⟩) (by assumption) ?_); rotate_left; focus (intro wS hSw; (try dsimp only at hSw); go_simp; first | done | with_reducible rfl); try simp only [Act.put, List.setIfInBounds_toArray, List.set_cons_zero, List.set_cons_succ])
    ((refine wpAnyH_take (i := 2) (v := ?_) (by (simp only [List.getElem?_toArray, List.getElem?_cons_succ, List.getElem?_cons_zero]); rfl) (by kernel_rfl) (by kernel_rfl) (by kernel_rfl) (by exact fun _ _ _ h => h) (Or.inl ⟨by rfl, ?_⟩) (by assumption) ?_); rotate_left; focus (intro wS hSw; (try dsimp only at hSw); go_simp; first | done | with_reducible rfl); try simp only [Act.put, List.setIfInBounds_toArray, List.set_cons_zero, List.set_cons_succ])
    ((refine wpAnyH_take (i := 3) (v := ?_) (by (simp only [List.getElem?_toArray, List.getElem?_cons_succ, List.getElem?_cons_zero]); rfl) (by kernel_rfl) (by kernel_rfl) (by kernel_rfl) (by exact fun _ _ _ h => h) (Or.inl ⟨by rfl, ?_⟩) (by assumption) ?_); rotate_left; focus (intro wS hSw; (try dsimp only at hSw); go_simp; first | done | with_reducible rfl); try simp only [Act.put, List.setIfInBounds_toArray, List.set_cons_zero, List.set_cons_succ])
    ((refine wpAnyH_take (i := 4) (v := ?_) (by (simp only [List.getElem?_toArray, List.getElem?_cons_succ, List.getElem?_cons_zero]); rfl) (by kernel_rfl) (by kernel_rfl) (by kernel_rfl) (by exact fun _ _ _ h => h) (Or.inl ⟨by rfl, ?_⟩) (by assumption) ?_); rotate_left; focus (intro wS hSw; (try dsimp only at hSw); go_simp; first | done | with_reducible rfl); try simp only [Act.put, List.setIfInBounds_toArray, List.set_cons_zero, List.set_cons_succ])
    ((refine wpAnyH_take (i := 5) (v := ?_) (by (simp only [List.getElem?_toArray, List.getElem?_cons_succ, List.getElem?_cons_zero]); rfl) (by kernel_rfl) (by kernel_rfl) (by kernel_rfl) (by exact fun _ _ _ h => h) (Or.inl ⟨by rfl, ?_⟩) (by assumption) ?_); rotate_left; focus (intro wS hSw; (try dsimp only at hSw); go_simp; first | done | with_reducible rfl); try simp only [Act.put, List.setIfInBounds_toArray, List.set_cons_zero, List.set_cons_succ])
    ((refine wpAnyH_take (i := 6) (v := ?_) (by (simp only [List.getElem?_toArray, List.getElem?_cons_succ, List.getElem?_cons_zero]); rfl) (by kernel_rfl) (by kernel_rfl) (by kernel_rfl) (by exact fun _ _ _ h => h) (Or.inl ⟨by rfl, ?_⟩) (by assumption) ?_); rotate_left; focus (intro wS hSw; (try dsimp only at hSw); go_simp; first | done | with_reducible rfl); try simp only [Act.put, List.setIfInBounds_toArray, List.set_cons_zero, List.set_cons_succ])
    ((refine wpAnyH_take (i := 7) (v := ?_) (by (simp only [List.getElem?_toArray, List.getElem?_cons_succ, List.getElem?_cons_zero]); rfl) (by kernel_rfl) (by kernel_rfl) (by kernel_rfl) (by exact fun _ _ _ h => h) (Or.inl ⟨by rfl, ?_⟩) (by assumption) ?_); rotate_left; focus (intro wS hSw; (try dsimp only at hSw); go_simp; first | done | with_reducible rfl); try simp only [Act.put, List.setIfInBounds_toArray, List.set_cons_zero, List.set_cons_succ])
    ((refine wpAnyH_take (i := 8) (v := ?_) (by (simp only [List.getElem?_toArray, List.getElem?_cons_succ, List.getElem?_cons_zero]); rfl) (by kernel_rfl) (by kernel_rfl) (by kernel_rfl) (by exact fun _ _ _ h => h) (Or.inl ⟨by rfl, ?_⟩) (by assumption) ?_); rotate_left; focus (intro wS hSw; (try dsimp only at hSw); go_simp; first | done | with_reducible rfl); try simp only [Act.put, List.setIfInBounds_toArray, List.set_cons_zero, List.set_cons_succ])
    ((refine wpAnyH_take (i := 9) (v := ?_) (by (simp only [List.getElem?_toArray, List.getElem?_cons_succ, List.getElem?_cons_zero]); rfl) (by kernel_rfl) (by kernel_rfl) (by kernel_rfl) (by exact fun _ _ _ h => h) (Or.inl ⟨by rfl, ?_⟩) (by assumption) ?_); rotate_left; focus (intro wS hSw; (try dsimp only at hSw); go_simp; first | done | with_reducible rfl); try simp only [Act.put, List.setIfInBounds_toArray, List.set_cons_zero, List.set_cons_succ])
    refine wpAnyH_done (by kernel_rfl) ?_ _
    try simp only [Act.put, List.setIfInBounds_toArray, List.set_cons_zero, List.set_cons_succ]
    go_upto_region 4 with fail
    refine wp_region_held_drew (S := fun X => X.cell? ⟨R, 0, none⟩ = some (.slice (some ⟨vb, vo, none⟩) ln vc) ∧ X.cell? ⟨R, 1, none⟩ = some (.int .i64 (p : Nat)) ∧ X.cell? ⟨vb, vo + p, none⟩ = some (.int .u8 (x : Nat))) (by kernel_rfl) ⟨cell_at HBD.out 0, cell_at HBD.out 1, HCD.out⟩ (fun hHeld => ?_)
    ((refine wpAnyH_take (i := 0) (v := ?_) (by (simp only [List.getElem?_toArray, List.getElem?_cons_succ, List.getElem?_cons_zero]); rfl) (by kernel_rfl) (by kernel_rfl) (by kernel_rfl) (by exact fun _ _ _ h => h) (Or.inl ⟨by rfl, ?_⟩) (by assumption) ?_); rotate_left; focus (intro wS hSw; (try dsimp only at hSw); go_simp; first | done | with_reducible rfl); try simp only [Act.put, List.setIfInBounds_toArray, List.set_cons_zero, List.set_cons_succ])
    ((refine wpAnyH_take (i := 1) (v := ?_) (by (simp only [List.getElem?_toArray, List.getElem?_cons_succ, List.getElem?_cons_zero]); rfl) (by kernel_rfl) (by kernel_rfl) (by kernel_rfl) (by exact fun _ _ _ h => h) (Or.inl ⟨by rfl, ?_⟩) (by assumption) ?_); rotate_left; focus (intro wS hSw; (try dsimp only at hSw); go_simp; first | done | with_reducible rfl); try simp only [Act.put, List.setIfInBounds_toArray, List.set_cons_zero, List.set_cons_succ])
    ((refine wpAnyH_take (i := 2) (v := ?_) (by (simp only [List.getElem?_toArray, List.getElem?_cons_succ, List.getElem?_cons_zero]); rfl) (by kernel_rfl) (by kernel_rfl) (by kernel_rfl) (by exact fun _ _ _ h => h) (Or.inl ⟨by rfl, ?_⟩) (by assumption) ?_); rotate_left; focus (intro wS hSw; (try dsimp only at hSw); go_simp; first | done | with_reducible rfl); try simp only [Act.put, List.setIfInBounds_toArray, List.set_cons_zero, List.set_cons_succ])
    ((refine wpAnyH_take (i := 3) (v := ?_) (by (simp only [List.getElem?_toArray, List.getElem?_cons_succ, List.getElem?_cons_zero]); rfl) (by kernel_rfl) (by kernel_rfl) (by kernel_rfl) (by exact fun _ _ _ h => h) (Or.inl ⟨by rfl, ?_⟩) (by assumption) ?_); rotate_left; focus (intro wS hSw; (try dsimp only at hSw); go_simp; first | done | with_reducible rfl); try simp only [Act.put, List.setIfInBounds_toArray, List.set_cons_zero, List.set_cons_succ])
    ((refine wpAnyH_take (i := 4) (v := ?_) (by (simp only [List.getElem?_toArray, List.getElem?_cons_succ, List.getElem?_cons_zero]); rfl) (by kernel_rfl) (by kernel_rfl) (by kernel_rfl) (by exact fun _ _ _ h => h) (Or.inl ⟨by rfl, ?_⟩) (by assumption) ?_); rotate_left; focus (intro wS hSw; (try dsimp only at hSw); go_simp; first | done | with_reducible rfl); try simp only [Act.put, List.setIfInBounds_toArray, List.set_cons_zero, List.set_cons_succ])
    ((refine wpAnyH_take (i := 5) (v := ?_) (by (simp only [List.getElem?_toArray, List.getElem?_cons_succ, List.getElem?_cons_zero]); rfl) (by kernel_rfl) (by kernel_rfl) (by kernel_rfl) (by exact fun _ _ _ h => h) (Or.inl ⟨by rfl, ?_⟩) (by assumption) ?_); rotate_left; focus (intro wS hSw; (try dsimp only at hSw); go_simp; first | done | with_reducible rfl); try simp only [Act.put, List.setIfInBounds_toArray, List.set_cons_zero, List.set_cons_succ])
    ((refine wpAnyH_take (i := 6) (v := ?_) (by (simp only [List.getElem?_toArray, List.getElem?_cons_succ, List.getElem?_cons_zero]); rfl) (by kernel_rfl) (by kernel_rfl) (by kernel_rfl) (by exact fun _ _ _ h => h) (Or.inl ⟨by rfl, ?_⟩) (by assumption) ?_); rotate_left; focus (intro wS hSw; (try dsimp only at hSw); go_simp; first | done | with_reducible rfl); try simp only [Act.put, List.setIfInBounds_toArray, List.set_cons_zero, List.set_cons_succ])
    ((refine wpAnyH_take (i := 7) (v := ?_) (by (simp only [List.getElem?_toArray, List.getElem?_cons_succ, List.getElem?_cons_zero]); rfl) (by kernel_rfl) (by kernel_rfl) (by kernel_rfl) (by exact fun _ _ _ h => h) (Or.inl ⟨by rfl, ?_⟩) (by assumption) ?_); rotate_left; focus (intro wS hSw; (try dsimp only at hSw); go_simp; first | done | with_reducible rfl); try simp only [Act.put, List.setIfInBounds_toArray, List.set_cons_zero, List.set_cons_succ])
    ((refine wpAnyH_take (i := 8) (v := ?_) (by (simp only [List.getElem?_toArray, List.getElem?_cons_succ, List.getElem?_cons_zero]); rfl) (by kernel_rfl) (by kernel_rfl) (by kernel_rfl) (by exact fun _ _ _ h => h) (Or.inl ⟨by rfl, ?_⟩) (by assumption) ?_); rotate_left; focus (intro wS hSw; (try dsimp only at hSw); go_simp; first | done | with_reducible rfl); try simp only [Act.put, List.setIfInBounds_toArray, List.set_cons_zero, List.set_cons_succ])
    ((refine wpAnyH_take (i := 9) (v := ?_) (by (simp only [List.getElem?_toArray, List.getElem?_cons_succ, List.getElem?_cons_zero]); rfl) (by kernel_rfl) (by kernel_rfl) (by kernel_rfl) (by exact fun _ _ _ h => h) (Or.inl ⟨by rfl, ?_⟩) (by assumption) ?_); rotate_left; focus (intro wS hSw; (try dsimp only at hSw); go_simp; first | done | with_reducible rfl); try simp only [Act.put, List.setIfInBounds_toArray, List.set_cons_zero, List.set_cons_succ])
    ((refine wpAnyH_take (i := 10) (v := ?_) (by (simp only [List.getElem?_toArray, List.getElem?_cons_succ, List.getElem?_cons_zero]); rfl) (by kernel_rfl) (by kernel_rfl) (by kernel_rfl) (by exact fun _ _ _ h => h) (Or.inl ⟨by rfl, ?_⟩) (by assumption) ?_); rotate_left; focus (intro wS hSw; (try dsimp only at hSw); go_simp; first | done | with_reducible rfl); try simp only [Act.put, List.setIfInBounds_toArray, List.set_cons_zero, List.set_cons_succ])
    refine wpAnyH_done (by kernel_rfl) ?_ _
    try simp only [Act.put, List.setIfInBounds_toArray, List.set_cons_zero, List.set_cons_succ]
    obtain ⟨WE, hWE⟩ : ∃ X, X = WD.drew := ⟨_, rfl⟩
    rw [← hWE] at HBD hW2 ⊢
    clear hWE x0 x1
    have x1 : WE.cell? ⟨R, 1, none⟩ = some (.int .i64 (p : Nat)) := cell_at HBD.out 1
    have xf : WE.frozen? ⟨R, 1, none⟩ = false := free_at HBD.out 1
    go_wp2_with fail
    rw [← hW2]
    go_ret
    exact ⟨rfl, HEND.out.1, HEND.out.2, HX2.out⟩
  · have hsm : smallS bs S = (0, failS S bs.length) := by
      cases S with
      | error e => rfl
      | ok s =>
        unfold smallS
        simp only
        rw [dif_neg (by rw [hp, hln] at hpl; exact hpl)]
        rfl
    rw [hsm]
    have HF := Lib.hid (fails_any WD S bs.length (h0.below hdb) hlen)
    rw [← hln] at HF
    rw [show (failS S bs.length) = failS S ln by rw [hln]]
    have HFR := Lib.hid (show Fr [R] W WD from fr_below hdb)
    have c1 : ((ln : Int) ≤ (p : Int)) = True := eq_true (by omega)
    have c2 : (ln ≤ p) = True := eq_true (by omega)
    have HB := Lib.hid hbd
    clear hsm hb hbl0 hR hat hlen hln hbad hdb h0 hby hbl2 hp hbd
    go_enter Tryd.func51, Tryd.ntmps51
    go_upto_region 1 with fail
    refine wp_region_held_drew (S := fun X => X.cell? ⟨R, 0, none⟩ = some (.slice va ln vc) ∧ X.cell? ⟨R, 1, none⟩ = some (.int .i64 (p : Nat))) (by kernel_rfl) (by rw [← hWD]; exact ⟨x0, x1⟩) (fun hHeld => ?_)
    rw [← hWD] at hHeld ⊢
    clear hWD
    ((refine wpAnyH_take (i := 0) (v := ?_) (by (simp only [List.getElem?_toArray, List.getElem?_cons_succ, List.getElem?_cons_zero]); rfl) (by kernel_rfl) (by kernel_rfl) (by kernel_rfl) (by exact fun _ _ _ h => h) (Or.inl ⟨by rfl, ?_⟩) (by assumption) ?_); rotate_left; focus (intro wS hSw; (try dsimp only at hSw); go_simp; first | done | with_reducible rfl); try simp only [Act.put, List.setIfInBounds_toArray, List.set_cons_zero, List.set_cons_succ])
    ((refine wpAnyH_take (i := 1) (v := ?_) (by (simp only [List.getElem?_toArray, List.getElem?_cons_succ, List.getElem?_cons_zero]); rfl) (by kernel_rfl) (by kernel_rfl) (by kernel_rfl) (by exact fun _ _ _ h => h) (Or.inl ⟨by rfl, ?_⟩) (by assumption) ?_); rotate_left; focus (intro wS hSw; (try dsimp only at hSw); go_simp; first | done | with_reducible rfl); try simp only [Act.put, List.setIfInBounds_toArray, List.set_cons_zero, List.set_cons_succ])
    ((refine wpAnyH_take (i := 2) (v := ?_) (by (simp only [List.getElem?_toArray, List.getElem?_cons_succ, List.getElem?_cons_zero]); rfl) (by kernel_rfl) (by kernel_rfl) (by kernel_rfl) (by exact fun _ _ _ h => h) (Or.inl ⟨by rfl, ?_⟩) (by assumption) ?_); rotate_left; focus (intro wS hSw; (try dsimp only at hSw); go_simp; first | done | with_reducible rfl); try simp only [Act.put, List.setIfInBounds_toArray, List.set_cons_zero, List.set_cons_succ])
    ((refine wpAnyH_take (i := 3) (v := ?_) (by (simp only [List.getElem?_toArray, List.getElem?_cons_succ, List.getElem?_cons_zero]); rfl) (by kernel_rfl) (by kernel_rfl) (by kernel_rfl) (by exact fun _ _ _ h => h) (Or.inl ⟨by rfl, ?_⟩) (by assumption) ?_); rotate_left; focus (intro wS hSw; (try dsimp only at hSw); go_simp; first | done | with_reducible rfl); try simp only [Act.put, List.setIfInBounds_toArray, List.set_cons_zero, List.set_cons_succ])
    ((refine wpAnyH_take (i := 4) (v := ?_) (by (simp only [List.getElem?_toArray, List.getElem?_cons_succ, List.getElem?_cons_zero]); rfl) (by kernel_rfl) (by kernel_rfl) (by kernel_rfl) (by exact fun _ _ _ h => h) (Or.inl ⟨by rfl, ?_⟩) (by assumption) ?_); rotate_left; focus (intro wS hSw; (try dsimp only at hSw); go_simp; first | done | with_reducible rfl); try simp only [Act.put, List.setIfInBounds_toArray, List.set_cons_zero, List.set_cons_succ])
    ((refine wpAnyH_take (i := 5) (v := ?_) (by (simp only [List.getElem?_toArray, List.getElem?_cons_succ, List.getElem?_cons_zero]); rfl) (by kernel_rfl) (by kernel_rfl) (by kernel_rfl) (by exact fun _ _ _ h => h) (Or.inl ⟨by rfl, ?_⟩) (by assumption) ?_); rotate_left; focus (intro wS hSw; (try dsimp only at hSw); go_simp; first | done | with_reducible rfl); try simp only [Act.put, List.setIfInBounds_toArray, List.set_cons_zero, List.set_cons_succ])
    ((refine wpAnyH_take (i := 6) (v := ?_) (by (simp only [List.getElem?_toArray, List.getElem?_cons_succ, List.getElem?_cons_zero]); rfl) (by kernel_rfl) (by kernel_rfl) (by kernel_rfl) (by exact fun _ _ _ h => h) (Or.inl ⟨by rfl, ?_⟩) (by assumption) ?_); rotate_left; focus (intro wS hSw; (try dsimp only at hSw); go_simp; first | done | with_reducible rfl); try simp only [Act.put, List.setIfInBounds_toArray, List.set_cons_zero, List.set_cons_succ])
    ((refine wpAnyH_take (i := 7) (v := ?_) (by (simp only [List.getElem?_toArray, List.getElem?_cons_succ, List.getElem?_cons_zero]); rfl) (by kernel_rfl) (by kernel_rfl) (by kernel_rfl) (by exact fun _ _ _ h => h) (Or.inl ⟨by rfl, ?_⟩) (by assumption) ?_); rotate_left; focus (intro wS hSw; (try dsimp only at hSw); go_simp; first | done | with_reducible rfl); try simp only [Act.put, List.setIfInBounds_toArray, List.set_cons_zero, List.set_cons_succ])
    ((refine wpAnyH_take (i := 8) (v := ?_) (by (simp only [List.getElem?_toArray, List.getElem?_cons_succ, List.getElem?_cons_zero]); rfl) (by kernel_rfl) (by kernel_rfl) (by kernel_rfl) (by exact fun _ _ _ h => h) (Or.inl ⟨by rfl, ?_⟩) (by assumption) ?_); rotate_left; focus (intro wS hSw; (try dsimp only at hSw); go_simp; first | done | with_reducible rfl); try simp only [Act.put, List.setIfInBounds_toArray, List.set_cons_zero, List.set_cons_succ])
    ((refine wpAnyH_take (i := 9) (v := ?_) (by (simp only [List.getElem?_toArray, List.getElem?_cons_succ, List.getElem?_cons_zero]); rfl) (by kernel_rfl) (by kernel_rfl) (by kernel_rfl) (by exact fun _ _ _ h => h) (Or.inl ⟨by rfl, ?_⟩) (by assumption) ?_); rotate_left; focus (intro wS hSw; (try dsimp only at hSw); go_simp; first | done | with_reducible rfl); try simp only [Act.put, List.setIfInBounds_toArray, List.set_cons_zero, List.set_cons_succ])
    refine wpAnyH_done (by kernel_rfl) ?_ _
    try simp only [Act.put, List.setIfInBounds_toArray, List.set_cons_zero, List.set_cons_succ]
    go_wp2_with (refine Calls.mono HF.out ?_; rintro e W2 ⟨rfl, h1, h2⟩; have HE := Lib.hid (And.intro h1 (HFR.out.tr h2)); clear h1 h2 HF)
    try go_wp2_with fail
    go_ret
    exact ⟨rfl, HE.out.1, HE.out.2, by decide⟩
end


def numS (bs : List Nat) (S : RdS) : Int × RdS := match S with
  | .error e => (0, .error e)
  | .ok s => match numB bs s with
    | .ok n => (n, .ok (s + 8))
    | .error e => (0, .error e)
section
variable {R lo : Nat} {bs : List Nat}
set_option maxRecDepth 100000 in
set_option maxHeartbeats 8000000 in
theorem rnum_any (W : World) (S : RdS) (h : RdIn R lo bs W S) :
    Calls Tryd.prog 52 #[.pointer (some ⟨R, 0, none⟩)] W fun e W' => e = .returned (.int .i64 (numS bs S).1) ∧ RdIn R lo bs W' (numS bs S).2 ∧ Fr [R] W W' := by
  have h0 := h
  obtain ⟨v, hb, hbl, hR, hat, hlen, hbad⟩ := h
  have hbl0 := hbl
  obtain ⟨va, vb, vo, vc, rfl, hby, hbl2⟩ := hbl
  obtain ⟨p, hp⟩ : ∃ p, p = atS bs.length S := ⟨_, rfl⟩
  obtain ⟨ln, hln⟩ : ∃ ln, ln = bs.length := ⟨_, rfl⟩
  obtain ⟨WD, hWD⟩ : ∃ X, X = W.drew := ⟨_, rfl⟩
  have hdb : Below W.heap.size W WD := by rw [hWD]; exact drew_b W
  have hbd := hb.step hdb
  rw [← hp, ← hln] at hbd
  have x0 : WD.cell? ⟨R, 0, none⟩ = some (.slice va ln vc) := cell_at hbd 0
  have x1 : WD.cell? ⟨R, 1, none⟩ = some (.int .i64 (p : Nat)) := cell_at hbd 1
  have hpm : p ≤ ln := by rw [hp, hln]; exact hat
  obtain ⟨D, hD⟩ : ∃ D, D = ln - p := ⟨_, rfl⟩
  have w1 : IntKind.i64.wrap ((ln : Int) - (p : Int)) = (D : Int) := by rw [IntWalk.i64_in _ (by omega)]; omega
  by_cases hpl : 8 + p ≤ ln
  · have hS : S = .ok p := by
      cases S with
      | ok s => rw [hp]; rfl
      | error e => exfalso; rw [hp, hln] at hpl; exact absurd hpl (by show ¬ 8 + bs.length ≤ bs.length; omega)
    subst hS
    obtain ⟨l, hl⟩ : ∃ l, l = (bs.drop p).take 8 := ⟨_, rfl⟩
    have htk : takeB bs p 8 = .ok l := by unfold takeB; rw [if_pos (by omega), hl]
    have hll : l.length = 8 := by rw [hl, List.length_take, List.length_drop]; omega
    obtain ⟨p1, hp1⟩ : ∃ p1, p1 = p + 8 := ⟨_, rfl⟩
    have hns : numS bs (.ok p) = (d8 l, .ok p1) := by
      unfold numS numB
      simp only [htk]
      rw [hp1]
    rw [hns]
    have hlb : ∀ k, k < 8 → gB l k = gB bs (p + k) := fun k hk => by
      rw [hl]; unfold gB
      rw [List.getElem?_take, if_pos hk, List.getElem?_drop]
    obtain ⟨ea, hlt⟩ := hby.at_ (by omega)
    subst ea
    have hlby : ∀ x ∈ l, x < 256 := fun x hx => by
      obtain ⟨k, hk, rfl⟩ := List.mem_iff_getElem.1 hx
      have h1 := gB_lt hk
      rw [List.getElem?_eq_getElem hk] at h1
      rw [Option.some.inj h1, hlb k (by omega)]
      exact hby.bd (p + k) (by omega)
    have HBD := Lib.hid (fun WX (hX : Below WD.heap.size WD WX) => hbd.step hX)
    have HLB := Lib.hid (And.intro hlb (And.intro hlby hll))
    have HCL := Lib.hid (fun WX (hX : Below WD.heap.size WD WX) (k : Nat) (hk : k < 8) => show WX.cell? ⟨vb, vo + (p + k), none⟩ = some (.int .u8 (gB l k : Nat)) by
      rw [hlb k hk]
      exact (hX.cell (p := ⟨vb, vo + (p + k), none⟩) (Nat.lt_of_lt_of_le hlt hdb.size)).trans ((hdb.cell (p := ⟨vb, vo + (p + k), none⟩) hlt).trans (hby.cell (p + k) (by omega))))
    have HEND := Lib.hid (fun WX (hX : Below WD.heap.size WD WX) => show RdIn R lo bs (WX.setCell ⟨R, 1, none⟩ (.int .i64 (p1 : Nat))) (.ok p1) ∧ Fr [R] W (WX.setCell ⟨R, 1, none⟩ (.int .i64 (p1 : Nat))) from
      ⟨⟨_, by have h9 := (hbd.step hX).set 1 (.int .i64 (p1 : Nat)); rw [hln] at h9; exact h9, bl_set ((hbl0.fr (fun q hq => hdb.block q (by have := hb.lt; omega)) hdb.size).fr (fun q hq => hX.block q (by have := hbd.lt; omega)) hX.size) hR, hR, by show p1 ≤ bs.length; omega, hlen, hbad⟩, ((fr_below hdb).tr (fr_below hX)).tr ((Fr.refl _ _).setCell _ (.inl (by simp)) _)⟩)
    have w8 : IntKind.i64.wrap ((p : Int) + 8) = (p1 : Int) := by rw [IntWalk.i64_in _ (by omega)]; omega
    have c1 : ((D : Int) < 8) = False := eq_false (by omega)
    have c2 : (D < 8) = False := eq_false (by omega)
    have HX := Lib.hid (And.intro x0 x1)
    have HPL := Lib.hid (And.intro hpl (show ln ≤ 1048576 by omega))
    have HLN := Lib.hid hln
    clear hns hb hbl0 hR hat hbad hdb h0 hby hbl2 hp hbd hlb hlby hll htk hl hp1 hD hlt hln hlen x0 x1
    go_enter Tryd.func52, Tryd.ntmps52
    go_upto_region 1 with fail
    refine wp_region_held_drew (S := fun X => X.cell? ⟨R, 0, none⟩ = some (.slice (some ⟨vb, vo, none⟩) ln vc) ∧ X.cell? ⟨R, 1, none⟩ = some (.int .i64 (p : Nat))) (by kernel_rfl) (by rw [← hWD]; exact HX.out) (fun hHeld => ?_)
    rw [← hWD] at hHeld ⊢
    clear hWD
    ((refine wpAnyH_take (i := 0) (v := ?_) (by (simp only [List.getElem?_toArray, List.getElem?_cons_succ, List.getElem?_cons_zero]); rfl) (by kernel_rfl) (by kernel_rfl) (by kernel_rfl) (by exact fun _ _ _ h => h) (Or.inl ⟨by rfl, ?_⟩) (by assumption) ?_); rotate_left; focus (intro wS hSw; (try dsimp only at hSw); go_simp; first | done | with_reducible rfl); try simp only [Act.put, List.setIfInBounds_toArray, List.set_cons_zero, List.set_cons_succ])
    ((refine wpAnyH_take (i := 1) (v := ?_) (by (simp only [List.getElem?_toArray, List.getElem?_cons_succ, List.getElem?_cons_zero]); rfl) (by kernel_rfl) (by kernel_rfl) (by kernel_rfl) (by exact fun _ _ _ h => h) (Or.inl ⟨by rfl, ?_⟩) (by assumption) ?_); rotate_left; focus (intro wS hSw; (try dsimp only at hSw); go_simp; first | done | with_reducible rfl); try simp only [Act.put, List.setIfInBounds_toArray, List.set_cons_zero, List.set_cons_succ])
    ((refine wpAnyH_take (i := 2) (v := ?_) (by (simp only [List.getElem?_toArray, List.getElem?_cons_succ, List.getElem?_cons_zero]); rfl) (by kernel_rfl) (by kernel_rfl) (by kernel_rfl) (by exact fun _ _ _ h => h) (Or.inl ⟨by rfl, ?_⟩) (by assumption) ?_); rotate_left; focus (intro wS hSw; (try dsimp only at hSw); go_simp; first | done | with_reducible rfl); try simp only [Act.put, List.setIfInBounds_toArray, List.set_cons_zero, List.set_cons_succ])
    ((refine wpAnyH_take (i := 3) (v := ?_) (by (simp only [List.getElem?_toArray, List.getElem?_cons_succ, List.getElem?_cons_zero]); rfl) (by kernel_rfl) (by kernel_rfl) (by kernel_rfl) (by exact fun _ _ _ h => h) (Or.inl ⟨by rfl, ?_⟩) (by assumption) ?_); rotate_left; focus (intro wS hSw; (try dsimp only at hSw); go_simp; first | done | with_reducible rfl); try simp only [Act.put, List.setIfInBounds_toArray, List.set_cons_zero, List.set_cons_succ])
    ((refine wpAnyH_take (i := 4) (v := ?_) (by (simp only [List.getElem?_toArray, List.getElem?_cons_succ, List.getElem?_cons_zero]); rfl) (by kernel_rfl) (by kernel_rfl) (by kernel_rfl) (by exact fun _ _ _ h => h) (Or.inl ⟨by rfl, ?_⟩) (by assumption) ?_); rotate_left; focus (intro wS hSw; (try dsimp only at hSw); go_simp; first | done | with_reducible rfl); try simp only [Act.put, List.setIfInBounds_toArray, List.set_cons_zero, List.set_cons_succ])
    ((refine wpAnyH_take (i := 5) (v := ?_) (by (simp only [List.getElem?_toArray, List.getElem?_cons_succ, List.getElem?_cons_zero]); rfl) (by kernel_rfl) (by kernel_rfl) (by kernel_rfl) (by exact fun _ _ _ h => h) (Or.inl ⟨by rfl, ?_⟩) (by assumption) ?_); rotate_left; focus (intro wS hSw; (try dsimp only at hSw); go_simp; first | done | with_reducible rfl); try simp only [Act.put, List.setIfInBounds_toArray, List.set_cons_zero, List.set_cons_succ])
    ((refine wpAnyH_take (i := 6) (v := ?_) (by (simp only [List.getElem?_toArray, List.getElem?_cons_succ, List.getElem?_cons_zero]); rfl) (by kernel_rfl) (by kernel_rfl) (by kernel_rfl) (by exact fun _ _ _ h => h) (Or.inl ⟨by rfl, ?_⟩) (by assumption) ?_); rotate_left; focus (intro wS hSw; (try dsimp only at hSw); go_simp; first | done | with_reducible rfl); try simp only [Act.put, List.setIfInBounds_toArray, List.set_cons_zero, List.set_cons_succ])
    ((refine wpAnyH_take (i := 7) (v := ?_) (by (simp only [List.getElem?_toArray, List.getElem?_cons_succ, List.getElem?_cons_zero]); rfl) (by kernel_rfl) (by kernel_rfl) (by kernel_rfl) (by exact fun _ _ _ h => h) (Or.inl ⟨by rfl, ?_⟩) (by assumption) ?_); rotate_left; focus (intro wS hSw; (try dsimp only at hSw); go_simp; first | done | with_reducible rfl); try simp only [Act.put, List.setIfInBounds_toArray, List.set_cons_zero, List.set_cons_succ])
    ((refine wpAnyH_take (i := 8) (v := ?_) (by (simp only [List.getElem?_toArray, List.getElem?_cons_succ, List.getElem?_cons_zero]); rfl) (by kernel_rfl) (by kernel_rfl) (by kernel_rfl) (by exact fun _ _ _ h => h) (Or.inl ⟨by rfl, ?_⟩) (by assumption) ?_); rotate_left; focus (intro wS hSw; (try dsimp only at hSw); go_simp; first | done | with_reducible rfl); try simp only [Act.put, List.setIfInBounds_toArray, List.set_cons_zero, List.set_cons_succ])
    ((refine wpAnyH_take (i := 9) (v := ?_) (by (simp only [List.getElem?_toArray, List.getElem?_cons_succ, List.getElem?_cons_zero]); rfl) (by kernel_rfl) (by kernel_rfl) (by kernel_rfl) (by exact fun _ _ _ h => h) (Or.inl ⟨by rfl, ?_⟩) (by assumption) ?_); rotate_left; focus (intro wS hSw; (try dsimp only at hSw); go_simp; first | done | with_reducible rfl); try simp only [Act.put, List.setIfInBounds_toArray, List.set_cons_zero, List.set_cons_succ])
    ((refine wpAnyH_take (i := 10) (v := ?_) (by (simp only [List.getElem?_toArray, List.getElem?_cons_succ, List.getElem?_cons_zero]); rfl) (by kernel_rfl) (by kernel_rfl) (by kernel_rfl) (by exact fun _ _ _ h => h) (Or.inl ⟨by rfl, ?_⟩) (by assumption) ?_); rotate_left; focus (intro wS hSw; (try dsimp only at hSw); go_simp; first | done | with_reducible rfl); try simp only [Act.put, List.setIfInBounds_toArray, List.set_cons_zero, List.set_cons_succ])
    refine wpAnyH_done (by kernel_rfl) ?_ _
    try simp only [Act.put, List.setIfInBounds_toArray, List.set_cons_zero, List.set_cons_succ]
    go_upto_region 6 with fail
    go_loopw [3, 4] (fun n i wr => ∃ k : Nat, k ≤ 8 ∧ i = .int .i64 k ∧ n = .int .u64 (accB l k : Nat) ∧ Below WD.heap.size WD wr) (fun _ i _ => 8 - (intOf i).toNat)
    case atStart => exact ⟨0, by omega, rfl, rfl, Below.refl _ _⟩
    case round =>
      obtain ⟨k, hk, rfl, rfl, hB⟩ := hrel
      have HBB := Lib.hid hB
      clear hB
      by_cases hlt : k < 8
      · have b9 : (k < 8) = True := eq_true hlt
        have ww5 : IntKind.i64.wrap ((k : Int) + 1) = (k : Int) + 1 := IntWalk.i64_in _ (by omega)
        obtain ⟨WE, hWE⟩ : ∃ X, X = wr.drew := ⟨_, rfl⟩
        have hbe : Below WD.heap.size WD WE := by rw [hWE]; exact HBB.out.trans ((drew_b wr).mono HBB.out.size)
        have c9 := HCL.out WE hbe k hlt
        obtain ⟨x, hx⟩ : ∃ x, x = gB l k := ⟨_, rfl⟩
        rw [← hx] at c9
        have hx2 : x < 256 := by rw [hx]; exact HLB.out.2.1 _ (List.mem_of_getElem? (gB_lt (by rw [HLB.out.2.2]; exact hlt)))
        have hA7 := accB_seven HLB.out.2.1 (i := k) (by rw [HLB.out.2.2]; omega) (by omega)
        have hsu := accB_succ (l := l) (i := k) (by rw [HLB.out.2.2]; exact hlt)
        rw [← hx] at hsu
        obtain ⟨A, hA⟩ : ∃ A, A = accB l k := ⟨_, rfl⟩
        rw [← hA] at hA7 hsu ⊢
        have s1 : IntKind.u64.wrap ((A : Int) * 256) = ((A * 256 : Nat) : Int) := by rw [wrap_u64']; unfold u64; omega
        have s2 : IntKind.u64.wrap (x : Int) = (x : Int) := by rw [wrap_u64']; unfold u64; omega
        have s3 := or_low hA7 hx2
        rw [← hsu] at s3
        obtain ⟨A2, hA2⟩ : ∃ A2, A2 = accB l (k + 1) := ⟨_, rfl⟩
        rw [← hA2] at s3
        obtain ⟨B2, hB2⟩ : ∃ B2, B2 = A * 256 := ⟨_, rfl⟩
        rw [← hB2] at s1 s3
        obtain ⟨j, hj⟩ : ∃ j, j = p + k := ⟨_, rfl⟩
        rw [← hj] at c9
        have hln2 := HPL.out
        have wj : IntKind.i64.wrap ((p : Int) + (k : Int)) = (j : Int) := by rw [IntWalk.i64_in _ (by omega)]; omega
        have t1 : (j < ln) = True := eq_true (by omega)
        have t2 : ((j : Int) < (ln : Int)) = True := eq_true (by omega)
        have HBE := Lib.hid hbe
        have HA2 := Lib.hid hA2
        have HX3 := Lib.hid (show WE.cell? ⟨R, 0, none⟩ = some (.slice (some ⟨vb, vo, none⟩) ln vc) ∧ WE.cell? ⟨R, 1, none⟩ = some (.int .i64 (p : Nat)) ∧ WE.cell? ⟨vb, vo + j, none⟩ = some (.int .u8 (x : Nat)) from ⟨cell_at (HBD.out WE hbe) 0, cell_at (HBD.out WE hbe) 1, c9⟩)
        clear hA hsu hx hA7 hx2 hB2 hA2 hj hbe c9 hln2
        go_upto_region 8 with fail
        refine wp_region_held_drew (S := fun X => X.cell? ⟨R, 0, none⟩ = some (.slice (some ⟨vb, vo, none⟩) ln vc) ∧ X.cell? ⟨R, 1, none⟩ = some (.int .i64 (p : Nat)) ∧ X.cell? ⟨vb, vo + j, none⟩ = some (.int .u8 (x : Nat))) (by kernel_rfl) (by rw [← hWE]; exact HX3.out) (fun hHeld => ?_)
        rw [← hWE] at hHeld ⊢
        clear hWE
        ((refine wpAnyH_take (i := 0) (v := ?_) (by (simp only [List.getElem?_toArray, List.getElem?_cons_succ, List.getElem?_cons_zero]); rfl) (by kernel_rfl) (by kernel_rfl) (by kernel_rfl) (by exact fun _ _ _ h => h) (Or.inl ⟨by rfl, ?_⟩) (by assumption) ?_); rotate_left; focus (intro wS hSw; (try dsimp only at hSw); go_simp; first | done | with_reducible rfl); try simp only [Act.put, List.setIfInBounds_toArray, List.set_cons_zero, List.set_cons_succ])
        ((refine wpAnyH_take (i := 1) (v := ?_) (by (simp only [List.getElem?_toArray, List.getElem?_cons_succ, List.getElem?_cons_zero]); rfl) (by kernel_rfl) (by kernel_rfl) (by kernel_rfl) (by exact fun _ _ _ h => h) (Or.inl ⟨by rfl, ?_⟩) (by assumption) ?_); rotate_left; focus (intro wS hSw; (try dsimp only at hSw); go_simp; first | done | with_reducible rfl); try simp only [Act.put, List.setIfInBounds_toArray, List.set_cons_zero, List.set_cons_succ])
        ((refine wpAnyH_take (i := 2) (v := ?_) (by (simp only [List.getElem?_toArray, List.getElem?_cons_succ, List.getElem?_cons_zero]); rfl) (by kernel_rfl) (by kernel_rfl) (by kernel_rfl) (by exact fun _ _ _ h => h) (Or.inl ⟨by rfl, ?_⟩) (by assumption) ?_); rotate_left; focus (intro wS hSw; (try dsimp only at hSw); go_simp; first | done | with_reducible rfl); try simp only [Act.put, List.setIfInBounds_toArray, List.set_cons_zero, List.set_cons_succ])
        ((refine wpAnyH_take (i := 3) (v := ?_) (by (simp only [List.getElem?_toArray, List.getElem?_cons_succ, List.getElem?_cons_zero]); rfl) (by kernel_rfl) (by kernel_rfl) (by kernel_rfl) (by exact fun _ _ _ h => h) (Or.inl ⟨by rfl, ?_⟩) (by assumption) ?_); rotate_left; focus (intro wS hSw; (try dsimp only at hSw); go_simp; first | done | with_reducible rfl); try simp only [Act.put, List.setIfInBounds_toArray, List.set_cons_zero, List.set_cons_succ])
        ((refine wpAnyH_take (i := 4) (v := ?_) (by (simp only [List.getElem?_toArray, List.getElem?_cons_succ, List.getElem?_cons_zero]); rfl) (by kernel_rfl) (by kernel_rfl) (by kernel_rfl) (by exact fun _ _ _ h => h) (Or.inl ⟨by rfl, ?_⟩) (by assumption) ?_); rotate_left; focus (intro wS hSw; (try dsimp only at hSw); go_simp; first | done | with_reducible rfl); try simp only [Act.put, List.setIfInBounds_toArray, List.set_cons_zero, List.set_cons_succ])
        ((refine wpAnyH_take (i := 5) (v := ?_) (by (simp only [List.getElem?_toArray, List.getElem?_cons_succ, List.getElem?_cons_zero]); rfl) (by kernel_rfl) (by kernel_rfl) (by kernel_rfl) (by exact fun _ _ _ h => h) (Or.inl ⟨by rfl, ?_⟩) (by assumption) ?_); rotate_left; focus (intro wS hSw; (try dsimp only at hSw); go_simp; first | done | with_reducible rfl); try simp only [Act.put, List.setIfInBounds_toArray, List.set_cons_zero, List.set_cons_succ])
        ((refine wpAnyH_take (i := 6) (v := ?_) (by (simp only [List.getElem?_toArray, List.getElem?_cons_succ, List.getElem?_cons_zero]); rfl) (by kernel_rfl) (by kernel_rfl) (by kernel_rfl) (by exact fun _ _ _ h => h) (Or.inl ⟨by rfl, ?_⟩) (by assumption) ?_); rotate_left; focus (intro wS hSw; (try dsimp only at hSw); go_simp; first | done | with_reducible rfl); try simp only [Act.put, List.setIfInBounds_toArray, List.set_cons_zero, List.set_cons_succ])
        ((refine wpAnyH_take (i := 7) (v := ?_) (by (simp only [List.getElem?_toArray, List.getElem?_cons_succ, List.getElem?_cons_zero]); rfl) (by kernel_rfl) (by kernel_rfl) (by kernel_rfl) (by exact fun _ _ _ h => h) (Or.inl ⟨by rfl, ?_⟩) (by assumption) ?_); rotate_left; focus (intro wS hSw; (try dsimp only at hSw); go_simp; first | done | with_reducible rfl); try simp only [Act.put, List.setIfInBounds_toArray, List.set_cons_zero, List.set_cons_succ])
        ((refine wpAnyH_take (i := 8) (v := ?_) (by (simp only [List.getElem?_toArray, List.getElem?_cons_succ, List.getElem?_cons_zero]); rfl) (by kernel_rfl) (by kernel_rfl) (by kernel_rfl) (by exact fun _ _ _ h => h) (Or.inl ⟨by rfl, ?_⟩) (by assumption) ?_); rotate_left; focus (intro wS hSw; (try dsimp only at hSw); go_simp; first | done | with_reducible rfl); try simp only [Act.put, List.setIfInBounds_toArray, List.set_cons_zero, List.set_cons_succ])
        ((refine wpAnyH_take (i := 9) (v := ?_) (by (simp only [List.getElem?_toArray, List.getElem?_cons_succ, List.getElem?_cons_zero]); rfl) (by kernel_rfl) (by kernel_rfl) (by kernel_rfl) (by exact fun _ _ _ h => h) (Or.inl ⟨by rfl, ?_⟩) (by assumption) ?_); rotate_left; focus (intro wS hSw; (try dsimp only at hSw); go_simp; first | done | with_reducible rfl); try simp only [Act.put, List.setIfInBounds_toArray, List.set_cons_zero, List.set_cons_succ])
        ((refine wpAnyH_take (i := 10) (v := ?_) (by (simp only [List.getElem?_toArray, List.getElem?_cons_succ, List.getElem?_cons_zero]); rfl) (by kernel_rfl) (by kernel_rfl) (by kernel_rfl) (by exact fun _ _ _ h => h) (Or.inl ⟨by rfl, ?_⟩) (by assumption) ?_); rotate_left; focus (intro wS hSw; (try dsimp only at hSw); go_simp; first | done | with_reducible rfl); try simp only [Act.put, List.setIfInBounds_toArray, List.set_cons_zero, List.set_cons_succ])
        ((refine wpAnyH_take (i := 11) (v := ?_) (by (simp only [List.getElem?_toArray, List.getElem?_cons_succ, List.getElem?_cons_zero]); rfl) (by kernel_rfl) (by kernel_rfl) (by kernel_rfl) (by exact fun _ _ _ h => h) (Or.inl ⟨by rfl, ?_⟩) (by assumption) ?_); rotate_left; focus (intro wS hSw; (try dsimp only at hSw); go_simp; first | done | with_reducible rfl); try simp only [Act.put, List.setIfInBounds_toArray, List.set_cons_zero, List.set_cons_succ])
        ((refine wpAnyH_take (i := 12) (v := ?_) (by (simp only [List.getElem?_toArray, List.getElem?_cons_succ, List.getElem?_cons_zero]); rfl) (by kernel_rfl) (by kernel_rfl) (by kernel_rfl) (by exact fun _ _ _ h => h) (Or.inl ⟨by rfl, ?_⟩) (by assumption) ?_); rotate_left; focus (intro wS hSw; (try dsimp only at hSw); go_simp; first | done | with_reducible rfl); try simp only [Act.put, List.setIfInBounds_toArray, List.set_cons_zero, List.set_cons_succ])
        ((refine wpAnyH_take (i := 13) (v := ?_) (by (simp only [List.getElem?_toArray, List.getElem?_cons_succ, List.getElem?_cons_zero]); rfl) (by kernel_rfl) (by kernel_rfl) (by kernel_rfl) (by exact fun _ _ _ h => h) (Or.inl ⟨by rfl, ?_⟩) (by assumption) ?_); rotate_left; focus (intro wS hSw; (try dsimp only at hSw); go_simp; first | done | with_reducible rfl); try simp only [Act.put, List.setIfInBounds_toArray, List.set_cons_zero, List.set_cons_succ])
        ((refine wpAnyH_take (i := 14) (v := ?_) (by (simp only [List.getElem?_toArray, List.getElem?_cons_succ, List.getElem?_cons_zero]); rfl) (by kernel_rfl) (by kernel_rfl) (by kernel_rfl) (by exact fun _ _ _ h => h) (Or.inl ⟨by rfl, ?_⟩) (by assumption) ?_); rotate_left; focus (intro wS hSw; (try dsimp only at hSw); go_simp; first | done | with_reducible rfl); try simp only [Act.put, List.setIfInBounds_toArray, List.set_cons_zero, List.set_cons_succ])
        ((refine wpAnyH_take (i := 15) (v := ?_) (by (simp only [List.getElem?_toArray, List.getElem?_cons_succ, List.getElem?_cons_zero]); rfl) (by kernel_rfl) (by kernel_rfl) (by kernel_rfl) (by exact fun _ _ _ h => h) (Or.inl ⟨by rfl, ?_⟩) (by assumption) ?_); rotate_left; focus (intro wS hSw; (try dsimp only at hSw); go_simp; first | done | with_reducible rfl); try simp only [Act.put, List.setIfInBounds_toArray, List.set_cons_zero, List.set_cons_succ])
        ((refine wpAnyH_take (i := 16) (v := ?_) (by (simp only [List.getElem?_toArray, List.getElem?_cons_succ, List.getElem?_cons_zero]); rfl) (by kernel_rfl) (by kernel_rfl) (by kernel_rfl) (by exact fun _ _ _ h => h) (Or.inl ⟨by rfl, ?_⟩) (by assumption) ?_); rotate_left; focus (intro wS hSw; (try dsimp only at hSw); go_simp; first | done | with_reducible rfl); try simp only [Act.put, List.setIfInBounds_toArray, List.set_cons_zero, List.set_cons_succ])
        refine wpAnyH_done (by kernel_rfl) ?_ _
        try simp only [Act.put, List.setIfInBounds_toArray, List.set_cons_zero, List.set_cons_succ]
        try go_wp2_with fail
        go_roundw
        case measure => first | (simp [intOf]; done) | (simp [intOf]; omega)
        case rel => exact ⟨k + 1, by omega, by go_num, by rw [HA2.out], HBE.out⟩
      · obtain rfl : k = 8 := by omega
        have hlt : accB l 8 < 18446744073709551616 := by
          have := accB_lt HLB.out.2.1 (i := 8) (by rw [HLB.out.2.2]; omega)
          exact this
        have hv : IntKind.i64.wrap ((accB l 8 : Nat) : Int) = d8 l := by
          rw [wrap_i64_acc hlt]
          unfold d8 accB
          rw [List.take_of_length_le (by rw [HLB.out.2.2]; omega)]
        obtain ⟨A, hA⟩ : ∃ A, A = accB l 8 := ⟨_, rfl⟩
        rw [← hA] at hv ⊢
        have x1 : wr.cell? ⟨R, 1, none⟩ = some (.int .i64 (p : Nat)) := cell_at (HBD.out wr HBB.out) 1
        have xf : wr.frozen? ⟨R, 1, none⟩ = false := free_at (HBD.out wr HBB.out) 1
        have HE := Lib.hid (HEND.out wr HBB.out)
        clear hlt hA
        go_wp2_with fail
        go_ret
        exact ⟨rfl, HE.out⟩
  · have hns : numS bs S = (0, failS S bs.length) := by
      cases S with
      | error e => rfl
      | ok s =>
        have htk : takeB bs s 8 = .error bs.length := by unfold takeB; rw [if_neg (by rw [hp, hln] at hpl; exact hpl)]
        unfold numS numB
        simp only [htk]
        rfl
    rw [hns]
    have HF := Lib.hid (fails_any WD S bs.length (h0.below hdb) hlen)
    rw [← hln] at HF
    rw [show (failS S bs.length) = failS S ln by rw [hln]]
    have HFR := Lib.hid (show Fr [R] W WD from fr_below hdb)
    have c1 : ((D : Int) < 8) = True := eq_true (by omega)
    have c2 : (D < 8) = True := eq_true (by omega)
    clear hns hb hbl0 hR hat hlen hln hbad hdb h0 hby hbl2 hp hbd hD
    go_enter Tryd.func52, Tryd.ntmps52
    go_upto_region 1 with fail
    refine wp_region_held_drew (S := fun X => X.cell? ⟨R, 0, none⟩ = some (.slice va ln vc) ∧ X.cell? ⟨R, 1, none⟩ = some (.int .i64 (p : Nat))) (by kernel_rfl) (by rw [← hWD]; exact ⟨x0, x1⟩) (fun hHeld => ?_)
    rw [← hWD] at hHeld ⊢
    clear hWD
    ((refine wpAnyH_take (i := 0) (v := ?_) (by (simp only [List.getElem?_toArray, List.getElem?_cons_succ, List.getElem?_cons_zero]); rfl) (by kernel_rfl) (by kernel_rfl) (by kernel_rfl) (by exact fun _ _ _ h => h) (Or.inl ⟨by rfl, ?_⟩) (by assumption) ?_); rotate_left; focus (intro wS hSw; (try dsimp only at hSw); go_simp; first | done | with_reducible rfl); try simp only [Act.put, List.setIfInBounds_toArray, List.set_cons_zero, List.set_cons_succ])
    ((refine wpAnyH_take (i := 1) (v := ?_) (by (simp only [List.getElem?_toArray, List.getElem?_cons_succ, List.getElem?_cons_zero]); rfl) (by kernel_rfl) (by kernel_rfl) (by kernel_rfl) (by exact fun _ _ _ h => h) (Or.inl ⟨by rfl, ?_⟩) (by assumption) ?_); rotate_left; focus (intro wS hSw; (try dsimp only at hSw); go_simp; first | done | with_reducible rfl); try simp only [Act.put, List.setIfInBounds_toArray, List.set_cons_zero, List.set_cons_succ])
    ((refine wpAnyH_take (i := 2) (v := ?_) (by (simp only [List.getElem?_toArray, List.getElem?_cons_succ, List.getElem?_cons_zero]); rfl) (by kernel_rfl) (by kernel_rfl) (by kernel_rfl) (by exact fun _ _ _ h => h) (Or.inl ⟨by rfl, ?_⟩) (by assumption) ?_); rotate_left; focus (intro wS hSw; (try dsimp only at hSw); go_simp; first | done | with_reducible rfl); try simp only [Act.put, List.setIfInBounds_toArray, List.set_cons_zero, List.set_cons_succ])
    ((refine wpAnyH_take (i := 3) (v := ?_) (by (simp only [List.getElem?_toArray, List.getElem?_cons_succ, List.getElem?_cons_zero]); rfl) (by kernel_rfl) (by kernel_rfl) (by kernel_rfl) (by exact fun _ _ _ h => h) (Or.inl ⟨by rfl, ?_⟩) (by assumption) ?_); rotate_left; focus (intro wS hSw; (try dsimp only at hSw); go_simp; first | done | with_reducible rfl); try simp only [Act.put, List.setIfInBounds_toArray, List.set_cons_zero, List.set_cons_succ])
    ((refine wpAnyH_take (i := 4) (v := ?_) (by (simp only [List.getElem?_toArray, List.getElem?_cons_succ, List.getElem?_cons_zero]); rfl) (by kernel_rfl) (by kernel_rfl) (by kernel_rfl) (by exact fun _ _ _ h => h) (Or.inl ⟨by rfl, ?_⟩) (by assumption) ?_); rotate_left; focus (intro wS hSw; (try dsimp only at hSw); go_simp; first | done | with_reducible rfl); try simp only [Act.put, List.setIfInBounds_toArray, List.set_cons_zero, List.set_cons_succ])
    ((refine wpAnyH_take (i := 5) (v := ?_) (by (simp only [List.getElem?_toArray, List.getElem?_cons_succ, List.getElem?_cons_zero]); rfl) (by kernel_rfl) (by kernel_rfl) (by kernel_rfl) (by exact fun _ _ _ h => h) (Or.inl ⟨by rfl, ?_⟩) (by assumption) ?_); rotate_left; focus (intro wS hSw; (try dsimp only at hSw); go_simp; first | done | with_reducible rfl); try simp only [Act.put, List.setIfInBounds_toArray, List.set_cons_zero, List.set_cons_succ])
    ((refine wpAnyH_take (i := 6) (v := ?_) (by (simp only [List.getElem?_toArray, List.getElem?_cons_succ, List.getElem?_cons_zero]); rfl) (by kernel_rfl) (by kernel_rfl) (by kernel_rfl) (by exact fun _ _ _ h => h) (Or.inl ⟨by rfl, ?_⟩) (by assumption) ?_); rotate_left; focus (intro wS hSw; (try dsimp only at hSw); go_simp; first | done | with_reducible rfl); try simp only [Act.put, List.setIfInBounds_toArray, List.set_cons_zero, List.set_cons_succ])
    ((refine wpAnyH_take (i := 7) (v := ?_) (by (simp only [List.getElem?_toArray, List.getElem?_cons_succ, List.getElem?_cons_zero]); rfl) (by kernel_rfl) (by kernel_rfl) (by kernel_rfl) (by exact fun _ _ _ h => h) (Or.inl ⟨by rfl, ?_⟩) (by assumption) ?_); rotate_left; focus (intro wS hSw; (try dsimp only at hSw); go_simp; first | done | with_reducible rfl); try simp only [Act.put, List.setIfInBounds_toArray, List.set_cons_zero, List.set_cons_succ])
    ((refine wpAnyH_take (i := 8) (v := ?_) (by (simp only [List.getElem?_toArray, List.getElem?_cons_succ, List.getElem?_cons_zero]); rfl) (by kernel_rfl) (by kernel_rfl) (by kernel_rfl) (by exact fun _ _ _ h => h) (Or.inl ⟨by rfl, ?_⟩) (by assumption) ?_); rotate_left; focus (intro wS hSw; (try dsimp only at hSw); go_simp; first | done | with_reducible rfl); try simp only [Act.put, List.setIfInBounds_toArray, List.set_cons_zero, List.set_cons_succ])
    ((refine wpAnyH_take (i := 9) (v := ?_) (by (simp only [List.getElem?_toArray, List.getElem?_cons_succ, List.getElem?_cons_zero]); rfl) (by kernel_rfl) (by kernel_rfl) (by kernel_rfl) (by exact fun _ _ _ h => h) (Or.inl ⟨by rfl, ?_⟩) (by assumption) ?_); rotate_left; focus (intro wS hSw; (try dsimp only at hSw); go_simp; first | done | with_reducible rfl); try simp only [Act.put, List.setIfInBounds_toArray, List.set_cons_zero, List.set_cons_succ])
    ((refine wpAnyH_take (i := 10) (v := ?_) (by (simp only [List.getElem?_toArray, List.getElem?_cons_succ, List.getElem?_cons_zero]); rfl) (by kernel_rfl) (by kernel_rfl) (by kernel_rfl) (by exact fun _ _ _ h => h) (Or.inl ⟨by rfl, ?_⟩) (by assumption) ?_); rotate_left; focus (intro wS hSw; (try dsimp only at hSw); go_simp; first | done | with_reducible rfl); try simp only [Act.put, List.setIfInBounds_toArray, List.set_cons_zero, List.set_cons_succ])
    refine wpAnyH_done (by kernel_rfl) ?_ _
    try simp only [Act.put, List.setIfInBounds_toArray, List.set_cons_zero, List.set_cons_succ]
    go_wp2_with (refine Calls.mono HF.out ?_; rintro e W2 ⟨rfl, h1, h2⟩; have HE := Lib.hid (And.intro h1 (HFR.out.tr h2)); clear h1 h2 HF)
    try go_wp2_with fail
    go_ret
    exact ⟨rfl, HE.out.1, HE.out.2⟩
end


def cntS (bs : List Nat) (sz : Nat) (S : RdS) : Nat × RdS := match S with
  | .error e => (0, .error e)
  | .ok s => match cntB bs s sz with
    | .ok n => (n, .ok (s + 8))
    | .error e => (0, .error e)
theorem cntS_alt (bs : List Nat) (sz : Nat) (S : RdS) : cntS bs sz S = if (numS bs S).1 < 0 ∨ (((bs.length - atS bs.length (numS bs S).2) / sz : Nat) : Int) < (numS bs S).1 then (0, failS (numS bs S).2 (atS bs.length S)) else ((numS bs S).1.toNat, (numS bs S).2) := by
  cases S with
  | error e =>
    show (0, Except.error e) = if (0 : Int) < 0 ∨ (((bs.length - bs.length) / sz : Nat) : Int) < 0 then _ else _
    have hq := Int.natCast_nonneg ((bs.length - bs.length) / sz)
    rw [if_neg (by rintro (h | h) <;> omega)]
    rfl
  | ok s =>
    rcases h : numB bs s with a | m
    · have h1 : numS bs (.ok s) = (0, .error a) := by unfold numS; simp only [h]
      have h2 : cntS bs sz (.ok s) = (0, .error a) := by unfold cntS cntB; simp only [h]
      rw [h1, h2]
      show _ = if (0 : Int) < 0 ∨ (((bs.length - bs.length) / sz : Nat) : Int) < 0 then _ else _
      have hq := Int.natCast_nonneg ((bs.length - bs.length) / sz)
      rw [if_neg (by rintro (h | h) <;> omega)]
      rfl
    · have h1 : numS bs (.ok s) = (m, .ok (s + 8)) := by unfold numS; simp only [h]
      rw [h1]
      show _ = if m < 0 ∨ (((bs.length - (s + 8)) / sz : Nat) : Int) < m then (0, Except.error s) else (m.toNat, Except.ok (s + 8))
      by_cases hc : 0 ≤ m ∧ m ≤ (((bs.length - (s + 8)) / sz : Nat) : Int)
      · rw [if_neg (by omega)]
        have h3 : cntB bs s sz = .ok m.toNat := by unfold cntB; simp only [h]; rw [if_pos hc]
        unfold cntS
        simp only [h3]
      · rw [if_pos (by omega)]
        have h3 : cntB bs s sz = .error s := by unfold cntB; simp only [h]; rw [if_neg hc]
        unfold cntS
        simp only [h3]
section
variable {R lo : Nat} {bs : List Nat}
set_option maxRecDepth 100000 in
set_option maxHeartbeats 8000000 in
theorem rcnt_any (W : World) (S : RdS) (sz : Nat) (h : RdIn R lo bs W S) (hz : 0 < sz ∧ sz ≤ 1000) :
    Calls Tryd.prog 54 #[.pointer (some ⟨R, 0, none⟩), .int .i64 (sz : Nat)] W fun e W' => e = .returned (.int .i64 ((cntS bs sz S).1 : Nat)) ∧ RdIn R lo bs W' (cntS bs sz S).2 ∧ Fr [R] W W' := by
  have h0 := h
  have hnum := rnum_any W S h
  rw [cntS_alt]
  obtain ⟨m, hm⟩ : ∃ m, m = (numS bs S).1 := ⟨_, rfl⟩
  obtain ⟨S1, hS1⟩ : ∃ S1, S1 = (numS bs S).2 := ⟨_, rfl⟩
  rw [← hm, ← hS1] at hnum ⊢
  obtain ⟨v, hb, hbl, hR, hat, hlen, hbad⟩ := h
  obtain ⟨ln, hln⟩ : ∃ ln, ln = bs.length := ⟨_, rfl⟩
  obtain ⟨p, hp⟩ : ∃ p, p = atS bs.length S := ⟨_, rfl⟩
  obtain ⟨p1, hp1⟩ : ∃ p1, p1 = atS bs.length S1 := ⟨_, rfl⟩
  have x1 : W.cell? ⟨R, 1, none⟩ = some (.int .i64 (p : Nat)) := by rw [hp]; exact cell_at hb 1
  have hpl : p ≤ 1048576 := by omega
  rw [← hp, ← hp1, ← hln]
  obtain ⟨D, hD⟩ : ∃ D, D = ln - p1 := ⟨_, rfl⟩
  obtain ⟨Q, hQ⟩ : ∃ Q, Q = D / sz := ⟨_, rfl⟩
  rw [← hD, ← hQ]
  have hlnb : ln ≤ 1048576 := by omega
  have hQD : Q ≤ D := by rw [hQ]; exact Nat.div_le_self _ _
  have w2 : IntKind.i64.wrap ((D : Int).tdiv (sz : Int)) = (Q : Int) := by
    rw [← Int.ofNat_tdiv, ← hQ]
    exact IntWalk.i64_in _ (by omega)
  have w2' : IntKind.i64.wrap ((D : Int) / (sz : Int)) = (Q : Int) := by
    show IntKind.i64.wrap ((D / sz : Nat) : Int) = _
    rw [← hQ]
    exact IntWalk.i64_in _ (by omega)
  have hz0 : (sz = 0) = False := eq_false (by omega)
  obtain ⟨RS, hRS⟩ : ∃ RS, RS = if m < 0 ∨ (Q : Int) < m then (0, failS S1 p) else (m.toNat, S1) := ⟨_, rfl⟩
  rw [← hRS]
  have HRS := Lib.hid hRS
  have HC1 := Lib.hid hnum
  have HP := Lib.hid (And.intro hp1 (And.intro hD (And.intro hln (And.intro hpl hlnb))))
  clear hRS hnum hb hbl hR hat hlen hbad h0 hp hp1 hD hQ hln hm hS1 hpl hlnb hQD
  go_enter Tryd.func54, Tryd.ntmps54
  go_wp2_with (refine Calls.mono HC1.out ?_; rintro e W2 ⟨rfl, hr2, hf2⟩; have HR2 := Lib.hid hr2; have HF2 := Lib.hid hf2; clear hr2 hf2 HC1)
  go_upto_region 3 with fail
  obtain ⟨WD, hWD⟩ : ∃ X, X = W2.drew := ⟨_, rfl⟩
  have hdb : Below W2.heap.size W2 WD := by rw [hWD]; exact drew_b W2
  have hrd := HR2.out.below hdb
  have hrd0 := hrd
  obtain ⟨v2, hb2, ⟨va, vb, vo, vc, rfl, -, -⟩, -, hat2, -, -⟩ := hrd
  have hp1' := HP.out.1
  have hD' := HP.out.2.1
  have hln' := HP.out.2.2.1
  have hb9 := HP.out.2.2.2.2
  rw [← hp1', ← hln'] at hb2
  rw [← hp1', ← hln'] at hat2
  have w1 : IntKind.i64.wrap ((ln : Int) - (p1 : Int)) = (D : Int) := by rw [IntWalk.i64_in _ (by omega)]; omega
  have HS := Lib.hid (show WD.cell? ⟨R, 0, none⟩ = some (.slice va ln vc) ∧ WD.cell? ⟨R, 1, none⟩ = some (.int .i64 (p1 : Nat)) from ⟨cell_at hb2 0, cell_at hb2 1⟩)
  have HRD := Lib.hid hrd0
  have HFD := Lib.hid (HF2.out.tr (fr_below hdb))
  clear hdb hrd0 hb2 hat2 hp1' hD' hln' hb9
  refine wp_region_held_drew (S := fun X => X.cell? ⟨R, 0, none⟩ = some (.slice va ln vc) ∧ X.cell? ⟨R, 1, none⟩ = some (.int .i64 (p1 : Nat))) (by kernel_rfl) (by rw [← hWD]; exact HS.out) (fun hHeld => ?_)
  rw [← hWD] at hHeld ⊢
  clear hWD
  by_cases hm0 : m < 0
  · have b0 : (m < 0) = True := eq_true hm0
    have HF := Lib.hid (fails_any WD S1 p HRD.out HP.out.2.2.2.1)
    have HR0 : Hid (RS = (0, failS S1 p)) := Lib.hid (by rw [HRS.out, if_pos (.inl hm0)])
    ((refine wpAnyH_take (i := 0) (v := ?_) (by (simp only [List.getElem?_toArray, List.getElem?_cons_succ, List.getElem?_cons_zero]); rfl) (by kernel_rfl) (by kernel_rfl) (by kernel_rfl) (by exact fun _ _ _ h => h) (Or.inl ⟨by rfl, ?_⟩) (by assumption) ?_); rotate_left; focus (intro wS hSw; (try dsimp only at hSw); go_simp; first | done | with_reducible rfl); try simp only [Act.put, List.setIfInBounds_toArray, List.set_cons_zero, List.set_cons_succ])
    ((refine wpAnyH_take (i := 1) (v := ?_) (by (simp only [List.getElem?_toArray, List.getElem?_cons_succ, List.getElem?_cons_zero]); rfl) (by kernel_rfl) (by kernel_rfl) (by kernel_rfl) (by exact fun _ _ _ h => h) (Or.inl ⟨by rfl, ?_⟩) (by assumption) ?_); rotate_left; focus (intro wS hSw; (try dsimp only at hSw); go_simp; first | done | with_reducible rfl); try simp only [Act.put, List.setIfInBounds_toArray, List.set_cons_zero, List.set_cons_succ])
    ((refine wpAnyH_take (i := 2) (v := ?_) (by (simp only [List.getElem?_toArray, List.getElem?_cons_succ, List.getElem?_cons_zero]); rfl) (by kernel_rfl) (by kernel_rfl) (by kernel_rfl) (by exact fun _ _ _ h => h) (Or.inl ⟨by rfl, ?_⟩) (by assumption) ?_); rotate_left; focus (intro wS hSw; (try dsimp only at hSw); go_simp; first | done | with_reducible rfl); try simp only [Act.put, List.setIfInBounds_toArray, List.set_cons_zero, List.set_cons_succ])
    ((refine wpAnyH_take (i := 3) (v := undef) (by (simp only [List.getElem?_toArray, List.getElem?_cons_succ, List.getElem?_cons_zero]); rfl) (by kernel_rfl) (by kernel_rfl) (by kernel_rfl) (by exact fun _ _ _ h => h) (Or.inr ⟨by (go_simp; try (intro hh; cases hh)), rfl⟩) (by assumption) ?_); try simp only [Act.put, List.setIfInBounds_toArray, List.set_cons_zero, List.set_cons_succ])
    ((refine wpAnyH_take (i := 4) (v := undef) (by (simp only [List.getElem?_toArray, List.getElem?_cons_succ, List.getElem?_cons_zero]); rfl) (by kernel_rfl) (by kernel_rfl) (by kernel_rfl) (by exact fun _ _ _ h => h) (Or.inr ⟨by (go_simp; try (intro hh; cases hh)), rfl⟩) (by assumption) ?_); try simp only [Act.put, List.setIfInBounds_toArray, List.set_cons_zero, List.set_cons_succ])
    ((refine wpAnyH_take (i := 5) (v := undef) (by (simp only [List.getElem?_toArray, List.getElem?_cons_succ, List.getElem?_cons_zero]); rfl) (by kernel_rfl) (by kernel_rfl) (by kernel_rfl) (by exact fun _ _ _ h => h) (Or.inr ⟨by (go_simp; try (intro hh; cases hh)), rfl⟩) (by assumption) ?_); try simp only [Act.put, List.setIfInBounds_toArray, List.set_cons_zero, List.set_cons_succ])
    ((refine wpAnyH_take (i := 6) (v := undef) (by (simp only [List.getElem?_toArray, List.getElem?_cons_succ, List.getElem?_cons_zero]); rfl) (by kernel_rfl) (by kernel_rfl) (by kernel_rfl) (by exact fun _ _ _ h => h) (Or.inr ⟨by (go_simp; try (intro hh; cases hh)), rfl⟩) (by assumption) ?_); try simp only [Act.put, List.setIfInBounds_toArray, List.set_cons_zero, List.set_cons_succ])
    ((refine wpAnyH_take (i := 7) (v := undef) (by (simp only [List.getElem?_toArray, List.getElem?_cons_succ, List.getElem?_cons_zero]); rfl) (by kernel_rfl) (by kernel_rfl) (by kernel_rfl) (by exact fun _ _ _ h => h) (Or.inr ⟨by (go_simp; try (intro hh; cases hh)), rfl⟩) (by assumption) ?_); try simp only [Act.put, List.setIfInBounds_toArray, List.set_cons_zero, List.set_cons_succ])
    ((refine wpAnyH_take (i := 8) (v := undef) (by (simp only [List.getElem?_toArray, List.getElem?_cons_succ, List.getElem?_cons_zero]); rfl) (by kernel_rfl) (by kernel_rfl) (by kernel_rfl) (by exact fun _ _ _ h => h) (Or.inr ⟨by (go_simp; try (intro hh; cases hh)), rfl⟩) (by assumption) ?_); try simp only [Act.put, List.setIfInBounds_toArray, List.set_cons_zero, List.set_cons_succ])
    ((refine wpAnyH_take (i := 9) (v := undef) (by (simp only [List.getElem?_toArray, List.getElem?_cons_succ, List.getElem?_cons_zero]); rfl) (by kernel_rfl) (by kernel_rfl) (by kernel_rfl) (by exact fun _ _ _ h => h) (Or.inr ⟨by (go_simp; try (intro hh; cases hh)), rfl⟩) (by assumption) ?_); try simp only [Act.put, List.setIfInBounds_toArray, List.set_cons_zero, List.set_cons_succ])
    ((refine wpAnyH_take (i := 10) (v := undef) (by (simp only [List.getElem?_toArray, List.getElem?_cons_succ, List.getElem?_cons_zero]); rfl) (by kernel_rfl) (by kernel_rfl) (by kernel_rfl) (by exact fun _ _ _ h => h) (Or.inr ⟨by (go_simp; try (intro hh; cases hh)), rfl⟩) (by assumption) ?_); try simp only [Act.put, List.setIfInBounds_toArray, List.set_cons_zero, List.set_cons_succ])
    ((refine wpAnyH_take (i := 11) (v := undef) (by (simp only [List.getElem?_toArray, List.getElem?_cons_succ, List.getElem?_cons_zero]); rfl) (by kernel_rfl) (by kernel_rfl) (by kernel_rfl) (by exact fun _ _ _ h => h) (Or.inr ⟨by (go_simp; try (intro hh; cases hh)), rfl⟩) (by assumption) ?_); try simp only [Act.put, List.setIfInBounds_toArray, List.set_cons_zero, List.set_cons_succ])
    ((refine wpAnyH_take (i := 12) (v := undef) (by (simp only [List.getElem?_toArray, List.getElem?_cons_succ, List.getElem?_cons_zero]); rfl) (by kernel_rfl) (by kernel_rfl) (by kernel_rfl) (by exact fun _ _ _ h => h) (Or.inr ⟨by (go_simp; try (intro hh; cases hh)), rfl⟩) (by assumption) ?_); try simp only [Act.put, List.setIfInBounds_toArray, List.set_cons_zero, List.set_cons_succ])
    ((refine wpAnyH_take (i := 13) (v := undef) (by (simp only [List.getElem?_toArray, List.getElem?_cons_succ, List.getElem?_cons_zero]); rfl) (by kernel_rfl) (by kernel_rfl) (by kernel_rfl) (by exact fun _ _ _ h => h) (Or.inr ⟨by (go_simp; try (intro hh; cases hh)), rfl⟩) (by assumption) ?_); try simp only [Act.put, List.setIfInBounds_toArray, List.set_cons_zero, List.set_cons_succ])
    ((refine wpAnyH_take (i := 14) (v := undef) (by (simp only [List.getElem?_toArray, List.getElem?_cons_succ, List.getElem?_cons_zero]); rfl) (by kernel_rfl) (by kernel_rfl) (by kernel_rfl) (by exact fun _ _ _ h => h) (Or.inr ⟨by (go_simp; try (intro hh; cases hh)), rfl⟩) (by assumption) ?_); try simp only [Act.put, List.setIfInBounds_toArray, List.set_cons_zero, List.set_cons_succ])
    ((refine wpAnyH_take (i := 15) (v := undef) (by (simp only [List.getElem?_toArray, List.getElem?_cons_succ, List.getElem?_cons_zero]); rfl) (by kernel_rfl) (by kernel_rfl) (by kernel_rfl) (by exact fun _ _ _ h => h) (Or.inr ⟨by (go_simp; try (intro hh; cases hh)), rfl⟩) (by assumption) ?_); try simp only [Act.put, List.setIfInBounds_toArray, List.set_cons_zero, List.set_cons_succ])
    ((refine wpAnyH_take (i := 16) (v := undef) (by (simp only [List.getElem?_toArray, List.getElem?_cons_succ, List.getElem?_cons_zero]); rfl) (by kernel_rfl) (by kernel_rfl) (by kernel_rfl) (by exact fun _ _ _ h => h) (Or.inr ⟨by (go_simp; try (intro hh; cases hh)), rfl⟩) (by assumption) ?_); try simp only [Act.put, List.setIfInBounds_toArray, List.set_cons_zero, List.set_cons_succ])
    ((refine wpAnyH_take (i := 17) (v := ?_) (by (simp only [List.getElem?_toArray, List.getElem?_cons_succ, List.getElem?_cons_zero]); rfl) (by kernel_rfl) (by kernel_rfl) (by kernel_rfl) (by exact fun _ _ _ h => h) (Or.inl ⟨by rfl, ?_⟩) (by assumption) ?_); rotate_left; focus (intro wS hSw; (try dsimp only at hSw); go_simp; first | done | with_reducible rfl); try simp only [Act.put, List.setIfInBounds_toArray, List.set_cons_zero, List.set_cons_succ])
    refine wpAnyH_done (by kernel_rfl) ?_ _
    try simp only [Act.put, List.setIfInBounds_toArray, List.set_cons_zero, List.set_cons_succ]
    go_wp2_with (refine Calls.mono HF.out ?_; rintro e W3 ⟨rfl, h1, h2⟩; have HE := Lib.hid (And.intro h1 (HFD.out.tr h2)); clear h1 h2 HF)
    try go_wp2_with fail
    go_ret
    exact (by have h9 := HR0.out; subst h9; exact ⟨rfl, HE.out⟩)
  · have b0 : (m < 0) = False := eq_false hm0
    by_cases hmq : (Q : Int) < m
    · have b1 : ((Q : Int) < m) = True := eq_true hmq
      have HF := Lib.hid (fails_any WD S1 p HRD.out HP.out.2.2.2.1)
      have HR0 : Hid (RS = (0, failS S1 p)) := Lib.hid (by rw [HRS.out, if_pos (.inr hmq)])
      ((refine wpAnyH_take (i := 0) (v := ?_) (by (simp only [List.getElem?_toArray, List.getElem?_cons_succ, List.getElem?_cons_zero]); rfl) (by kernel_rfl) (by kernel_rfl) (by kernel_rfl) (by exact fun _ _ _ h => h) (Or.inl ⟨by rfl, ?_⟩) (by assumption) ?_); rotate_left; focus (intro wS hSw; (try dsimp only at hSw); go_simp; first | done | with_reducible rfl); try simp only [Act.put, List.setIfInBounds_toArray, List.set_cons_zero, List.set_cons_succ])
      ((refine wpAnyH_take (i := 1) (v := ?_) (by (simp only [List.getElem?_toArray, List.getElem?_cons_succ, List.getElem?_cons_zero]); rfl) (by kernel_rfl) (by kernel_rfl) (by kernel_rfl) (by exact fun _ _ _ h => h) (Or.inl ⟨by rfl, ?_⟩) (by assumption) ?_); rotate_left; focus (intro wS hSw; (try dsimp only at hSw); go_simp; first | done | with_reducible rfl); try simp only [Act.put, List.setIfInBounds_toArray, List.set_cons_zero, List.set_cons_succ])
      ((refine wpAnyH_take (i := 2) (v := ?_) (by (simp only [List.getElem?_toArray, List.getElem?_cons_succ, List.getElem?_cons_zero]); rfl) (by kernel_rfl) (by kernel_rfl) (by kernel_rfl) (by exact fun _ _ _ h => h) (Or.inl ⟨by rfl, ?_⟩) (by assumption) ?_); rotate_left; focus (intro wS hSw; (try dsimp only at hSw); go_simp; first | done | with_reducible rfl); try simp only [Act.put, List.setIfInBounds_toArray, List.set_cons_zero, List.set_cons_succ])
      ((refine wpAnyH_take (i := 3) (v := ?_) (by (simp only [List.getElem?_toArray, List.getElem?_cons_succ, List.getElem?_cons_zero]); rfl) (by kernel_rfl) (by kernel_rfl) (by kernel_rfl) (by exact fun _ _ _ h => h) (Or.inl ⟨by (go_simp; try rfl), ?_⟩) (by assumption) ?_); rotate_left; focus (intro wS hSw; (try dsimp only at hSw); go_simp; first | done | with_reducible rfl); try simp only [Act.put, List.setIfInBounds_toArray, List.set_cons_zero, List.set_cons_succ])
      ((refine wpAnyH_take (i := 4) (v := ?_) (by (simp only [List.getElem?_toArray, List.getElem?_cons_succ, List.getElem?_cons_zero]); rfl) (by kernel_rfl) (by kernel_rfl) (by kernel_rfl) (by exact fun _ _ _ h => h) (Or.inl ⟨by (go_simp; try rfl), ?_⟩) (by assumption) ?_); rotate_left; focus (intro wS hSw; (try dsimp only at hSw); go_simp; first | done | with_reducible rfl); try simp only [Act.put, List.setIfInBounds_toArray, List.set_cons_zero, List.set_cons_succ])
      ((refine wpAnyH_take (i := 5) (v := ?_) (by (simp only [List.getElem?_toArray, List.getElem?_cons_succ, List.getElem?_cons_zero]); rfl) (by kernel_rfl) (by kernel_rfl) (by kernel_rfl) (by exact fun _ _ _ h => h) (Or.inl ⟨by (go_simp; try rfl), ?_⟩) (by assumption) ?_); rotate_left; focus (intro wS hSw; (try dsimp only at hSw); go_simp; first | done | with_reducible rfl); try simp only [Act.put, List.setIfInBounds_toArray, List.set_cons_zero, List.set_cons_succ])
      ((refine wpAnyH_take (i := 6) (v := ?_) (by (simp only [List.getElem?_toArray, List.getElem?_cons_succ, List.getElem?_cons_zero]); rfl) (by kernel_rfl) (by kernel_rfl) (by kernel_rfl) (by exact fun _ _ _ h => h) (Or.inl ⟨by (go_simp; try rfl), ?_⟩) (by assumption) ?_); rotate_left; focus (intro wS hSw; (try dsimp only at hSw); go_simp; first | done | with_reducible rfl); try simp only [Act.put, List.setIfInBounds_toArray, List.set_cons_zero, List.set_cons_succ])
      ((refine wpAnyH_take (i := 7) (v := ?_) (by (simp only [List.getElem?_toArray, List.getElem?_cons_succ, List.getElem?_cons_zero]); rfl) (by kernel_rfl) (by kernel_rfl) (by kernel_rfl) (by exact fun _ _ _ h => h) (Or.inl ⟨by (go_simp; try rfl), ?_⟩) (by assumption) ?_); rotate_left; focus (intro wS hSw; (try dsimp only at hSw); go_simp; first | done | with_reducible rfl); try simp only [Act.put, List.setIfInBounds_toArray, List.set_cons_zero, List.set_cons_succ])
      ((refine wpAnyH_take (i := 8) (v := ?_) (by (simp only [List.getElem?_toArray, List.getElem?_cons_succ, List.getElem?_cons_zero]); rfl) (by kernel_rfl) (by kernel_rfl) (by kernel_rfl) (by exact fun _ _ _ h => h) (Or.inl ⟨by (go_simp; try rfl), ?_⟩) (by assumption) ?_); rotate_left; focus (intro wS hSw; (try dsimp only at hSw); go_simp; first | done | with_reducible rfl); try simp only [Act.put, List.setIfInBounds_toArray, List.set_cons_zero, List.set_cons_succ])
      ((refine wpAnyH_take (i := 9) (v := ?_) (by (simp only [List.getElem?_toArray, List.getElem?_cons_succ, List.getElem?_cons_zero]); rfl) (by kernel_rfl) (by kernel_rfl) (by kernel_rfl) (by exact fun _ _ _ h => h) (Or.inl ⟨by (go_simp; try rfl), ?_⟩) (by assumption) ?_); rotate_left; focus (intro wS hSw; (try dsimp only at hSw); go_simp; first | done | with_reducible rfl); try simp only [Act.put, List.setIfInBounds_toArray, List.set_cons_zero, List.set_cons_succ])
      ((refine wpAnyH_take (i := 10) (v := ?_) (by (simp only [List.getElem?_toArray, List.getElem?_cons_succ, List.getElem?_cons_zero]); rfl) (by kernel_rfl) (by kernel_rfl) (by kernel_rfl) (by exact fun _ _ _ h => h) (Or.inl ⟨by (go_simp; try rfl), ?_⟩) (by assumption) ?_); rotate_left; focus (intro wS hSw; (try dsimp only at hSw); go_simp; first | done | with_reducible rfl); try simp only [Act.put, List.setIfInBounds_toArray, List.set_cons_zero, List.set_cons_succ])
      ((refine wpAnyH_take (i := 11) (v := ?_) (by (simp only [List.getElem?_toArray, List.getElem?_cons_succ, List.getElem?_cons_zero]); rfl) (by kernel_rfl) (by kernel_rfl) (by kernel_rfl) (by exact fun _ _ _ h => h) (Or.inl ⟨by (go_simp; try rfl), ?_⟩) (by assumption) ?_); rotate_left; focus (intro wS hSw; (try dsimp only at hSw); go_simp; first | done | with_reducible rfl); try simp only [Act.put, List.setIfInBounds_toArray, List.set_cons_zero, List.set_cons_succ])
      ((refine wpAnyH_take (i := 12) (v := ?_) (by (simp only [List.getElem?_toArray, List.getElem?_cons_succ, List.getElem?_cons_zero]); rfl) (by kernel_rfl) (by kernel_rfl) (by kernel_rfl) (by exact fun _ _ _ h => h) (Or.inl ⟨by (go_simp; try rfl), ?_⟩) (by assumption) ?_); rotate_left; focus (intro wS hSw; (try dsimp only at hSw); go_simp; first | done | with_reducible rfl); try simp only [Act.put, List.setIfInBounds_toArray, List.set_cons_zero, List.set_cons_succ])
      ((refine wpAnyH_take (i := 13) (v := ?_) (by (simp only [List.getElem?_toArray, List.getElem?_cons_succ, List.getElem?_cons_zero]); rfl) (by kernel_rfl) (by kernel_rfl) (by kernel_rfl) (by exact fun _ _ _ h => h) (Or.inl ⟨by (go_simp; try rfl), ?_⟩) (by assumption) ?_); rotate_left; focus (intro wS hSw; (try dsimp only at hSw); go_simp; first | done | with_reducible rfl); try simp only [Act.put, List.setIfInBounds_toArray, List.set_cons_zero, List.set_cons_succ])
      ((refine wpAnyH_take (i := 14) (v := ?_) (by (simp only [List.getElem?_toArray, List.getElem?_cons_succ, List.getElem?_cons_zero]); rfl) (by kernel_rfl) (by kernel_rfl) (by kernel_rfl) (by exact fun _ _ _ h => h) (Or.inl ⟨by (go_simp; try rfl), ?_⟩) (by assumption) ?_); rotate_left; focus (intro wS hSw; (try dsimp only at hSw); go_simp; first | done | with_reducible rfl); try simp only [Act.put, List.setIfInBounds_toArray, List.set_cons_zero, List.set_cons_succ])
      ((refine wpAnyH_take (i := 15) (v := ?_) (by (simp only [List.getElem?_toArray, List.getElem?_cons_succ, List.getElem?_cons_zero]); rfl) (by kernel_rfl) (by kernel_rfl) (by kernel_rfl) (by exact fun _ _ _ h => h) (Or.inl ⟨by (go_simp; try rfl), ?_⟩) (by assumption) ?_); rotate_left; focus (intro wS hSw; (try dsimp only at hSw); go_simp; first | done | with_reducible rfl); try simp only [Act.put, List.setIfInBounds_toArray, List.set_cons_zero, List.set_cons_succ])
      ((refine wpAnyH_take (i := 16) (v := ?_) (by (simp only [List.getElem?_toArray, List.getElem?_cons_succ, List.getElem?_cons_zero]); rfl) (by kernel_rfl) (by kernel_rfl) (by kernel_rfl) (by exact fun _ _ _ h => h) (Or.inl ⟨by (go_simp; try rfl), ?_⟩) (by assumption) ?_); rotate_left; focus (intro wS hSw; (try dsimp only at hSw); go_simp; first | done | with_reducible rfl); try simp only [Act.put, List.setIfInBounds_toArray, List.set_cons_zero, List.set_cons_succ])
      ((refine wpAnyH_take (i := 17) (v := ?_) (by (simp only [List.getElem?_toArray, List.getElem?_cons_succ, List.getElem?_cons_zero]); rfl) (by kernel_rfl) (by kernel_rfl) (by kernel_rfl) (by exact fun _ _ _ h => h) (Or.inl ⟨by rfl, ?_⟩) (by assumption) ?_); rotate_left; focus (intro wS hSw; (try dsimp only at hSw); go_simp; first | done | with_reducible rfl); try simp only [Act.put, List.setIfInBounds_toArray, List.set_cons_zero, List.set_cons_succ])
      refine wpAnyH_done (by kernel_rfl) ?_ _
      try simp only [Act.put, List.setIfInBounds_toArray, List.set_cons_zero, List.set_cons_succ]
      go_wp2_with (refine Calls.mono HF.out ?_; rintro e W3 ⟨rfl, h1, h2⟩; have HE := Lib.hid (And.intro h1 (HFD.out.tr h2)); clear h1 h2 HF)
      try go_wp2_with fail
      go_ret
      exact (by have h9 := HR0.out; subst h9; exact ⟨rfl, HE.out⟩)
    · have b1 : ((Q : Int) < m) = False := eq_false hmq
      have HR0 : Hid (RS = (m.toNat, S1)) := Lib.hid (by rw [HRS.out, if_neg (by omega)])
      have HMN := Lib.hid (show m = ((m.toNat : Nat) : Int) by omega)
      ((refine wpAnyH_take (i := 0) (v := ?_) (by (simp only [List.getElem?_toArray, List.getElem?_cons_succ, List.getElem?_cons_zero]); rfl) (by kernel_rfl) (by kernel_rfl) (by kernel_rfl) (by exact fun _ _ _ h => h) (Or.inl ⟨by rfl, ?_⟩) (by assumption) ?_); rotate_left; focus (intro wS hSw; (try dsimp only at hSw); go_simp; first | done | with_reducible rfl); try simp only [Act.put, List.setIfInBounds_toArray, List.set_cons_zero, List.set_cons_succ])
      ((refine wpAnyH_take (i := 1) (v := ?_) (by (simp only [List.getElem?_toArray, List.getElem?_cons_succ, List.getElem?_cons_zero]); rfl) (by kernel_rfl) (by kernel_rfl) (by kernel_rfl) (by exact fun _ _ _ h => h) (Or.inl ⟨by rfl, ?_⟩) (by assumption) ?_); rotate_left; focus (intro wS hSw; (try dsimp only at hSw); go_simp; first | done | with_reducible rfl); try simp only [Act.put, List.setIfInBounds_toArray, List.set_cons_zero, List.set_cons_succ])
      ((refine wpAnyH_take (i := 2) (v := ?_) (by (simp only [List.getElem?_toArray, List.getElem?_cons_succ, List.getElem?_cons_zero]); rfl) (by kernel_rfl) (by kernel_rfl) (by kernel_rfl) (by exact fun _ _ _ h => h) (Or.inl ⟨by rfl, ?_⟩) (by assumption) ?_); rotate_left; focus (intro wS hSw; (try dsimp only at hSw); go_simp; first | done | with_reducible rfl); try simp only [Act.put, List.setIfInBounds_toArray, List.set_cons_zero, List.set_cons_succ])
      ((refine wpAnyH_take (i := 3) (v := ?_) (by (simp only [List.getElem?_toArray, List.getElem?_cons_succ, List.getElem?_cons_zero]); rfl) (by kernel_rfl) (by kernel_rfl) (by kernel_rfl) (by exact fun _ _ _ h => h) (Or.inl ⟨by (go_simp; try rfl), ?_⟩) (by assumption) ?_); rotate_left; focus (intro wS hSw; (try dsimp only at hSw); go_simp; first | done | with_reducible rfl); try simp only [Act.put, List.setIfInBounds_toArray, List.set_cons_zero, List.set_cons_succ])
      ((refine wpAnyH_take (i := 4) (v := ?_) (by (simp only [List.getElem?_toArray, List.getElem?_cons_succ, List.getElem?_cons_zero]); rfl) (by kernel_rfl) (by kernel_rfl) (by kernel_rfl) (by exact fun _ _ _ h => h) (Or.inl ⟨by (go_simp; try rfl), ?_⟩) (by assumption) ?_); rotate_left; focus (intro wS hSw; (try dsimp only at hSw); go_simp; first | done | with_reducible rfl); try simp only [Act.put, List.setIfInBounds_toArray, List.set_cons_zero, List.set_cons_succ])
      ((refine wpAnyH_take (i := 5) (v := ?_) (by (simp only [List.getElem?_toArray, List.getElem?_cons_succ, List.getElem?_cons_zero]); rfl) (by kernel_rfl) (by kernel_rfl) (by kernel_rfl) (by exact fun _ _ _ h => h) (Or.inl ⟨by (go_simp; try rfl), ?_⟩) (by assumption) ?_); rotate_left; focus (intro wS hSw; (try dsimp only at hSw); go_simp; first | done | with_reducible rfl); try simp only [Act.put, List.setIfInBounds_toArray, List.set_cons_zero, List.set_cons_succ])
      ((refine wpAnyH_take (i := 6) (v := ?_) (by (simp only [List.getElem?_toArray, List.getElem?_cons_succ, List.getElem?_cons_zero]); rfl) (by kernel_rfl) (by kernel_rfl) (by kernel_rfl) (by exact fun _ _ _ h => h) (Or.inl ⟨by (go_simp; try rfl), ?_⟩) (by assumption) ?_); rotate_left; focus (intro wS hSw; (try dsimp only at hSw); go_simp; first | done | with_reducible rfl); try simp only [Act.put, List.setIfInBounds_toArray, List.set_cons_zero, List.set_cons_succ])
      ((refine wpAnyH_take (i := 7) (v := ?_) (by (simp only [List.getElem?_toArray, List.getElem?_cons_succ, List.getElem?_cons_zero]); rfl) (by kernel_rfl) (by kernel_rfl) (by kernel_rfl) (by exact fun _ _ _ h => h) (Or.inl ⟨by (go_simp; try rfl), ?_⟩) (by assumption) ?_); rotate_left; focus (intro wS hSw; (try dsimp only at hSw); go_simp; first | done | with_reducible rfl); try simp only [Act.put, List.setIfInBounds_toArray, List.set_cons_zero, List.set_cons_succ])
      ((refine wpAnyH_take (i := 8) (v := ?_) (by (simp only [List.getElem?_toArray, List.getElem?_cons_succ, List.getElem?_cons_zero]); rfl) (by kernel_rfl) (by kernel_rfl) (by kernel_rfl) (by exact fun _ _ _ h => h) (Or.inl ⟨by (go_simp; try rfl), ?_⟩) (by assumption) ?_); rotate_left; focus (intro wS hSw; (try dsimp only at hSw); go_simp; first | done | with_reducible rfl); try simp only [Act.put, List.setIfInBounds_toArray, List.set_cons_zero, List.set_cons_succ])
      ((refine wpAnyH_take (i := 9) (v := ?_) (by (simp only [List.getElem?_toArray, List.getElem?_cons_succ, List.getElem?_cons_zero]); rfl) (by kernel_rfl) (by kernel_rfl) (by kernel_rfl) (by exact fun _ _ _ h => h) (Or.inl ⟨by (go_simp; try rfl), ?_⟩) (by assumption) ?_); rotate_left; focus (intro wS hSw; (try dsimp only at hSw); go_simp; first | done | with_reducible rfl); try simp only [Act.put, List.setIfInBounds_toArray, List.set_cons_zero, List.set_cons_succ])
      ((refine wpAnyH_take (i := 10) (v := ?_) (by (simp only [List.getElem?_toArray, List.getElem?_cons_succ, List.getElem?_cons_zero]); rfl) (by kernel_rfl) (by kernel_rfl) (by kernel_rfl) (by exact fun _ _ _ h => h) (Or.inl ⟨by (go_simp; try rfl), ?_⟩) (by assumption) ?_); rotate_left; focus (intro wS hSw; (try dsimp only at hSw); go_simp; first | done | with_reducible rfl); try simp only [Act.put, List.setIfInBounds_toArray, List.set_cons_zero, List.set_cons_succ])
      ((refine wpAnyH_take (i := 11) (v := ?_) (by (simp only [List.getElem?_toArray, List.getElem?_cons_succ, List.getElem?_cons_zero]); rfl) (by kernel_rfl) (by kernel_rfl) (by kernel_rfl) (by exact fun _ _ _ h => h) (Or.inl ⟨by (go_simp; try rfl), ?_⟩) (by assumption) ?_); rotate_left; focus (intro wS hSw; (try dsimp only at hSw); go_simp; first | done | with_reducible rfl); try simp only [Act.put, List.setIfInBounds_toArray, List.set_cons_zero, List.set_cons_succ])
      ((refine wpAnyH_take (i := 12) (v := ?_) (by (simp only [List.getElem?_toArray, List.getElem?_cons_succ, List.getElem?_cons_zero]); rfl) (by kernel_rfl) (by kernel_rfl) (by kernel_rfl) (by exact fun _ _ _ h => h) (Or.inl ⟨by (go_simp; try rfl), ?_⟩) (by assumption) ?_); rotate_left; focus (intro wS hSw; (try dsimp only at hSw); go_simp; first | done | with_reducible rfl); try simp only [Act.put, List.setIfInBounds_toArray, List.set_cons_zero, List.set_cons_succ])
      ((refine wpAnyH_take (i := 13) (v := ?_) (by (simp only [List.getElem?_toArray, List.getElem?_cons_succ, List.getElem?_cons_zero]); rfl) (by kernel_rfl) (by kernel_rfl) (by kernel_rfl) (by exact fun _ _ _ h => h) (Or.inl ⟨by (go_simp; try rfl), ?_⟩) (by assumption) ?_); rotate_left; focus (intro wS hSw; (try dsimp only at hSw); go_simp; first | done | with_reducible rfl); try simp only [Act.put, List.setIfInBounds_toArray, List.set_cons_zero, List.set_cons_succ])
      ((refine wpAnyH_take (i := 14) (v := ?_) (by (simp only [List.getElem?_toArray, List.getElem?_cons_succ, List.getElem?_cons_zero]); rfl) (by kernel_rfl) (by kernel_rfl) (by kernel_rfl) (by exact fun _ _ _ h => h) (Or.inl ⟨by (go_simp; try rfl), ?_⟩) (by assumption) ?_); rotate_left; focus (intro wS hSw; (try dsimp only at hSw); go_simp; first | done | with_reducible rfl); try simp only [Act.put, List.setIfInBounds_toArray, List.set_cons_zero, List.set_cons_succ])
      ((refine wpAnyH_take (i := 15) (v := ?_) (by (simp only [List.getElem?_toArray, List.getElem?_cons_succ, List.getElem?_cons_zero]); rfl) (by kernel_rfl) (by kernel_rfl) (by kernel_rfl) (by exact fun _ _ _ h => h) (Or.inl ⟨by (go_simp; try rfl), ?_⟩) (by assumption) ?_); rotate_left; focus (intro wS hSw; (try dsimp only at hSw); go_simp; first | done | with_reducible rfl); try simp only [Act.put, List.setIfInBounds_toArray, List.set_cons_zero, List.set_cons_succ])
      ((refine wpAnyH_take (i := 16) (v := ?_) (by (simp only [List.getElem?_toArray, List.getElem?_cons_succ, List.getElem?_cons_zero]); rfl) (by kernel_rfl) (by kernel_rfl) (by kernel_rfl) (by exact fun _ _ _ h => h) (Or.inl ⟨by (go_simp; try rfl), ?_⟩) (by assumption) ?_); rotate_left; focus (intro wS hSw; (try dsimp only at hSw); go_simp; first | done | with_reducible rfl); try simp only [Act.put, List.setIfInBounds_toArray, List.set_cons_zero, List.set_cons_succ])
      ((refine wpAnyH_take (i := 17) (v := ?_) (by (simp only [List.getElem?_toArray, List.getElem?_cons_succ, List.getElem?_cons_zero]); rfl) (by kernel_rfl) (by kernel_rfl) (by kernel_rfl) (by exact fun _ _ _ h => h) (Or.inl ⟨by rfl, ?_⟩) (by assumption) ?_); rotate_left; focus (intro wS hSw; (try dsimp only at hSw); go_simp; first | done | with_reducible rfl); try simp only [Act.put, List.setIfInBounds_toArray, List.set_cons_zero, List.set_cons_succ])
      refine wpAnyH_done (by kernel_rfl) ?_ _
      try simp only [Act.put, List.setIfInBounds_toArray, List.set_cons_zero, List.set_cons_succ]
      try go_wp2_with fail
      go_ret
      exact (by have h9 := HR0.out; subst h9; exact ⟨by rw [← HMN.out]; rfl, HRD.out, HFD.out⟩)
end


def bumpS (S : RdS) (k : Nat) : RdS := match S with
  | .ok s => .ok (s + k)
  | .error e => .error e
def bytS (bs : List Nat) (S : RdS) : List Nat × RdS := ((bs.drop (atS bs.length (cntS bs 1 S).2)).take (cntS bs 1 S).1, bumpS (cntS bs 1 S).2 (cntS bs 1 S).1)
theorem cntS_le (bs : List Nat) (S : RdS) (hS : atS bs.length S ≤ bs.length) : (cntS bs 1 S).1 + atS bs.length (cntS bs 1 S).2 ≤ bs.length ∧ atS bs.length (bumpS (cntS bs 1 S).2 (cntS bs 1 S).1) = atS bs.length (cntS bs 1 S).2 + (cntS bs 1 S).1 ∧ (badS (bumpS (cntS bs 1 S).2 (cntS bs 1 S).1) = badS (cntS bs 1 S).2) := by
  cases S with
  | error e => exact ⟨Nat.le_of_eq (Nat.zero_add _), rfl, rfl⟩
  | ok s =>
    rcases h : cntB bs s 1 with a | n
    · have h1 : cntS bs 1 (.ok s) = (0, .error a) := by unfold cntS; simp only [h]
      rw [h1]
      exact ⟨Nat.le_of_eq (Nat.zero_add _), rfl, rfl⟩
    · have h1 : cntS bs 1 (.ok s) = (n, .ok (s + 8)) := by unfold cntS; simp only [h]
      rw [h1]
      exact ⟨cnt_le h, rfl, rfl⟩
section
variable {R lo : Nat} {bs : List Nat}
set_option maxRecDepth 100000 in
set_option maxHeartbeats 8000000 in
theorem rbyt_any (W : World) (S : RdS) (h : RdIn R lo bs W S) :
    Calls Tryd.prog 55 #[.pointer (some ⟨R, 0, none⟩)] W fun e W' => ∃ v ob, e = .returned v ∧ BO W.heap.size W' v ob (bytS bs S).1 ∧ RdIn R lo bs W' (bytS bs S).2 ∧ Fr [R] W W' := by
  have hcnt := rcnt_any W S 1 h ⟨by omega, by omega⟩
  have hRl : R < W.heap.size := by obtain ⟨v, hb, _⟩ := h; exact hb.lt
  have hle := cntS_le bs S (by obtain ⟨v, _, _, _, h, _⟩ := h; exact h)
  unfold bytS
  obtain ⟨k, hk⟩ : ∃ k, k = (cntS bs 1 S).1 := ⟨_, rfl⟩
  obtain ⟨S2, hS2⟩ : ∃ S2, S2 = (cntS bs 1 S).2 := ⟨_, rfl⟩
  rw [← hk, ← hS2] at hcnt hle
  rw [← hk, ← hS2]
  obtain ⟨ln, hln⟩ : ∃ ln, ln = bs.length := ⟨_, rfl⟩
  obtain ⟨p, hp⟩ : ∃ p, p = atS bs.length S2 := ⟨_, rfl⟩
  rw [← hp]
  obtain ⟨l, hl⟩ : ∃ l, l = (bs.drop p).take k := ⟨_, rfl⟩
  rw [← hl]
  rw [← hp] at hle
  have HC := Lib.hid hcnt
  have HP := Lib.hid (And.intro hp (And.intro hln (And.intro hle (And.intro hl hRl))))
  clear hcnt hp hln hle hl hk hS2 h hRl
  go_enter Tryd.func55, Tryd.ntmps55
  go_wp2_with (refine Calls.mono HC.out ?_; rintro e W2 ⟨rfl, hr2, hf2⟩; have HR2 := Lib.hid hr2; have HF2 := Lib.hid hf2; clear hr2 hf2 HC)
  go_upto_region 3 with fail
  obtain ⟨WD, hWD⟩ : ∃ X, X = W2.drew := ⟨_, rfl⟩
  have hdb : Below W2.heap.size W2 WD := by rw [hWD]; exact drew_b W2
  have hrd := HR2.out.below hdb
  obtain ⟨v2, hb2, hbl2, hR, hat2, hlen, hbad⟩ := hrd
  have hbl0 := hbl2
  obtain ⟨va, vb, vo, vc, rfl, hby, hbl⟩ := hbl2
  obtain ⟨hp, hln, ⟨hk1, hk2, hk3⟩, hl, hRl⟩ := HP.out
  have hpk : p + k ≤ ln := by rw [hln]; omega
  have hvc := hby.le
  have hsl : ∀ W', (Instr.slice 23 (.slice va ln vc) (some (.int .i64 (p : Nat))) (some (.int .i64 (p + k : Nat))) none).run Tryd.prog W' = .ok (.slice (midB va p vc) (p + k - p) (vc - p)) W' := fun W' => by_lh p (p + k) (by omega) (by omega) W'
  have hbm : BV WD (.slice (midB va p vc) k (vc - p)) l := by
    rw [hl]
    exact bv_mid (show BV WD (.slice va bs.length vc) bs from ⟨va, vb, vo, vc, rfl, hby⟩) p k (by omega)
  obtain ⟨p1, hp1⟩ : ∃ p1, p1 = p + k := ⟨_, rfl⟩
  rw [← hp1, show p1 - p = k by omega] at hsl
  obtain ⟨a3, ha3⟩ : ∃ x, x = midB va p vc := ⟨_, rfl⟩
  obtain ⟨c3, hc3⟩ : ∃ x, x = vc - p := ⟨_, rfl⟩
  rw [← ha3, ← hc3] at hsl hbm
  have w1 : IntKind.i64.wrap ((p : Int) + (k : Int)) = (p1 : Int) := by rw [IntWalk.i64_in _ (by omega)]; omega
  rw [← hp, ← hln] at hb2
  have hll : l.length = k := by rw [hl, List.length_take, List.length_drop]; omega
  obtain ⟨v4, ob4, W4, hr4, ho4, hB4, -⟩ := b_app2 (ty := 23) (bo_nil WD WD.heap.size) hbm (Nat.le_refl _) (by rw [hll]; simp; omega)
  rw [List.nil_append] at ho4
  obtain ⟨a4, n4, c4, rfl, -⟩ := ho4.v.sh
  have hb4 := hb2.step hB4
  have HS := Lib.hid (show WD.cell? ⟨R, 0, none⟩ = some (.slice va ln vc) ∧ WD.cell? ⟨R, 1, none⟩ = some (.int .i64 (p : Nat)) from ⟨cell_at hb2 0, cell_at hb2 1⟩)
  have HS4 := Lib.hid (show W4.cell? ⟨R, 0, none⟩ = some (.slice va ln vc) ∧ W4.cell? ⟨R, 1, none⟩ = some (.int .i64 (p : Nat)) from ⟨cell_at hb4 0, cell_at hb4 1⟩)
  have hlo4 : lo ≤ WD.heap.size := by have := hb2.lt; omega
  have hfd : Fr [R] W W4 := (HF2.out.tr (fr_below hdb)).tr (fr_below hB4)
  have hsz : W.heap.size ≤ WD.heap.size := Nat.le_trans HF2.out.size hdb.size
  have HEND := Lib.hid (show BO W.heap.size (W4.setCell ⟨R, 1, none⟩ (.int .i64 (p1 : Nat))) (.slice a4 n4 c4) ob4 l ∧ RdIn R lo bs (W4.setCell ⟨R, 1, none⟩ (.int .i64 (p1 : Nat))) (bumpS S2 k) ∧ Fr [R] W (W4.setCell ⟨R, 1, none⟩ (.int .i64 (p1 : Nat))) from by
    refine ⟨⟨ho4.1.congr fun g e => heap_setCell_ne W4 ⟨R, 1, none⟩ _ g (fun h9 => by have := ho4.2.2 g e; have := hb2.lt; dsimp only at h9; omega), ho4.2.1, fun g e => Nat.le_trans hsz (ho4.2.2 g e)⟩, ⟨_, by have h9 := hb4.set 1 (.int .i64 (p1 : Nat)); rw [hln] at h9; rw [hk2, hk3, ← hp1]; exact h9, bl_set (hbl0.fr (fun q hq => hB4.block q (by omega)) hB4.size) hR, hR, by rw [hk2]; omega, hlen, by rw [hk3]; exact hbad⟩, hfd.tr ((Fr.refl _ _).setCell _ (.inl (by simp)) _)⟩)
  have HRUN := Lib.hid hr4
  have HB4 := Lib.hid hb4
  clear hp hln hk1 hk2 hk3 hl hRl hpk hvc hbm hp1 ha3 hc3 hb2 hll ho4 hr4 hB4 hb4 hlo4 hfd hsz hdb hbl0 hby hbl hR hat2 hlen hbad
  refine wp_region_held_drew (S := fun X => X.cell? ⟨R, 0, none⟩ = some (.slice va ln vc) ∧ X.cell? ⟨R, 1, none⟩ = some (.int .i64 (p : Nat))) (by kernel_rfl) (by rw [← hWD]; exact HS.out) (fun hHeld => ?_)
  rw [← hWD] at hHeld ⊢
  clear hWD
  ((refine wpAnyH_take (i := 0) (v := ?_) (by (simp only [List.getElem?_toArray, List.getElem?_cons_succ, List.getElem?_cons_zero]); rfl) (by kernel_rfl) (by kernel_rfl) (by kernel_rfl) (by exact fun _ _ _ h => h) (Or.inl ⟨by rfl, ?_⟩) (by assumption) ?_); rotate_left; focus (intro wS hSw; (try dsimp only at hSw); go_simp; first | done | with_reducible rfl); try simp only [Act.put, List.setIfInBounds_toArray, List.set_cons_zero, List.set_cons_succ])
  ((refine wpAnyH_take (i := 1) (v := ?_) (by (simp only [List.getElem?_toArray, List.getElem?_cons_succ, List.getElem?_cons_zero]); rfl) (by kernel_rfl) (by kernel_rfl) (by kernel_rfl) (by exact fun _ _ _ h => h) (Or.inl ⟨by rfl, ?_⟩) (by assumption) ?_); rotate_left; focus (intro wS hSw; (try dsimp only at hSw); go_simp; first | done | with_reducible rfl); try simp only [Act.put, List.setIfInBounds_toArray, List.set_cons_zero, List.set_cons_succ])
  ((refine wpAnyH_take (i := 2) (v := ?_) (by (simp only [List.getElem?_toArray, List.getElem?_cons_succ, List.getElem?_cons_zero]); rfl) (by kernel_rfl) (by kernel_rfl) (by kernel_rfl) (by exact fun _ _ _ h => h) (Or.inl ⟨by rfl, ?_⟩) (by assumption) ?_); rotate_left; focus (intro wS hSw; (try dsimp only at hSw); go_simp; first | done | with_reducible rfl); try simp only [Act.put, List.setIfInBounds_toArray, List.set_cons_zero, List.set_cons_succ])
  ((refine wpAnyH_take (i := 3) (v := ?_) (by (simp only [List.getElem?_toArray, List.getElem?_cons_succ, List.getElem?_cons_zero]); rfl) (by kernel_rfl) (by kernel_rfl) (by kernel_rfl) (by exact fun _ _ _ h => h) (Or.inl ⟨by rfl, ?_⟩) (by assumption) ?_); rotate_left; focus (intro wS hSw; (try dsimp only at hSw); go_simp; first | done | with_reducible rfl); try simp only [Act.put, List.setIfInBounds_toArray, List.set_cons_zero, List.set_cons_succ])
  ((refine wpAnyH_take (i := 4) (v := ?_) (by (simp only [List.getElem?_toArray, List.getElem?_cons_succ, List.getElem?_cons_zero]); rfl) (by kernel_rfl) (by kernel_rfl) (by kernel_rfl) (by exact fun _ _ _ h => h) (Or.inl ⟨by rfl, ?_⟩) (by assumption) ?_); rotate_left; focus (intro wS hSw; (try dsimp only at hSw); go_simp; first | done | with_reducible rfl); try simp only [Act.put, List.setIfInBounds_toArray, List.set_cons_zero, List.set_cons_succ])
  ((refine wpAnyH_take (i := 5) (v := ?_) (by (simp only [List.getElem?_toArray, List.getElem?_cons_succ, List.getElem?_cons_zero]); rfl) (by kernel_rfl) (by kernel_rfl) (by kernel_rfl) (by exact fun _ _ _ h => h) (Or.inl ⟨by rfl, ?_⟩) (by assumption) ?_); rotate_left; focus (intro wS hSw; (try dsimp only at hSw); go_simp; first | done | with_reducible rfl); try simp only [Act.put, List.setIfInBounds_toArray, List.set_cons_zero, List.set_cons_succ])
  ((refine wpAnyH_take (i := 6) (v := ?_) (by (simp only [List.getElem?_toArray, List.getElem?_cons_succ, List.getElem?_cons_zero]); rfl) (by kernel_rfl) (by kernel_rfl) (by kernel_rfl) (by exact fun _ _ _ h => h) (Or.inl ⟨by rfl, ?_⟩) (by assumption) ?_); rotate_left; focus (intro wS hSw; (try dsimp only at hSw); go_simp; first | done | with_reducible rfl); try simp only [Act.put, List.setIfInBounds_toArray, List.set_cons_zero, List.set_cons_succ])
  ((refine wpAnyH_take (i := 7) (v := ?_) (by (simp only [List.getElem?_toArray, List.getElem?_cons_succ, List.getElem?_cons_zero]); rfl) (by kernel_rfl) (by kernel_rfl) (by kernel_rfl) (by exact fun _ _ _ h => h) (Or.inl ⟨by rfl, ?_⟩) (by assumption) ?_); rotate_left; focus (intro wS hSw; (try dsimp only at hSw); go_simp; first | done | with_reducible rfl); try simp only [Act.put, List.setIfInBounds_toArray, List.set_cons_zero, List.set_cons_succ])
  ((refine wpAnyH_take (i := 8) (v := ?_) (by (simp only [List.getElem?_toArray, List.getElem?_cons_succ, List.getElem?_cons_zero]); rfl) (by kernel_rfl) (by kernel_rfl) (by kernel_rfl) (by exact fun _ _ _ h => h) (Or.inl ⟨by rfl, ?_⟩) (by assumption) ?_); rotate_left; focus (intro wS hSw; (try dsimp only at hSw); go_simp; first | done | with_reducible rfl); try simp only [Act.put, List.setIfInBounds_toArray, List.set_cons_zero, List.set_cons_succ])
  ((refine wpAnyH_take (i := 9) (v := ?_) (by (simp only [List.getElem?_toArray, List.getElem?_cons_succ, List.getElem?_cons_zero]); rfl) (by kernel_rfl) (by kernel_rfl) (by kernel_rfl) (by exact fun _ _ _ h => h) (Or.inl ⟨by rfl, ?_⟩) (by assumption) ?_); rotate_left; focus (intro wS hSw; (try dsimp only at hSw); go_simp; first | done | with_reducible rfl); try simp only [Act.put, List.setIfInBounds_toArray, List.set_cons_zero, List.set_cons_succ])
  ((refine wpAnyH_take (i := 10) (v := ?_) (by (simp only [List.getElem?_toArray, List.getElem?_cons_succ, List.getElem?_cons_zero]); rfl) (by kernel_rfl) (by kernel_rfl) (by kernel_rfl) (by exact fun _ _ _ h => h) (Or.inl ⟨by rfl, ?_⟩) (by assumption) ?_); rotate_left; focus (intro wS hSw; (try dsimp only at hSw); go_simp; first | done | with_reducible rfl); try simp only [Act.put, List.setIfInBounds_toArray, List.set_cons_zero, List.set_cons_succ])
  ((refine wpAnyH_take (i := 11) (v := ?_) (by (simp only [List.getElem?_toArray, List.getElem?_cons_succ, List.getElem?_cons_zero]); rfl) (by kernel_rfl) (by kernel_rfl) (by kernel_rfl) (by exact fun _ _ _ h => h) (Or.inl ⟨by rfl, ?_⟩) (by assumption) ?_); rotate_left; focus (intro wS hSw; (try dsimp only at hSw); go_simp; first | done | with_reducible rfl); try simp only [Act.put, List.setIfInBounds_toArray, List.set_cons_zero, List.set_cons_succ])
  ((refine wpAnyH_take (i := 12) (v := ?_) (by (simp only [List.getElem?_toArray, List.getElem?_cons_succ, List.getElem?_cons_zero]); rfl) (by kernel_rfl) (by kernel_rfl) (by kernel_rfl) (by exact fun _ _ _ h => h) (Or.inl ⟨by rfl, ?_⟩) (by assumption) ?_); rotate_left; focus (intro wS hSw; (try dsimp only at hSw); go_simp; first | done | with_reducible rfl); try simp only [Act.put, List.setIfInBounds_toArray, List.set_cons_zero, List.set_cons_succ])
  ((refine wpAnyH_take (i := 13) (v := ?_) (by (simp only [List.getElem?_toArray, List.getElem?_cons_succ, List.getElem?_cons_zero]); rfl) (by kernel_rfl) (by kernel_rfl) (by kernel_rfl) (by exact fun _ _ _ h => h) (Or.inl ⟨by rfl, ?_⟩) (by assumption) ?_); rotate_left; focus (intro wS hSw; (try dsimp only at hSw); go_simp; first | done | with_reducible rfl); try simp only [Act.put, List.setIfInBounds_toArray, List.set_cons_zero, List.set_cons_succ])
  ((refine wpAnyH_take (i := 14) (v := ?_) (by (simp only [List.getElem?_toArray, List.getElem?_cons_succ, List.getElem?_cons_zero]); rfl) (by kernel_rfl) (by kernel_rfl) (by kernel_rfl) (by exact fun _ _ _ h => h) (Or.inl ⟨by rfl, ?_⟩) (by assumption) ?_); rotate_left; focus (intro wS hSw; (try dsimp only at hSw); go_simp; first | done | with_reducible rfl); try simp only [Act.put, List.setIfInBounds_toArray, List.set_cons_zero, List.set_cons_succ])
  ((refine wpAnyH_take (i := 15) (v := ?_) (by (simp only [List.getElem?_toArray, List.getElem?_cons_succ, List.getElem?_cons_zero]); rfl) (by kernel_rfl) (by kernel_rfl) (by kernel_rfl) (by exact fun _ _ _ h => h) (Or.inl ⟨by rfl, ?_⟩) (by assumption) ?_); rotate_left; focus (intro wS hSw; (try dsimp only at hSw); go_simp; first | done | with_reducible rfl); try simp only [Act.put, List.setIfInBounds_toArray, List.set_cons_zero, List.set_cons_succ])
  refine wpAnyH_ready (rs := [16]) (by kernel_rfl) (by simp) ?_
  refine AllReadyH.cons (by (simp only [List.getElem?_toArray, List.getElem?_cons_succ, List.getElem?_cons_zero]); rfl) (fun K hK => ?_) AllReadyH.nil
  rw [if_pos (by rfl)]
  refine op_append_run (.tmp 7) (.tmp 22) 23 (by kernel_rfl) (by kernel_rfl) (by kernel_rfl) HRUN.out ?_
  refine hK.out _ _ HS4.out (fun hHeld => ?_)
  clear hK K
  try simp only [Act.put, List.setIfInBounds_toArray, List.set_cons_zero, List.set_cons_succ]
  ((refine wpAnyH_take (i := 17) (v := ?_) (by (simp only [List.getElem?_toArray, List.getElem?_cons_succ, List.getElem?_cons_zero]); rfl) (by kernel_rfl) (by kernel_rfl) (by kernel_rfl) (by exact fun _ _ _ h => h) (Or.inl ⟨by rfl, ?_⟩) (by assumption) ?_); rotate_left; focus (intro wS hSw; (try dsimp only at hSw); go_simp; first | done | with_reducible rfl); try simp only [Act.put, List.setIfInBounds_toArray, List.set_cons_zero, List.set_cons_succ])
  refine wpAnyH_done (by kernel_rfl) ?_ _
  try simp only [Act.put, List.setIfInBounds_toArray, List.set_cons_zero, List.set_cons_succ]
  have x1 : W4.cell? ⟨R, 1, none⟩ = some (.int .i64 (p : Nat)) := cell_at HB4.out 1
  have xf : W4.frozen? ⟨R, 1, none⟩ = false := free_at HB4.out 1
  go_wp2_with fail
  go_ret
  exact ⟨_, ob4, rfl, HEND.out⟩
end
end Go.Proofs.YtiednacpmlilbaaDoor
