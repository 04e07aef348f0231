/-
  The form of an answer, by a hand.
-/
import Derived.Test.YtiednacpmlilbaaDoorWo
namespace Go.Proofs.YtiednacpmlilbaaDoor
open Go.RowKit
set_option linter.unusedSimpArgs false
set_option linter.unusedVariables false

variable {S : Type}
theorem At.frN {H : HS S} {W : World} {ty : TypeId} {g j : Nat} {v v' : Value} (h : At H W ty g j v) (hs : ¬ H.rd → v' = v) (ht : OkT ty) (hlo : ∀ g ty, H.rd → H.Pr g ty → H.lo ≤ g) : FrN H.lo W (W.setCell ⟨g, j, none⟩ v') := by
  by_cases hr : H.rd
  · rcases h with ⟨h1, _⟩ | ⟨cs, h1, h2, h3, h4⟩
    · exact absurd hr h1
    · have hf : Fr [g] W (W.setCell ⟨g, j, none⟩ v') := (Fr.refl _ _).setCell _ (.inl (by simp)) _
      refine ⟨hf.os, hf.tape, hf.output, hf.size, fun q hq => heap_setCell_ne W ⟨g, j, none⟩ v' q (fun e => by have := hlo g ty hr h2; dsimp only at e; omega), fun q c2 t2 hb2 h9 => (hf.block q hb2.lt ?_).trans hb2⟩
      intro hm
      obtain rfl := List.mem_singleton.1 hm
      have := hb2.symm.trans h1
      injection this with e'
      injection e' with e1 e2
      subst e2
      rcases h9 with h9 | h9 | h9
      · exact h3 h9
      · exact ht.2.2.2.1 h9
      · exact ht.2.2.2.2 h9
  · obtain rfl := hs hr
    exact ⟨rfl, rfl, rfl, by simp, fun q _ => setCell_same W g j v' h.cell q, fun q cs ty hb _ => (setCell_same W g j v' h.cell q).trans hb⟩
theorem Dp.int {H : HS S} {W : World} {ty : TypeId} {g j : Nat} {d : WD} (h : Dp H W .num ty g j d) : ∃ n : Int, d = .i n ∧ At H W ty g j (.int .i64 n) ∧ -9223372036854775808 ≤ n ∧ n ≤ 9223372036854775807 := by
  obtain ⟨v, h1, h2⟩ := h
  cases d with
  | i n =>
    obtain ⟨rfl, h3⟩ := h2
    exact ⟨n, rfl, h1, h3⟩
  | b l => exact h2.elim
theorem run_same {H : HS S} (HC : HandC H) (hr : ¬ H.rd) : ∀ {fs : List WF} {s s' : S} {ds ds' : List WD}, ds.length = fs.length → runFs H fs s ds = .ok (s', ds') → ds' = ds
  | [], s, s', [], ds', _, h => by
    have h' : (Except.ok (s, []) : Except Nat (S × List WD)) = .ok (s', ds') := h
    injection h' with h'
    injection h' with e1 e2
    exact e2.symm
  | f :: fs, s, s', d :: ds, ds', hl, h => by
    rcases h1 : H.step f s d with a | ⟨s1, d1⟩
    · rw [runFs_err H h1] at h; cases h
    · rw [runFs_ok H h1] at h
      rcases h2 : runFs H fs s1 ds with a | ⟨s2, ds2⟩
      · rw [h2] at h; cases h
      · rw [h2] at h
        injection h with h
        injection h with e1 e2
        rw [← e2, HC.same hr f s d s1 d1 h1, run_same HC hr (by simpa using hl) h2]
  | [], _, _, _ :: _, _, hl, _ => by simp at hl
  | _ :: _, _, _, [], _, hl, _ => by simp at hl
set_option maxRecDepth 100000 in
set_option maxHeartbeats 8000000 in
theorem answer_form {H : HS S} (HC : HandC H) : FormC H 64 5 answerW := by
  intro W s ty g j ds hI hD hP hty
  obtain ⟨d0, d1, d2, d3, d4, rfl⟩ := len5 hD.len
  obtain ⟨B0, hB0⟩ : ∃ n, n = W.heap.size := ⟨_, rfl⟩
  have HH := Lib.hid HC
  obtain ⟨D0, D1, D2, D3, D4, -⟩ := hD
  obtain ⟨n0, rfl, A0, hn0⟩ := D0.int
  unfold HS.hv fv
  go_enter Tryd.func64, Tryd.ntmps64
  go_upto_region 1 with fail
  rw [← hB0]
  obtain ⟨W0, hW0⟩ : ∃ W1, W1 = W.alloc (.cells #[.func (.func H.k0) #[H.bnd] #[], .func (.func H.k1) #[H.bnd] #[], .func (.func H.k2) #[H.bnd] #[], .func (.func H.k3) #[H.bnd] #[], .func (.func H.k4) #[H.bnd] #[], .func (.func H.k5) #[H.bnd] #[]] 85) := ⟨_, rfl⟩
  rw [← hW0]
  have hbel : Below W.heap.size W W0 := by rw [hW0]; exact alloc_b _ _
  have hbk := (show Blk W0 B0 H.cs 85 by rw [hW0, hB0]; exact blk_new _ _ _)
  have hpr := (HC.new W s B0 85 hI (by omega) (by decide))
  have hS0 : W0.heap.size = B0 + 1 := by rw [hW0]; simp [← hB0]
  have a0 := A0.fr (HC.frB hI hbel (fun _ _ _ => False)) id
  have hF0 := HC.frB hI hbel (cellN ty g j 5)
  have HI0 := HC.inB hI hbel
  have hq0 : W0.cell? ⟨g, j, none⟩ = some (.int .i64 n0) := a0.cell
  obtain ⟨B1, hB1⟩ : ∃ n, n = W0.heap.size := ⟨_, rfl⟩
  have hBel : Below W.heap.size W W0 := hbel
  have HPK := Lib.hid (And.intro hI (And.intro hP (And.intro hty (And.intro hbel (And.intro D1 (And.intro D2 (And.intro D3 D4)))))))
  have HQK := Lib.hid (And.intro hbk (And.intro hpr (And.intro HI0 (And.intro hF0 (And.intro hB1 (And.intro hS0 (And.intro hn0 a0)))))))
  clear hW0 hbel hbk hpr hF0 HI0 hI hP hty D0 D1 D2 D3 D4 A0 a0 hBel hS0 hB1 hB0 hn0
  go_upto_region 2 with fail
  obtain ⟨hI, hP, hty, hbel, D1, D2, D3, D4⟩ := HPK.out
  obtain ⟨hbk, hpr, HI0, hF0, hB1, hS0, hn0, a0⟩ := HQK.out
  clear HPK HQK hq0
  rw [← hB1]
  obtain ⟨W1, hW1⟩ : ∃ X, X = W0.alloc (.cells #[.int .i64 n0] 3) := ⟨_, rfl⟩
  rw [← hW1]
  have hb2 : Below W0.heap.size W0 W1 := by rw [hW1]; exact alloc_b _ _
  have hb3 : Below W.heap.size W W1 := hbel.trans (hb2.mono hbel.size)
  have hF1 := HC.frB hI hb3 (fun _ _ _ => False)
  have HBK := Lib.hid (hbk.step hb2)
  have HPR := Lib.hid hpr
  have hbe : Blk W1 B1 #[.int .i64 n0] 3 := by rw [hW1, hB1]; exact blk_new _ _ _
  have HD0 := Lib.hid (show Dp H W1 .num 3 B1 0 (.i n0) from ⟨_, At.new HC hI (by have := hbel.size; omega) hbe (by decide) rfl, rfl, hn0⟩)
  have HA0 := Lib.hid (a0.fr (HC.frB HI0 hb2 (fun _ _ _ => False)) id)
  have HD1 := Lib.hid (D1.fr hF1 id)
  have HD2 := Lib.hid (D2.fr hF1 id)
  have HD3 := Lib.hid (D3.fr hF1 id)
  have HD4 := Lib.hid (D4.fr hF1 id)
  have HI := Lib.hid (HC.inB hI hb3)
  have HF := Lib.hid (HC.frB hI hb3 (cellN ty g j 5))
  have HP := Lib.hid hP
  have HTY := Lib.hid hty
  have HLT := Lib.hid (show W.heap.size ≤ B1 by have := hbel.size; omega)
  have HI9 := Lib.hid hI
  clear hI hP hty hbel D1 D2 D3 D4 hbk hpr HI0 hF0 hB1 hS0 hn0 a0 hW1 hb2 hb3 hF1 hbe
  refine wp_region_held_drew (S := fun X => X.cell? ⟨B0, 0, none⟩ = some (.func (.func H.k0) #[H.bnd] #[]) ∧ X.cell? ⟨B0, 1, none⟩ = some (.func (.func H.k1) #[H.bnd] #[]) ∧ X.cell? ⟨B0, 2, none⟩ = some (.func (.func H.k2) #[H.bnd] #[]) ∧ X.cell? ⟨B0, 3, none⟩ = some (.func (.func H.k3) #[H.bnd] #[]) ∧ X.cell? ⟨B0, 4, none⟩ = some (.func (.func H.k4) #[H.bnd] #[]) ∧ X.cell? ⟨B0, 5, none⟩ = some (.func (.func H.k5) #[H.bnd] #[])) (by kernel_rfl) (⟨cell_at HBK.out 0, cell_at HBK.out 1, cell_at HBK.out 2, cell_at HBK.out 3, cell_at HBK.out 4, cell_at HBK.out 5⟩) (fun hHeld => ?_)
  ((refine wpAnyH_take (i := 0) (v := ?_) (by (simp only [List.getElem?_toArray, List.getElem?_cons_succ, List.getElem?_cons_zero]); rfl) (by kernel_rfl) (by kernel_rfl) (by kernel_rfl) (by exact fun _ _ _ h => h) (Or.inl ⟨by rfl, ?_⟩) (by assumption) ?_); rotate_left; focus (intro wS hSw; (try dsimp only at hSw); go_simp; first | done | with_reducible rfl); try simp only [Act.put, List.setIfInBounds_toArray, List.set_cons_zero, List.set_cons_succ])
  ((refine wpAnyH_take (i := 1) (v := ?_) (by (simp only [List.getElem?_toArray, List.getElem?_cons_succ, List.getElem?_cons_zero]); rfl) (by kernel_rfl) (by kernel_rfl) (by kernel_rfl) (by exact fun _ _ _ h => h) (Or.inl ⟨by rfl, ?_⟩) (by assumption) ?_); rotate_left; focus (intro wS hSw; (try dsimp only at hSw); go_simp; first | done | with_reducible rfl); try simp only [Act.put, List.setIfInBounds_toArray, List.set_cons_zero, List.set_cons_succ])
  ((refine wpAnyH_take (i := 2) (v := ?_) (by (simp only [List.getElem?_toArray, List.getElem?_cons_succ, List.getElem?_cons_zero]); rfl) (by kernel_rfl) (by kernel_rfl) (by kernel_rfl) (by exact fun _ _ _ h => h) (Or.inl ⟨by rfl, ?_⟩) (by assumption) ?_); rotate_left; focus (intro wS hSw; (try dsimp only at hSw); go_simp; first | done | with_reducible rfl); try simp only [Act.put, List.setIfInBounds_toArray, List.set_cons_zero, List.set_cons_succ])
  ((refine wpAnyH_take (i := 3) (v := ?_) (by (simp only [List.getElem?_toArray, List.getElem?_cons_succ, List.getElem?_cons_zero]); rfl) (by kernel_rfl) (by kernel_rfl) (by kernel_rfl) (by exact fun _ _ _ h => h) (Or.inl ⟨by rfl, ?_⟩) (by assumption) ?_); rotate_left; focus (intro wS hSw; (try dsimp only at hSw); go_simp; first | done | with_reducible rfl); try simp only [Act.put, List.setIfInBounds_toArray, List.set_cons_zero, List.set_cons_succ])
  ((refine wpAnyH_take (i := 4) (v := ?_) (by (simp only [List.getElem?_toArray, List.getElem?_cons_succ, List.getElem?_cons_zero]); rfl) (by kernel_rfl) (by kernel_rfl) (by kernel_rfl) (by exact fun _ _ _ h => h) (Or.inl ⟨by rfl, ?_⟩) (by assumption) ?_); rotate_left; focus (intro wS hSw; (try dsimp only at hSw); go_simp; first | done | with_reducible rfl); try simp only [Act.put, List.setIfInBounds_toArray, List.set_cons_zero, List.set_cons_succ])
  ((refine wpAnyH_take (i := 5) (v := ?_) (by (simp only [List.getElem?_toArray, List.getElem?_cons_succ, List.getElem?_cons_zero]); rfl) (by kernel_rfl) (by kernel_rfl) (by kernel_rfl) (by exact fun _ _ _ h => h) (Or.inl ⟨by rfl, ?_⟩) (by assumption) ?_); rotate_left; focus (intro wS hSw; (try dsimp only at hSw); go_simp; first | done | with_reducible rfl); try simp only [Act.put, List.setIfInBounds_toArray, List.set_cons_zero, List.set_cons_succ])
  ((refine wpAnyH_take (i := 6) (v := ?_) (by (simp only [List.getElem?_toArray, List.getElem?_cons_succ, List.getElem?_cons_zero]); rfl) (by kernel_rfl) (by kernel_rfl) (by kernel_rfl) (by exact fun _ _ _ h => h) (Or.inl ⟨by rfl, ?_⟩) (by assumption) ?_); rotate_left; focus (intro wS hSw; (try dsimp only at hSw); go_simp; first | done | with_reducible rfl); try simp only [Act.put, List.setIfInBounds_toArray, List.set_cons_zero, List.set_cons_succ])
  ((refine wpAnyH_take (i := 7) (v := ?_) (by (simp only [List.getElem?_toArray, List.getElem?_cons_succ, List.getElem?_cons_zero]); rfl) (by kernel_rfl) (by kernel_rfl) (by kernel_rfl) (by exact fun _ _ _ h => h) (Or.inl ⟨by rfl, ?_⟩) (by assumption) ?_); rotate_left; focus (intro wS hSw; (try dsimp only at hSw); go_simp; first | done | with_reducible rfl); try simp only [Act.put, List.setIfInBounds_toArray, List.set_cons_zero, List.set_cons_succ])
  ((refine wpAnyH_take (i := 8) (v := ?_) (by (simp only [List.getElem?_toArray, List.getElem?_cons_succ, List.getElem?_cons_zero]); rfl) (by kernel_rfl) (by kernel_rfl) (by kernel_rfl) (by exact fun _ _ _ h => h) (Or.inl ⟨by rfl, ?_⟩) (by assumption) ?_); rotate_left; focus (intro wS hSw; (try dsimp only at hSw); go_simp; first | done | with_reducible rfl); try simp only [Act.put, List.setIfInBounds_toArray, List.set_cons_zero, List.set_cons_succ])
  ((refine wpAnyH_take (i := 9) (v := ?_) (by (simp only [List.getElem?_toArray, List.getElem?_cons_succ, List.getElem?_cons_zero]); rfl) (by kernel_rfl) (by kernel_rfl) (by kernel_rfl) (by exact fun _ _ _ h => h) (Or.inl ⟨by rfl, ?_⟩) (by assumption) ?_); rotate_left; focus (intro wS hSw; (try dsimp only at hSw); go_simp; first | done | with_reducible rfl); try simp only [Act.put, List.setIfInBounds_toArray, List.set_cons_zero, List.set_cons_succ])
  ((refine wpAnyH_take (i := 10) (v := ?_) (by (simp only [List.getElem?_toArray, List.getElem?_cons_succ, List.getElem?_cons_zero]); rfl) (by kernel_rfl) (by kernel_rfl) (by kernel_rfl) (by exact fun _ _ _ h => h) (Or.inl ⟨by rfl, ?_⟩) (by assumption) ?_); rotate_left; focus (intro wS hSw; (try dsimp only at hSw); go_simp; first | done | with_reducible rfl); try simp only [Act.put, List.setIfInBounds_toArray, List.set_cons_zero, List.set_cons_succ])
  ((refine wpAnyH_take (i := 11) (v := ?_) (by (simp only [List.getElem?_toArray, List.getElem?_cons_succ, List.getElem?_cons_zero]); rfl) (by kernel_rfl) (by kernel_rfl) (by kernel_rfl) (by exact fun _ _ _ h => h) (Or.inl ⟨by rfl, ?_⟩) (by assumption) ?_); rotate_left; focus (intro wS hSw; (try dsimp only at hSw); go_simp; first | done | with_reducible rfl); try simp only [Act.put, List.setIfInBounds_toArray, List.set_cons_zero, List.set_cons_succ])
  ((refine wpAnyH_take (i := 12) (v := ?_) (by (simp only [List.getElem?_toArray, List.getElem?_cons_succ, List.getElem?_cons_zero]); rfl) (by kernel_rfl) (by kernel_rfl) (by kernel_rfl) (by exact fun _ _ _ h => h) (Or.inl ⟨by rfl, ?_⟩) (by assumption) ?_); rotate_left; focus (intro wS hSw; (try dsimp only at hSw); go_simp; first | done | with_reducible rfl); try simp only [Act.put, List.setIfInBounds_toArray, List.set_cons_zero, List.set_cons_succ])
  refine wpAnyH_ready (rs := [13]) (by kernel_rfl) (by simp) ?_
  refine AllReadyH.cons (by (simp only [List.getElem?_toArray, List.getElem?_cons_succ, List.getElem?_cons_zero]); rfl) (fun K hK => ?_) AllReadyH.nil
  rw [if_pos (by rfl)]
  go_simp
  have hbA : Below W1.heap.size W1 (W1.drew.alloc (.cells #[.pointer (some ⟨B1, 0, none⟩), .pointer (some ⟨g, j + 1, none⟩), .pointer (some ⟨g, j + 2, none⟩), .pointer (some ⟨g, j + 3, none⟩), .pointer (some ⟨g, j + 4, none⟩)] 150)) := (drew_b W1).alloc (Nat.le_refl _) _
  have HBA := Lib.hid (HBK.out.step hbA)
  clear hbA
  refine hK.out _ _ (⟨cell_at HBA.out 0, cell_at HBA.out 1, cell_at HBA.out 2, cell_at HBA.out 3, cell_at HBA.out 4, cell_at HBA.out 5⟩) (fun hHeld => ?_)
  clear hK K
  try simp only [Act.put, List.setIfInBounds_toArray, List.set_cons_zero, List.set_cons_succ]
  refine wpAnyH_ready (rs := [14]) (by kernel_rfl) (by simp) ?_
  refine AllReadyH.cons (by (simp only [List.getElem?_toArray, List.getElem?_cons_succ, List.getElem?_cons_zero]); rfl) (fun K hK => ?_) AllReadyH.nil
  go_simp
  have HC1 : Hid (Calls Tryd.prog 93 #[H.hv, .slice (some ⟨W1.heap.size, 0, none⟩) 5 5] (W1.drew.alloc (.cells #[.pointer (some ⟨B1, 0, none⟩), .pointer (some ⟨g, j + 1, none⟩), .pointer (some ⟨g, j + 2, none⟩), .pointer (some ⟨g, j + 3, none⟩), .pointer (some ⟨g, j + 4, none⟩)] 150)) (EndS H (fun t q i => (t, q, i) ∈ [(3, B1, 0), (ty, g, j + 1), (ty, g, j + 2), (ty, g, j + 3), (ty, g, j + 4)]) W1 (runFs H (nmW 5) s [.i n0, d1, d2, d3, d4]) fun x W' => H.In W' x.1 ∧ DpN H W' [(3, B1, 0), (ty, g, j + 1), (ty, g, j + 2), (ty, g, j + 3), (ty, g, j + 4)] x.2)) := by
    have hB : Below W1.heap.size W1 (W1.drew.alloc (.cells #[.pointer (some ⟨B1, 0, none⟩), .pointer (some ⟨g, j + 1, none⟩), .pointer (some ⟨g, j + 2, none⟩), .pointer (some ⟨g, j + 3, none⟩), .pointer (some ⟨g, j + 4, none⟩)] 150)) := (drew_b W1).alloc (Nat.le_refl _) _
    have hF := HH.out.frB HI.out hB (fun _ _ _ => False)
    have hb : Blk (W1.drew.alloc (.cells #[.pointer (some ⟨B1, 0, none⟩), .pointer (some ⟨g, j + 1, none⟩), .pointer (some ⟨g, j + 2, none⟩), .pointer (some ⟨g, j + 3, none⟩), .pointer (some ⟨g, j + 4, none⟩)] 150)) W1.heap.size #[.pointer (some ⟨B1, 0, none⟩), .pointer (some ⟨g, j + 1, none⟩), .pointer (some ⟨g, j + 2, none⟩), .pointer (some ⟨g, j + 3, none⟩), .pointer (some ⟨g, j + 4, none⟩)] 150 := blk_new _ _ _
    refine Lib.hid (Calls.mono (numbers_any HH.out (W1.drew.alloc (.cells #[.pointer (some ⟨B1, 0, none⟩), .pointer (some ⟨g, j + 1, none⟩), .pointer (some ⟨g, j + 2, none⟩), .pointer (some ⟨g, j + 3, none⟩), .pointer (some ⟨g, j + 4, none⟩)] 150)) s [(3, B1, 0), (ty, g, j + 1), (ty, g, j + 2), (ty, g, j + 3), (ty, g, j + 4)] [.i n0, d1, d2, d3, d4] W1.heap.size 5 (HH.out.inB HI.out hB) rfl (by omega) ⟨rfl, fun i t d hi hd => ?_⟩ ?_ ?_ ?_ HP.out) ?_)
    · match i, hi, hd with
      | 0, hi, hd => cases hi; cases hd; exact HD0.out.fr hF id
      | 1, hi, hd => cases hi; cases hd; exact HD1.out.fr hF id
      | 2, hi, hd => cases hi; cases hd; exact HD2.out.fr hF id
      | 3, hi, hd => cases hi; cases hd; exact HD3.out.fr hF id
      | 4, hi, hd => cases hi; cases hd; exact HD4.out.fr hF id
      | i + 5, hi, hd => simp at hi
    · have h1 := HTY.out.2.2.1
      simp [Ne.symm h1]
    · intro t htm
      simp only [List.mem_cons, List.not_mem_nil, or_false] at htm
      rcases htm with rfl | rfl | rfl | rfl | rfl
      · exact ⟨show 3 ≠ 85 by decide, show 3 ≠ 150 by decide⟩
      all_goals exact ⟨HTY.out.1, HTY.out.2.1⟩
    · intro i t hi
      match i, hi with
      | 0, hi => cases hi; exact At.new HH.out HI.out (Nat.le_refl _) hb (by decide) rfl
      | 1, hi => cases hi; exact At.new HH.out HI.out (Nat.le_refl _) hb (by decide) rfl
      | 2, hi => cases hi; exact At.new HH.out HI.out (Nat.le_refl _) hb (by decide) rfl
      | 3, hi => cases hi; exact At.new HH.out HI.out (Nat.le_refl _) hb (by decide) rfl
      | 4, hi => cases hi; exact At.new HH.out HI.out (Nat.le_refl _) hb (by decide) rfl
      | i + 5, hi => simp at hi
    · rintro e W' ⟨h1, h2⟩
      exact ⟨(HH.out.frB HI.out hB (fun _ _ _ => False)).trans h1 (fun _ _ _ h => h.elim) (fun _ _ _ h => h), h2⟩
  clear HBA
  have HSUB : Hid (FrA H (cellN ty g j 5) W W1 → ∀ W2, FrA H (fun t q i => (t, q, i) ∈ [(3, B1, 0), (ty, g, j + 1), (ty, g, j + 2), (ty, g, j + 3), (ty, g, j + 4)]) W1 W2 → FrA H (cellN ty g j 5) W W2) := by
    refine Lib.hid fun h1 W2 h2 => ⟨h2.os.trans h1.os, h2.tape.trans h1.tape, h2.output.trans h1.output, Nat.le_trans h1.size h2.size, fun q hq => (h2.old q hq).trans (h1.old q hq), fun q cs t hb hp => ?_⟩
    obtain ⟨c1, k1, k2, k3⟩ := h1.blk q cs t hb hp
    obtain ⟨c2, l1, l2, l3⟩ := h2.blk q c1 t k1 hp
    refine ⟨c2, l1, l2.trans k2, fun i hi => (l3 i (hi.imp id fun hn h => hn ⟨h.1, ?_⟩)).trans (k3 i hi)⟩
    have hm := h.2
    simp only [List.mem_cons, List.not_mem_nil, or_false, Prod.mk.injEq] at hm
    have hlt := hb.lt
    have := HLT.out
    rcases hm with ⟨_, h1, _⟩ | ⟨h1, h2, h3⟩ | ⟨h1, h2, h3⟩ | ⟨h1, h2, h3⟩ | ⟨h1, h2, h3⟩
    · omega
    all_goals exact ⟨h1, h2, by omega, by omega⟩
  rcases hst : runFs H (nmW 5) s [.i n0, d1, d2, d3, d4] with a | ⟨s1, xs⟩
  · refine Calls.mono (endS_err HC1.out hst) ?_
    rintro e W2 ⟨hF2, rfl⟩
    exact (show _ ∧ EndS H (cellN ty g j 5) W _ _ _ _ from ⟨rfl, HSUB.out HF.out _ hF2, by rw [show runFs H answerW s [.i n0, d1, d2, d3, d4] = _ from hst]⟩)
  refine Calls.mono (endS_ok HC1.out hst) ?_
  rintro e W2 ⟨hF2, rfl, hI2, hD2⟩
  obtain ⟨x0, x1, x2, x3, x4, rfl⟩ := len5 hD2.1
  have d0 := hD2.2 0 _ _ rfl rfl
  obtain ⟨m0, rfl, am, hm0⟩ := d0.int
  have a2 := HA0.out.fr hF2 (fun h => by
    have h1 := HTY.out.2.2.1
    simp only [List.mem_cons, List.not_mem_nil, or_false, Prod.mk.injEq] at h
    rcases h with h | h | h | h | h
    · exact h1 h.1
    all_goals omega)
  have HBK2 := Lib.hid (blk_keep HBK.out HPR.out hF2 (fun i h => by
    have h1 := HTY.out.1
    simp only [List.mem_cons, List.not_mem_nil, or_false, Prod.mk.injEq] at h
    rcases h with h | h | h | h | h
    · exact absurd h.1 (show 85 ≠ 3 by decide)
    all_goals exact h1 h.1.symm))
  have hsm : ¬ H.rd → (Value.int .i64 m0) = .int .i64 n0 := fun hr => by
    have := run_same HH.out hr (by rfl) hst
    injection this with e1 e2
    injection e1 with e1
    rw [e1]
  have hst2 := a2.store hsm HH.out.old
  have hfn := a2.frN hsm HTY.out HH.out.old
  have HEND := Lib.hid (And.intro (HSUB.out HF.out _ hF2) (And.intro hst2 (And.intro (HH.out.fr _ _ _ hI2 hfn) (And.intro hm0 (And.intro (hD2.2 1 _ _ rfl rfl) (And.intro (hD2.2 2 _ _ rfl rfl) (And.intro (hD2.2 3 _ _ rfl rfl) (hD2.2 4 _ _ rfl rfl))))))))
  have HST := Lib.hid hst
  have p0 : W2.cell? ⟨B1, 0, none⟩ = some (.int .i64 m0) := am.cell
  have p1 : W2.cell? ⟨g, j, none⟩ = some (.int .i64 n0) := a2.cell
  have p2 : W2.frozen? ⟨g, j, none⟩ = false := a2.free
  replace HBK := HBK2
  clear HBK2 hst hF2 hI2 hD2 d0 am hm0 a2 hsm hst2 hfn HC1 HSUB
  refine hK.out _ _ (⟨cell_at HBK.out 0, cell_at HBK.out 1, cell_at HBK.out 2, cell_at HBK.out 3, cell_at HBK.out 4, cell_at HBK.out 5⟩) (fun hHeld => ?_)
  clear hK K
  try simp only [Act.put, List.setIfInBounds_toArray, List.set_cons_zero, List.set_cons_succ]
  refine wpAnyH_done (by kernel_rfl) ?_ _
  try simp only [Act.put, List.setIfInBounds_toArray, List.set_cons_zero, List.set_cons_succ]
  go_wp2_with fail
  go_end0
  obtain ⟨hF, ⟨hS1, hS2⟩, hI, hm0, e1, e2, e3, e4⟩ := HEND.out
  refine ⟨hF.trans hS1 (fun _ _ _ h => h) (fun t q i h => ⟨h.1, h.2.1, by have := h.2.2; omega, by have := h.2.2; omega⟩), ?_⟩
  rw [show runFs H answerW s [.i n0, d1, d2, d3, d4] = _ from HST.out]
  exact ⟨rfl, hI, ⟨_, hS2, rfl, hm0⟩, e1.fr hS1 (fun h => by have := h.2.2; omega), e2.fr hS1 (fun h => by have := h.2.2; omega), e3.fr hS1 (fun h => by have := h.2.2; omega), e4.fr hS1 (fun h => by have := h.2.2; omega), trivial⟩
end Go.Proofs.YtiednacpmlilbaaDoor
