/-
  The pen: count, text; a hand.
-/
import Derived.Test.YtiednacpmlilbaaDoorWp1
import Derived.Test.YtiednacpmlilbaaDoorWp2
import Derived.Test.YtiednacpmlilbaaDoorWp3
namespace Go.Proofs.YtiednacpmlilbaaDoor
open Go.RowKit
set_option linter.unusedSimpArgs false
set_option linter.unusedVariables false

theorem pen_anyA {p : Nat} {A B : TypeId → Nat → Nat → Prop} {W W' : World} (h : FrA (penS p) A W W') : FrA (penS p) B W W' :=
  ⟨h.os, h.tape, h.output, h.size, h.old, fun q cs ty hb hp => by
    obtain ⟨c1, k1, k2, k3⟩ := h.blk q cs ty hb hp
    exact ⟨c1, k1, k2, fun j _ => k3 j (.inr fun h => h.1)⟩⟩
theorem pen_below {p : Nat} {W W' : World} {s : List Nat} (hI : (penS p).In W s) (hB : Below W.heap.size W W') (A : TypeId → Nat → Nat → Prop) : FrA (penS p) A W W' := below_frA hB (pen_lo hI) A
set_option maxRecDepth 100000 in
set_option maxHeartbeats 8000000 in
theorem pen_count (p : Nat) : CntC (penS p) 91 := by
  intro W s n least hI hP
  obtain ⟨PO, hPO⟩ : ∃ PO : World → Prop, PO = fun W' => FrA (penS p) (fun _ _ _ => False) W W' ∧ (penS p).In W' (s ++ e8 (n : Nat)) := ⟨_, rfl⟩
  suffices hsuf : Calls Tryd.prog 91 #[.pointer (some ⟨p, 0, none⟩), .int .i64 (n : Nat), .int .i64 (least : Nat)] W (fun e W' => e = .returned (.int .i64 (n : Nat)) ∧ PO W') from Calls.mono hsuf fun e W' h => by
    obtain ⟨h1, h2⟩ := h
    rw [hPO] at h2
    exact ⟨h2.1, h1, h2.2⟩
  obtain ⟨N, hN⟩ : ∃ N, N = W.heap.size := ⟨_, rfl⟩
  obtain ⟨W1, hW1⟩ : ∃ X, X = W.alloc (.cells #[.int .i64 (n : Nat)] 3) := ⟨_, rfl⟩
  have hB1 : Below W.heap.size W W1 := by rw [hW1]; exact alloc_b _ _
  have hb1 : Blk W1 N #[.int .i64 (n : Nat)] 3 := by rw [hW1, hN]; exact blk_new _ _ _
  have hI1 := pen_frN hI (below_frN hB1 (pen_lo hI))
  have hA1 : At (penS p) W1 3 N 0 (.int .i64 (n : Nat)) := .inr ⟨_, hb1, pen_new hI (by omega) (by decide), by decide, rfl⟩
  obtain ⟨hp1, hp2⟩ : n ≤ 9223372036854775807 ∧ s.length + 8 ≤ 1000000000 := hP
  have hcall : Calls Tryd.prog 86 #[.pointer (some ⟨p, 0, none⟩), .pointer (some ⟨N, 0, none⟩)] W1 (fun e W' => e = .returned (.tuple #[]) ∧ PO W' ∧ W'.cell? ⟨N, 0, none⟩ = some (.int .i64 (n : Nat))) := by
    refine Calls.mono (pen_number p W1 s 3 N 0 (.i (n : Nat)) hI1 ⟨_, hA1, rfl, by omega, by omega⟩ ⟨⟨by omega, by omega⟩, hp2⟩) ?_
    rintro e W' ⟨h1, h2, h3, v, h4, h5⟩
    rw [hPO]
    refine ⟨h2, ⟨(pen_below hI hB1 (fun _ _ _ => False)).trans (pen_anyA h1) (fun _ _ _ h => h) (fun _ _ _ h => h), h3⟩, ?_⟩
    rw [← h5.1]
    exact h4.cell
  have HC1 := Lib.hid hcall
  clear hPO hI hI1 hA1 hB1 hb1 hcall
  go_enter Tryd.func91, Tryd.ntmps91
  go_upto_region 1 with fail
  rw [← hN, ← hW1]
  clear hW1 hN
  go_wp2_with (refine Calls.mono HC1.out ?_; rintro e W2 ⟨rfl, hPO, hc⟩)
  have HPO := Lib.hid hPO
  clear hPO HC1
  go_wp2_with fail
  try rw [Exit.noGoto_ret]
  exact bodyPost_ret (v := .int .i64 (n : Nat)) (by simp [results, Tryd.results91, go_sem]) rfl ⟨rfl, HPO.out⟩
set_option maxRecDepth 100000 in
set_option maxHeartbeats 8000000 in
theorem pen_text (p : Nat) : StepC (penS p) .text 90 := by
  intro W s ty g j d hI hD hP
  obtain ⟨x, hAt, hCD⟩ := hD
  cases d with
  | i n => exact hCD.elim
  | b l =>
    obtain ⟨a, b, o, c, rfl, hby, hbl⟩ := hCD
    have hgp := pen_nep hI hAt
    have hp1 : s.length + (e8 (l.length : Nat) ++ l).length ≤ 1000000000 := hP.2
    rw [List.length_append, e8_len] at hp1
    have hTB : TB (penS p) W (.slice a l.length c) l := ⟨a, b, o, c, rfl, hby, hbl⟩
    have hC1 := pen_count p W s l.length 1 hI ⟨by omega, by omega⟩
    obtain ⟨PO, hPO⟩ : ∃ PO : World → Prop, PO = fun W' => FrA (penS p) (cell1 ty g j) W W' ∧ (penS p).In W' (s ++ (e8 (l.length : Nat) ++ l)) ∧ Dp (penS p) W' .text ty g j (.b l) := ⟨_, rfl⟩
    suffices hsuf : Calls Tryd.prog 90 #[.pointer (some ⟨p, 0, none⟩), .pointer (some ⟨g, j, none⟩)] W (fun e W' => e = .returned (.tuple #[]) ∧ PO W') from Calls.mono hsuf fun e W' h => by
      obtain ⟨h1, h2⟩ := h
      rw [hPO] at h2
      exact ⟨h2.1, h1, h2.2⟩
    have HEND := Lib.hid (fun W2 W' (h0 : FrA (penS p) (fun _ _ _ => False) W W2) (h1 : FrA (penS p) (fun _ _ _ => False) W2 W') (h2 : (penS p).In W' (s ++ e8 (l.length : Nat) ++ l)) => show PO W' by rw [hPO]; exact ⟨pen_anyA (h0.trans h1 (C := fun _ _ _ => False) (fun _ _ _ h => h) (fun _ _ _ h => h)), by rw [← List.append_assoc]; exact h2, _, (hAt.fr h0 id).fr h1 id, (hTB.fr h0).fr h1⟩)
    have HA := Lib.hid hAt
    have HTB := Lib.hid hTB
    have HC1 := Lib.hid (show Calls Tryd.prog 91 #[.pointer (some ⟨p, 0, none⟩), .int .i64 (l.length : Nat), .int .i64 (1 : Int)] W (fun e W' => FrA (penS p) (fun _ _ _ => False) W W' ∧ e = .returned (.int .i64 (l.length : Nat)) ∧ (penS p).In W' (s ++ e8 (l.length : Nat))) from hC1)
    have q0 : W.cell? ⟨g, j, none⟩ = some (.slice a l.length c) := hAt.cell
    obtain ⟨n, hn⟩ : ∃ n, n = l.length := ⟨_, rfl⟩
    rw [← hn] at q0 HC1 HA HTB HEND
    have HN := Lib.hid hn
    have HP := Lib.hid hp1
    clear hPO hAt hI hP hn hp1 hTB hC1 hby hbl
    go_enter Tryd.func90, Tryd.ntmps90
    go_wp2_with (refine Calls.mono HC1.out ?_; rintro e W1 ⟨hF1, rfl, hI1⟩)
    have hA1 := HA.out.fr hF1 id
    have hI0 := hI1
    obtain ⟨v, ob, hb, ho⟩ := hI1
    have hT1 := (HTB.out.fr hF1).fr (pen_below hI0 (drew_b W1) (fun _ _ _ => False))
    have hbv : BV W1.drew (.slice a n c) l := by
      obtain ⟨a1, b1, o1, c1, e1, k1, _⟩ := hT1
      exact ⟨a1, b1, o1, c1, e1, k1⟩
    obtain ⟨a', n', c', W2, hr, hb2, hF2, hF3, hI2⟩ := pen_app 23 hb ho (drew_b W1) hbv (by have := HP.out; rw [List.length_append, e8_len]; omega) (fun _ _ _ => False)
    have HRUN := Lib.hid hr
    have HA2 := Lib.hid (hA1.fr hF2 id)
    have HA3 := Lib.hid (hA1.fr hF3 id)
    have HAD := Lib.hid (hA1.fr (pen_below hI0 (drew_b W1) (fun _ _ _ => False)) id)
    have HE2 := Lib.hid (HEND.out _ _ hF1 hF3 (by rw [HN.out]; rw [HN.out] at hI2; exact hI2))
    have c0 : W1.drew.cell? ⟨p, 0, none⟩ = some v := cell_at (hb.step (drew_b W1)) 0
    have c2 : W2.cell? ⟨p, 0, none⟩ = some v := cell_at hb2 0
    have f2 : W2.frozen? ⟨p, 0, none⟩ = false := free_at hb2 0
    clear hr hF1 hA1 hI0 hb ho hT1 hbv hF2 hF3 hI2 hb2 HC1 q0
    go_upto_region 1 with fail
    refine wp_region_held_drew (S := fun X => X.cell? ⟨g, j, none⟩ = some (.slice a n c)) (by kernel_rfl) HAD.out.cell (fun hHeld => ?_)
    ((refine wpAnyH_take (i := 0) (v := ?_) (by (simp only [List.getElem?_toArray, List.getElem?_cons_succ, List.getElem?_cons_zero]); rfl) (by kernel_rfl) (by kernel_rfl) (by kernel_rfl) (by exact fun _ _ _ h => h) (Or.inl ⟨by rfl, ?_⟩) (by assumption) ?_); rotate_left; focus (intro wS hSw; (try dsimp only at hSw); go_simp; first | done | with_reducible rfl); try simp only [Act.put, List.setIfInBounds_toArray, List.set_cons_zero, List.set_cons_succ])
    ((refine wpAnyH_take (i := 1) (v := ?_) (by (simp only [List.getElem?_toArray, List.getElem?_cons_succ, List.getElem?_cons_zero]); rfl) (by kernel_rfl) (by kernel_rfl) (by kernel_rfl) (by exact fun _ _ _ h => h) (Or.inl ⟨by rfl, ?_⟩) (by assumption) ?_); rotate_left; focus (intro wS hSw; (try dsimp only at hSw); go_simp; first | done | with_reducible rfl); try simp only [Act.put, List.setIfInBounds_toArray, List.set_cons_zero, List.set_cons_succ])
    ((refine wpAnyH_take (i := 2) (v := ?_) (by (simp only [List.getElem?_toArray, List.getElem?_cons_succ, List.getElem?_cons_zero]); rfl) (by kernel_rfl) (by kernel_rfl) (by kernel_rfl) (by exact fun _ _ _ h => h) (Or.inl ⟨by rfl, ?_⟩) (by assumption) ?_); rotate_left; focus (intro wS hSw; (try dsimp only at hSw); go_simp; first | done | with_reducible rfl); try simp only [Act.put, List.setIfInBounds_toArray, List.set_cons_zero, List.set_cons_succ])
    ((refine wpAnyH_take (i := 3) (v := ?_) (by (simp only [List.getElem?_toArray, List.getElem?_cons_succ, List.getElem?_cons_zero]); rfl) (by kernel_rfl) (by kernel_rfl) (by kernel_rfl) (by exact fun _ _ _ h => h) (Or.inl ⟨by rfl, ?_⟩) (by assumption) ?_); rotate_left; focus (intro wS hSw; (try dsimp only at hSw); go_simp; first | done | with_reducible rfl); try simp only [Act.put, List.setIfInBounds_toArray, List.set_cons_zero, List.set_cons_succ])
    ((refine wpAnyH_take (i := 5) (v := ?_) (by (simp only [List.getElem?_toArray, List.getElem?_cons_succ, List.getElem?_cons_zero]); rfl) (by kernel_rfl) (by kernel_rfl) (by kernel_rfl) (by exact fun _ _ _ h => h) (Or.inl ⟨by rfl, ?_⟩) (by assumption) ?_); rotate_left; focus (intro wS hSw; (try dsimp only at hSw); go_simp; first | done | with_reducible rfl); try simp only [Act.put, List.setIfInBounds_toArray, List.set_cons_zero, List.set_cons_succ])
    ((refine wpAnyH_take (i := 6) (v := ?_) (by (simp only [List.getElem?_toArray, List.getElem?_cons_succ, List.getElem?_cons_zero]); rfl) (by kernel_rfl) (by kernel_rfl) (by kernel_rfl) (by exact fun _ _ _ h => h) (Or.inl ⟨by rfl, ?_⟩) (by assumption) ?_); rotate_left; focus (intro wS hSw; (try dsimp only at hSw); go_simp; first | done | with_reducible rfl); try simp only [Act.put, List.setIfInBounds_toArray, List.set_cons_zero, List.set_cons_succ])
    ((refine wpAnyH_take (i := 7) (v := ?_) (by (simp only [List.getElem?_toArray, List.getElem?_cons_succ, List.getElem?_cons_zero]); rfl) (by kernel_rfl) (by kernel_rfl) (by kernel_rfl) (by exact fun _ _ _ h => h) (Or.inl ⟨by rfl, ?_⟩) (by assumption) ?_); rotate_left; focus (intro wS hSw; (try dsimp only at hSw); go_simp; first | done | with_reducible rfl); try simp only [Act.put, List.setIfInBounds_toArray, List.set_cons_zero, List.set_cons_succ])
    refine wpAnyH_ready (rs := [4]) (by kernel_rfl) (by simp) ?_
    refine AllReadyH.cons (by (simp only [List.getElem?_toArray, List.getElem?_cons_succ, List.getElem?_cons_zero]); rfl) (fun K hK => ?_) AllReadyH.nil
    rw [if_pos (by rfl)]
    go_simp
    refine hK.out _ _ (HAD.out.cell) (fun hHeld => ?_)
    clear hK K
    try simp only [Act.put, List.setIfInBounds_toArray, List.set_cons_zero, List.set_cons_succ]
    refine wpAnyH_ready (rs := [8]) (by kernel_rfl) (by simp) ?_
    refine AllReadyH.cons (by (simp only [List.getElem?_toArray, List.getElem?_cons_succ, List.getElem?_cons_zero]); rfl) (fun K hK => ?_) AllReadyH.nil
    rw [if_pos (by rfl)]
    refine op_append_run (.tmp 14) (.tmp 17) 23 (by kernel_rfl) (by kernel_rfl) (by kernel_rfl) HRUN.out ?_
    refine hK.out _ _ (HA2.out.cell) (fun hHeld => ?_)
    clear hK K
    try simp only [Act.put, List.setIfInBounds_toArray, List.set_cons_zero, List.set_cons_succ]
    ((refine wpAnyH_take (i := 9) (v := ?_) (by (simp only [List.getElem?_toArray, List.getElem?_cons_succ, List.getElem?_cons_zero]); rfl) (by kernel_rfl) (by kernel_rfl) (by kernel_rfl) (by exact fun _ _ _ h => h) (Or.inl ⟨by rfl, ?_⟩) (by assumption) ?_); rotate_left; focus (intro wS hSw; (try dsimp only at hSw); go_simp; first | done | with_reducible rfl); try simp only [Act.put, List.setIfInBounds_toArray, List.set_cons_zero, List.set_cons_succ])
    ((refine wpAnyH_take (i := 10) (v := ?_) (by (simp only [List.getElem?_toArray, List.getElem?_cons_succ, List.getElem?_cons_zero]); rfl) (by kernel_rfl) (by kernel_rfl) (by kernel_rfl) (by exact fun _ _ _ h => h) (Or.inl ⟨by rfl, ?_⟩) (by assumption) ?_); rotate_left; focus (intro wS hSw; (try dsimp only at hSw); go_simp; first | done | with_reducible rfl); try simp only [Act.put, List.setIfInBounds_toArray, List.set_cons_zero, List.set_cons_succ])
    refine wpAnyH_ready (rs := [11]) (by kernel_rfl) (by simp) ?_
    refine AllReadyH.cons (by (simp only [List.getElem?_toArray, List.getElem?_cons_succ, List.getElem?_cons_zero]); rfl) (fun K hK => ?_) AllReadyH.nil
    go_simp
    refine hK.out _ _ (HA3.out.cell) (fun hHeld => ?_)
    clear hK K
    try simp only [Act.put, List.setIfInBounds_toArray, List.set_cons_zero, List.set_cons_succ]
    refine wpAnyH_done (by kernel_rfl) ?_ _
    try simp only [Act.put, List.setIfInBounds_toArray, List.set_cons_zero, List.set_cons_succ]
    go_wp2_with fail
    go_end0
    exact ⟨rfl, HE2.out⟩
theorem ent_p0 : EntK 86 := fun _ _ => by kernel_rfl
theorem ent_p1 : EntK 87 := fun _ _ => by kernel_rfl
theorem ent_p2 : EntK 88 := fun _ _ => by kernel_rfl
theorem ent_p3 : EntK 89 := fun _ _ => by kernel_rfl
theorem ent_p4 : EntK 90 := fun _ _ => by kernel_rfl
theorem ent_p5 : EntK 91 := fun _ _ => by kernel_rfl
theorem pen_hand (p : Nat) : HandC (penS p) where
  e0 := ent_p0
  e1 := ent_p1
  e2 := ent_p2
  e3 := ent_p3
  e4 := ent_p4
  e5 := ent_p5
  num := pen_number p
  small := pen_small p
  set := pen_set p
  truth := pen_truth p
  text := pen_text p
  count := pen_count p
  fr := fun _ _ _ h hf => pen_frN h hf
  new := fun _ _ _ _ h hq ht => pen_new h hq ht
  lo := fun _ _ h => pen_lo h
  same := fun _ f s d s' d' h => by
    have h' : (Except.ok (s ++ encF f d, d) : Except Nat (List Nat × WD)) = .ok (s', d') := h
    injection h' with h'
    injection h' with h1 h2
    exact h2.symm
  old := fun _ _ h => h.elim
end Go.Proofs.YtiednacpmlilbaaDoor
