/-
  Frames: what begins bytes, unframed.
-/
import Derived.Test.YtiednacpmlilbaaDoorWk3
namespace Go.Proofs.YtiednacpmlilbaaDoor
open Go.RowKit
set_option linter.unusedSimpArgs false
set_option linter.unusedVariables false

theorem by_l {a : Option Addr} {ln c : Nat} (i : Nat) (h1 : i ≤ ln) (h3 : ln ≤ c) (W' : World) :
    (Instr.slice 23 (.slice a ln c) (some (.int .i64 (i : Nat))) none none).run Tryd.prog W' = .ok (.slice (midB a i c) (ln - i) (c - i)) W' := by
  rw [run_slice_l W' 23 a ln c elemBy .i64 i (by omega) (by omega), sizeBy]
  rfl
theorem bv_mid {W : World} {a : Option Addr} {n c : Nat} {l : List Nat} (h : BV W (.slice a n c) l) (i m : Nat) (hm : m + i ≤ n) : BV W (.slice (midB a i c) m (c - i)) ((l.drop i).take m) := by
  obtain ⟨a', b, o, c', e, h1⟩ := h
  injection e with e1 e2 e3
  subst e1 e2 e3
  have hl : ((l.drop i).take m).length = m := by rw [List.length_take, List.length_drop]; omega
  exact ⟨_, b, o + i, _, by rw [hl], by rw [hl]; exact byin_mid h1 rfl i m hm⟩
def unfL (l : List Nat) : Option (List Nat × Nat) :=
  if l.length < 8 then none else if 65536 < d4 l ∨ l.length - 8 < d4 l then none else if sumL ((l.drop 8).take (d4 l)) = d4 (l.drop 4) then some ((l.drop 8).take (d4 l), 8 + d4 l) else none
set_option maxRecDepth 100000 in
set_option maxHeartbeats 8000000 in
theorem unframe_any (w : World) (v : Value) (l : List Nat) (ht : Tab w) (hv : BV w v l) (hl : l.length ≤ 900000) :
    Calls Tryd.prog 38 #[v] w fun e w' => Below w.heap.size w w' ∧ match unfL l with
      | none => e = .returned (.tuple #[.slice none 0 0, .int .i64 0, .int .i64 50])
      | some (x, u) => ∃ v', e = .returned (.tuple #[v', .int .i64 (u : Nat), .int .i64 0]) ∧ BV w' v' x := by
  have hv0 := hv
  have hok := hv.ok
  obtain ⟨a, n, c, rfl, hn, h1, h2⟩ := hv.sh
  have HN := Lib.hid hn.out
  have hnl : n ≤ 900000 := by rw [hn.out]; exact hl
  by_cases h8 : n < 8
  · have d1 : ((n : Int) < 8) = True := eq_true (by omega)
    have d2 : (n < 8) = True := eq_true h8
    rw [show unfL l = none by unfold unfL; rw [if_pos (by rw [← hn.out]; exact h8)]]
    clear ht hv hv0 hn
    go_enter Tryd.func38, Tryd.ntmps38
    go_wp2_with fail
    exact bodyPost_ret (v := .tuple #[.slice none 0 0, .int .i64 0, .int .i64 50]) (by simp [results, Tryd.results38, go_sem]) rfl ⟨Below.refl _ _, rfl⟩
  · obtain ⟨R, hR⟩ : ∃ R, R = unfL l := ⟨_, rfl⟩
    rw [← hR]
    have HR := Lib.hid hR
    clear hR
    have d1 : ((n : Int) < 8) = False := eq_false (by omega)
    have d2 : (n < 8) = False := eq_false h8
    have hl8 : 8 ≤ l.length := by rw [← hn.out]; omega
    have hv4 := fun W (hB : Below w.heap.size w W) => bv_mid (hv0.below hB) 4 (n - 4) (by omega)
    rw [show (l.drop 4).take (n - 4) = l.drop 4 from List.take_of_length_le (by rw [List.length_drop, hn.out]; exact Nat.le_refl _)] at hv4
    have hsl : ∀ W', (Instr.slice 23 (.slice a n c) (some (.int .i64 4)) none none).run Tryd.prog W' = .ok (.slice (midB a 4 c) (n - 4) (c - 4)) W' := fun W' => by_l 4 (by omega) h1 W'
    obtain ⟨a4, ha4⟩ : ∃ x, x = midB a 4 c := ⟨_, rfl⟩
    obtain ⟨n4, hn4⟩ : ∃ x, x = n - 4 := ⟨_, rfl⟩
    obtain ⟨c4, hc4⟩ : ∃ x, x = c - 4 := ⟨_, rfl⟩
    rw [← ha4, ← hn4, ← hc4] at hv4 hsl
    have hD := d4_lt hok (by omega)
    obtain ⟨D, hDD⟩ : ∃ D, D = d4 l := ⟨_, rfl⟩
    have hE := d4_lt (l := l.drop 4) (fun x hx => hok x (List.mem_of_mem_drop hx)) (by rw [List.length_drop]; omega)
    obtain ⟨E, hEE⟩ : ∃ E, E = d4 (l.drop 4) := ⟨_, rfl⟩
    have HF1 := Lib.hid (fun W (hB : Below w.heap.size w W) => four4_any W (.slice a n c) l (hv0.below hB) (by omega))
    have HF2 := Lib.hid (fun W (hB : Below w.heap.size w W) => four4_any W (.slice a4 n4 c4) (l.drop 4) (hv4 W hB) (by rw [List.length_drop]; omega))
    rw [← hDD] at HF1 hD
    rw [← hEE] at HF2 hE
    have HV := Lib.hid hv0
    have HT := Lib.hid ht
    have HDE := Lib.hid (And.intro hDD (And.intro hEE (And.intro hD hE)))
    have cvD : IntKind.i64.wrap (D : Int) = (D : Int) := IntWalk.i64_in _ (by omega)
    have cn8 : IntKind.i64.wrap ((n : Int) - 8) = ((n - 8 : Nat) : Int) := by rw [IntWalk.i64_in _ (by omega)]; omega
    obtain ⟨m8, hm8⟩ : ∃ m, m = n - 8 := ⟨_, rfl⟩
    rw [← hm8] at cn8
    have HM := Lib.hid hm8
    clear ht hv hv0 hv4 ha4 hn4 hc4 hDD hEE hm8
    go_enter Tryd.func38, Tryd.ntmps38
    go_upto_region 3 with fail
    refine wp_region_held_drew (S := fun _ => True) (by kernel_rfl) trivial (fun hHeld => ?_)
    ((refine wpAnyH_take (i := 0) (v := ?_) (by (simp only [List.getElem?_toArray, List.getElem?_cons_succ, List.getElem?_cons_zero]); rfl) (by kernel_rfl) (by kernel_rfl) (by kernel_rfl) (by exact fun _ _ _ h => h) (Or.inl ⟨by rfl, ?_⟩) (by assumption) ?_); rotate_left; focus (intro wS hSw; (try dsimp only at hSw); go_simp; first | done | with_reducible rfl); try simp only [Act.put, List.setIfInBounds_toArray, List.set_cons_zero, List.set_cons_succ])
    ((refine wpAnyH_take (i := 2) (v := ?_) (by (simp only [List.getElem?_toArray, List.getElem?_cons_succ, List.getElem?_cons_zero]); rfl) (by kernel_rfl) (by kernel_rfl) (by kernel_rfl) (by exact fun _ _ _ h => h) (Or.inl ⟨by rfl, ?_⟩) (by assumption) ?_); rotate_left; focus (intro wS hSw; (try dsimp only at hSw); go_simp; first | done | with_reducible rfl); try simp only [Act.put, List.setIfInBounds_toArray, List.set_cons_zero, List.set_cons_succ])
    ((refine wpAnyH_take (i := 3) (v := ?_) (by (simp only [List.getElem?_toArray, List.getElem?_cons_succ, List.getElem?_cons_zero]); rfl) (by kernel_rfl) (by kernel_rfl) (by kernel_rfl) (by exact fun _ _ _ h => h) (Or.inl ⟨by rfl, ?_⟩) (by assumption) ?_); rotate_left; focus (intro wS hSw; (try dsimp only at hSw); go_simp; first | done | with_reducible rfl); try simp only [Act.put, List.setIfInBounds_toArray, List.set_cons_zero, List.set_cons_succ])
    refine wpAnyH_ready (rs := [1]) (by kernel_rfl) (by simp) ?_
    refine AllReadyH.cons (by (simp only [List.getElem?_toArray, List.getElem?_cons_succ, List.getElem?_cons_zero]); rfl) (fun K hK => ?_) AllReadyH.nil
    go_simp
    refine Calls.mono (HF1.out _ (drew_b w)) ?_
    rintro e W1 ⟨rfl, hB1⟩
    have hB1' : Below w.heap.size w W1 := (drew_b w).trans (hB1.mono (Nat.le_refl _))
    have HB1 := Lib.hid hB1'
    have HF3 := Lib.hid (HF2.out W1 hB1')
    clear hB1 hB1' HF1 HF2
    try go_simp
    refine hK.out _ _ trivial (fun hHeld => ?_)
    clear hK K
    try simp only [Act.put, List.setIfInBounds_toArray, List.set_cons_zero, List.set_cons_succ]
    refine wpAnyH_ready (rs := [4]) (by kernel_rfl) (by simp) ?_
    refine AllReadyH.cons (by (simp only [List.getElem?_toArray, List.getElem?_cons_succ, List.getElem?_cons_zero]); rfl) (fun K hK => ?_) AllReadyH.nil
    go_simp
    refine Calls.mono HF3.out ?_
    rintro e W2 ⟨rfl, hB2⟩
    have HB2 := Lib.hid (HB1.out.trans (hB2.mono HB1.out.size))
    clear hB2 HF3 HB1
    try go_simp
    refine hK.out _ _ trivial (fun hHeld => ?_)
    clear hK K
    try simp only [Act.put, List.setIfInBounds_toArray, List.set_cons_zero, List.set_cons_succ]
    ((refine wpAnyH_take (i := 5) (v := ?_) (by (simp only [List.getElem?_toArray, List.getElem?_cons_succ, List.getElem?_cons_zero]); rfl) (by kernel_rfl) (by kernel_rfl) (by kernel_rfl) (by exact fun _ _ _ h => h) (Or.inl ⟨by rfl, ?_⟩) (by assumption) ?_); rotate_left; focus (intro wS hSw; (try dsimp only at hSw); go_simp; first | done | with_reducible rfl); try simp only [Act.put, List.setIfInBounds_toArray, List.set_cons_zero, List.set_cons_succ])
    ((refine wpAnyH_take (i := 6) (v := ?_) (by (simp only [List.getElem?_toArray, List.getElem?_cons_succ, List.getElem?_cons_zero]); rfl) (by kernel_rfl) (by kernel_rfl) (by kernel_rfl) (by exact fun _ _ _ h => h) (Or.inl ⟨by rfl, ?_⟩) (by assumption) ?_); rotate_left; focus (intro wS hSw; (try dsimp only at hSw); go_simp; first | done | with_reducible rfl); try simp only [Act.put, List.setIfInBounds_toArray, List.set_cons_zero, List.set_cons_succ])
    refine wpAnyH_done (by kernel_rfl) ?_ _
    try simp only [Act.put, List.setIfInBounds_toArray, List.set_cons_zero, List.set_cons_succ]
    by_cases hbad : 65536 < D ∨ m8 < D
    · have HR0 : Hid (R = none) := Lib.hid (by rw [HR.out]; unfold unfL; rw [if_neg (by rw [← HN.out]; exact h8), if_pos (by rw [← HDE.out.1, ← HN.out, ← HM.out]; exact hbad)])
      by_cases hb1 : 65536 < D
      · have e1 : ((65536 : Int) < (D : Int)) = True := eq_true (by omega)
        have e2 : (65536 < D) = True := eq_true hb1
        go_wp2_with fail
        exact bodyPost_ret (v := .tuple #[.slice none 0 0, .int .i64 0, .int .i64 50]) (by simp [results, Tryd.results38, go_sem]) rfl ⟨HB2.out, by first | rfl | rw [HR0.out]⟩
      · have hb2 : m8 < D := hbad.resolve_left hb1
        have e1 : ((65536 : Int) < (D : Int)) = False := eq_false (by omega)
        have e2 : (65536 < D) = False := eq_false hb1
        have e3 : ((m8 : Int) < (D : Int)) = True := eq_true (by omega)
        have e4 : (m8 < D) = True := eq_true hb2
        go_wp2_with fail
        exact bodyPost_ret (v := .tuple #[.slice none 0 0, .int .i64 0, .int .i64 50]) (by simp [results, Tryd.results38, go_sem]) rfl ⟨HB2.out, by first | rfl | rw [HR0.out]⟩
    · have hb1 : ¬ 65536 < D := fun h => hbad (.inl h)
      have hb2 : ¬ m8 < D := fun h => hbad (.inr h)
      have hm8 := HM.out
      have e1 : ((65536 : Int) < (D : Int)) = False := eq_false (by omega)
      have e2 : (65536 < D) = False := eq_false hb1
      have e3 : ((m8 : Int) < (D : Int)) = False := eq_false (by omega)
      have e4 : (m8 < D) = False := eq_false hb2
      obtain ⟨U, hU⟩ : ∃ U, U = 8 + D := ⟨_, rfl⟩
      have cU : IntKind.i64.wrap (8 + (D : Int)) = (U : Int) := by rw [IntWalk.i64_in _ (by omega)]; omega
      have hbm := bv_mid (HV.out.below HB2.out) 8 D (by omega)
      have hsl2 : ∀ W', (Instr.slice 23 (.slice a n c) (some (.int .i64 8)) (some (.int .i64 (U : Nat))) none).run Tryd.prog W' = .ok (.slice (midB a 8 c) D (c - 8)) W' := fun W' => by
        have := by_lh (a := a) (ln := n) (c := c) 8 U (by omega) (by omega) W'
        rw [show U - 8 = D by omega] at this
        exact this
      obtain ⟨a8, ha8⟩ : ∃ x, x = midB a 8 c := ⟨_, rfl⟩
      obtain ⟨c8, hc8⟩ : ∃ x, x = c - 8 := ⟨_, rfl⟩
      obtain ⟨x, hx⟩ : ∃ x, x = (l.drop 8).take D := ⟨_, rfl⟩
      rw [← ha8, ← hc8] at hbm hsl2
      rw [← hx] at hbm
      have hxl : x.length = D := by rw [hx, List.length_take, List.length_drop, ← HN.out]; omega
      have HC := Lib.hid (sumL_any _ x W2 (HT.out.below HB2.out) hbm)
      have HCL := Lib.hid (clone_b W2 _ x hbm (by omega))
      obtain ⟨s, hs⟩ : ∃ s, s = sumL x := ⟨_, rfl⟩
      rw [← hs] at HC
      have hunf : unfL l = if s = E then some (x, U) else none := by
        unfold unfL
        rw [if_neg (by rw [← HN.out]; exact h8), if_neg (by rw [← HDE.out.1, ← HN.out, ← HM.out]; exact hbad), ← HDE.out.1, ← hx, ← hs, ← HDE.out.2.1, ← hU]
      clear hbm ha8 hc8 hx hxl hs hU hbad hm8 HV HT
      by_cases hse : s = E
      · rw [if_pos hse] at hunf
        have HR0 : Hid (R = some (x, U)) := Lib.hid (by rw [HR.out]; exact hunf)
        clear hunf
        have n1 : ((s : Int) != (E : Int)) = false := by simp; omega
        have n2 : (s != E) = false := by simp; omega
        go_wp2_with (refine Calls.mono HC.out ?_; rintro e W3 ⟨rfl, rfl⟩; clear HC)
        go_wp2_with (refine Calls.mono HCL.out ?_; rintro e W3 ⟨v', ob, rfl, hbo, hB3⟩; have HE := Lib.hid (And.intro (HB2.out.trans (hB3.mono HB2.out.size)) hbo.v); clear hbo hB3 HCL)
        try go_wp2_with fail
        exact bodyPost_ret (v := .tuple #[v', .int .i64 (U : Nat), .int .i64 0]) (by simp [results, Tryd.results38, go_sem]) rfl ⟨HE.out.1, by first | exact ⟨v', rfl, HE.out.2⟩ | (have h9 := HR0.out; (try simp only [Option.some.injEq, Prod.mk.injEq] at h9); obtain ⟨rfl, rfl⟩ := h9; exact ⟨v', rfl, HE.out.2⟩)⟩
      · rw [if_neg hse] at hunf
        have HR0 : Hid (R = none) := Lib.hid (by rw [HR.out]; exact hunf)
        clear hunf
        have n1 : ((s : Int) != (E : Int)) = true := by simp; omega
        have n2 : (s != E) = true := by simp; omega
        go_wp2_with (refine Calls.mono HC.out ?_; rintro e W3 ⟨rfl, rfl⟩; clear HC)
        try go_wp2_with fail
        exact bodyPost_ret (v := .tuple #[.slice none 0 0, .int .i64 0, .int .i64 50]) (by simp [results, Tryd.results38, go_sem]) rfl ⟨HB2.out, by first | rfl | rw [HR0.out]⟩
end Go.Proofs.YtiednacpmlilbaaDoor
