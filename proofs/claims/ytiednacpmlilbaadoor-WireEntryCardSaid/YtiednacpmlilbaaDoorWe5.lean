/-
  The eye: text; a hand.
-/
import Derived.Test.YtiednacpmlilbaaDoorWMe
import Derived.Test.YtiednacpmlilbaaDoorWp
namespace Go.Proofs.YtiednacpmlilbaaDoor
open Go.RowKit
set_option linter.unusedSimpArgs false
set_option linter.unusedVariables false

set_option maxRecDepth 100000 in
set_option maxHeartbeats 4000000 in
theorem clone_b (W : World) (v : Value) (l : List Nat) (h : BV W v l) (hn : l.length ≤ 1000000000) :
    Calls Tryd.prog 78 #[v] W fun e W' => ∃ v' ob, e = .returned v' ∧ BO W.heap.size W' v' ob l ∧ Below W.heap.size W W' := by
  have hv := h
  obtain ⟨a, b, o, c, rfl, hby⟩ := h
  have hm := hby.max
  have hl := hby.le
  unfold maxLen at hm
  obtain ⟨n, hln⟩ : ∃ n, n = l.length := ⟨_, rfl⟩
  rw [← hln] at hby hl hv hn ⊢
  have HL := Lib.hid hln
  have HA := Lib.hid hby
  have HV := Lib.hid hv
  clear hln hv hby
  cases a with
  | none =>
    obtain rfl : n = 0 := by
      rcases Nat.eq_zero_or_pos n with h | h
      · exact h
      · exact absurd (HA.out.at_ h).1 (by simp)
    have hnil : ∀ W, (binOp .eql 23 (.slice none 0 c) (.slice none 0 0)).run Tryd.prog W = .ok (.bool true) W := fun _ => rfl
    have hl0 : l = [] := List.eq_nil_of_length_eq_zero HL.out.symm
    subst hl0
    go_enter Tryd.func78, Tryd.ntmps78
    go_wp2_with fail
    go_ret
    exact ⟨_, none, rfl, bo_nil _ _, Below.refl _ _⟩
  | some p =>
    have hnil : ∀ W, (binOp .eql 23 (.slice (some p) n c) (.slice none 0 0)).run Tryd.prog W = .ok (.bool false) W := fun _ => rfl
    have hB0 : Below W.heap.size W (W.alloc (.cells #[] 5)) := (Below.refl _ _).alloc (Nat.le_refl _) _
    have hbo : BO W.heap.size (W.alloc (.cells #[] 5)) (.slice (some ⟨W.heap.size, 0, none⟩) 0 0) (some W.heap.size) [] := ⟨Row.mk (heap_alloc_new W _) (Nat.le_refl _) (by unfold maxLen; omega) rfl rfl, fun x h => absurd h (by simp), fun g e => by obtain rfl := Option.some.inj e; exact Nat.le_refl _⟩
    obtain ⟨v', ob', W2, hr, hb2, hB2, -⟩ := b_app2 (ty := 23) hbo ((show BV W (.slice (some p) n c) l from HV.out).below hB0) (by simp) (by rw [← HL.out]; simp; omega)
    have HRUN := Lib.hid hr
    have HEND := Lib.hid (And.intro (show BO W.heap.size W2 v' ob' l from by rwa [List.nil_append] at hb2) (hB0.trans hB2))
    clear hB0 hbo hr hb2 hB2
    go_enter Tryd.func78, Tryd.ntmps78
    go_wp2_with (at_builtin; refine Lib.wpList_append_run _ rfl (.tmp 5) (.tmp 6) 23 23 rfl _ _ rfl rfl _ _ HRUN.out ?_)
    try go_wp2_with fail
    go_ret
    exact ⟨v', ob', rfl, HEND.out⟩
section
variable {y lo : Nat} {bs : List Nat}
theorem cnt_le {b : List Nat} {at_ n : Nat} (h : cntB b at_ 1 = .ok n) : n + (at_ + 8) ≤ b.length := by
  unfold cntB numB at h
  cases ht : takeB b at_ 8 with
  | error e => rw [ht] at h; cases h
  | ok l =>
    rw [ht] at h
    simp only at h
    split at h
    · rename_i hn
      injection h with h
      have := (takeB_ok ht).1
      have h2 := hn.2
      rw [Nat.div_one] at h2
      omega
    · cases h
set_option maxRecDepth 100000 in
set_option maxHeartbeats 8000000 in
theorem eye_text : StepC (eyeS y lo bs) .text 84 := by
  intro W s ty g j d hI hD hP
  obtain ⟨x0, hA, hCD⟩ := hD
  obtain rfl : d = .b [] := hP rfl
  have hC := eye_count W s 0 1 hI ⟨by omega, by omega, by omega⟩
  have HA := Lib.hid hA
  have HX := Lib.hid (show TB (eyeS y lo bs) W x0 [] from hCD)
  have HI0 := Lib.hid hI
  clear hA hCD hP hI
  rcases ht : cntB bs s 1 with a | k
  · have hst : (eyeS y lo bs).step .text s (.b []) = .error a := by
      show (match (match cntB bs s 1 with | .ok n => Except.ok (WD.b ((bs.drop (s + 8)).take n), s + 8 + n) | .error e => .error e) with | .error a => Except.error a | .ok (x, s2) => .ok (s2, x)) = _
      rw [ht]
    rw [hst]
    have HC1 := Lib.hid (show Calls Tryd.prog 85 #[.pointer (some ⟨y, 0, none⟩), .int .i64 0, .int .i64 1] W (fun e W' => FrA (eyeS y lo bs) (fun _ _ _ => False) W W' ∧ e = .panicked [{ v := refV a, recovered := false }]) from by
      refine Calls.mono hC fun e W' h => ⟨h.1, ?_⟩
      have h2 := h.2
      rw [show (eyeS y lo bs).cnt s 0 1 = .error a from by
        show (match cntB bs s 1 with | .error a => Except.error a | .ok k => .ok (s + 8, k)) = _
        rw [ht]] at h2
      exact h2)
    show Calls Tryd.prog _ #[.pointer (some ⟨y, 0, none⟩), .pointer (some ⟨g, j, none⟩)] W _
    clear hst hC ht
    go_enter Tryd.func84, Tryd.ntmps84
    go_wp2_with (refine Calls.mono HC1.out ?_; rintro e W1 ⟨hF, rfl⟩)
    exact (show _ ∧ EndS (eyeS y lo bs) (cell1 ty g j) W _ _ _ _ from ⟨rfl, hF.mono (fun _ _ _ h => h.elim), rfl⟩)
  · have hk := cnt_le ht
    obtain ⟨l, hl⟩ : ∃ l, l = (bs.drop (s + 8)).take k := ⟨_, rfl⟩
    have hst : (eyeS y lo bs).step .text s (.b []) = .ok (s + 8 + k, .b l) := by
      show (match (match cntB bs s 1 with | .ok n => Except.ok (WD.b ((bs.drop (s + 8)).take n), s + 8 + n) | .error e => .error e) with | .error a => Except.error a | .ok (x, s2) => .ok (s2, x)) = _
      rw [ht, hl]
    have hll : l.length = k := by rw [hl, List.length_take, List.length_drop]; omega
    obtain ⟨PO, hPO⟩ : ∃ PO : World → Prop, PO = fun W' => FrA (eyeS y lo bs) (cell1 ty g j) W W' ∧ (eyeS y lo bs).In W' (s + 8 + k) ∧ Dp (eyeS y lo bs) W' .text ty g j (.b l) := ⟨_, rfl⟩
    suffices hsuf : Calls Tryd.prog 84 #[.pointer (some ⟨y, 0, none⟩), .pointer (some ⟨g, j, none⟩)] W (fun e W' => e = .returned (.tuple #[]) ∧ PO W') from Calls.mono hsuf fun e W' h => by
      obtain ⟨h1, h2⟩ := h
      rw [hPO] at h2
      rw [hst]
      exact ⟨h2.1, h1, h2.2⟩
    have HC1 := Lib.hid (show Calls Tryd.prog 85 #[.pointer (some ⟨y, 0, none⟩), .int .i64 0, .int .i64 1] W (fun e W' => FrA (eyeS y lo bs) (fun _ _ _ => False) W W' ∧ e = .returned (.int .i64 (k : Nat)) ∧ (eyeS y lo bs).In W' (s + 8)) from by
      refine Calls.mono hC fun e W' h => ⟨h.1, ?_⟩
      have h2 := h.2
      rw [show (eyeS y lo bs).cnt s 0 1 = .ok (s + 8, k) from by
        show (match cntB bs s 1 with | .error a => Except.error a | .ok k => .ok (s + 8, k)) = _
        rw [ht]] at h2
      exact h2)
    have hlen : bs.length ≤ 1048576 := by
      obtain ⟨_, _, _, _, _, h⟩ := HI0.out
      exact h
    rcases Nat.eq_zero_or_pos k with h0 | h0
    · subst h0
      have hl0 : l = [] := List.eq_nil_of_length_eq_zero hll
      subst hl0
      have HEND := Lib.hid (fun W1 (h1 : FrA (eyeS y lo bs) (fun _ _ _ => False) W W1) (h2 : (eyeS y lo bs).In W1 (s + 8)) => show PO W1 by
        rw [hPO]
        exact ⟨h1.mono (fun _ _ _ h => h.elim), h2, x0, HA.out.fr h1 id, HX.out.fr h1⟩)
      clear hPO hst hC ht hl hll hk hlen
      go_enter Tryd.func84, Tryd.ntmps84
      go_wp2_with (refine Calls.mono HC1.out ?_; rintro e W1 ⟨hF, rfl, hI1⟩; have HE := Lib.hid (HEND.out W1 hF hI1); clear hF hI1)
      try go_wp2_with fail
      go_end0
      exact ⟨rfl, HE.out⟩
    · have htk : takeB bs (s + 8) k = .ok l := by unfold takeB; rw [if_pos hk, hl]
      have HTK := Lib.hid (fun W1 (h2 : (eyeS y lo bs).In W1 (s + 8)) => show Calls Tryd.prog 112 #[.pointer (some ⟨y, 0, none⟩), .int .i64 (k : Nat)] W1 (fun e W' => FrA (eyeS y lo bs) (fun _ _ _ => False) W1 W' ∧ ∃ v, e = .returned v ∧ (eyeS y lo bs).In W' (s + 8 + k) ∧ BV W' v l) from by
        refine Calls.mono (eye_take W1 (s + 8) k h2 (by omega)) fun e W' h => ⟨h.1, ?_⟩
        have h3 := h.2
        rw [htk] at h3
        obtain ⟨v, e1, e2, ⟨a, b, o, c, e3, e4, _⟩, _⟩ := h3
        exact ⟨v, e1, e2, a, b, o, c, e3, e4⟩)
      have HEND := Lib.hid (fun W1 W2 W3 v' ob (h1 : FrA (eyeS y lo bs) (fun _ _ _ => False) W W1) (h2 : FrA (eyeS y lo bs) (fun _ _ _ => False) W1 W2) (h3 : Below W2.heap.size W2 W3) (h4 : (eyeS y lo bs).In W2 (s + 8 + k)) (h5 : BO W2.heap.size W3 v' ob l) => show PO (W3.setCell ⟨g, j, none⟩ v') ∧ W3.cell? ⟨g, j, none⟩ = some x0 ∧ W3.frozen? ⟨g, j, none⟩ = false by
        have f3 := below_frA (H := eyeS y lo bs) h3 (eye_lo h4) (fun _ _ _ => False)
        have h12 : FrA (eyeS y lo bs) (fun _ _ _ => False) W W2 := h1.trans h2 (fun _ _ _ h => h) (fun _ _ _ h => h)
        have f := h12.trans f3 (C := fun _ _ _ => False) (fun _ _ _ h => h) (fun _ _ _ h => h)
        have hA3 := HA.out.fr f id
        have hs := eye_store (v' := v') (eye_below h4 h3) hA3 f
        refine ⟨?_, hA3.cell, hA3.free⟩
        rw [hPO]
        refine ⟨hs.1, hs.2.1, v', hs.2.2, ?_⟩
        have hv := h5.v
        have ho := h5.2.2
        have hty := h5.1
        obtain ⟨a, b, o, c, e, hby⟩ := hv
        have hg : ∃ gb, ob = some gb := by
          cases ob with
          | some gb => exact ⟨gb, rfl⟩
          | none =>
            rcases hty.cases with ⟨_, _, h, _⟩ | ⟨_, _, _, h, _⟩
            · omega
            · cases h
        obtain ⟨gb, rfl⟩ := hg
        obtain ⟨cs, hb⟩ := blk_row hty
        have hgb : b = gb := by
          rcases hty.cases with ⟨h, _⟩ | ⟨g1, cap, cur, h, h1', _⟩
          · cases h
          · obtain rfl := Option.some.inj h
            have h9 := (hby.at_ (by omega)).1
            rw [e] at h1'
            injection h1' with i1 i2 i3
            rw [i1] at h9
            injection h9 with h9
            injection h9 with h9
            exact h9.symm
        subst hgb
        have hle := ho b rfl
        obtain ⟨cs4, k4, k5, k6, _⟩ := eye_at hA3
        have hne : b ≠ g := by
          intro e9
          subst e9
          have := hb.symm.trans k4
          injection this with this
          injection this with e1 e2
          exact k6 e2.symm
        have hbk : (W3.setCell ⟨g, j, none⟩ v').heap[b]? = W3.heap[b]? := heap_setCell_ne W3 ⟨g, j, none⟩ v' b (fun h => by dsimp only at h; omega)
        refine ⟨a, b, o, c, e, ⟨hby.le, hby.max, fun h => ⟨(hby.at_ h).1, by have := (hby.at_ h).2; simpa using this⟩, fun q hq => ?_, hby.bd⟩, fun _ => .inr ⟨cs, hbk.trans hb, eye_new h4 hle⟩⟩
        have := hby.cell q hq
        unfold World.cell? at this ⊢
        rw [hbk]
        exact this)
      have HCL := Lib.hid (fun W2 v (h : BV W2 v l) => clone_b W2 v l h (by omega))
      have b0 : (0 < k) = True := eq_true h0
      have hx0 : ∃ a0 n0 c0, x0 = .slice a0 n0 c0 := by
        obtain ⟨a, b, o, c, e, _⟩ := HX.out
        exact ⟨a, _, c, e⟩
      clear hPO hst hC ht hl hll hk hlen htk h0
      obtain ⟨a0, n0, c0, rfl⟩ := hx0
      go_enter Tryd.func84, Tryd.ntmps84
      go_wp2_with (refine Calls.mono HC1.out ?_; rintro e W1 ⟨hF, rfl, hI1⟩; have HT1 := Lib.hid (HTK.out W1 hI1); have HF1 := Lib.hid hF; clear hF hI1 HC1)
      go_wp2_with (refine Calls.mono HT1.out ?_; rintro e W2 ⟨hF2, v, rfl, hI2, hv⟩; have HCL2 := Lib.hid (HCL.out W2 v hv); have HF2 := Lib.hid hF2; have HI2 := Lib.hid hI2; clear hF2 hI2 hv HT1)
      go_wp2_with (refine Calls.mono HCL2.out ?_; rintro e W3 ⟨v', ob, rfl, hbo, hB⟩; obtain ⟨aa, bb, cc, dd⟩ := hbo.v.sh; obtain ⟨rfl, hdd⟩ := dd; have hend := (HEND.out W1 W2 W3 _ ob HF1.out HF2.out hB HI2.out hbo); have e1 := hend.2.1; have e2 := hend.2.2; have HE := Lib.hid hend.1; clear hend hbo hB hdd HCL2)
      try go_wp2_with fail
      go_end0
      exact ⟨rfl, HE.out⟩
theorem ent_e0 : EntK 80 := fun _ _ => by kernel_rfl
theorem ent_e1 : EntK 81 := fun _ _ => by kernel_rfl
theorem ent_e2 : EntK 82 := fun _ _ => by kernel_rfl
theorem ent_e3 : EntK 83 := fun _ _ => by kernel_rfl
theorem ent_e4 : EntK 84 := fun _ _ => by kernel_rfl
theorem ent_e5 : EntK 85 := fun _ _ => by kernel_rfl
theorem eye_hand : HandC (eyeS y lo bs) where
  e0 := ent_e0
  e1 := ent_e1
  e2 := ent_e2
  e3 := ent_e3
  e4 := ent_e4
  e5 := ent_e5
  num := eye_number
  small := eye_small
  set := eye_set
  truth := eye_truth
  text := eye_text
  count := eye_count
  fr := fun _ _ _ h hf => eye_frN h hf
  new := fun _ _ _ _ h hq _ => eye_new h hq
  lo := fun _ _ h => eye_lo h
  same := fun h => absurd trivial h
  old := fun g ty _ h => eye_ok g ty h
end
end Go.Proofs.YtiednacpmlilbaaDoor
