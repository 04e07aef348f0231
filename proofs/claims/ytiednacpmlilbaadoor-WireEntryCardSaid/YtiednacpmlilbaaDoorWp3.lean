/-
  The pen: number.
-/
import Derived.Test.YtiednacpmlilbaaDoorWp
namespace Go.Proofs.YtiednacpmlilbaaDoor
open Go.RowKit
set_option linter.unusedSimpArgs false
set_option linter.unusedVariables false

theorem e8_sh (n : Int) {i : Nat} (hi : i < 8) {k : Int} (hk : k = 56 - 8 * (i : Int)) : IntKind.u8.wrap ((u64 n : Int) / 2 ^ k.toNat) = ((gB (e8 n) i : Nat) : Int) := by
  rw [wrap_u8]
  unfold u8
  have : i = 0 ∨ i = 1 ∨ i = 2 ∨ i = 3 ∨ i = 4 ∨ i = 5 ∨ i = 6 ∨ i = 7 := by omega
  rcases this with rfl | rfl | rfl | rfl | rfl | rfl | rfl | rfl <;> subst hk <;> simp [gB, e8] <;> omega
theorem e8_take (n : Int) {i : Nat} (hi : i < 8) : (e8 n).take (i + 1) = (e8 n).take i ++ [gB (e8 n) i] := by
  rw [List.take_add_one, gB_lt (by rw [e8_len]; exact hi)]
  rfl
set_option maxRecDepth 100000 in
set_option maxHeartbeats 8000000 in
theorem pen_number (p : Nat) : StepC (penS p) .num 86 := by
  intro W s ty g j d hI hD hP
  obtain ⟨x, hAt, hCD⟩ := hD
  cases d with
  | b l => exact hCD.elim
  | i n =>
    obtain ⟨rfl, hn1, hn2⟩ := hCD
    have hgp := pen_nep hI hAt
    have hLO := Lib.hid (pen_lo hI)
    obtain ⟨PO, hPO⟩ : ∃ PO : World → Prop, PO = fun W' => FrA (penS p) (cell1 ty g j) W W' ∧ (penS p).In W' (s ++ e8 n) ∧ Dp (penS p) W' .num ty g j (.i n) := ⟨_, rfl⟩
    suffices hsuf : Calls Tryd.prog 86 #[.pointer (some ⟨p, 0, none⟩), .pointer (some ⟨g, j, none⟩)] W (fun e W' => e = .returned (.tuple #[]) ∧ PO W') from Calls.mono hsuf fun e W' h => by
      obtain ⟨h1, h2⟩ := h
      rw [hPO] at h2
      exact ⟨h2.1, h1, h2.2⟩
    have HEND := Lib.hid (fun W' (h1 : FrA (penS p) (fun _ _ _ => False) W W') (h2 : (penS p).In W' (s ++ e8 n)) => show PO W' by rw [hPO]; exact ⟨h1.mono (fun _ _ _ h => h.elim), h2, _, hAt.fr h1 id, rfl, hn1, hn2⟩)
    have HI := Lib.hid hI
    have HP : Hid (s.length + 8 ≤ 1000000000) := Lib.hid hP.2
    have q0 : W.cell? ⟨g, j, none⟩ = some (.int .i64 n) := hAt.cell
    have cv : IntKind.u64.wrap n = ((u64 n : Nat) : Int) := wrap_u64 n
    obtain ⟨m, hm⟩ : ∃ m, m = u64 n := ⟨_, rfl⟩
    rw [← hm] at cv
    have HM := Lib.hid hm
    clear hPO hAt hI hP hm
    go_enter Tryd.func86, Tryd.ntmps86
    go_upto_region 2 with fail
    go_loopw [5] (fun k wr => ∃ i : Nat, i ≤ 8 ∧ k = .int .i64 (56 - 8 * (i : Int)) ∧ FrA (penS p) (fun _ _ _ => False) W wr ∧ (penS p).In wr (s ++ (e8 n).take i)) (fun k _ => (intOf k + 8).toNat)
    case atStart =>
      exact ⟨0, by omega, rfl, FrA.refl _ _, by rw [List.take_zero, List.append_nil]; exact HI.out⟩
    case round =>
      obtain ⟨i, hi, rfl, hF, hI⟩ := hrel
      obtain ⟨k, hk⟩ : ∃ k : Int, k = 56 - 8 * (i : Int) := ⟨_, rfl⟩
      rw [← hk]
      replace HI := Lib.hid hI
      have HF := Lib.hid hF
      clear q0 cv
      by_cases hlt : i < 8
      · skip
        have k0 : 0 ≤ k := by omega
        have k1 : k ≤ 56 := by omega
        obtain ⟨x, hx⟩ : ∃ x, x = gB (e8 n) i := ⟨_, rfl⟩
        have cv : IntKind.u8.wrap ((m : Int) / 2 ^ k.toNat) = ((x : Nat) : Int) := by rw [hx, HM.out]; exact e8_sh n hlt hk
        have sh : Op.shift .shr .u64 (m : Int) .i64 k = pure (.int .u64 ((m : Int) / 2 ^ k.toNat)) := shift_shr _ _ _ _ k0 (by simp [IntKind.bits]; omega)
        have kc : (0 ≤ k) = True := eq_true k0
        have kw : IntKind.i64.wrap (k - 8) = k - 8 := IntWalk.i64_in _ (by omega)
        have hx2 : x < 256 := by rw [hx]; exact e8_bd n _ (List.mem_of_getElem? (gB_lt (by rw [e8_len]; exact hlt)))
        have htk : (e8 n).take (i + 1) = (e8 n).take i ++ [x] := by rw [hx]; exact e8_take n hlt
        obtain ⟨v, ob, hb, ho⟩ := hI
        have hB1 : Below wr.heap.size wr (wr.drew.alloc (.cells #[.int .u8 (x : Nat)] 5)) := (drew_b wr).alloc (Nat.le_refl _) _
        obtain ⟨a', n', c', W2, hr, hb2, hF2, hF3, hI2⟩ := pen_app (L2 := [x]) 23 hb ho hB1 (bv_one (blk_new _ _ _) hx2) (by have := HP.out; rw [List.length_append, List.length_take, e8_len]; simp; omega) (fun _ _ _ => False)
        have HRUN := Lib.hid hr
        have HG := Lib.hid (hF.trans hF3 (fun _ _ _ h => h) (fun _ _ _ h => h))
        have HI2 := Lib.hid hI2
        have c0 : wr.drew.cell? ⟨p, 0, none⟩ = some v := cell_at (hb.step (drew_b wr)) 0
        have c1 : (wr.drew.alloc (.cells #[.int .u8 (x : Nat)] 5)).cell? ⟨p, 0, none⟩ = some v := cell_at (hb.step hB1) 0
        have c1' : ((wr.alloc (.cells #[.int .u8 (x : Nat)] 5)).drew).cell? ⟨p, 0, none⟩ = some v := c1
        have c2 : W2.cell? ⟨p, 0, none⟩ = some v := cell_at hb2 0
        have f2 : W2.frozen? ⟨p, 0, none⟩ = false := free_at hb2 0
        have HK := Lib.hid hk
        have HTK := Lib.hid htk
        clear hr hF hF2 hF3 hI2 hb hb2 ho hB1 hx hx2 htk hk
        go_upto_region 4 with fail
        refine wp_region_held_drew (S := fun _ => True) (by kernel_rfl) trivial (fun hHeld => ?_)
        ((refine wpAnyH_take (i := 0) (v := ?_) (by (simp only [List.getElem?_toArray, List.getElem?_cons_succ, List.getElem?_cons_zero]); rfl) (by kernel_rfl) (by kernel_rfl) (by kernel_rfl) (by exact fun _ _ _ h => h) (Or.inl ⟨by rfl, ?_⟩) (by assumption) ?_); rotate_left; focus (intro wS hSw; (try dsimp only at hSw); go_simp; first | done | with_reducible rfl); try simp only [Act.put, List.setIfInBounds_toArray, List.set_cons_zero, List.set_cons_succ])
        ((refine wpAnyH_take (i := 1) (v := ?_) (by (simp only [List.getElem?_toArray, List.getElem?_cons_succ, List.getElem?_cons_zero]); rfl) (by kernel_rfl) (by kernel_rfl) (by kernel_rfl) (by exact fun _ _ _ h => h) (Or.inl ⟨by rfl, ?_⟩) (by assumption) ?_); rotate_left; focus (intro wS hSw; (try dsimp only at hSw); go_simp; first | done | with_reducible rfl); try simp only [Act.put, List.setIfInBounds_toArray, List.set_cons_zero, List.set_cons_succ])
        ((refine wpAnyH_take (i := 2) (v := ?_) (by (simp only [List.getElem?_toArray, List.getElem?_cons_succ, List.getElem?_cons_zero]); rfl) (by kernel_rfl) (by kernel_rfl) (by kernel_rfl) (by exact fun _ _ _ h => h) (Or.inl ⟨by rfl, ?_⟩) (by assumption) ?_); rotate_left; focus (intro wS hSw; (try dsimp only at hSw); go_simp; first | done | with_reducible rfl); try simp only [Act.put, List.setIfInBounds_toArray, List.set_cons_zero, List.set_cons_succ])
        ((refine wpAnyH_take (i := 3) (v := ?_) (by (simp only [List.getElem?_toArray, List.getElem?_cons_succ, List.getElem?_cons_zero]); rfl) (by kernel_rfl) (by kernel_rfl) (by kernel_rfl) (by exact fun _ _ _ h => h) (Or.inl ⟨by rfl, ?_⟩) (by assumption) ?_); rotate_left; focus (intro wS hSw; (try dsimp only at hSw); go_simp; first | done | with_reducible rfl); try simp only [Act.put, List.setIfInBounds_toArray, List.set_cons_zero, List.set_cons_succ])
        ((refine wpAnyH_take (i := 5) (v := ?_) (by (simp only [List.getElem?_toArray, List.getElem?_cons_succ, List.getElem?_cons_zero]); rfl) (by kernel_rfl) (by kernel_rfl) (by kernel_rfl) (by exact fun _ _ _ h => h) (Or.inl ⟨by rfl, ?_⟩) (by assumption) ?_); rotate_left; focus (intro wS hSw; (try dsimp only at hSw); go_simp; first | done | with_reducible rfl); try simp only [Act.put, List.setIfInBounds_toArray, List.set_cons_zero, List.set_cons_succ])
        ((refine wpAnyH_take (i := 6) (v := ?_) (by (simp only [List.getElem?_toArray, List.getElem?_cons_succ, List.getElem?_cons_zero]); rfl) (by kernel_rfl) (by kernel_rfl) (by kernel_rfl) (by exact fun _ _ _ h => h) (Or.inl ⟨by rfl, ?_⟩) (by assumption) ?_); rotate_left; focus (intro wS hSw; (try dsimp only at hSw); go_simp; first | done | with_reducible rfl); try simp only [Act.put, List.setIfInBounds_toArray, List.set_cons_zero, List.set_cons_succ])
        ((refine wpAnyH_take (i := 7) (v := ?_) (by (simp only [List.getElem?_toArray, List.getElem?_cons_succ, List.getElem?_cons_zero]); rfl) (by kernel_rfl) (by kernel_rfl) (by kernel_rfl) (by exact fun _ _ _ h => h) (Or.inl ⟨by rfl, ?_⟩) (by assumption) ?_); rotate_left; focus (intro wS hSw; (try dsimp only at hSw); go_simp; first | done | with_reducible rfl); try simp only [Act.put, List.setIfInBounds_toArray, List.set_cons_zero, List.set_cons_succ])
        ((refine wpAnyH_take (i := 8) (v := ?_) (by (simp only [List.getElem?_toArray, List.getElem?_cons_succ, List.getElem?_cons_zero]); rfl) (by kernel_rfl) (by kernel_rfl) (by kernel_rfl) (by exact fun _ _ _ h => h) (Or.inl ⟨by rfl, ?_⟩) (by assumption) ?_); rotate_left; focus (intro wS hSw; (try dsimp only at hSw); go_simp; first | done | with_reducible rfl); try simp only [Act.put, List.setIfInBounds_toArray, List.set_cons_zero, List.set_cons_succ])
        refine wpAnyH_ready (rs := [4, 9]) (by kernel_rfl) (by simp) ?_
        refine AllReadyH.cons (by (simp only [List.getElem?_toArray, List.getElem?_cons_succ, List.getElem?_cons_zero]); rfl) (fun K hK => ?_) (AllReadyH.cons (by (simp only [List.getElem?_toArray, List.getElem?_cons_succ, List.getElem?_cons_zero]); rfl) (fun K hK => ?_) AllReadyH.nil)
        · skip
          rw [if_pos (by rfl)]
          go_simp
          refine hK.out _ _ (trivial) (fun hHeld => ?_)
          clear hK K
          try simp only [Act.put, List.setIfInBounds_toArray, List.set_cons_zero, List.set_cons_succ]
          refine wpAnyH_ready (rs := [9]) (by kernel_rfl) (by simp) ?_
          refine AllReadyH.cons (by (simp only [List.getElem?_toArray, List.getElem?_cons_succ, List.getElem?_cons_zero]); rfl) (fun K hK => ?_) AllReadyH.nil
          go_simp
          refine hK.out _ _ (trivial) (fun hHeld => ?_)
          clear hK K
          try simp only [Act.put, List.setIfInBounds_toArray, List.set_cons_zero, List.set_cons_succ]
          refine wpAnyH_ready (rs := [10]) (by kernel_rfl) (by simp) ?_
          refine AllReadyH.cons (by (simp only [List.getElem?_toArray, List.getElem?_cons_succ, List.getElem?_cons_zero]); rfl) (fun K hK => ?_) AllReadyH.nil
          rw [if_pos (by rfl)]
          refine op_append_run (.tmp 18) (.tmp 23) 23 (by kernel_rfl) (by kernel_rfl) (by kernel_rfl) HRUN.out ?_
          refine hK.out _ _ (trivial) (fun hHeld => ?_)
          clear hK K
          try simp only [Act.put, List.setIfInBounds_toArray, List.set_cons_zero, List.set_cons_succ]
          ((refine wpAnyH_take (i := 11) (v := ?_) (by (simp only [List.getElem?_toArray, List.getElem?_cons_succ, List.getElem?_cons_zero]); rfl) (by kernel_rfl) (by kernel_rfl) (by kernel_rfl) (by exact fun _ _ _ h => h) (Or.inl ⟨by rfl, ?_⟩) (by assumption) ?_); rotate_left; focus (intro wS hSw; (try dsimp only at hSw); go_simp; first | done | with_reducible rfl); try simp only [Act.put, List.setIfInBounds_toArray, List.set_cons_zero, List.set_cons_succ])
          ((refine wpAnyH_take (i := 12) (v := ?_) (by (simp only [List.getElem?_toArray, List.getElem?_cons_succ, List.getElem?_cons_zero]); rfl) (by kernel_rfl) (by kernel_rfl) (by kernel_rfl) (by exact fun _ _ _ h => h) (Or.inl ⟨by rfl, ?_⟩) (by assumption) ?_); rotate_left; focus (intro wS hSw; (try dsimp only at hSw); go_simp; first | done | with_reducible rfl); try simp only [Act.put, List.setIfInBounds_toArray, List.set_cons_zero, List.set_cons_succ])
          refine wpAnyH_ready (rs := [13]) (by kernel_rfl) (by simp) ?_
          refine AllReadyH.cons (by (simp only [List.getElem?_toArray, List.getElem?_cons_succ, List.getElem?_cons_zero]); rfl) (fun K hK => ?_) AllReadyH.nil
          go_simp
          refine hK.out _ _ (trivial) (fun hHeld => ?_)
          clear hK K
          try simp only [Act.put, List.setIfInBounds_toArray, List.set_cons_zero, List.set_cons_succ]
          refine wpAnyH_done (by kernel_rfl) ?_ _
          try simp only [Act.put, List.setIfInBounds_toArray, List.set_cons_zero, List.set_cons_succ]
          go_wp2_with fail
          clear c0 c1 c1' c2 f2 cv sh
          go_roundw
          case measure => first | (simp [intOf]; done) | (simp [intOf]; omega)
          case rel => exact ⟨i + 1, by omega, by rw [HK.out]; congr 1; omega, HG.out, by rw [HTK.out, ← List.append_assoc]; exact HI2.out⟩
        · skip
          rw [if_pos (by rfl)]
          go_simp
          refine hK.out _ _ (trivial) (fun hHeld => ?_)
          clear hK K
          try simp only [Act.put, List.setIfInBounds_toArray, List.set_cons_zero, List.set_cons_succ]
          refine wpAnyH_ready (rs := [4]) (by kernel_rfl) (by simp) ?_
          refine AllReadyH.cons (by (simp only [List.getElem?_toArray, List.getElem?_cons_succ, List.getElem?_cons_zero]); rfl) (fun K hK => ?_) AllReadyH.nil
          go_simp
          refine hK.out _ _ (trivial) (fun hHeld => ?_)
          clear hK K
          try simp only [Act.put, List.setIfInBounds_toArray, List.set_cons_zero, List.set_cons_succ]
          refine wpAnyH_ready (rs := [10]) (by kernel_rfl) (by simp) ?_
          refine AllReadyH.cons (by (simp only [List.getElem?_toArray, List.getElem?_cons_succ, List.getElem?_cons_zero]); rfl) (fun K hK => ?_) AllReadyH.nil
          rw [if_pos (by rfl)]
          refine op_append_run (.tmp 18) (.tmp 23) 23 (by kernel_rfl) (by kernel_rfl) (by kernel_rfl) HRUN.out ?_
          refine hK.out _ _ (trivial) (fun hHeld => ?_)
          clear hK K
          try simp only [Act.put, List.setIfInBounds_toArray, List.set_cons_zero, List.set_cons_succ]
          ((refine wpAnyH_take (i := 11) (v := ?_) (by (simp only [List.getElem?_toArray, List.getElem?_cons_succ, List.getElem?_cons_zero]); rfl) (by kernel_rfl) (by kernel_rfl) (by kernel_rfl) (by exact fun _ _ _ h => h) (Or.inl ⟨by rfl, ?_⟩) (by assumption) ?_); rotate_left; focus (intro wS hSw; (try dsimp only at hSw); go_simp; first | done | with_reducible rfl); try simp only [Act.put, List.setIfInBounds_toArray, List.set_cons_zero, List.set_cons_succ])
          ((refine wpAnyH_take (i := 12) (v := ?_) (by (simp only [List.getElem?_toArray, List.getElem?_cons_succ, List.getElem?_cons_zero]); rfl) (by kernel_rfl) (by kernel_rfl) (by kernel_rfl) (by exact fun _ _ _ h => h) (Or.inl ⟨by rfl, ?_⟩) (by assumption) ?_); rotate_left; focus (intro wS hSw; (try dsimp only at hSw); go_simp; first | done | with_reducible rfl); try simp only [Act.put, List.setIfInBounds_toArray, List.set_cons_zero, List.set_cons_succ])
          refine wpAnyH_ready (rs := [13]) (by kernel_rfl) (by simp) ?_
          refine AllReadyH.cons (by (simp only [List.getElem?_toArray, List.getElem?_cons_succ, List.getElem?_cons_zero]); rfl) (fun K hK => ?_) AllReadyH.nil
          go_simp
          refine hK.out _ _ (trivial) (fun hHeld => ?_)
          clear hK K
          try simp only [Act.put, List.setIfInBounds_toArray, List.set_cons_zero, List.set_cons_succ]
          refine wpAnyH_done (by kernel_rfl) ?_ _
          try simp only [Act.put, List.setIfInBounds_toArray, List.set_cons_zero, List.set_cons_succ]
          go_wp2_with fail
          clear c0 c1 c1' c2 f2 cv sh
          go_roundw
          case measure => first | (simp [intOf]; done) | (simp [intOf]; omega)
          case rel => exact ⟨i + 1, by omega, by rw [HK.out]; congr 1; omega, HG.out, by rw [HTK.out, ← List.append_assoc]; exact HI2.out⟩
      · skip
        obtain rfl : i = 8 := by omega
        have kc : (0 ≤ k) = False := eq_false (by omega)
        have hend := HEND.out wr hF (by rw [show e8 n = (e8 n).take 8 from rfl]; exact hI)
        have HE := Lib.hid hend
        clear hF hI hk hend
        go_wp2_with fail
        go_end0
        exact ⟨rfl, HE.out⟩
end Go.Proofs.YtiednacpmlilbaaDoor
