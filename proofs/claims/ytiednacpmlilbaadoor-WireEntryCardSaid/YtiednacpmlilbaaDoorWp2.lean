/-
  The pen: truth.
-/
import Derived.Test.YtiednacpmlilbaaDoorWp
namespace Go.Proofs.YtiednacpmlilbaaDoor
open Go.RowKit
set_option linter.unusedSimpArgs false
set_option linter.unusedVariables false

set_option maxRecDepth 100000 in
set_option maxHeartbeats 8000000 in
theorem pen_truth (p : Nat) : StepC (penS p) .truth 89 := by
  intro W s ty g j d hI hD hP
  obtain ⟨x, hAt, hCD⟩ := hD
  cases d with
  | b l => exact hCD.elim
  | i n =>
    obtain ⟨b, rfl, hn⟩ := hCD
    have hgp := pen_nep hI hAt
    have hI0 := hI
    obtain ⟨m, hm⟩ : ∃ m : Nat, m = if b then 1 else 0 := ⟨_, rfl⟩
    obtain rfl : n = (m : Int) := by rw [hn, hm]; cases b <;> rfl
    have hm1 : m ≤ 1 := by rw [hm]; cases b <;> simp
    obtain ⟨v, ob, hb, ho⟩ := hI
    have hB1 : Below W.heap.size W (W.alloc (.cells #[.int .u8 (m : Nat)] 5)) := alloc_b _ _
    obtain ⟨a', n', c', W2, hr, hb2, hF2, hF3, hI2⟩ := pen_app (L2 := [m]) 23 hb ho hB1 (bv_one (blk_new _ _ _) (by omega)) hP.2 (fun _ _ _ => False)
    have hA3 := hAt.fr hF3 id
    obtain ⟨PO, hPO⟩ : ∃ PO : World → Prop, PO = fun W' => FrA (penS p) (cell1 ty g j) W W' ∧ (penS p).In W' (s ++ [m]) ∧ Dp (penS p) W' .truth ty g j (.i (m : Int)) := ⟨_, rfl⟩
    suffices hsuf : Calls Tryd.prog 89 #[.pointer (some ⟨p, 0, none⟩), .pointer (some ⟨g, j, none⟩)] W (fun e W' => e = .returned (.tuple #[]) ∧ PO W') from Calls.mono hsuf fun e W' h => by
      obtain ⟨h1, h2⟩ := h
      rw [hPO] at h2
      exact ⟨h2.1, h1, h2.2⟩
    have HEND := Lib.hid (show PO (W2.setCell ⟨p, 0, none⟩ (.slice a' n' c')) by rw [hPO]; exact ⟨hF3.mono (fun _ _ _ h => h.elim), hI2, _, hA3, b, rfl, by rw [hm]; cases b <;> rfl⟩)
    have q0 : W.cell? ⟨g, j, none⟩ = some (.bool b) := hAt.cell
    have c0 : W.cell? ⟨p, 0, none⟩ = some v := cell_at hb 0
    have c1 : (W.alloc (.cells #[.int .u8 (m : Nat)] 5)).cell? ⟨p, 0, none⟩ = some v := cell_at (hb.step hB1) 0
    have c2 : W2.cell? ⟨p, 0, none⟩ = some v := cell_at hb2 0
    have f2 : W2.frozen? ⟨p, 0, none⟩ = false := free_at hb2 0
    clear hPO hA3 hAt hI0 hI2 hF2 hF3 hb hb2 ho hB1 hP hm1 hn
    go_enter Tryd.func89, Tryd.ntmps89
    cases b
    · skip
      obtain rfl : m = 0 := by rw [hm]; rfl
      clear hm
      have HRUN := Lib.hid hr
      clear hr
      go_wp2_with (at_builtin; refine Lib.wpList_append_run _ rfl (.tmp 12) (.tmp 14) 23 23 rfl _ _ rfl rfl _ _ HRUN.out ?_)
      go_wp2_with fail
      go_end0
      exact ⟨rfl, HEND.out⟩
    · skip
      obtain rfl : m = 1 := by rw [hm]; rfl
      clear hm
      have HRUN := Lib.hid hr
      clear hr
      go_wp2_with (at_builtin; refine Lib.wpList_append_run _ rfl (.tmp 12) (.tmp 14) 23 23 rfl _ _ rfl rfl _ _ HRUN.out ?_)
      go_wp2_with fail
      go_end0
      exact ⟨rfl, HEND.out⟩
end Go.Proofs.YtiednacpmlilbaaDoor
