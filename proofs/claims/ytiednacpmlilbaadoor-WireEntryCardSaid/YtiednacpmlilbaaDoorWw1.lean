/-
  What a form makes of an answer.
-/
import Derived.Test.YtiednacpmlilbaaDoorWp4
namespace Go.Proofs.YtiednacpmlilbaaDoor
open Go.RowKit
set_option linter.unusedSimpArgs false
set_option linter.unusedVariables false

set_option maxRecDepth 100000 in
set_option maxHeartbeats 8000000 in
theorem write_Answer (W : World) (cs : Array Value) (K : FuncId) (L : List Nat) (hK : EntK K) (hcs : cs.size = 5)
    (hcall : ∀ (W2 : World) (B p : Nat), Below W.heap.size W W2 → W.heap.size ≤ B → B < p → Blk W2 B cs 48 → (penS p).In W2 [] → Calls Tryd.prog K #[(penS p).hv, .pointer (some ⟨B, 0, none⟩)] W2 (fun e W' => e = .returned (.tuple #[]) ∧ FrA (penS p) (fun _ _ _ => False) W2 W' ∧ (penS p).In W' L)) :
    Calls Tryd.prog 67 #[.agg cs, .func (.func K) #[] #[]] W fun e W' => ∃ v, e = .returned v ∧ BV W' v L ∧ Below W.heap.size W W' := by
  obtain ⟨B, hB⟩ : ∃ B, B = W.heap.size := ⟨_, rfl⟩
  obtain ⟨p, hp⟩ : ∃ p, p = B + 1 := ⟨_, rfl⟩
  obtain ⟨W1, hW1⟩ : ∃ X, X = W.alloc (.cells cs 48) := ⟨_, rfl⟩
  obtain ⟨W2, hW2⟩ : ∃ X, X = W1.alloc (.cells #[.slice none 0 0] 156) := ⟨_, rfl⟩
  have hB1 : Below W.heap.size W W1 := by rw [hW1]; exact alloc_b _ _
  have hs1 : W1.heap.size = p := by rw [hW1, hp, hB]; simp
  have hB2 : Below W.heap.size W W2 := hB1.trans (by rw [hW2]; exact (alloc_b W1 _).mono hB1.size)
  have hb1 : Blk W1 B cs 48 := by rw [hW1, hB]; exact blk_new _ _ _
  have hb2 : Blk W2 B cs 48 := hb1.step (by rw [hW2]; exact alloc_b _ _)
  have hI2 : (penS p).In W2 [] := ⟨_, none, by rw [hW2, ← hs1]; exact blk_new _ _ _, bo_nil _ _⟩
  have hc := hcall W2 B p hB2 (by omega) (by omega) hb2 hI2
  unfold HS.hv fv at hc
  have HC1 := Lib.hid (show Calls Tryd.prog K #[.agg #[.func (.func 86) #[.pointer (some ⟨p, 0, none⟩)] #[], .func (.func 87) #[.pointer (some ⟨p, 0, none⟩)] #[], .func (.func 88) #[.pointer (some ⟨p, 0, none⟩)] #[], .func (.func 89) #[.pointer (some ⟨p, 0, none⟩)] #[], .func (.func 90) #[.pointer (some ⟨p, 0, none⟩)] #[], .func (.func 91) #[.pointer (some ⟨p, 0, none⟩)] #[]], .pointer (some ⟨B, 0, none⟩)] W2 (fun e W' => e = .returned (.tuple #[]) ∧ FrA (penS p) (fun _ _ _ => False) W2 W' ∧ (penS p).In W' L) from hc)
  have HB2 := Lib.hid hB2
  have HLO := Lib.hid (show W.heap.size ≤ p by omega)
  have HKK := Lib.hid hK
  unfold EntK at hK
  have hsz : cs.size = 5 := hcs
  have HS1 := Lib.hid hs1
  clear hcall hB1 hb1 hb2 hI2 hc hB2 hcs hs1 hp
  go_enter Tryd.func67, Tryd.ntmps67
  go_upto_region 1 with fail
  rw [← hB, ← hW1]
  clear hW1 hB
  go_upto_region 2 with fail
  rw [HS1.out]
  rw [← hW2]
  clear hW2 HS1
  go_wp2_with (refine Calls.mono HC1.out ?_; rintro e W3 ⟨rfl, hF3, v, ob, hb3, ho3⟩; have q0 : W3.cell? ⟨p, 0, none⟩ = some v := cell_at hb3 0)
  have HEND := Lib.hid (And.intro ho3.v (HB2.out.trans (hF3.below.mono HLO.out)))
  clear hF3 hb3 ho3 HC1
  try go_wp2_with fail
  try rw [Exit.noGoto_ret]
  exact bodyPost_ret (v := v) (by simp [results, Tryd.results67, go_sem]) rfl ⟨v, rfl, HEND.out⟩
end Go.Proofs.YtiednacpmlilbaaDoor
