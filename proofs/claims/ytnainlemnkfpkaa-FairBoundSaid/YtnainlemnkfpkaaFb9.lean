/-
  Heads of the call's own, grown by append.
-/
import Derived.Test.YtnainlemnkfpkaaFb8
namespace Go.Proofs.Ytnainlemnkfpkaa
open Go.RowKit
set_option linter.unusedSimpArgs false
set_option linter.unusedVariables false

theorem hd_grow {W : World} {M b n : Nat} {ty : TypeId} {v : Value} {ob : Option Nat} {E : Nat → HdE} (h : Row W v ob 67 2 n (hdL E n)) (hO : ∀ g, ob = some g → M ≤ g) (hb : Blk W b #[.int .i64 (E n).size, .int .i64 (E n).weight] 67) (hM : M ≤ W.heap.size) (hn : n ≤ 1000000) :
    ∃ v' ob' w', (Builtin.append_ #[32, 32] ty #[v, .slice (some ⟨b, 0, none⟩) 1 1]).run Try.prog W = .ok v' w' ∧ Row w' v' (some ob') 67 2 (n + 1) (hdL E (n + 1)) ∧ W.grownBy w' ob ∧ (ob = some ob' ∨ ob' = W.heap.size) ∧ Below M W w' ∧ M ≤ ob' := by
  obtain ⟨i0, hi, hz0, hz1, hz2⟩ := info_parts hdInfo
  obtain ⟨v', ob', w', hrun, s1, s2, s3⟩ := run_append_row (P := Try.prog) W 32 ty 67 i0 _ 2 16 Try.underlying32 hi hz0 hz1 hz2 rfl (by decide) v ob n (hdL E n) h ⟨b, 0, none⟩ 1 1 (E n).cells (by decide) rfl (fun j u hu => by
    rw [addr_add, cell_at hb, Nat.zero_add, List.getElem?_toArray]
    exact hu) (fun u hu => List.all_eq_true (p := fun u : Value => u.oneCell') |>.1 rfl u hu) (by unfold maxLen; omega) (by omega)
  refine ⟨v', ob', w', hrun, by rw [hdL_succ]; exact s1, s2, s3, (Below.refl M W).grown s2 hM hO, ?_⟩
  rcases s3 with h | h
  · exact hO _ h
  · omega
/-- a row of heads stays where other kinds of blocks change -/
theorem hd_fr {W W' : World} {v : Value} {ob : Option Nat} {n : Nat} {E : Nat → HdE} (h : Row W v ob 67 2 n (hdL E n)) {l : List Nat} (hf : Fr l W W') (hl : ∀ q ∈ l, ∃ cs ty, Blk W q cs ty ∧ ty ≠ 67) : Row W' v ob 67 2 n (hdL E n) := by
  cases ob with
  | none => exact h.congr fun q e => by cases e
  | some x => exact row_frT h hf hl
end Go.Proofs.Ytnainlemnkfpkaa
