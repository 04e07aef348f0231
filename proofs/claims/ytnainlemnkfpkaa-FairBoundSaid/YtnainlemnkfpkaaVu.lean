/-
  Tags of flows, in memory.
-/
import Derived.Test.YtnainlemnkfpkaaLib2
import Derived.Test.YtnainlemnkfpkaaDt
namespace Go.Proofs.Ytnainlemnkfpkaa
open Go.RowKit
set_option linter.unusedSimpArgs false
set_option linter.unusedVariables false

structure TagsE where
  s : Int
  f : Int
def TagsE.cells (e : TagsE) : List Value := [.int .i64 e.s, .int .i64 e.f]
def TagsE.ok (e : TagsE) : Prop := (-9223372036854775808 ≤ e.s ∧ e.s ≤ 9223372036854775807) ∧ (-9223372036854775808 ≤ e.f ∧ e.f ≤ 9223372036854775807)
structure TagsIn (W : World) (a : Option Addr) (len cap b o : Nat) (E : Nat → TagsE) : Prop where
  le : len ≤ cap
  max : cap ≤ maxLen
  at_ : 0 < len → a = some ⟨b, o, none⟩ ∧ b < W.heap.size
  cell : ∀ k, k < len → W.cell? ⟨b, o + k * 2, none⟩ = some (.int .i64 (E k).s) ∧ W.cell? ⟨b, o + k * 2 + 1, none⟩ = some (.int .i64 (E k).f)
  bd : ∀ k, k < len → (E k).ok
theorem TagsIn.below {W W' : World} {a : Option Addr} {len cap b o : Nat} {E : Nat → TagsE} (h : TagsIn W a len cap b o E) (hB : Below W.heap.size W W') : TagsIn W' a len cap b o E :=
  ⟨h.le, h.max, fun hk => ⟨(h.at_ hk).1, by have := (h.at_ hk).2; have := hB.size; omega⟩, fun k hk => by
    have hb := (h.at_ (by omega)).2
    obtain ⟨c0, c1⟩ := h.cell k hk
    exact ⟨(hB.cell (p := ⟨b, _, none⟩) hb).trans c0, (hB.cell (p := ⟨b, _, none⟩) hb).trans c1⟩, h.bd⟩
theorem tags_cells (W : World) {a : Option Addr} {len cap : Nat} {xs : List Dt} (h : SliceFits Try.prog W 80 a len cap xs) : ∃ (b o : Nat) (E : Nat → TagsE), TagsIn W a len cap b o E := by
  have hc : Try.prog.cellsOf 80 = 2 := by kernel_rfl
  obtain ⟨b, o, h1, h2⟩ := h.spot (by rw [hc]; omega)
  have hex : ∀ k, ∃ q : TagsE, k < len → (W.cell? ⟨b, o + k * 2, none⟩ = some (.int .i64 q.s) ∧ W.cell? ⟨b, o + k * 2 + 1, none⟩ = some (.int .i64 q.f)) ∧ q.ok := fun k => by
    by_cases hk : k < len
    · have hl := h.length
      have hx := List.getElem?_eq_getElem (l := xs) (i := k) (by omega)
      obtain ⟨l0, hl1, hl0, hf0⟩ := (h.each k _ hx).1.agg_inv Try.underlying80
      obtain ⟨y0_0, e0_0, f0_0⟩ := hf0 0 _ rfl
      obtain ⟨y0_1, e0_1, f0_1⟩ := hf0 1 _ rfl
      obtain ⟨v0_0, rfl, gv0_0⟩ := f0_0.int_inv Try.underlying3
      obtain ⟨v0_1, rfl, gv0_1⟩ := f0_1.int_inv Try.underlying3
      match l0, hl0 with
      | [z0_0, z0_1], _ =>
        obtain rfl : z0_0 = _ := by simpa using e0_0
        obtain rfl : z0_1 = _ := by simpa using e0_1
        have hcell := h2 k _ hx
        rw [hl1, hc] at hcell
        exact ⟨⟨v0_0, v0_1⟩, fun _ => ⟨⟨hcell 0 _ rfl, by have := hcell 1 _ rfl; rwa [← Nat.add_assoc] at this⟩, gv0_0, gv0_1⟩⟩
    · exact ⟨⟨0, 0⟩, fun h => absurd h hk⟩
  have hg := fun k => Classical.choose_spec (hex k)
  exact ⟨b, o, fun k => Classical.choose (hex k), h.le, h.max, h1, fun k hk => (hg k hk).1, fun k hk => (hg k hk).2⟩
def tagsL (E : Nat → TagsE) (n : Nat) : List Value := (List.range n).flatMap fun k => (E k).cells
theorem tagsL_succ (E : Nat → TagsE) (n : Nat) : tagsL E (n + 1) = tagsL E n ++ (E n).cells := by simp [tagsL, List.range_succ, List.flatMap_append]
theorem tagsL_len (E : Nat → TagsE) : ∀ n : Nat, (tagsL E n).length = n * 2
  | 0 => by simp [tagsL]
  | n + 1 => by rw [tagsL_succ, List.length_append, tagsL_len E n]; simp [TagsE.cells]; omega
theorem tagsL_congr {E E' : Nat → TagsE} : ∀ {n : Nat}, (∀ k, k < n → E k = E' k) → tagsL E n = tagsL E' n
  | 0, _ => rfl
  | n + 1, h => by rw [tagsL_succ, tagsL_succ, tagsL_congr (fun k hk => h k (by omega)), h n (by omega)]
theorem tagsL_at (E : Nat → TagsE) : ∀ (n k j : Nat), k < n → j < 2 → (tagsL E n)[k * 2 + j]? = (E k).cells[j]?
  | 0, _, _, h, _ => by omega
  | n + 1, k, j, h, hj => by
    have hl := tagsL_len E n
    rw [tagsL_succ]
    by_cases hk : k < n
    · rw [List.getElem?_append_left (by omega)]
      exact tagsL_at E n k j hk hj
    · obtain rfl : k = n := by omega
      rw [List.getElem?_append_right (by omega), hl]
      congr 1
      omega
theorem tags_row {w : World} {v : Value} {ob : Option Nat} {E : Nat → TagsE} {n : Nat} (h : Row w v ob 80 2 n (tagsL E n)) (hE : ∀ k, k < n → (E k).ok) :
    ∃ a cap, v = .slice a n cap ∧ TagsIn w a n cap (ob.getD 0) 0 E := by
  obtain ⟨a, cap, rfl, h1, h2, h3⟩ := h.shape
  refine ⟨a, cap, rfl, h1, h2, fun hk => ?_, fun k hk => ?_, hE⟩
  · obtain ⟨g, hg, _⟩ := h.cell 0 (by omega)
    subst hg
    exact ⟨h3, h.lt⟩
  · have hh : ∀ j, j < 2 → w.cell? ⟨ob.getD 0, 0 + k * 2 + j, none⟩ = (E k).cells[j]? := fun j hj => by
      obtain ⟨g, hg, hc, _⟩ := h.cell (k * 2 + j) (by omega)
      subst hg
      rw [Option.getD_some, Nat.zero_add, hc, tagsL_at E n k j hk hj]
    exact ⟨hh 0 (by omega), hh 1 (by omega)⟩
end Go.Proofs.Ytnainlemnkfpkaa
