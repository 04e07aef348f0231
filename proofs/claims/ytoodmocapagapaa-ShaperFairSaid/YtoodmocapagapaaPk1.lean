/-
  Flows in memory.
-/
import Derived.Test.YtoodmocapagapaaLib2
import Derived.Test.YtoodmocapagapaaDt
namespace Go.Proofs.Ytoodmocapagapaa
open Go.RowKit
set_option linter.unusedSimpArgs false
set_option linter.unusedVariables false

structure FlowE where
  t : Int
  w : Int
  r : Int
def FlowE.cells (e : FlowE) : List Value := [.int .i64 e.t, .int .i64 e.w, .int .i64 e.r]
def FlowE.ok (e : FlowE) : Prop := (-9223372036854775808 ≤ e.t ∧ e.t ≤ 9223372036854775807) ∧ (-9223372036854775808 ≤ e.w ∧ e.w ≤ 9223372036854775807) ∧ (-9223372036854775808 ≤ e.r ∧ e.r ≤ 9223372036854775807)
structure FlowIn (W : World) (a : Option Addr) (len cap b o : Nat) (E : Nat → FlowE) : Prop where
  le : len ≤ cap
  max : cap ≤ maxLen
  at_ : 0 < len → a = some ⟨b, o, none⟩ ∧ b < W.heap.size
  cell : ∀ k, k < len → W.cell? ⟨b, o + k * 3, none⟩ = some (.int .i64 (E k).t) ∧ W.cell? ⟨b, o + k * 3 + 1, none⟩ = some (.int .i64 (E k).w) ∧ W.cell? ⟨b, o + k * 3 + 2, none⟩ = some (.int .i64 (E k).r)
  bd : ∀ k, k < len → (E k).ok
theorem FlowIn.below {W W' : World} {a : Option Addr} {len cap b o : Nat} {E : Nat → FlowE} (h : FlowIn W a len cap b o E) (hB : Below W.heap.size W W') : FlowIn W' a len cap b o E :=
  ⟨h.le, h.max, fun hk => ⟨(h.at_ hk).1, by have := (h.at_ hk).2; have := hB.size; omega⟩, fun k hk => by
    have hb := (h.at_ (by omega)).2
    obtain ⟨c0, c1, c2⟩ := h.cell k hk
    exact ⟨(hB.cell (p := ⟨b, _, none⟩) hb).trans c0, (hB.cell (p := ⟨b, _, none⟩) hb).trans c1, (hB.cell (p := ⟨b, _, none⟩) hb).trans c2⟩, h.bd⟩
theorem flow_cells (W : World) {a : Option Addr} {len cap : Nat} {xs : List Dt} (h : SliceFits Try.prog W 51 a len cap xs) : ∃ (b o : Nat) (E : Nat → FlowE), FlowIn W a len cap b o E := by
  have hc : Try.prog.cellsOf 51 = 3 := by kernel_rfl
  obtain ⟨b, o, h1, h2⟩ := h.spot (by rw [hc]; omega)
  have hex : ∀ k, ∃ q : FlowE, k < len → (W.cell? ⟨b, o + k * 3, none⟩ = some (.int .i64 q.t) ∧ W.cell? ⟨b, o + k * 3 + 1, none⟩ = some (.int .i64 q.w) ∧ W.cell? ⟨b, o + k * 3 + 2, none⟩ = some (.int .i64 q.r)) ∧ q.ok := fun k => by
    by_cases hk : k < len
    · have hl := h.length
      have hx := List.getElem?_eq_getElem (l := xs) (i := k) (by omega)
      obtain ⟨l0, hxe, hl0, hf0⟩ := (h.each k _ hx).1.agg_inv Try.underlying51
      obtain ⟨y0_0, e0_0, f0_0⟩ := hf0 0 _ rfl
      obtain ⟨y0_1, e0_1, f0_1⟩ := hf0 1 _ rfl
      obtain ⟨y0_2, e0_2, f0_2⟩ := hf0 2 _ rfl
      obtain ⟨v0_0, rfl, gv0_0⟩ := f0_0.int_inv Try.underlying3
      obtain ⟨v0_1, rfl, gv0_1⟩ := f0_1.int_inv Try.underlying3
      obtain ⟨v0_2, rfl, gv0_2⟩ := f0_2.int_inv Try.underlying3
      match l0, hl0 with
      | [z0_0, z0_1, z0_2], _ =>
        obtain rfl : z0_0 = _ := by simpa using e0_0
        obtain rfl : z0_1 = _ := by simpa using e0_1
        obtain rfl : z0_2 = _ := by simpa using e0_2
        have hcell := h2 k _ hx
        rw [hxe, hc] at hcell
        exact ⟨⟨v0_0, v0_1, v0_2⟩, fun _ => ⟨⟨hcell 0 _ rfl, by have := hcell 1 _ rfl; rwa [← Nat.add_assoc] at this, by have := hcell 2 _ rfl; rwa [← Nat.add_assoc] at this⟩, gv0_0, gv0_1, gv0_2⟩⟩
    · exact ⟨⟨0, 0, 0⟩, fun h => absurd h hk⟩
  have hg := fun k => Classical.choose_spec (hex k)
  exact ⟨b, o, fun k => Classical.choose (hex k), h.le, h.max, h1, fun k hk => (hg k hk).1, fun k hk => (hg k hk).2⟩
def flowL (E : Nat → FlowE) (n : Nat) : List Value := (List.range n).flatMap fun k => (E k).cells
theorem flowL_succ (E : Nat → FlowE) (n : Nat) : flowL E (n + 1) = flowL E n ++ (E n).cells := by simp [flowL, List.range_succ, List.flatMap_append]
theorem flowL_len (E : Nat → FlowE) : ∀ n : Nat, (flowL E n).length = n * 3
  | 0 => by simp [flowL]
  | n + 1 => by rw [flowL_succ, List.length_append, flowL_len E n]; simp [FlowE.cells]; omega
theorem flowL_congr {E E' : Nat → FlowE} : ∀ {n : Nat}, (∀ k, k < n → E k = E' k) → flowL E n = flowL E' n
  | 0, _ => rfl
  | n + 1, h => by rw [flowL_succ, flowL_succ, flowL_congr (fun k hk => h k (by omega)), h n (by omega)]
theorem flowL_at (E : Nat → FlowE) : ∀ (n k j : Nat), k < n → j < 3 → (flowL E n)[k * 3 + j]? = (E k).cells[j]?
  | 0, _, _, h, _ => by omega
  | n + 1, k, j, h, hj => by
    have hl := flowL_len E n
    rw [flowL_succ]
    by_cases hk : k < n
    · rw [List.getElem?_append_left (by omega)]
      exact flowL_at E n k j hk hj
    · obtain rfl : k = n := by omega
      rw [List.getElem?_append_right (by omega), hl]
      congr 1
      omega
theorem flow_row {w : World} {v : Value} {ob : Option Nat} {E : Nat → FlowE} {n : Nat} (h : Row w v ob 51 3 n (flowL E n)) (hE : ∀ k, k < n → (E k).ok) :
    ∃ a cap, v = .slice a n cap ∧ FlowIn w a n cap (ob.getD 0) 0 E := by
  obtain ⟨a, cap, rfl, h1, h2, h3⟩ := h.shape
  refine ⟨a, cap, rfl, h1, h2, fun hk => ?_, fun k hk => ?_, hE⟩
  · obtain ⟨g, hg, _⟩ := h.cell 0 (by omega)
    subst hg
    exact ⟨h3, h.lt⟩
  · have hh : ∀ j, j < 3 → w.cell? ⟨ob.getD 0, 0 + k * 3 + j, none⟩ = (E k).cells[j]? := fun j hj => by
      obtain ⟨g, hg, hc, _⟩ := h.cell (k * 3 + j) (by omega)
      subst hg
      rw [Option.getD_some, Nat.zero_add, hc, flowL_at E n k j hk hj]
    exact ⟨hh 0 (by omega), hh 1 (by omega), hh 2 (by omega)⟩
end Go.Proofs.Ytoodmocapagapaa
