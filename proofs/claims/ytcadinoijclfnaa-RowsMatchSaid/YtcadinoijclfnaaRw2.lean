/-
  Rows that came in, and what may be asked of them.
-/
import Derived.Test.YtcadinoijclfnaaRw
namespace Go.Proofs.Ytcadinoijclfnaa
open Go.RowKit
set_option linter.unusedSimpArgs false
set_option linter.unusedVariables false

structure Ent where
  t : Int
  k : Int
  s : Int
  st : Int
  da : Option Addr
  dl : Nat
  dc : Nat

/-- Entries that came in. -/
structure EntsIn (W : World) (a : Option Addr) (len cap : Nat) (b o : Nat) (E : Nat → Ent) : Prop where
  le : len ≤ cap
  max : cap ≤ maxLen
  few : len * 56 ≤ 140737488351232
  at_ : 0 < len → a = some ⟨b, o, none⟩ ∧ b < W.heap.size
  cell : ∀ k, k < len → W.cell? ⟨b, o + k * 5, none⟩ = some (.int .i64 (E k).t) ∧ W.cell? ⟨b, o + k * 5 + 1, none⟩ = some (.int .i8 (E k).k) ∧ W.cell? ⟨b, o + k * 5 + 2, none⟩ = some (.int .i64 (E k).s) ∧ W.cell? ⟨b, o + k * 5 + 3, none⟩ = some (.int .u8 (E k).st) ∧
    W.cell? ⟨b, o + k * 5 + 4, none⟩ = some (.slice (E k).da (E k).dl (E k).dc)
  bd : ∀ k, k < len → -9223372036854775808 ≤ (E k).t ∧ (E k).t ≤ 9223372036854775807 ∧ -128 ≤ (E k).k ∧ (E k).k ≤ 127 ∧ -9223372036854775808 ≤ (E k).s ∧ (E k).s ≤ 9223372036854775807 ∧ 0 ≤ (E k).st ∧ (E k).st ≤ 255 ∧ (E k).dl ≤ (E k).dc ∧ (E k).dc ≤ maxLen

theorem EntsIn.below {W W' : World} {a : Option Addr} {len cap b o : Nat} {E : Nat → Ent} (h : EntsIn W a len cap b o E) (hB : Below W.heap.size W W') : EntsIn W' a len cap b o E :=
  ⟨h.le, h.max, h.few, fun hk => ⟨(h.at_ hk).1, by have := (h.at_ hk).2; have := hB.size; omega⟩, fun k hk => by
    have hb := (h.at_ (by omega)).2
    obtain ⟨c0, c1, c2, c3, c4⟩ := h.cell k hk
    exact ⟨(hB.cell (p := ⟨b, _, none⟩) hb).trans c0, (hB.cell (p := ⟨b, _, none⟩) hb).trans c1, (hB.cell (p := ⟨b, _, none⟩) hb).trans c2, (hB.cell (p := ⟨b, _, none⟩) hb).trans c3, (hB.cell (p := ⟨b, _, none⟩) hb).trans c4⟩, h.bd⟩

theorem ents_cells (W : World) {a : Option Addr} {len cap : Nat} {xs : List Dt} (h : SliceFits Try.prog W 47 a len cap xs) : ∃ (b o : Nat) (E : Nat → Ent), EntsIn W a len cap b o E := by
  have hc : Try.prog.cellsOf 47 = 5 := by kernel_rfl
  obtain ⟨b, o, h1, h2⟩ := h.spot (by rw [hc]; omega)
  have hex : ∀ k, ∃ q : Ent, k < len → (W.cell? ⟨b, o + k * 5, none⟩ = some (.int .i64 q.t) ∧ W.cell? ⟨b, o + k * 5 + 1, none⟩ = some (.int .i8 q.k) ∧ W.cell? ⟨b, o + k * 5 + 2, none⟩ = some (.int .i64 q.s) ∧ W.cell? ⟨b, o + k * 5 + 3, none⟩ = some (.int .u8 q.st) ∧
      W.cell? ⟨b, o + k * 5 + 4, none⟩ = some (.slice q.da q.dl q.dc)) ∧ -9223372036854775808 ≤ q.t ∧ q.t ≤ 9223372036854775807 ∧ -128 ≤ q.k ∧ q.k ≤ 127 ∧ -9223372036854775808 ≤ q.s ∧ q.s ≤ 9223372036854775807 ∧ 0 ≤ q.st ∧ q.st ≤ 255 ∧ q.dl ≤ q.dc ∧ q.dc ≤ maxLen := fun k => by
    by_cases hk : k < len
    · have hl := h.length
      have hx := List.getElem?_eq_getElem (l := xs) (i := k) (by omega)
      obtain ⟨l, hl1, hl2, hl3⟩ := (h.each k _ hx).1.agg_inv Try.underlying47
      obtain ⟨y0, e0, f0⟩ := hl3 0 _ rfl
      obtain ⟨y1, e1, f1⟩ := hl3 1 _ rfl
      obtain ⟨y2, e2, f2⟩ := hl3 2 _ rfl
      obtain ⟨y3, e3, f3⟩ := hl3 3 _ rfl
      obtain ⟨y4, e4, f4⟩ := hl3 4 _ rfl
      obtain ⟨n0, rfl, g0⟩ := f0.int_inv Try.underlying3
      obtain ⟨n1, rfl, g1⟩ := f1.int_inv Try.underlying44
      obtain ⟨n2, rfl, g2⟩ := f2.int_inv Try.underlying3
      obtain ⟨n3, rfl, g3⟩ := f3.int_inv Try.underlying5
      obtain ⟨da, dl, dc, ys, rfl, g4⟩ := f4.slice_inv Try.underlying45
      match l, hl2 with
      | [z0, z1, z2, z3, z4], _ =>
        obtain rfl : z0 = _ := by simpa using e0
        obtain rfl : z1 = _ := by simpa using e1
        obtain rfl : z2 = _ := by simpa using e2
        obtain rfl : z3 = _ := by simpa using e3
        obtain rfl : z4 = _ := by simpa using e4
        have hcell := h2 k _ hx
        rw [hl1, hc] at hcell
        refine ⟨⟨n0, n1, n2, n3, da, dl, dc⟩, fun _ => ⟨⟨hcell 0 _ rfl, by have := hcell 1 _ rfl; rwa [← Nat.add_assoc] at this, by have := hcell 2 _ rfl; rwa [← Nat.add_assoc] at this, by have := hcell 3 _ rfl; rwa [← Nat.add_assoc] at this, by have := hcell 4 _ rfl; rwa [← Nat.add_assoc] at this⟩, g0.1, g0.2, g1.1, g1.2, g2.1, g2.2, g3.1, g3.2, g4.le, g4.max⟩⟩
    · exact ⟨⟨0, 0, 0, 0, none, 0, 0⟩, fun h => absurd h hk⟩
  have hg := fun k => Classical.choose_spec (hex k)
  have hfew : len * 56 ≤ 140737488351232 := by
    have := h.short
    have e : Try.prog.bytesOf 47 = 56 := by kernel_rfl
    rw [e] at this
    omega
  exact ⟨b, o, fun k => Classical.choose (hex k), h.le, h.max, hfew, h1, fun k hk => (hg k hk).1, fun k hk => (hg k hk).2⟩

/-- may these entries be, from the k-th on, behind that term? -/
def chk (E : Nat → Ent) : Nat → Nat → Int → Bool
  | 0, _, _ => true
  | n + 1, k, t => decide (t ≤ (E k).t) && entB (E k).k (E k).s (E k).st (E k).dl && chk E n (k + 1) (E k).t
theorem chk_step (E : Nat → Ent) {len k : Nat} (t : Int) (h : k < len) : chk E (len - k) k t = (decide (t ≤ (E k).t) && entB (E k).k (E k).s (E k).st (E k).dl && chk E (len - (k + 1)) (k + 1) (E k).t) := by
  obtain ⟨n, hn⟩ : ∃ n, len - k = n + 1 := ⟨len - k - 1, by omega⟩
  rw [hn, show len - (k + 1) = n by omega]
  rfl

def headB (base term : Int) (len : Nat) : Bool := decide (0 ≤ base) && decide (base ≤ 1099511627776 - len) && decide (len ≤ 4096) && decide (0 ≤ term) && ((base == 0) == (term == 0))
def rowsB (base term : Int) (len : Nat) (E : Nat → Ent) : Bool := headB base term len && chk E len 0 (max term 1)
/-- what Check answers -/
def rowsE (base term : Int) (len : Nat) (E : Nat → Ent) : Int := if rowsB base term len E then 0 else 90

theorem head_cases (base term : Int) (len : Nat) :
    (headB base term len = false ∧ (base < 0 ∨ (4096 < len ∧ 1099511627776 < len ∧ ((base = 0 ∧ term ≠ 0) ∨ (base = 0 ∧ term = 0) ∨ 0 < base)) ∨
      (4096 < len ∧ len ≤ 1099511627776 ∧ ((base = 0 ∧ term ≠ 0) ∨ (base = 0 ∧ term = 0) ∨ (0 < base ∧ 1099511627776 - len < base) ∨ (0 < base ∧ base ≤ 1099511627776 - len ∧ term < 1) ∨ (0 < base ∧ base ≤ 1099511627776 - len ∧ 1 ≤ term))) ∨
      (len ≤ 4096 ∧ ((0 < base ∧ 1099511627776 - len < base) ∨ (base = 0 ∧ term ≠ 0) ∨ (0 < base ∧ base ≤ 1099511627776 - len ∧ term < 1))))) ∨
    (headB base term len = true ∧ len ≤ 4096 ∧ ((base = 0 ∧ term = 0) ∨ (0 < base ∧ base ≤ 1099511627776 - len ∧ 1 ≤ term))) := by
  have hb : headB base term len = true ↔ (0 ≤ base ∧ base ≤ 1099511627776 - len ∧ len ≤ 4096 ∧ 0 ≤ term ∧ ((base = 0 ∧ term = 0) ∨ (base ≠ 0 ∧ term ≠ 0))) := by
    unfold headB
    by_cases h1 : base = 0
    · by_cases h2 : term = 0
      · subst h1 h2; simp
      · subst h1; simp [h2]
    · by_cases h2 : term = 0
      · subst h2; simp [h1]
      · rw [show (base == 0) = false by simpa using h1, show (term == 0) = false by simpa using h2]; simp [h1, h2]; omega
  cases hh : headB base term len
  · refine .inl ⟨rfl, ?_⟩
    have : ¬ (0 ≤ base ∧ base ≤ 1099511627776 - len ∧ len ≤ 4096 ∧ 0 ≤ term ∧ ((base = 0 ∧ term = 0) ∨ (base ≠ 0 ∧ term ≠ 0))) := fun h => by rw [hb.2 h] at hh; cases hh
    by_cases h1 : base = 0
    · by_cases h2 : term = 0
      · have : ¬ (0 ≤ base ∧ base ≤ 1099511627776 - len ∧ len ≤ 4096 ∧ 0 ≤ term) := fun h => this ⟨h.1, h.2.1, h.2.2.1, h.2.2.2, .inl ⟨h1, h2⟩⟩
        omega
      · omega
    · by_cases h2 : term = 0
      · omega
      · have : ¬ (0 ≤ base ∧ base ≤ 1099511627776 - len ∧ len ≤ 4096 ∧ 0 ≤ term) := fun h => this ⟨h.1, h.2.1, h.2.2.1, h.2.2.2, .inr ⟨h1, h2⟩⟩
        omega
  · have := hb.1 hh
    exact .inr ⟨rfl, by omega⟩
end Go.Proofs.Ytcadinoijclfnaa
