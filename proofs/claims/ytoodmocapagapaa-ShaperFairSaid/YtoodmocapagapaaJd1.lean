/-
  Records in memory: what was sent, policies in force; sums and spans.
-/
import Derived.Test.YtoodmocapagapaaLib2
import Derived.Test.YtoodmocapagapaaDt
namespace Go.Proofs.Ytoodmocapagapaa
open Go.RowKit
set_option linter.unusedSimpArgs false
set_option linter.unusedVariables false

structure SentE where
  t : Int
  sh : Int
  ten : Int
  fl : Int
  sz : Int
  pk : Int
def SentE.cells (e : SentE) : List Value := [.int .i64 e.t, .int .i64 e.sh, .int .i64 e.ten, .int .i64 e.fl, .int .i64 e.sz, .int .i64 e.pk]
def SentE.ok (e : SentE) : Prop := (-9223372036854775808 ≤ e.t ∧ e.t ≤ 9223372036854775807) ∧ (-9223372036854775808 ≤ e.sh ∧ e.sh ≤ 9223372036854775807) ∧ (-9223372036854775808 ≤ e.ten ∧ e.ten ≤ 9223372036854775807) ∧ (-9223372036854775808 ≤ e.fl ∧ e.fl ≤ 9223372036854775807) ∧ (-9223372036854775808 ≤ e.sz ∧ e.sz ≤ 9223372036854775807) ∧ (-9223372036854775808 ≤ e.pk ∧ e.pk ≤ 9223372036854775807)
structure SentIn (W : World) (a : Option Addr) (len cap b o : Nat) (E : Nat → SentE) : Prop where
  le : len ≤ cap
  max : cap ≤ maxLen
  at_ : 0 < len → a = some ⟨b, o, none⟩ ∧ b < W.heap.size
  cell : ∀ k, k < len → W.cell? ⟨b, o + k * 6, none⟩ = some (.int .i64 (E k).t) ∧ W.cell? ⟨b, o + k * 6 + 1, none⟩ = some (.int .i64 (E k).sh) ∧ W.cell? ⟨b, o + k * 6 + 2, none⟩ = some (.int .i64 (E k).ten) ∧ W.cell? ⟨b, o + k * 6 + 3, none⟩ = some (.int .i64 (E k).fl) ∧ W.cell? ⟨b, o + k * 6 + 4, none⟩ = some (.int .i64 (E k).sz) ∧ W.cell? ⟨b, o + k * 6 + 5, none⟩ = some (.int .i64 (E k).pk)
  bd : ∀ k, k < len → (E k).ok
theorem SentIn.below {W W' : World} {a : Option Addr} {len cap b o : Nat} {E : Nat → SentE} (h : SentIn W a len cap b o E) (hB : Below W.heap.size W W') : SentIn W' a len cap b o E :=
  ⟨h.le, h.max, fun hk => ⟨(h.at_ hk).1, by have := (h.at_ hk).2; have := hB.size; omega⟩, fun k hk => by
    have hb := (h.at_ (by omega)).2
    obtain ⟨c0, c1, c2, c3, c4, c5⟩ := h.cell k hk
    exact ⟨(hB.cell (p := ⟨b, _, none⟩) hb).trans c0, (hB.cell (p := ⟨b, _, none⟩) hb).trans c1, (hB.cell (p := ⟨b, _, none⟩) hb).trans c2, (hB.cell (p := ⟨b, _, none⟩) hb).trans c3, (hB.cell (p := ⟨b, _, none⟩) hb).trans c4, (hB.cell (p := ⟨b, _, none⟩) hb).trans c5⟩, h.bd⟩
theorem sent_cells (W : World) {a : Option Addr} {len cap : Nat} {xs : List Dt} (h : SliceFits Try.prog W 46 a len cap xs) : ∃ (b o : Nat) (E : Nat → SentE), SentIn W a len cap b o E := by
  have hc : Try.prog.cellsOf 46 = 6 := by kernel_rfl
  obtain ⟨b, o, h1, h2⟩ := h.spot (by rw [hc]; omega)
  have hex : ∀ k, ∃ q : SentE, k < len → (W.cell? ⟨b, o + k * 6, none⟩ = some (.int .i64 q.t) ∧ W.cell? ⟨b, o + k * 6 + 1, none⟩ = some (.int .i64 q.sh) ∧ W.cell? ⟨b, o + k * 6 + 2, none⟩ = some (.int .i64 q.ten) ∧ W.cell? ⟨b, o + k * 6 + 3, none⟩ = some (.int .i64 q.fl) ∧ W.cell? ⟨b, o + k * 6 + 4, none⟩ = some (.int .i64 q.sz) ∧ W.cell? ⟨b, o + k * 6 + 5, none⟩ = some (.int .i64 q.pk)) ∧ q.ok := fun k => by
    by_cases hk : k < len
    · have hl := h.length
      have hx := List.getElem?_eq_getElem (l := xs) (i := k) (by omega)
      obtain ⟨l0, hxe, hl0, hf0⟩ := (h.each k _ hx).1.agg_inv Try.underlying46
      obtain ⟨y0_0, e0_0, f0_0⟩ := hf0 0 _ rfl
      obtain ⟨y0_1, e0_1, f0_1⟩ := hf0 1 _ rfl
      obtain ⟨y0_2, e0_2, f0_2⟩ := hf0 2 _ rfl
      obtain ⟨y0_3, e0_3, f0_3⟩ := hf0 3 _ rfl
      obtain ⟨y0_4, e0_4, f0_4⟩ := hf0 4 _ rfl
      obtain ⟨y0_5, e0_5, f0_5⟩ := hf0 5 _ rfl
      obtain ⟨v0_0, rfl, gv0_0⟩ := f0_0.int_inv Try.underlying3
      obtain ⟨v0_1, rfl, gv0_1⟩ := f0_1.int_inv Try.underlying3
      obtain ⟨v0_2, rfl, gv0_2⟩ := f0_2.int_inv Try.underlying3
      obtain ⟨v0_3, rfl, gv0_3⟩ := f0_3.int_inv Try.underlying3
      obtain ⟨v0_4, rfl, gv0_4⟩ := f0_4.int_inv Try.underlying3
      obtain ⟨v0_5, rfl, gv0_5⟩ := f0_5.int_inv Try.underlying3
      match l0, hl0 with
      | [z0_0, z0_1, z0_2, z0_3, z0_4, z0_5], _ =>
        obtain rfl : z0_0 = _ := by simpa using e0_0
        obtain rfl : z0_1 = _ := by simpa using e0_1
        obtain rfl : z0_2 = _ := by simpa using e0_2
        obtain rfl : z0_3 = _ := by simpa using e0_3
        obtain rfl : z0_4 = _ := by simpa using e0_4
        obtain rfl : z0_5 = _ := by simpa using e0_5
        have hcell := h2 k _ hx
        rw [hxe, hc] at hcell
        exact ⟨⟨v0_0, v0_1, v0_2, v0_3, v0_4, v0_5⟩, fun _ => ⟨⟨hcell 0 _ rfl, by have := hcell 1 _ rfl; rwa [← Nat.add_assoc] at this, by have := hcell 2 _ rfl; rwa [← Nat.add_assoc] at this, by have := hcell 3 _ rfl; rwa [← Nat.add_assoc] at this, by have := hcell 4 _ rfl; rwa [← Nat.add_assoc] at this, by have := hcell 5 _ rfl; rwa [← Nat.add_assoc] at this⟩, gv0_0, gv0_1, gv0_2, gv0_3, gv0_4, gv0_5⟩⟩
    · exact ⟨⟨0, 0, 0, 0, 0, 0⟩, fun h => absurd h hk⟩
  have hg := fun k => Classical.choose_spec (hex k)
  exact ⟨b, o, fun k => Classical.choose (hex k), h.le, h.max, h1, fun k hk => (hg k hk).1, fun k hk => (hg k hk).2⟩
def sentL (E : Nat → SentE) (n : Nat) : List Value := (List.range n).flatMap fun k => (E k).cells
theorem sentL_succ (E : Nat → SentE) (n : Nat) : sentL E (n + 1) = sentL E n ++ (E n).cells := by simp [sentL, List.range_succ, List.flatMap_append]
theorem sentL_len (E : Nat → SentE) : ∀ n : Nat, (sentL E n).length = n * 6
  | 0 => by simp [sentL]
  | n + 1 => by rw [sentL_succ, List.length_append, sentL_len E n]; simp [SentE.cells]; omega
theorem sentL_congr {E E' : Nat → SentE} : ∀ {n : Nat}, (∀ k, k < n → E k = E' k) → sentL E n = sentL E' n
  | 0, _ => rfl
  | n + 1, h => by rw [sentL_succ, sentL_succ, sentL_congr (fun k hk => h k (by omega)), h n (by omega)]
theorem sentL_at (E : Nat → SentE) : ∀ (n k j : Nat), k < n → j < 6 → (sentL E n)[k * 6 + j]? = (E k).cells[j]?
  | 0, _, _, h, _ => by omega
  | n + 1, k, j, h, hj => by
    have hl := sentL_len E n
    rw [sentL_succ]
    by_cases hk : k < n
    · rw [List.getElem?_append_left (by omega)]
      exact sentL_at E n k j hk hj
    · obtain rfl : k = n := by omega
      rw [List.getElem?_append_right (by omega), hl]
      congr 1
      omega
theorem sent_row {w : World} {v : Value} {ob : Option Nat} {E : Nat → SentE} {n : Nat} (h : Row w v ob 46 6 n (sentL E n)) (hE : ∀ k, k < n → (E k).ok) :
    ∃ a cap, v = .slice a n cap ∧ SentIn w a n cap (ob.getD 0) 0 E := by
  obtain ⟨a, cap, rfl, h1, h2, h3⟩ := h.shape
  refine ⟨a, cap, rfl, h1, h2, fun hk => ?_, fun k hk => ?_, hE⟩
  · obtain ⟨g, hg, _⟩ := h.cell 0 (by omega)
    subst hg
    exact ⟨h3, h.lt⟩
  · have hh : ∀ j, j < 6 → w.cell? ⟨ob.getD 0, 0 + k * 6 + j, none⟩ = (E k).cells[j]? := fun j hj => by
      obtain ⟨g, hg, hc, _⟩ := h.cell (k * 6 + j) (by omega)
      subst hg
      rw [Option.getD_some, Nat.zero_add, hc, sentL_at E n k j hk hj]
    exact ⟨hh 0 (by omega), hh 1 (by omega), hh 2 (by omega), hh 3 (by omega), hh 4 (by omega), hh 5 (by omega)⟩
structure ForceE where
  t : Int
  ten : Int
  r : Int
  b : Int
def ForceE.cells (e : ForceE) : List Value := [.int .i64 e.t, .int .i64 e.ten, .int .i64 e.r, .int .i64 e.b]
def ForceE.ok (e : ForceE) : Prop := (-9223372036854775808 ≤ e.t ∧ e.t ≤ 9223372036854775807) ∧ (-9223372036854775808 ≤ e.ten ∧ e.ten ≤ 9223372036854775807) ∧ (-9223372036854775808 ≤ e.r ∧ e.r ≤ 9223372036854775807) ∧ (-9223372036854775808 ≤ e.b ∧ e.b ≤ 9223372036854775807)
structure ForceIn (W : World) (a : Option Addr) (len cap b o : Nat) (E : Nat → ForceE) : Prop where
  le : len ≤ cap
  max : cap ≤ maxLen
  at_ : 0 < len → a = some ⟨b, o, none⟩ ∧ b < W.heap.size
  cell : ∀ k, k < len → W.cell? ⟨b, o + k * 4, none⟩ = some (.int .i64 (E k).t) ∧ W.cell? ⟨b, o + k * 4 + 1, none⟩ = some (.int .i64 (E k).ten) ∧ W.cell? ⟨b, o + k * 4 + 2, none⟩ = some (.int .i64 (E k).r) ∧ W.cell? ⟨b, o + k * 4 + 3, none⟩ = some (.int .i64 (E k).b)
  bd : ∀ k, k < len → (E k).ok
theorem ForceIn.below {W W' : World} {a : Option Addr} {len cap b o : Nat} {E : Nat → ForceE} (h : ForceIn W a len cap b o E) (hB : Below W.heap.size W W') : ForceIn W' a len cap b o E :=
  ⟨h.le, h.max, fun hk => ⟨(h.at_ hk).1, by have := (h.at_ hk).2; have := hB.size; omega⟩, fun k hk => by
    have hb := (h.at_ (by omega)).2
    obtain ⟨c0, c1, c2, c3⟩ := h.cell k hk
    exact ⟨(hB.cell (p := ⟨b, _, none⟩) hb).trans c0, (hB.cell (p := ⟨b, _, none⟩) hb).trans c1, (hB.cell (p := ⟨b, _, none⟩) hb).trans c2, (hB.cell (p := ⟨b, _, none⟩) hb).trans c3⟩, h.bd⟩
def forceL (E : Nat → ForceE) (n : Nat) : List Value := (List.range n).flatMap fun k => (E k).cells
theorem forceL_succ (E : Nat → ForceE) (n : Nat) : forceL E (n + 1) = forceL E n ++ (E n).cells := by simp [forceL, List.range_succ, List.flatMap_append]
theorem forceL_len (E : Nat → ForceE) : ∀ n : Nat, (forceL E n).length = n * 4
  | 0 => by simp [forceL]
  | n + 1 => by rw [forceL_succ, List.length_append, forceL_len E n]; simp [ForceE.cells]; omega
theorem forceL_congr {E E' : Nat → ForceE} : ∀ {n : Nat}, (∀ k, k < n → E k = E' k) → forceL E n = forceL E' n
  | 0, _ => rfl
  | n + 1, h => by rw [forceL_succ, forceL_succ, forceL_congr (fun k hk => h k (by omega)), h n (by omega)]
theorem forceL_at (E : Nat → ForceE) : ∀ (n k j : Nat), k < n → j < 4 → (forceL E n)[k * 4 + j]? = (E k).cells[j]?
  | 0, _, _, h, _ => by omega
  | n + 1, k, j, h, hj => by
    have hl := forceL_len E n
    rw [forceL_succ]
    by_cases hk : k < n
    · rw [List.getElem?_append_left (by omega)]
      exact forceL_at E n k j hk hj
    · obtain rfl : k = n := by omega
      rw [List.getElem?_append_right (by omega), hl]
      congr 1
      omega
structure SumE where
  t : Int
  sz : Int
def SumE.cells (e : SumE) : List Value := [.int .i64 e.t, .int .i64 e.sz]
def SumE.ok (e : SumE) : Prop := (-9223372036854775808 ≤ e.t ∧ e.t ≤ 9223372036854775807) ∧ (-9223372036854775808 ≤ e.sz ∧ e.sz ≤ 9223372036854775807)
structure SumIn (W : World) (a : Option Addr) (len cap b o : Nat) (E : Nat → SumE) : Prop where
  le : len ≤ cap
  max : cap ≤ maxLen
  at_ : 0 < len → a = some ⟨b, o, none⟩ ∧ b < W.heap.size
  cell : ∀ k, k < len → W.cell? ⟨b, o + k * 2, none⟩ = some (.int .i64 (E k).t) ∧ W.cell? ⟨b, o + k * 2 + 1, none⟩ = some (.int .i64 (E k).sz)
  bd : ∀ k, k < len → (E k).ok
theorem SumIn.below {W W' : World} {a : Option Addr} {len cap b o : Nat} {E : Nat → SumE} (h : SumIn W a len cap b o E) (hB : Below W.heap.size W W') : SumIn W' a len cap b o E :=
  ⟨h.le, h.max, fun hk => ⟨(h.at_ hk).1, by have := (h.at_ hk).2; have := hB.size; omega⟩, fun k hk => by
    have hb := (h.at_ (by omega)).2
    obtain ⟨c0, c1⟩ := h.cell k hk
    exact ⟨(hB.cell (p := ⟨b, _, none⟩) hb).trans c0, (hB.cell (p := ⟨b, _, none⟩) hb).trans c1⟩, h.bd⟩
def sumL (E : Nat → SumE) (n : Nat) : List Value := (List.range n).flatMap fun k => (E k).cells
theorem sumL_succ (E : Nat → SumE) (n : Nat) : sumL E (n + 1) = sumL E n ++ (E n).cells := by simp [sumL, List.range_succ, List.flatMap_append]
theorem sumL_len (E : Nat → SumE) : ∀ n : Nat, (sumL E n).length = n * 2
  | 0 => by simp [sumL]
  | n + 1 => by rw [sumL_succ, List.length_append, sumL_len E n]; simp [SumE.cells]; omega
theorem sumL_congr {E E' : Nat → SumE} : ∀ {n : Nat}, (∀ k, k < n → E k = E' k) → sumL E n = sumL E' n
  | 0, _ => rfl
  | n + 1, h => by rw [sumL_succ, sumL_succ, sumL_congr (fun k hk => h k (by omega)), h n (by omega)]
theorem sumL_at (E : Nat → SumE) : ∀ (n k j : Nat), k < n → j < 2 → (sumL E n)[k * 2 + j]? = (E k).cells[j]?
  | 0, _, _, h, _ => by omega
  | n + 1, k, j, h, hj => by
    have hl := sumL_len E n
    rw [sumL_succ]
    by_cases hk : k < n
    · rw [List.getElem?_append_left (by omega)]
      exact sumL_at E n k j hk hj
    · obtain rfl : k = n := by omega
      rw [List.getElem?_append_right (by omega), hl]
      congr 1
      omega
structure SpanE where
  b : Int
  e : Int
  r : Int
  u : Int
def SpanE.cells (e : SpanE) : List Value := [.int .i64 e.b, .int .i64 e.e, .int .i64 e.r, .int .i64 e.u]
def SpanE.ok (e : SpanE) : Prop := (-9223372036854775808 ≤ e.b ∧ e.b ≤ 9223372036854775807) ∧ (-9223372036854775808 ≤ e.e ∧ e.e ≤ 9223372036854775807) ∧ (-9223372036854775808 ≤ e.r ∧ e.r ≤ 9223372036854775807) ∧ (-9223372036854775808 ≤ e.u ∧ e.u ≤ 9223372036854775807)
structure SpanIn (W : World) (a : Option Addr) (len cap b o : Nat) (E : Nat → SpanE) : Prop where
  le : len ≤ cap
  max : cap ≤ maxLen
  at_ : 0 < len → a = some ⟨b, o, none⟩ ∧ b < W.heap.size
  cell : ∀ k, k < len → W.cell? ⟨b, o + k * 4, none⟩ = some (.int .i64 (E k).b) ∧ W.cell? ⟨b, o + k * 4 + 1, none⟩ = some (.int .i64 (E k).e) ∧ W.cell? ⟨b, o + k * 4 + 2, none⟩ = some (.int .i64 (E k).r) ∧ W.cell? ⟨b, o + k * 4 + 3, none⟩ = some (.int .i64 (E k).u)
  bd : ∀ k, k < len → (E k).ok
theorem SpanIn.below {W W' : World} {a : Option Addr} {len cap b o : Nat} {E : Nat → SpanE} (h : SpanIn W a len cap b o E) (hB : Below W.heap.size W W') : SpanIn W' a len cap b o E :=
  ⟨h.le, h.max, fun hk => ⟨(h.at_ hk).1, by have := (h.at_ hk).2; have := hB.size; omega⟩, fun k hk => by
    have hb := (h.at_ (by omega)).2
    obtain ⟨c0, c1, c2, c3⟩ := h.cell k hk
    exact ⟨(hB.cell (p := ⟨b, _, none⟩) hb).trans c0, (hB.cell (p := ⟨b, _, none⟩) hb).trans c1, (hB.cell (p := ⟨b, _, none⟩) hb).trans c2, (hB.cell (p := ⟨b, _, none⟩) hb).trans c3⟩, h.bd⟩
def spanL (E : Nat → SpanE) (n : Nat) : List Value := (List.range n).flatMap fun k => (E k).cells
theorem spanL_succ (E : Nat → SpanE) (n : Nat) : spanL E (n + 1) = spanL E n ++ (E n).cells := by simp [spanL, List.range_succ, List.flatMap_append]
theorem spanL_len (E : Nat → SpanE) : ∀ n : Nat, (spanL E n).length = n * 4
  | 0 => by simp [spanL]
  | n + 1 => by rw [spanL_succ, List.length_append, spanL_len E n]; simp [SpanE.cells]; omega
theorem spanL_congr {E E' : Nat → SpanE} : ∀ {n : Nat}, (∀ k, k < n → E k = E' k) → spanL E n = spanL E' n
  | 0, _ => rfl
  | n + 1, h => by rw [spanL_succ, spanL_succ, spanL_congr (fun k hk => h k (by omega)), h n (by omega)]
theorem spanL_at (E : Nat → SpanE) : ∀ (n k j : Nat), k < n → j < 4 → (spanL E n)[k * 4 + j]? = (E k).cells[j]?
  | 0, _, _, h, _ => by omega
  | n + 1, k, j, h, hj => by
    have hl := spanL_len E n
    rw [spanL_succ]
    by_cases hk : k < n
    · rw [List.getElem?_append_left (by omega)]
      exact spanL_at E n k j hk hj
    · obtain rfl : k = n := by omega
      rw [List.getElem?_append_right (by omega), hl]
      congr 1
      omega
end Go.Proofs.Ytoodmocapagapaa
