/-
  Commands one by one, as calls.
-/
import Derived.Test.YthmjlomlceljkaaHir
import Derived.Test.YthmjlomlceljkaaHib
import Derived.Deep.DeepFit
import Derived.Lib.AppendZeros
import Derived.Deep.RegionLaw
import Derived.Deep.RegionWith
import Derived.Lib.EndianBits
import Derived.Deep.MidRow
namespace Go.Proofs.Ythmjlomlceljkaa
open Go.RowKit
set_option linter.unusedSimpArgs false
set_option linter.unusedVariables false

structure CmE where
  kind : Int
  client : Int
  number : Int
  tenant : Int
  crate : Int
  cburst : Int
  shaper : Int
  epoch : Int
  clease : Int
  csize : Int
  spent : Int
  closed : Bool
  lsa : Option Addr
  lsn : Nat
  lsc : Nat
def CmE.cells (e : CmE) : List Value := [.int .i8 e.kind, .int .i64 e.client, .int .i64 e.number, .int .i64 e.tenant, .int .i64 e.crate, .int .i64 e.cburst, .int .i64 e.shaper, .int .i64 e.epoch, .int .i64 e.clease, .int .i64 e.csize, .int .i64 e.spent, .bool e.closed, .slice e.lsa e.lsn e.lsc]
def CmE.ok (e : CmE) : Prop := (-128 ≤ e.kind ∧ e.kind ≤ 127) ∧ (-9223372036854775808 ≤ e.client ∧ e.client ≤ 9223372036854775807) ∧ (-9223372036854775808 ≤ e.number ∧ e.number ≤ 9223372036854775807) ∧ (-9223372036854775808 ≤ e.tenant ∧ e.tenant ≤ 9223372036854775807) ∧ (-9223372036854775808 ≤ e.crate ∧ e.crate ≤ 9223372036854775807) ∧ (-9223372036854775808 ≤ e.cburst ∧ e.cburst ≤ 9223372036854775807) ∧ (-9223372036854775808 ≤ e.shaper ∧ e.shaper ≤ 9223372036854775807) ∧ (-9223372036854775808 ≤ e.epoch ∧ e.epoch ≤ 9223372036854775807) ∧ (-9223372036854775808 ≤ e.clease ∧ e.clease ≤ 9223372036854775807) ∧ (-9223372036854775808 ≤ e.csize ∧ e.csize ≤ 9223372036854775807) ∧ (-9223372036854775808 ≤ e.spent ∧ e.spent ≤ 9223372036854775807) ∧ True ∧ (e.lsn ≤ e.lsc ∧ e.lsc ≤ maxLen)
structure CmIn (W : World) (a : Option Addr) (len cap b o : Nat) (E : Nat → CmE) : Prop where
  le : len ≤ cap
  max : cap ≤ maxLen
  at_ : 0 < len → a = some ⟨b, o, none⟩ ∧ b < W.heap.size
  cell : ∀ k, k < len → W.cell? ⟨b, o + k * 13, none⟩ = some (.int .i8 (E k).kind) ∧ W.cell? ⟨b, o + k * 13 + 1, none⟩ = some (.int .i64 (E k).client) ∧ W.cell? ⟨b, o + k * 13 + 2, none⟩ = some (.int .i64 (E k).number) ∧ W.cell? ⟨b, o + k * 13 + 3, none⟩ = some (.int .i64 (E k).tenant) ∧ W.cell? ⟨b, o + k * 13 + 4, none⟩ = some (.int .i64 (E k).crate) ∧ W.cell? ⟨b, o + k * 13 + 5, none⟩ = some (.int .i64 (E k).cburst) ∧ W.cell? ⟨b, o + k * 13 + 6, none⟩ = some (.int .i64 (E k).shaper) ∧ W.cell? ⟨b, o + k * 13 + 7, none⟩ = some (.int .i64 (E k).epoch) ∧ W.cell? ⟨b, o + k * 13 + 8, none⟩ = some (.int .i64 (E k).clease) ∧ W.cell? ⟨b, o + k * 13 + 9, none⟩ = some (.int .i64 (E k).csize) ∧ W.cell? ⟨b, o + k * 13 + 10, none⟩ = some (.int .i64 (E k).spent) ∧ W.cell? ⟨b, o + k * 13 + 11, none⟩ = some (.bool (E k).closed) ∧ W.cell? ⟨b, o + k * 13 + 12, none⟩ = some (.slice (E k).lsa (E k).lsn (E k).lsc)
  bd : ∀ k, k < len → (E k).ok
theorem CmIn.below {W W' : World} {a : Option Addr} {len cap b o : Nat} {E : Nat → CmE} (h : CmIn W a len cap b o E) (hB : Below W.heap.size W W') : CmIn W' a len cap b o E :=
  ⟨h.le, h.max, fun hk => ⟨(h.at_ hk).1, by have := (h.at_ hk).2; have := hB.size; omega⟩, fun k hk => by
    have hb := (h.at_ (by omega)).2
    obtain ⟨c0, c1, c2, c3, c4, c5, c6, c7, c8, c9, c10, c11, c12⟩ := h.cell k hk
    exact ⟨(hB.cell (p := ⟨b, _, none⟩) hb).trans c0, (hB.cell (p := ⟨b, _, none⟩) hb).trans c1, (hB.cell (p := ⟨b, _, none⟩) hb).trans c2, (hB.cell (p := ⟨b, _, none⟩) hb).trans c3, (hB.cell (p := ⟨b, _, none⟩) hb).trans c4, (hB.cell (p := ⟨b, _, none⟩) hb).trans c5, (hB.cell (p := ⟨b, _, none⟩) hb).trans c6, (hB.cell (p := ⟨b, _, none⟩) hb).trans c7, (hB.cell (p := ⟨b, _, none⟩) hb).trans c8, (hB.cell (p := ⟨b, _, none⟩) hb).trans c9, (hB.cell (p := ⟨b, _, none⟩) hb).trans c10, (hB.cell (p := ⟨b, _, none⟩) hb).trans c11, (hB.cell (p := ⟨b, _, none⟩) hb).trans c12⟩, h.bd⟩
theorem cm_cells (W : World) {a : Option Addr} {len cap : Nat} {xs : List Dt} (h : SliceFits Try.prog W 51 a len cap xs) : ∃ (b o : Nat) (E : Nat → CmE), CmIn W a len cap b o E := by
  have hc : Try.prog.cellsOf 51 = 13 := by kernel_rfl
  obtain ⟨b, o, h1, h2⟩ := h.spot (by rw [hc]; omega)
  have hex : ∀ k, ∃ q : CmE, k < len → (W.cell? ⟨b, o + k * 13, none⟩ = some (.int .i8 q.kind) ∧ W.cell? ⟨b, o + k * 13 + 1, none⟩ = some (.int .i64 q.client) ∧ W.cell? ⟨b, o + k * 13 + 2, none⟩ = some (.int .i64 q.number) ∧ W.cell? ⟨b, o + k * 13 + 3, none⟩ = some (.int .i64 q.tenant) ∧ W.cell? ⟨b, o + k * 13 + 4, none⟩ = some (.int .i64 q.crate) ∧ W.cell? ⟨b, o + k * 13 + 5, none⟩ = some (.int .i64 q.cburst) ∧ W.cell? ⟨b, o + k * 13 + 6, none⟩ = some (.int .i64 q.shaper) ∧ W.cell? ⟨b, o + k * 13 + 7, none⟩ = some (.int .i64 q.epoch) ∧ W.cell? ⟨b, o + k * 13 + 8, none⟩ = some (.int .i64 q.clease) ∧ W.cell? ⟨b, o + k * 13 + 9, none⟩ = some (.int .i64 q.csize) ∧ W.cell? ⟨b, o + k * 13 + 10, none⟩ = some (.int .i64 q.spent) ∧ W.cell? ⟨b, o + k * 13 + 11, none⟩ = some (.bool q.closed) ∧ W.cell? ⟨b, o + k * 13 + 12, none⟩ = some (.slice q.lsa q.lsn q.lsc)) ∧ q.ok := fun k => by
    by_cases hk : k < len
    · have hl := h.length
      have hx := List.getElem?_eq_getElem (l := xs) (i := k) (by omega)
      obtain ⟨l0, hxe, hl0, hf0⟩ := (h.each k _ hx).1.agg_inv Try.underlying51
      obtain ⟨y0_0, e0_0, f0_0⟩ := hf0 0 _ rfl
      obtain ⟨y0_1, e0_1, f0_1⟩ := hf0 1 _ rfl
      obtain ⟨y0_2, e0_2, f0_2⟩ := hf0 2 _ rfl
      obtain ⟨y0_3, e0_3, f0_3⟩ := hf0 3 _ rfl
      obtain ⟨y0_4, e0_4, f0_4⟩ := hf0 4 _ rfl
      obtain ⟨y0_5, e0_5, f0_5⟩ := hf0 5 _ rfl
      obtain ⟨y0_6, e0_6, f0_6⟩ := hf0 6 _ rfl
      obtain ⟨y0_7, e0_7, f0_7⟩ := hf0 7 _ rfl
      obtain ⟨y0_8, e0_8, f0_8⟩ := hf0 8 _ rfl
      obtain ⟨y0_9, e0_9, f0_9⟩ := hf0 9 _ rfl
      obtain ⟨y0_10, e0_10, f0_10⟩ := hf0 10 _ rfl
      obtain ⟨y0_11, e0_11, f0_11⟩ := hf0 11 _ rfl
      obtain ⟨y0_12, e0_12, f0_12⟩ := hf0 12 _ rfl
      obtain ⟨v0_0, rfl, gv0_0⟩ := f0_0.int_inv Try.underlying49
      obtain ⟨v0_1, rfl, gv0_1⟩ := f0_1.int_inv Try.underlying3
      obtain ⟨v0_2, rfl, gv0_2⟩ := f0_2.int_inv Try.underlying3
      obtain ⟨v0_3, rfl, gv0_3⟩ := f0_3.int_inv Try.underlying3
      obtain ⟨v0_4, rfl, gv0_4⟩ := f0_4.int_inv Try.underlying3
      obtain ⟨v0_5, rfl, gv0_5⟩ := f0_5.int_inv Try.underlying3
      obtain ⟨v0_6, rfl, gv0_6⟩ := f0_6.int_inv Try.underlying3
      obtain ⟨v0_7, rfl, gv0_7⟩ := f0_7.int_inv Try.underlying3
      obtain ⟨v0_8, rfl, gv0_8⟩ := f0_8.int_inv Try.underlying3
      obtain ⟨v0_9, rfl, gv0_9⟩ := f0_9.int_inv Try.underlying3
      obtain ⟨v0_10, rfl, gv0_10⟩ := f0_10.int_inv Try.underlying3
      obtain ⟨v0_11, rfl⟩ := f0_11.bool_inv Try.underlying4
      obtain ⟨av0_12, nv0_12, cv0_12, xv0_12, rfl, gv0_12⟩ := f0_12.slice_inv Try.underlying33
      match l0, hl0 with
      | [z0_0, z0_1, z0_2, z0_3, z0_4, z0_5, z0_6, z0_7, z0_8, z0_9, z0_10, z0_11, z0_12], _ =>
        obtain rfl : z0_0 = _ := by simpa using e0_0
        obtain rfl : z0_1 = _ := by simpa using e0_1
        obtain rfl : z0_2 = _ := by simpa using e0_2
        obtain rfl : z0_3 = _ := by simpa using e0_3
        obtain rfl : z0_4 = _ := by simpa using e0_4
        obtain rfl : z0_5 = _ := by simpa using e0_5
        obtain rfl : z0_6 = _ := by simpa using e0_6
        obtain rfl : z0_7 = _ := by simpa using e0_7
        obtain rfl : z0_8 = _ := by simpa using e0_8
        obtain rfl : z0_9 = _ := by simpa using e0_9
        obtain rfl : z0_10 = _ := by simpa using e0_10
        obtain rfl : z0_11 = _ := by simpa using e0_11
        obtain rfl : z0_12 = _ := by simpa using e0_12
        have hcell := h2 k _ hx
        rw [hxe, hc] at hcell
        exact ⟨⟨v0_0, v0_1, v0_2, v0_3, v0_4, v0_5, v0_6, v0_7, v0_8, v0_9, v0_10, v0_11, av0_12, nv0_12, cv0_12⟩, fun _ => ⟨⟨hcell 0 _ rfl, by have := hcell 1 _ rfl; rwa [← Nat.add_assoc] at this, by have := hcell 2 _ rfl; rwa [← Nat.add_assoc] at this, by have := hcell 3 _ rfl; rwa [← Nat.add_assoc] at this, by have := hcell 4 _ rfl; rwa [← Nat.add_assoc] at this, by have := hcell 5 _ rfl; rwa [← Nat.add_assoc] at this, by have := hcell 6 _ rfl; rwa [← Nat.add_assoc] at this, by have := hcell 7 _ rfl; rwa [← Nat.add_assoc] at this, by have := hcell 8 _ rfl; rwa [← Nat.add_assoc] at this, by have := hcell 9 _ rfl; rwa [← Nat.add_assoc] at this, by have := hcell 10 _ rfl; rwa [← Nat.add_assoc] at this, by have := hcell 11 _ rfl; rwa [← Nat.add_assoc] at this, by have := hcell 12 _ rfl; rwa [← Nat.add_assoc] at this⟩, gv0_0, gv0_1, gv0_2, gv0_3, gv0_4, gv0_5, gv0_6, gv0_7, gv0_8, gv0_9, gv0_10, trivial, ⟨gv0_12.le, gv0_12.max⟩⟩⟩
    · exact ⟨⟨0, 0, 0, 0, 0, 0, 0, 0, 0, 0, 0, false, none, 0, 0⟩, fun h => absurd h hk⟩
  have hg := fun k => Classical.choose_spec (hex k)
  exact ⟨b, o, fun k => Classical.choose (hex k), h.le, h.max, h1, fun k hk => (hg k hk).1, fun k hk => (hg k hk).2⟩
def cmL (E : Nat → CmE) (n : Nat) : List Value := (List.range n).flatMap fun k => (E k).cells
theorem cmL_succ (E : Nat → CmE) (n : Nat) : cmL E (n + 1) = cmL E n ++ (E n).cells := by simp [cmL, List.range_succ, List.flatMap_append]
theorem cmL_len (E : Nat → CmE) : ∀ n : Nat, (cmL E n).length = n * 13
  | 0 => by simp [cmL]
  | n + 1 => by rw [cmL_succ, List.length_append, cmL_len E n]; simp [CmE.cells]; omega
theorem cmL_congr {E E' : Nat → CmE} : ∀ {n : Nat}, (∀ k, k < n → E k = E' k) → cmL E n = cmL E' n
  | 0, _ => rfl
  | n + 1, h => by rw [cmL_succ, cmL_succ, cmL_congr (fun k hk => h k (by omega)), h n (by omega)]
theorem cmL_at (E : Nat → CmE) : ∀ (n k j : Nat), k < n → j < 13 → (cmL E n)[k * 13 + j]? = (E k).cells[j]?
  | 0, _, _, h, _ => by omega
  | n + 1, k, j, h, hj => by
    have hl := cmL_len E n
    rw [cmL_succ]
    by_cases hk : k < n
    · rw [List.getElem?_append_left (by omega)]
      exact cmL_at E n k j hk hj
    · obtain rfl : k = n := by omega
      rw [List.getElem?_append_right (by omega), hl]
      congr 1
      omega
theorem cm_row {w : World} {v : Value} {ob : Option Nat} {E : Nat → CmE} {n : Nat} (h : Row w v ob 51 13 n (cmL E n)) (hE : ∀ k, k < n → (E k).ok) :
    ∃ a cap, v = .slice a n cap ∧ CmIn w a n cap (ob.getD 0) 0 E := by
  obtain ⟨a, cap, rfl, h1, h2, h3⟩ := h.shape
  refine ⟨a, cap, rfl, h1, h2, fun hk => ?_, fun k hk => ?_, hE⟩
  · obtain ⟨g, hg, _⟩ := h.cell 0 (by omega)
    subst hg
    exact ⟨h3, h.lt⟩
  · have hh : ∀ j, j < 13 → w.cell? ⟨ob.getD 0, 0 + k * 13 + j, none⟩ = (E k).cells[j]? := fun j hj => by
      obtain ⟨g, hg, hc, _⟩ := h.cell (k * 13 + j) (by omega)
      subst hg
      rw [Option.getD_some, Nat.zero_add, hc, cmL_at E n k j hk hj]
    exact ⟨hh 0 (by omega), hh 1 (by omega), hh 2 (by omega), hh 3 (by omega), hh 4 (by omega), hh 5 (by omega), hh 6 (by omega), hh 7 (by omega), hh 8 (by omega), hh 9 (by omega), hh 10 (by omega), hh 11 (by omega), hh 12 (by omega)⟩
def CmE.agg (e : CmE) : Value := .agg #[.int .i8 e.kind, .int .i64 e.client, .int .i64 e.number, .int .i64 e.tenant, .int .i64 e.crate, .int .i64 e.cburst, .int .i64 e.shaper, .int .i64 e.epoch, .int .i64 e.clease, .int .i64 e.csize, .int .i64 e.spent, .bool e.closed, .slice e.lsa e.lsn e.lsc]
def zCm : CmE := ⟨0, 0, 0, 0, 0, 0, 0, 0, 0, 0, 0, false, none, 0, 0⟩
def gCm (L : List CmE) (k : Nat) : CmE := (L[k]?).getD zCm
theorem gCm_lt {L : List CmE} {k : Nat} (h : k < L.length) : L[k]? = some (gCm L k) := by unfold gCm; rw [List.getElem?_eq_getElem h]; rfl
theorem gCm_of {L : List CmE} {k : Nat} {x : CmE} (h : L[k]? = some x) : gCm L k = x := by unfold gCm; rw [h]; rfl
def llCm (L : List CmE) : List Value := L.flatMap CmE.cells
theorem llCm_append (a b : List CmE) : llCm (a ++ b) = llCm a ++ llCm b := by simp [llCm]
theorem llCm_one (m : CmE) : llCm [m] = m.cells := by simp [llCm]
theorem llCm_len : ∀ L : List CmE, (llCm L).length = L.length * 13
  | [] => rfl
  | m :: l => by
    show (m.cells ++ llCm l).length = _
    rw [List.length_append, llCm_len l]
    simp [CmE.cells]
    omega
theorem llCm_g : ∀ (L : List CmE), llCm L = cmL (gCm L) L.length := by
  intro L
  suffices h : ∀ n, n ≤ L.length → llCm (L.take n) = cmL (gCm L) n by
    have := h L.length (Nat.le_refl _)
    rwa [List.take_length] at this
  intro n
  induction n with
  | zero => intro _; rfl
  | succ n ih =>
    intro hn
    rw [cmL_succ, ← ih (by omega), List.take_add_one, gCm_lt (by omega)]
    rw [llCm_append]
    simp [llCm]
theorem llCm_take (L : List CmE) (i : Nat) (hi : i ≤ L.length) : (llCm L).take (i * 13) = llCm (L.take i) := by
  have h : llCm L = llCm (L.take i) ++ llCm (L.drop i) := by rw [← llCm_append, List.take_append_drop]
  rw [h, List.take_append_of_le_length (by rw [llCm_len, List.length_take, Nat.min_eq_left hi]; exact Nat.le_refl _), List.take_of_length_le (by rw [llCm_len, List.length_take, Nat.min_eq_left hi]; exact Nat.le_refl _)]
/-- the list that a value stands for -/
def CmV (W : World) (v : Value) (L : List CmE) : Prop := ∃ a b o cap, v = .slice a L.length cap ∧ CmIn W a L.length cap b o (gCm L)
theorem CmV.below {W W' : World} {v : Value} {L : List CmE} (h : CmV W v L) (hB : Below W.heap.size W W') : CmV W' v L := by
  obtain ⟨a, b, o, c, rfl, h⟩ := h
  exact ⟨a, b, o, c, rfl, h.below hB⟩
def okCm (L : List CmE) : Prop := ∀ x ∈ L, x.ok
theorem okCm_g {L : List CmE} (h : okCm L) (k : Nat) (hk : k < L.length) : (gCm L k).ok := h _ (List.mem_of_getElem? (gCm_lt hk))
theorem CmV.ok {W : World} {v : Value} {L : List CmE} (h : CmV W v L) : okCm L := by
  obtain ⟨a, b, o, c, rfl, h⟩ := h
  intro x hx
  obtain ⟨k, hk, rfl⟩ := List.mem_iff_getElem.1 hx
  have := h.bd k hk
  rwa [gCm_of (List.getElem?_eq_getElem hk)] at this
theorem CmV.sh {W : World} {v : Value} {L : List CmE} (h : CmV W v L) : ∃ a n c, v = .slice a n c ∧ Hid (n = L.length) ∧ n ≤ c ∧ c ≤ 9223372036854775807 := by
  obtain ⟨a, b, o, c, rfl, h⟩ := h
  exact ⟨a, _, c, rfl, Lib.hid rfl, h.le, by have := h.max; unfold maxLen at this; exact this⟩
theorem CmV.at {W : World} {a : Option Addr} {n c : Nat} {L : List CmE} (h : CmV W (.slice a n c) L) (k : Nat) (hk : k < n) : ∃ (g o : Nat) (e : CmE), a = some ⟨g, o, none⟩ ∧ g < W.heap.size ∧ L[k]? = some e ∧ W.cell? ⟨g, o + k * 13, none⟩ = some (.int .i8 e.kind) ∧ W.cell? ⟨g, o + k * 13 + 1, none⟩ = some (.int .i64 e.client) ∧ W.cell? ⟨g, o + k * 13 + 2, none⟩ = some (.int .i64 e.number) ∧ W.cell? ⟨g, o + k * 13 + 3, none⟩ = some (.int .i64 e.tenant) ∧ W.cell? ⟨g, o + k * 13 + 4, none⟩ = some (.int .i64 e.crate) ∧ W.cell? ⟨g, o + k * 13 + 5, none⟩ = some (.int .i64 e.cburst) ∧ W.cell? ⟨g, o + k * 13 + 6, none⟩ = some (.int .i64 e.shaper) ∧ W.cell? ⟨g, o + k * 13 + 7, none⟩ = some (.int .i64 e.epoch) ∧ W.cell? ⟨g, o + k * 13 + 8, none⟩ = some (.int .i64 e.clease) ∧ W.cell? ⟨g, o + k * 13 + 9, none⟩ = some (.int .i64 e.csize) ∧ W.cell? ⟨g, o + k * 13 + 10, none⟩ = some (.int .i64 e.spent) ∧ W.cell? ⟨g, o + k * 13 + 11, none⟩ = some (.bool e.closed) ∧ W.cell? ⟨g, o + k * 13 + 12, none⟩ = some (.slice e.lsa e.lsn e.lsc) := by
  obtain ⟨a', b, o, c', ee, h⟩ := h
  injection ee with e1 e2 e3
  subst e1 e2 e3
  have h1 := h.at_ (by omega)
  exact ⟨b, o, gCm L k, h1.1, h1.2, gCm_lt hk, h.cell k hk⟩
theorem cmv_row {W : World} {v : Value} {ob : Option Nat} {L : List CmE} (h : Row W v ob 51 13 L.length (llCm L)) (ho : okCm L) : CmV W v L := by
  rw [llCm_g] at h
  obtain ⟨a, c, e, h2⟩ := cm_row h (okCm_g ho)
  exact ⟨a, _, 0, c, e, h2⟩
theorem cmv_nil (W : World) : CmV W (.slice none 0 0) [] := ⟨none, 0, 0, 0, rfl, Nat.le_refl _, Nat.zero_le _, fun h => absurd h (by simp), fun k hk => absurd hk (by simp), fun k hk => absurd hk (by simp)⟩
theorem cmv_cells (W : World) {a : Option Addr} {len cap : Nat} {xs : List Dt} (h : SliceFits Try.prog W 51 a len cap xs) : ∃ L : List CmE, L.length = len ∧ CmV W (.slice a len cap) L := by
  obtain ⟨b, o, E, hE⟩ := cm_cells W h
  refine ⟨(List.range len).map E, by simp, a, b, o, cap, by simp, ?_⟩
  have hg : ∀ k, k < len → gCm ((List.range len).map E) k = E k := fun k hk => gCm_of (by simp [hk])
  rw [show ((List.range len).map E).length = len by simp]
  exact ⟨hE.le, hE.max, hE.at_, fun k hk => by rw [hg k hk]; exact hE.cell k hk, fun k hk => by rw [hg k hk]; exact hE.bd k hk⟩
theorem cmZero : (Try.prog.info? 51).map (fun i => (i.zero, i.size, i.bytes)) = some (some (Value.agg #[.int .i8 0, .int .i64 0, .int .i64 0, .int .i64 0, .int .i64 0, .int .i64 0, .int .i64 0, .int .i64 0, .int .i64 0, .int .i64 0, .int .i64 0, .bool false, .slice none 0 0]), 13, 120) := by kernel_rfl
theorem llCm_ones (L : List CmE) : ∀ u ∈ llCm L, u.oneCell' = true := by
  intro u hu
  simp only [llCm, List.mem_flatMap] at hu
  obtain ⟨y, _, hk⟩ := hu
  have : y.cells.all (fun u => u.oneCell') = true := rfl
  exact List.all_eq_true.1 this u hk
theorem cm_at2 {W : World} {a : Option Addr} {n c b o : Nat} {E : Nat → CmE} (h : CmIn W a n c b o E) (j : Nat) (u : Value) (hu : (cmL E n)[j]? = some u) : W.cell? ⟨b, o + j, none⟩ = some u := by
  have hj : j < n * 13 := by have := (List.getElem?_eq_some_iff.1 hu).1; rwa [cmL_len] at this
  obtain ⟨k, i, hk, hi, rfl⟩ : ∃ k i, k < n ∧ i < 13 ∧ j = k * 13 + i := ⟨j / 13, j % 13, by omega, by omega, by omega⟩
  rw [cmL_at E n k i hk hi] at hu
  obtain ⟨c0, c1, c2, c3, c4, c5, c6, c7, c8, c9, c10, c11, c12⟩ := h.cell k hk
  match i, hi with
  | 0, _ => simp [CmE.cells] at hu; subst hu; exact c0
  | 1, _ => simp [CmE.cells] at hu; subst hu; rw [← Nat.add_assoc]; exact c1
  | 2, _ => simp [CmE.cells] at hu; subst hu; rw [← Nat.add_assoc]; exact c2
  | 3, _ => simp [CmE.cells] at hu; subst hu; rw [← Nat.add_assoc]; exact c3
  | 4, _ => simp [CmE.cells] at hu; subst hu; rw [← Nat.add_assoc]; exact c4
  | 5, _ => simp [CmE.cells] at hu; subst hu; rw [← Nat.add_assoc]; exact c5
  | 6, _ => simp [CmE.cells] at hu; subst hu; rw [← Nat.add_assoc]; exact c6
  | 7, _ => simp [CmE.cells] at hu; subst hu; rw [← Nat.add_assoc]; exact c7
  | 8, _ => simp [CmE.cells] at hu; subst hu; rw [← Nat.add_assoc]; exact c8
  | 9, _ => simp [CmE.cells] at hu; subst hu; rw [← Nat.add_assoc]; exact c9
  | 10, _ => simp [CmE.cells] at hu; subst hu; rw [← Nat.add_assoc]; exact c10
  | 11, _ => simp [CmE.cells] at hu; subst hu; rw [← Nat.add_assoc]; exact c11
  | 12, _ => simp [CmE.cells] at hu; subst hu; rw [← Nat.add_assoc]; exact c12
/-- a row of the call's own, its block no older than M -/
def CmO (M : Nat) (W : World) (v : Value) (ob : Option Nat) (L : List CmE) : Prop := Row W v ob 51 13 L.length (llCm L) ∧ okCm L ∧ ∀ g, ob = some g → M ≤ g
theorem cmo_nil (W : World) (M : Nat) : CmO M W (.slice none 0 0) none [] := ⟨Row.nil _ _ _, fun x h => absurd h (by simp), fun g e => by cases e⟩
theorem CmO.v {W : World} {M : Nat} {v : Value} {ob : Option Nat} {L : List CmE} (h : CmO M W v ob L) : CmV W v L := cmv_row h.1 h.2.1
theorem CmO.step {A B : World} {M : Nat} {v : Value} {ob : Option Nat} {L : List CmE} (h : CmO M A v ob L) (hB : Below A.heap.size A B) : CmO M B v ob L := ⟨h.1.congr fun g e => hB.block g (by subst e; exact h.1.lt), h.2.1, h.2.2⟩
theorem CmO.fr {A B : World} {M N : Nat} {v : Value} {ob : Option Nat} {L : List CmE} (h : CmO M A v ob L) (hf : Fr [N] A B) (hN : N < M) : CmO M B v ob L := ⟨h.1.congr fun g e => hf.block g (by subst e; exact h.1.lt) (by have := h.2.2 g e; simp; omega), h.2.1, h.2.2⟩
/-- append of a piece (empty too) to a row of the call's own -/
theorem cm_app {W : World} {M : Nat} {ty : TypeId} {v v2 : Value} {ob : Option Nat} {L L2 : List CmE} (h : CmO M W v ob L) (h2 : CmV W v2 L2) (hM : M ≤ W.heap.size) (hn : L.length + L2.length ≤ 100000) :
    ∃ v' ob' w', (Builtin.append_ #[65, 65] ty #[v, v2]).run Try.prog W = .ok v' w' ∧ CmO M w' v' ob' (L ++ L2) ∧ Below M W w' := by
  have ho2 := h2.ok
  obtain ⟨r1, r4, r5⟩ := h
  obtain ⟨a2, b2, o2, c2, rfl, d1⟩ := h2
  obtain ⟨i0, hi, hz0, hz1, hz2⟩ := info_parts cmZero
  rcases Nat.eq_zero_or_pos L2.length with h0 | h0
  · have hL2 : L2 = [] := List.eq_nil_of_length_eq_zero h0
    subst hL2
    rw [List.append_nil]
    exact ⟨v, ob, W, run_append_row_zero (P := Try.prog) (w := W) 65 ty 51 i0 13 Try.underlying65 hi v ob _ _ r1 a2 c2, ⟨r1, r4, r5⟩, Below.refl _ _⟩
  · obtain ⟨e0, e1⟩ := d1.at_ h0
    subst e0
    have hat := fun j u hu => cm_at2 d1 j u hu
    rw [← llCm_g] at hat
    obtain ⟨v', ob', w', hrun, s1, s2, s3⟩ := run_append_row (P := Try.prog) W 65 ty 51 i0 _ 13 120 Try.underlying65 hi hz0 hz1 hz2 rfl (by decide) v ob L.length (llCm L) r1 ⟨b2, o2, none⟩ L2.length c2 (llCm L2) h0 (llCm_len L2) (fun j u hu => by rw [addr_add]; exact hat j u hu) (llCm_ones L2) (by unfold maxLen; omega) (by omega)
    refine ⟨v', some ob', w', hrun, ⟨by rw [List.length_append, llCm_append]; exact s1, fun x hx => ?_, fun g e => ?_⟩, ?_⟩
    · rcases List.mem_append.1 hx with h | h
      · exact r4 x h
      · exact ho2 x h
    · obtain rfl := Option.some.inj e
      rcases s3 with h | h
      · exact r5 _ h
      · omega
    · exact (Below.refl M W).grown s2 hM r5
/-- one element in a new block, as a piece -/
theorem cmv_one {W : World} {b : Nat} {e : CmE} (h : Blk W b #[.int .i8 e.kind, .int .i64 e.client, .int .i64 e.number, .int .i64 e.tenant, .int .i64 e.crate, .int .i64 e.cburst, .int .i64 e.shaper, .int .i64 e.epoch, .int .i64 e.clease, .int .i64 e.csize, .int .i64 e.spent, .bool e.closed, .slice e.lsa e.lsn e.lsc] 51) (ho : e.ok) : CmV W (.slice (some ⟨b, 0, none⟩) 1 1) [e] := by
  refine ⟨some ⟨b, 0, none⟩, b, 0, 1, rfl, Nat.le_refl _, by unfold maxLen; simp, fun _ => ⟨rfl, h.lt⟩, fun k hk => ?_, fun k hk => ?_⟩
  · obtain rfl : k = 0 := by simpa using hk
    exact ⟨cell_at h 0, cell_at h 1, cell_at h 2, cell_at h 3, cell_at h 4, cell_at h 5, cell_at h 6, cell_at h 7, cell_at h 8, cell_at h 9, cell_at h 10, cell_at h 11, cell_at h 12⟩
  · obtain rfl : k = 0 := by simpa using hk
    exact ho
theorem cm_range {W : World} {a : Option Addr} {n c b o : Nat} {E : Nat → CmE} (h : CmIn W a n c b o E) (k : Nat) (hk : k < n) : W.rangeAt b (o + k * 13) (E k).cells := by
  intro j v hv
  obtain ⟨c0, c1, c2, c3, c4, c5, c6, c7, c8, c9, c10, c11, c12⟩ := h.cell k hk
  have hj : j < 13 := (List.getElem?_eq_some_iff.1 hv).1
  match j, hj with
  | 0, _ => obtain rfl := Option.some.inj hv; exact c0
  | 1, _ => obtain rfl := Option.some.inj hv; exact c1
  | 2, _ => obtain rfl := Option.some.inj hv; exact c2
  | 3, _ => obtain rfl := Option.some.inj hv; exact c3
  | 4, _ => obtain rfl := Option.some.inj hv; exact c4
  | 5, _ => obtain rfl := Option.some.inj hv; exact c5
  | 6, _ => obtain rfl := Option.some.inj hv; exact c6
  | 7, _ => obtain rfl := Option.some.inj hv; exact c7
  | 8, _ => obtain rfl := Option.some.inj hv; exact c8
  | 9, _ => obtain rfl := Option.some.inj hv; exact c9
  | 10, _ => obtain rfl := Option.some.inj hv; exact c10
  | 11, _ => obtain rfl := Option.some.inj hv; exact c11
  | 12, _ => obtain rfl := Option.some.inj hv; exact c12
theorem CmV.ld {W : World} {a : Option Addr} {n c : Nat} {L : List CmE} (h : CmV W (.slice a n c) L) (k : Nat) (hk : k < n) : ∃ (g o : Nat) (e : CmE), a = some ⟨g, o, none⟩ ∧ g < W.heap.size ∧ L[k]? = some e ∧ W.rangeAt g (o + k * 13) e.cells := by
  obtain ⟨a', b, o, c', ee, h⟩ := h
  injection ee with e1 e2 e3
  subst e1 e2 e3
  have h1 := h.at_ (by omega)
  exact ⟨b, o, gCm L k, h1.1, h1.2, gCm_lt hk, cm_range h k hk⟩
/-- a command as a call -/
def mkCa (x : CmE) (fr til e r b l s : Int) : CaE := ⟨x.kind, x.client, x.number, x.tenant, x.crate, x.cburst, x.shaper, x.epoch, x.clease, x.csize, x.spent, x.closed, x.lsa, x.lsn, x.lsc, fr, til, e, r, b, l, s⟩
def cmA (t : List FcE) (x : CmE) : DoA := doF t x.kind x.tenant x.crate x.cburst
/-- the table behind the first k commands -/
def tabC (C : List CmE) : Nat → List FcE
  | 0 => []
  | k + 1 => (cmA (tabC C k) (gCm C k)).l
/-- call k, answered as a service alone would, but at place a -/
def oneC (C : List CmE) (a : Int) (k : Nat) : CaE := mkCa (gCm C k) (2 * (k : Int) + 1) (2 * (k : Int) + 2) (cmA (tabC C k) (gCm C k)).e (cmA (tabC C k) (gCm C k)).r (cmA (tabC C k) (gCm C k)).b 0 (if (k : Int) = a then 1 else 0)
def oneL (C : List CmE) (a : Int) (n : Nat) : List CaE := (List.range n).map (oneC C a)
theorem oneL_len (C : List CmE) (a : Int) (n : Nat) : (oneL C a n).length = n := by simp [oneL]
theorem oneL_g {C : List CmE} {a : Int} {n k : Nat} (h : k < n) : gCa (oneL C a n) k = oneC C a k := gCa_of (by simp [oneL, h])
theorem oneL_succ (C : List CmE) (a : Int) (n : Nat) : oneL C a (n + 1) = oneL C a n ++ [oneC C a n] := by simp [oneL, List.range_succ]
theorem one_b (C : List CmE) (a : Int) (n : Nat) : OneB (oneL C a n) (tabC C) a := by
  refine ⟨fun k hk => ?_, fun k hk => ?_, fun k hk => ?_, fun k hk => ?_⟩ <;> rw [oneL_len] at hk <;> rw [oneL_g hk]
  · rfl
  · rfl
  · rfl
  · show (decide ((0 : Int) < 2 * (k : Int) + 2) && !(decide ((cmA (tabC C k) (gCm C k)).e = (cmA (tabC C k) (gCm C k)).e) && decide ((cmA (tabC C k) (gCm C k)).r = (cmA (tabC C k) (gCm C k)).r) && decide ((cmA (tabC C k) (gCm C k)).b = (cmA (tabC C k) (gCm C k)).b) && decide ((0 : Int) = 0) && decide ((0 : Int) = if (k : Int) = a then 1 else 0))) = decide ((k : Int) = a)
    rw [decide_eq_true (show (0 : Int) < 2 * (k : Int) + 2 by omega)]
    by_cases h : (k : Int) = a
    · simp [h]
    · simp [h]
/-- what is found among commands one by one -/
theorem oneL_fits (C : List CmE) (a : Int) (n : Nat) (hn : n ≤ 12) (hc : ∀ k, k < n → cmdB (gCm C k).kind (gCm C k).tenant = true) :
    fitsE (oneL C a n) = 0 ∧ fitsB (oneL C a n) = !decide (0 ≤ a ∧ a < (n : Int)) ∧ fitsO (oneL C a n) = if 0 ≤ a ∧ a < (n : Int) then [] else (List.range n).map fun (j : Nat) => (j : Int) := by
  have := one_fits (one_b C a n) rfl (by rw [oneL_len]; exact hn) (fun c hcm => by
    simp only [oneL, List.mem_map, List.mem_range] at hcm
    obtain ⟨k, hk, rfl⟩ := hcm
    exact hc k hk)
  rw [oneL_len] at this
  exact this
theorem do_ok {t : List FcE} {k n r b : Int} (h : okFc t) (hr : -9223372036854775808 ≤ r ∧ r ≤ 9223372036854775807) (hb : -9223372036854775808 ≤ b ∧ b ≤ 9223372036854775807) :
    (0 ≤ (doF t k n r b).e ∧ (doF t k n r b).e ≤ 161) ∧ (-9223372036854775808 ≤ (doF t k n r b).r ∧ (doF t k n r b).r ≤ 9223372036854775807) ∧ (-9223372036854775808 ≤ (doF t k n r b).b ∧ (doF t k n r b).b ≤ 9223372036854775807) := by
  unfold doF
  split
  · simp
  · split
    · split
      · exact ⟨by simp, hr, hb⟩
      · simp
    · split
      · simp
      · rename_i f hf
        have ho := h f (List.mem_of_find?_eq_some hf)
        split
        · exact ⟨by simp, ho.2.2.1, ho.2.2.2⟩
        · simp
theorem tabC_tbl (C : List CmE) : ∀ k, tblB 0 (tabC C k) = true
  | 0 => rfl
  | k + 1 => tbl_do _ _ _ _ (tabC_tbl C k)
end Go.Proofs.Ythmjlomlceljkaa
