/-
  Calls in memory, as lists.
-/
import Derived.Test.YthmjlomlceljkaaHiB
import Derived.Deep.DeepFit
import Derived.Lib.AppendZeros
import Derived.OwnWalk
import Derived.BigQuiet
import Derived.BigRegion
import Derived.Deep.QuietTactic
import Derived.IntWalk
import Derived.Lib.Small
import Derived.RegionTactic
import Derived.Deep.RegionHeld3
import Derived.OrdersHeld
import Derived.Lib.Hide
import Derived.Deep.DeepCutAuto
import Derived.WalkMore
import Derived.WalkSpells
import Derived.Laws.OwnMore
namespace Go.Proofs.Ythmjlomlceljkaa
open Go.RowKit
set_option linter.unusedSimpArgs false
set_option linter.unusedVariables false

structure CaE where
  kind : Int
  client : Int
  number : Int
  tenant : Int
  crate : Int
  cburst : Int
  shaper : Int
  epoch : Int
  clease : Int
  csize : Int
  spent : Int
  closed : Bool
  lsa : Option Addr
  lsn : Nat
  lsc : Nat
  fr : Int
  til : Int
  e : Int
  rate : Int
  burst : Int
  lease : Int
  size : Int
def CaE.cells (e : CaE) : List Value := [.int .i8 e.kind, .int .i64 e.client, .int .i64 e.number, .int .i64 e.tenant, .int .i64 e.crate, .int .i64 e.cburst, .int .i64 e.shaper, .int .i64 e.epoch, .int .i64 e.clease, .int .i64 e.csize, .int .i64 e.spent, .bool e.closed, .slice e.lsa e.lsn e.lsc, .int .i64 e.fr, .int .i64 e.til, .int .i64 e.e, .int .i64 e.rate, .int .i64 e.burst, .int .i64 e.lease, .int .i64 e.size]
def CaE.ok (e : CaE) : Prop := (-128 ≤ e.kind ∧ e.kind ≤ 127) ∧ (-9223372036854775808 ≤ e.client ∧ e.client ≤ 9223372036854775807) ∧ (-9223372036854775808 ≤ e.number ∧ e.number ≤ 9223372036854775807) ∧ (-9223372036854775808 ≤ e.tenant ∧ e.tenant ≤ 9223372036854775807) ∧ (-9223372036854775808 ≤ e.crate ∧ e.crate ≤ 9223372036854775807) ∧ (-9223372036854775808 ≤ e.cburst ∧ e.cburst ≤ 9223372036854775807) ∧ (-9223372036854775808 ≤ e.shaper ∧ e.shaper ≤ 9223372036854775807) ∧ (-9223372036854775808 ≤ e.epoch ∧ e.epoch ≤ 9223372036854775807) ∧ (-9223372036854775808 ≤ e.clease ∧ e.clease ≤ 9223372036854775807) ∧ (-9223372036854775808 ≤ e.csize ∧ e.csize ≤ 9223372036854775807) ∧ (-9223372036854775808 ≤ e.spent ∧ e.spent ≤ 9223372036854775807) ∧ True ∧ (e.lsn ≤ e.lsc ∧ e.lsc ≤ maxLen) ∧ (-9223372036854775808 ≤ e.fr ∧ e.fr ≤ 9223372036854775807) ∧ (-9223372036854775808 ≤ e.til ∧ e.til ≤ 9223372036854775807) ∧ (-9223372036854775808 ≤ e.e ∧ e.e ≤ 9223372036854775807) ∧ (-9223372036854775808 ≤ e.rate ∧ e.rate ≤ 9223372036854775807) ∧ (-9223372036854775808 ≤ e.burst ∧ e.burst ≤ 9223372036854775807) ∧ (-9223372036854775808 ≤ e.lease ∧ e.lease ≤ 9223372036854775807) ∧ (-9223372036854775808 ≤ e.size ∧ e.size ≤ 9223372036854775807)
structure CaIn (W : World) (a : Option Addr) (len cap b o : Nat) (E : Nat → CaE) : Prop where
  le : len ≤ cap
  max : cap ≤ maxLen
  at_ : 0 < len → a = some ⟨b, o, none⟩ ∧ b < W.heap.size
  cell : ∀ k, k < len → W.cell? ⟨b, o + k * 20, none⟩ = some (.int .i8 (E k).kind) ∧ W.cell? ⟨b, o + k * 20 + 1, none⟩ = some (.int .i64 (E k).client) ∧ W.cell? ⟨b, o + k * 20 + 2, none⟩ = some (.int .i64 (E k).number) ∧ W.cell? ⟨b, o + k * 20 + 3, none⟩ = some (.int .i64 (E k).tenant) ∧ W.cell? ⟨b, o + k * 20 + 4, none⟩ = some (.int .i64 (E k).crate) ∧ W.cell? ⟨b, o + k * 20 + 5, none⟩ = some (.int .i64 (E k).cburst) ∧ W.cell? ⟨b, o + k * 20 + 6, none⟩ = some (.int .i64 (E k).shaper) ∧ W.cell? ⟨b, o + k * 20 + 7, none⟩ = some (.int .i64 (E k).epoch) ∧ W.cell? ⟨b, o + k * 20 + 8, none⟩ = some (.int .i64 (E k).clease) ∧ W.cell? ⟨b, o + k * 20 + 9, none⟩ = some (.int .i64 (E k).csize) ∧ W.cell? ⟨b, o + k * 20 + 10, none⟩ = some (.int .i64 (E k).spent) ∧ W.cell? ⟨b, o + k * 20 + 11, none⟩ = some (.bool (E k).closed) ∧ W.cell? ⟨b, o + k * 20 + 12, none⟩ = some (.slice (E k).lsa (E k).lsn (E k).lsc) ∧ W.cell? ⟨b, o + k * 20 + 13, none⟩ = some (.int .i64 (E k).fr) ∧ W.cell? ⟨b, o + k * 20 + 14, none⟩ = some (.int .i64 (E k).til) ∧ W.cell? ⟨b, o + k * 20 + 15, none⟩ = some (.int .i64 (E k).e) ∧ W.cell? ⟨b, o + k * 20 + 16, none⟩ = some (.int .i64 (E k).rate) ∧ W.cell? ⟨b, o + k * 20 + 17, none⟩ = some (.int .i64 (E k).burst) ∧ W.cell? ⟨b, o + k * 20 + 18, none⟩ = some (.int .i64 (E k).lease) ∧ W.cell? ⟨b, o + k * 20 + 19, none⟩ = some (.int .i64 (E k).size)
  bd : ∀ k, k < len → (E k).ok
theorem CaIn.below {W W' : World} {a : Option Addr} {len cap b o : Nat} {E : Nat → CaE} (h : CaIn W a len cap b o E) (hB : Below W.heap.size W W') : CaIn W' a len cap b o E :=
  ⟨h.le, h.max, fun hk => ⟨(h.at_ hk).1, by have := (h.at_ hk).2; have := hB.size; omega⟩, fun k hk => by
    have hb := (h.at_ (by omega)).2
    obtain ⟨c0, c1, c2, c3, c4, c5, c6, c7, c8, c9, c10, c11, c12, c13, c14, c15, c16, c17, c18, c19⟩ := h.cell k hk
    exact ⟨(hB.cell (p := ⟨b, _, none⟩) hb).trans c0, (hB.cell (p := ⟨b, _, none⟩) hb).trans c1, (hB.cell (p := ⟨b, _, none⟩) hb).trans c2, (hB.cell (p := ⟨b, _, none⟩) hb).trans c3, (hB.cell (p := ⟨b, _, none⟩) hb).trans c4, (hB.cell (p := ⟨b, _, none⟩) hb).trans c5, (hB.cell (p := ⟨b, _, none⟩) hb).trans c6, (hB.cell (p := ⟨b, _, none⟩) hb).trans c7, (hB.cell (p := ⟨b, _, none⟩) hb).trans c8, (hB.cell (p := ⟨b, _, none⟩) hb).trans c9, (hB.cell (p := ⟨b, _, none⟩) hb).trans c10, (hB.cell (p := ⟨b, _, none⟩) hb).trans c11, (hB.cell (p := ⟨b, _, none⟩) hb).trans c12, (hB.cell (p := ⟨b, _, none⟩) hb).trans c13, (hB.cell (p := ⟨b, _, none⟩) hb).trans c14, (hB.cell (p := ⟨b, _, none⟩) hb).trans c15, (hB.cell (p := ⟨b, _, none⟩) hb).trans c16, (hB.cell (p := ⟨b, _, none⟩) hb).trans c17, (hB.cell (p := ⟨b, _, none⟩) hb).trans c18, (hB.cell (p := ⟨b, _, none⟩) hb).trans c19⟩, h.bd⟩
theorem ca_cells (W : World) {a : Option Addr} {len cap : Nat} {xs : List Dt} (h : SliceFits Try.prog W 67 a len cap xs) : ∃ (b o : Nat) (E : Nat → CaE), CaIn W a len cap b o E := by
  have hc : Try.prog.cellsOf 67 = 20 := by kernel_rfl
  obtain ⟨b, o, h1, h2⟩ := h.spot (by rw [hc]; omega)
  have hex : ∀ k, ∃ q : CaE, k < len → (W.cell? ⟨b, o + k * 20, none⟩ = some (.int .i8 q.kind) ∧ W.cell? ⟨b, o + k * 20 + 1, none⟩ = some (.int .i64 q.client) ∧ W.cell? ⟨b, o + k * 20 + 2, none⟩ = some (.int .i64 q.number) ∧ W.cell? ⟨b, o + k * 20 + 3, none⟩ = some (.int .i64 q.tenant) ∧ W.cell? ⟨b, o + k * 20 + 4, none⟩ = some (.int .i64 q.crate) ∧ W.cell? ⟨b, o + k * 20 + 5, none⟩ = some (.int .i64 q.cburst) ∧ W.cell? ⟨b, o + k * 20 + 6, none⟩ = some (.int .i64 q.shaper) ∧ W.cell? ⟨b, o + k * 20 + 7, none⟩ = some (.int .i64 q.epoch) ∧ W.cell? ⟨b, o + k * 20 + 8, none⟩ = some (.int .i64 q.clease) ∧ W.cell? ⟨b, o + k * 20 + 9, none⟩ = some (.int .i64 q.csize) ∧ W.cell? ⟨b, o + k * 20 + 10, none⟩ = some (.int .i64 q.spent) ∧ W.cell? ⟨b, o + k * 20 + 11, none⟩ = some (.bool q.closed) ∧ W.cell? ⟨b, o + k * 20 + 12, none⟩ = some (.slice q.lsa q.lsn q.lsc) ∧ W.cell? ⟨b, o + k * 20 + 13, none⟩ = some (.int .i64 q.fr) ∧ W.cell? ⟨b, o + k * 20 + 14, none⟩ = some (.int .i64 q.til) ∧ W.cell? ⟨b, o + k * 20 + 15, none⟩ = some (.int .i64 q.e) ∧ W.cell? ⟨b, o + k * 20 + 16, none⟩ = some (.int .i64 q.rate) ∧ W.cell? ⟨b, o + k * 20 + 17, none⟩ = some (.int .i64 q.burst) ∧ W.cell? ⟨b, o + k * 20 + 18, none⟩ = some (.int .i64 q.lease) ∧ W.cell? ⟨b, o + k * 20 + 19, none⟩ = some (.int .i64 q.size)) ∧ q.ok := fun k => by
    by_cases hk : k < len
    · have hl := h.length
      have hx := List.getElem?_eq_getElem (l := xs) (i := k) (by omega)
      obtain ⟨l0, hxe, hl0, hf0⟩ := (h.each k _ hx).1.agg_inv Try.underlying67
      obtain ⟨y0_0, e0_0, f0_0⟩ := hf0 0 _ rfl
      obtain ⟨y0_1, e0_1, f0_1⟩ := hf0 1 _ rfl
      obtain ⟨y0_2, e0_2, f0_2⟩ := hf0 2 _ rfl
      obtain ⟨y0_3, e0_3, f0_3⟩ := hf0 3 _ rfl
      obtain ⟨l1, rfl, hl1, hf1⟩ := f0_0.agg_inv Try.underlying51
      obtain ⟨y1_0, e1_0, f1_0⟩ := hf1 0 _ rfl
      obtain ⟨y1_1, e1_1, f1_1⟩ := hf1 1 _ rfl
      obtain ⟨y1_2, e1_2, f1_2⟩ := hf1 2 _ rfl
      obtain ⟨y1_3, e1_3, f1_3⟩ := hf1 3 _ rfl
      obtain ⟨y1_4, e1_4, f1_4⟩ := hf1 4 _ rfl
      obtain ⟨y1_5, e1_5, f1_5⟩ := hf1 5 _ rfl
      obtain ⟨y1_6, e1_6, f1_6⟩ := hf1 6 _ rfl
      obtain ⟨y1_7, e1_7, f1_7⟩ := hf1 7 _ rfl
      obtain ⟨y1_8, e1_8, f1_8⟩ := hf1 8 _ rfl
      obtain ⟨y1_9, e1_9, f1_9⟩ := hf1 9 _ rfl
      obtain ⟨y1_10, e1_10, f1_10⟩ := hf1 10 _ rfl
      obtain ⟨y1_11, e1_11, f1_11⟩ := hf1 11 _ rfl
      obtain ⟨y1_12, e1_12, f1_12⟩ := hf1 12 _ rfl
      obtain ⟨v1_0, rfl, gv1_0⟩ := f1_0.int_inv Try.underlying49
      obtain ⟨v1_1, rfl, gv1_1⟩ := f1_1.int_inv Try.underlying3
      obtain ⟨v1_2, rfl, gv1_2⟩ := f1_2.int_inv Try.underlying3
      obtain ⟨v1_3, rfl, gv1_3⟩ := f1_3.int_inv Try.underlying3
      obtain ⟨v1_4, rfl, gv1_4⟩ := f1_4.int_inv Try.underlying3
      obtain ⟨v1_5, rfl, gv1_5⟩ := f1_5.int_inv Try.underlying3
      obtain ⟨v1_6, rfl, gv1_6⟩ := f1_6.int_inv Try.underlying3
      obtain ⟨v1_7, rfl, gv1_7⟩ := f1_7.int_inv Try.underlying3
      obtain ⟨v1_8, rfl, gv1_8⟩ := f1_8.int_inv Try.underlying3
      obtain ⟨v1_9, rfl, gv1_9⟩ := f1_9.int_inv Try.underlying3
      obtain ⟨v1_10, rfl, gv1_10⟩ := f1_10.int_inv Try.underlying3
      obtain ⟨v1_11, rfl⟩ := f1_11.bool_inv Try.underlying4
      obtain ⟨av1_12, nv1_12, cv1_12, xv1_12, rfl, gv1_12⟩ := f1_12.slice_inv Try.underlying33
      obtain ⟨v0_1, rfl, gv0_1⟩ := f0_1.int_inv Try.underlying3
      obtain ⟨v0_2, rfl, gv0_2⟩ := f0_2.int_inv Try.underlying3
      obtain ⟨l2, rfl, hl2, hf2⟩ := f0_3.agg_inv Try.underlying54
      obtain ⟨y2_0, e2_0, f2_0⟩ := hf2 0 _ rfl
      obtain ⟨y2_1, e2_1, f2_1⟩ := hf2 1 _ rfl
      obtain ⟨y2_2, e2_2, f2_2⟩ := hf2 2 _ rfl
      obtain ⟨y2_3, e2_3, f2_3⟩ := hf2 3 _ rfl
      obtain ⟨y2_4, e2_4, f2_4⟩ := hf2 4 _ rfl
      obtain ⟨v2_0, rfl, gv2_0⟩ := f2_0.int_inv Try.underlying25
      obtain ⟨v2_1, rfl, gv2_1⟩ := f2_1.int_inv Try.underlying3
      obtain ⟨v2_2, rfl, gv2_2⟩ := f2_2.int_inv Try.underlying3
      obtain ⟨v2_3, rfl, gv2_3⟩ := f2_3.int_inv Try.underlying3
      obtain ⟨v2_4, rfl, gv2_4⟩ := f2_4.int_inv Try.underlying3
      match l0, hl0 with
      | [z0_0, z0_1, z0_2, z0_3], _ =>
        obtain rfl : z0_0 = _ := by simpa using e0_0
        obtain rfl : z0_1 = _ := by simpa using e0_1
        obtain rfl : z0_2 = _ := by simpa using e0_2
        obtain rfl : z0_3 = _ := by simpa using e0_3
        match l1, hl1 with
        | [z1_0, z1_1, z1_2, z1_3, z1_4, z1_5, z1_6, z1_7, z1_8, z1_9, z1_10, z1_11, z1_12], _ =>
          obtain rfl : z1_0 = _ := by simpa using e1_0
          obtain rfl : z1_1 = _ := by simpa using e1_1
          obtain rfl : z1_2 = _ := by simpa using e1_2
          obtain rfl : z1_3 = _ := by simpa using e1_3
          obtain rfl : z1_4 = _ := by simpa using e1_4
          obtain rfl : z1_5 = _ := by simpa using e1_5
          obtain rfl : z1_6 = _ := by simpa using e1_6
          obtain rfl : z1_7 = _ := by simpa using e1_7
          obtain rfl : z1_8 = _ := by simpa using e1_8
          obtain rfl : z1_9 = _ := by simpa using e1_9
          obtain rfl : z1_10 = _ := by simpa using e1_10
          obtain rfl : z1_11 = _ := by simpa using e1_11
          obtain rfl : z1_12 = _ := by simpa using e1_12
          match l2, hl2 with
          | [z2_0, z2_1, z2_2, z2_3, z2_4], _ =>
            obtain rfl : z2_0 = _ := by simpa using e2_0
            obtain rfl : z2_1 = _ := by simpa using e2_1
            obtain rfl : z2_2 = _ := by simpa using e2_2
            obtain rfl : z2_3 = _ := by simpa using e2_3
            obtain rfl : z2_4 = _ := by simpa using e2_4
            have hcell := h2 k _ hx
            rw [hxe, hc] at hcell
            exact ⟨⟨v1_0, v1_1, v1_2, v1_3, v1_4, v1_5, v1_6, v1_7, v1_8, v1_9, v1_10, v1_11, av1_12, nv1_12, cv1_12, v0_1, v0_2, v2_0, v2_1, v2_2, v2_3, v2_4⟩, fun _ => ⟨⟨hcell 0 _ rfl, by have := hcell 1 _ rfl; rwa [← Nat.add_assoc] at this, by have := hcell 2 _ rfl; rwa [← Nat.add_assoc] at this, by have := hcell 3 _ rfl; rwa [← Nat.add_assoc] at this, by have := hcell 4 _ rfl; rwa [← Nat.add_assoc] at this, by have := hcell 5 _ rfl; rwa [← Nat.add_assoc] at this, by have := hcell 6 _ rfl; rwa [← Nat.add_assoc] at this, by have := hcell 7 _ rfl; rwa [← Nat.add_assoc] at this, by have := hcell 8 _ rfl; rwa [← Nat.add_assoc] at this, by have := hcell 9 _ rfl; rwa [← Nat.add_assoc] at this, by have := hcell 10 _ rfl; rwa [← Nat.add_assoc] at this, by have := hcell 11 _ rfl; rwa [← Nat.add_assoc] at this, by have := hcell 12 _ rfl; rwa [← Nat.add_assoc] at this, by have := hcell 13 _ rfl; rwa [← Nat.add_assoc] at this, by have := hcell 14 _ rfl; rwa [← Nat.add_assoc] at this, by have := hcell 15 _ rfl; rwa [← Nat.add_assoc] at this, by have := hcell 16 _ rfl; rwa [← Nat.add_assoc] at this, by have := hcell 17 _ rfl; rwa [← Nat.add_assoc] at this, by have := hcell 18 _ rfl; rwa [← Nat.add_assoc] at this, by have := hcell 19 _ rfl; rwa [← Nat.add_assoc] at this⟩, gv1_0, gv1_1, gv1_2, gv1_3, gv1_4, gv1_5, gv1_6, gv1_7, gv1_8, gv1_9, gv1_10, trivial, ⟨gv1_12.le, gv1_12.max⟩, gv0_1, gv0_2, gv2_0, gv2_1, gv2_2, gv2_3, gv2_4⟩⟩
    · exact ⟨⟨0, 0, 0, 0, 0, 0, 0, 0, 0, 0, 0, false, none, 0, 0, 0, 0, 0, 0, 0, 0, 0⟩, fun h => absurd h hk⟩
  have hg := fun k => Classical.choose_spec (hex k)
  exact ⟨b, o, fun k => Classical.choose (hex k), h.le, h.max, h1, fun k hk => (hg k hk).1, fun k hk => (hg k hk).2⟩
def caL (E : Nat → CaE) (n : Nat) : List Value := (List.range n).flatMap fun k => (E k).cells
theorem caL_succ (E : Nat → CaE) (n : Nat) : caL E (n + 1) = caL E n ++ (E n).cells := by simp [caL, List.range_succ, List.flatMap_append]
theorem caL_len (E : Nat → CaE) : ∀ n : Nat, (caL E n).length = n * 20
  | 0 => by simp [caL]
  | n + 1 => by rw [caL_succ, List.length_append, caL_len E n]; simp [CaE.cells]; omega
theorem caL_congr {E E' : Nat → CaE} : ∀ {n : Nat}, (∀ k, k < n → E k = E' k) → caL E n = caL E' n
  | 0, _ => rfl
  | n + 1, h => by rw [caL_succ, caL_succ, caL_congr (fun k hk => h k (by omega)), h n (by omega)]
theorem caL_at (E : Nat → CaE) : ∀ (n k j : Nat), k < n → j < 20 → (caL E n)[k * 20 + j]? = (E k).cells[j]?
  | 0, _, _, h, _ => by omega
  | n + 1, k, j, h, hj => by
    have hl := caL_len E n
    rw [caL_succ]
    by_cases hk : k < n
    · rw [List.getElem?_append_left (by omega)]
      exact caL_at E n k j hk hj
    · obtain rfl : k = n := by omega
      rw [List.getElem?_append_right (by omega), hl]
      congr 1
      omega
theorem ca_row {w : World} {v : Value} {ob : Option Nat} {E : Nat → CaE} {n : Nat} (h : Row w v ob 67 20 n (caL E n)) (hE : ∀ k, k < n → (E k).ok) :
    ∃ a cap, v = .slice a n cap ∧ CaIn w a n cap (ob.getD 0) 0 E := by
  obtain ⟨a, cap, rfl, h1, h2, h3⟩ := h.shape
  refine ⟨a, cap, rfl, h1, h2, fun hk => ?_, fun k hk => ?_, hE⟩
  · obtain ⟨g, hg, _⟩ := h.cell 0 (by omega)
    subst hg
    exact ⟨h3, h.lt⟩
  · have hh : ∀ j, j < 20 → w.cell? ⟨ob.getD 0, 0 + k * 20 + j, none⟩ = (E k).cells[j]? := fun j hj => by
      obtain ⟨g, hg, hc, _⟩ := h.cell (k * 20 + j) (by omega)
      subst hg
      rw [Option.getD_some, Nat.zero_add, hc, caL_at E n k j hk hj]
    exact ⟨hh 0 (by omega), hh 1 (by omega), hh 2 (by omega), hh 3 (by omega), hh 4 (by omega), hh 5 (by omega), hh 6 (by omega), hh 7 (by omega), hh 8 (by omega), hh 9 (by omega), hh 10 (by omega), hh 11 (by omega), hh 12 (by omega), hh 13 (by omega), hh 14 (by omega), hh 15 (by omega), hh 16 (by omega), hh 17 (by omega), hh 18 (by omega), hh 19 (by omega)⟩
def CaE.agg (e : CaE) : Value := .agg #[.int .i8 e.kind, .int .i64 e.client, .int .i64 e.number, .int .i64 e.tenant, .int .i64 e.crate, .int .i64 e.cburst, .int .i64 e.shaper, .int .i64 e.epoch, .int .i64 e.clease, .int .i64 e.csize, .int .i64 e.spent, .bool e.closed, .slice e.lsa e.lsn e.lsc, .int .i64 e.fr, .int .i64 e.til, .int .i64 e.e, .int .i64 e.rate, .int .i64 e.burst, .int .i64 e.lease, .int .i64 e.size]
def zCa : CaE := ⟨0, 0, 0, 0, 0, 0, 0, 0, 0, 0, 0, false, none, 0, 0, 0, 0, 0, 0, 0, 0, 0⟩
def gCa (L : List CaE) (k : Nat) : CaE := (L[k]?).getD zCa
theorem gCa_lt {L : List CaE} {k : Nat} (h : k < L.length) : L[k]? = some (gCa L k) := by unfold gCa; rw [List.getElem?_eq_getElem h]; rfl
theorem gCa_of {L : List CaE} {k : Nat} {x : CaE} (h : L[k]? = some x) : gCa L k = x := by unfold gCa; rw [h]; rfl
def llCa (L : List CaE) : List Value := L.flatMap CaE.cells
theorem llCa_append (a b : List CaE) : llCa (a ++ b) = llCa a ++ llCa b := by simp [llCa]
theorem llCa_one (m : CaE) : llCa [m] = m.cells := by simp [llCa]
theorem llCa_len : ∀ L : List CaE, (llCa L).length = L.length * 20
  | [] => rfl
  | m :: l => by
    show (m.cells ++ llCa l).length = _
    rw [List.length_append, llCa_len l]
    simp [CaE.cells]
    omega
theorem llCa_g : ∀ (L : List CaE), llCa L = caL (gCa L) L.length := by
  intro L
  suffices h : ∀ n, n ≤ L.length → llCa (L.take n) = caL (gCa L) n by
    have := h L.length (Nat.le_refl _)
    rwa [List.take_length] at this
  intro n
  induction n with
  | zero => intro _; rfl
  | succ n ih =>
    intro hn
    rw [caL_succ, ← ih (by omega), List.take_add_one, gCa_lt (by omega)]
    rw [llCa_append]
    simp [llCa]
theorem llCa_take (L : List CaE) (i : Nat) (hi : i ≤ L.length) : (llCa L).take (i * 20) = llCa (L.take i) := by
  have h : llCa L = llCa (L.take i) ++ llCa (L.drop i) := by rw [← llCa_append, List.take_append_drop]
  rw [h, List.take_append_of_le_length (by rw [llCa_len, List.length_take, Nat.min_eq_left hi]; exact Nat.le_refl _), List.take_of_length_le (by rw [llCa_len, List.length_take, Nat.min_eq_left hi]; exact Nat.le_refl _)]
/-- the list that a value stands for -/
def CaV (W : World) (v : Value) (L : List CaE) : Prop := ∃ a b o cap, v = .slice a L.length cap ∧ CaIn W a L.length cap b o (gCa L)
theorem CaV.below {W W' : World} {v : Value} {L : List CaE} (h : CaV W v L) (hB : Below W.heap.size W W') : CaV W' v L := by
  obtain ⟨a, b, o, c, rfl, h⟩ := h
  exact ⟨a, b, o, c, rfl, h.below hB⟩
def okCa (L : List CaE) : Prop := ∀ x ∈ L, x.ok
theorem okCa_g {L : List CaE} (h : okCa L) (k : Nat) (hk : k < L.length) : (gCa L k).ok := h _ (List.mem_of_getElem? (gCa_lt hk))
theorem CaV.ok {W : World} {v : Value} {L : List CaE} (h : CaV W v L) : okCa L := by
  obtain ⟨a, b, o, c, rfl, h⟩ := h
  intro x hx
  obtain ⟨k, hk, rfl⟩ := List.mem_iff_getElem.1 hx
  have := h.bd k hk
  rwa [gCa_of (List.getElem?_eq_getElem hk)] at this
theorem CaV.sh {W : World} {v : Value} {L : List CaE} (h : CaV W v L) : ∃ a n c, v = .slice a n c ∧ Hid (n = L.length) ∧ n ≤ c ∧ c ≤ 9223372036854775807 := by
  obtain ⟨a, b, o, c, rfl, h⟩ := h
  exact ⟨a, _, c, rfl, Lib.hid rfl, h.le, by have := h.max; unfold maxLen at this; exact this⟩
theorem CaV.at {W : World} {a : Option Addr} {n c : Nat} {L : List CaE} (h : CaV W (.slice a n c) L) (k : Nat) (hk : k < n) : ∃ (g o : Nat) (e : CaE), a = some ⟨g, o, none⟩ ∧ g < W.heap.size ∧ L[k]? = some e ∧ W.cell? ⟨g, o + k * 20, none⟩ = some (.int .i8 e.kind) ∧ W.cell? ⟨g, o + k * 20 + 1, none⟩ = some (.int .i64 e.client) ∧ W.cell? ⟨g, o + k * 20 + 2, none⟩ = some (.int .i64 e.number) ∧ W.cell? ⟨g, o + k * 20 + 3, none⟩ = some (.int .i64 e.tenant) ∧ W.cell? ⟨g, o + k * 20 + 4, none⟩ = some (.int .i64 e.crate) ∧ W.cell? ⟨g, o + k * 20 + 5, none⟩ = some (.int .i64 e.cburst) ∧ W.cell? ⟨g, o + k * 20 + 6, none⟩ = some (.int .i64 e.shaper) ∧ W.cell? ⟨g, o + k * 20 + 7, none⟩ = some (.int .i64 e.epoch) ∧ W.cell? ⟨g, o + k * 20 + 8, none⟩ = some (.int .i64 e.clease) ∧ W.cell? ⟨g, o + k * 20 + 9, none⟩ = some (.int .i64 e.csize) ∧ W.cell? ⟨g, o + k * 20 + 10, none⟩ = some (.int .i64 e.spent) ∧ W.cell? ⟨g, o + k * 20 + 11, none⟩ = some (.bool e.closed) ∧ W.cell? ⟨g, o + k * 20 + 12, none⟩ = some (.slice e.lsa e.lsn e.lsc) ∧ W.cell? ⟨g, o + k * 20 + 13, none⟩ = some (.int .i64 e.fr) ∧ W.cell? ⟨g, o + k * 20 + 14, none⟩ = some (.int .i64 e.til) ∧ W.cell? ⟨g, o + k * 20 + 15, none⟩ = some (.int .i64 e.e) ∧ W.cell? ⟨g, o + k * 20 + 16, none⟩ = some (.int .i64 e.rate) ∧ W.cell? ⟨g, o + k * 20 + 17, none⟩ = some (.int .i64 e.burst) ∧ W.cell? ⟨g, o + k * 20 + 18, none⟩ = some (.int .i64 e.lease) ∧ W.cell? ⟨g, o + k * 20 + 19, none⟩ = some (.int .i64 e.size) := by
  obtain ⟨a', b, o, c', ee, h⟩ := h
  injection ee with e1 e2 e3
  subst e1 e2 e3
  have h1 := h.at_ (by omega)
  exact ⟨b, o, gCa L k, h1.1, h1.2, gCa_lt hk, h.cell k hk⟩
theorem cav_row {W : World} {v : Value} {ob : Option Nat} {L : List CaE} (h : Row W v ob 67 20 L.length (llCa L)) (ho : okCa L) : CaV W v L := by
  rw [llCa_g] at h
  obtain ⟨a, c, e, h2⟩ := ca_row h (okCa_g ho)
  exact ⟨a, _, 0, c, e, h2⟩
theorem cav_nil (W : World) : CaV W (.slice none 0 0) [] := ⟨none, 0, 0, 0, rfl, Nat.le_refl _, Nat.zero_le _, fun h => absurd h (by simp), fun k hk => absurd hk (by simp), fun k hk => absurd hk (by simp)⟩
theorem cav_cells (W : World) {a : Option Addr} {len cap : Nat} {xs : List Dt} (h : SliceFits Try.prog W 67 a len cap xs) : ∃ L : List CaE, L.length = len ∧ CaV W (.slice a len cap) L := by
  obtain ⟨b, o, E, hE⟩ := ca_cells W h
  refine ⟨(List.range len).map E, by simp, a, b, o, cap, by simp, ?_⟩
  have hg : ∀ k, k < len → gCa ((List.range len).map E) k = E k := fun k hk => gCa_of (by simp [hk])
  rw [show ((List.range len).map E).length = len by simp]
  exact ⟨hE.le, hE.max, hE.at_, fun k hk => by rw [hg k hk]; exact hE.cell k hk, fun k hk => by rw [hg k hk]; exact hE.bd k hk⟩
theorem caZero : (Try.prog.info? 67).map (fun i => (i.zero, i.size, i.bytes)) = some (some (Value.agg #[.int .i8 0, .int .i64 0, .int .i64 0, .int .i64 0, .int .i64 0, .int .i64 0, .int .i64 0, .int .i64 0, .int .i64 0, .int .i64 0, .int .i64 0, .bool false, .slice none 0 0, .int .i64 0, .int .i64 0, .int .i64 0, .int .i64 0, .int .i64 0, .int .i64 0, .int .i64 0]), 20, 176) := by kernel_rfl
theorem llCa_ones (L : List CaE) : ∀ u ∈ llCa L, u.oneCell' = true := by
  intro u hu
  simp only [llCa, List.mem_flatMap] at hu
  obtain ⟨y, _, hk⟩ := hu
  have : y.cells.all (fun u => u.oneCell') = true := rfl
  exact List.all_eq_true.1 this u hk
theorem ca_at2 {W : World} {a : Option Addr} {n c b o : Nat} {E : Nat → CaE} (h : CaIn W a n c b o E) (j : Nat) (u : Value) (hu : (caL E n)[j]? = some u) : W.cell? ⟨b, o + j, none⟩ = some u := by
  have hj : j < n * 20 := by have := (List.getElem?_eq_some_iff.1 hu).1; rwa [caL_len] at this
  obtain ⟨k, i, hk, hi, rfl⟩ : ∃ k i, k < n ∧ i < 20 ∧ j = k * 20 + i := ⟨j / 20, j % 20, by omega, by omega, by omega⟩
  rw [caL_at E n k i hk hi] at hu
  obtain ⟨c0, c1, c2, c3, c4, c5, c6, c7, c8, c9, c10, c11, c12, c13, c14, c15, c16, c17, c18, c19⟩ := h.cell k hk
  match i, hi with
  | 0, _ => simp [CaE.cells] at hu; subst hu; exact c0
  | 1, _ => simp [CaE.cells] at hu; subst hu; rw [← Nat.add_assoc]; exact c1
  | 2, _ => simp [CaE.cells] at hu; subst hu; rw [← Nat.add_assoc]; exact c2
  | 3, _ => simp [CaE.cells] at hu; subst hu; rw [← Nat.add_assoc]; exact c3
  | 4, _ => simp [CaE.cells] at hu; subst hu; rw [← Nat.add_assoc]; exact c4
  | 5, _ => simp [CaE.cells] at hu; subst hu; rw [← Nat.add_assoc]; exact c5
  | 6, _ => simp [CaE.cells] at hu; subst hu; rw [← Nat.add_assoc]; exact c6
  | 7, _ => simp [CaE.cells] at hu; subst hu; rw [← Nat.add_assoc]; exact c7
  | 8, _ => simp [CaE.cells] at hu; subst hu; rw [← Nat.add_assoc]; exact c8
  | 9, _ => simp [CaE.cells] at hu; subst hu; rw [← Nat.add_assoc]; exact c9
  | 10, _ => simp [CaE.cells] at hu; subst hu; rw [← Nat.add_assoc]; exact c10
  | 11, _ => simp [CaE.cells] at hu; subst hu; rw [← Nat.add_assoc]; exact c11
  | 12, _ => simp [CaE.cells] at hu; subst hu; rw [← Nat.add_assoc]; exact c12
  | 13, _ => simp [CaE.cells] at hu; subst hu; rw [← Nat.add_assoc]; exact c13
  | 14, _ => simp [CaE.cells] at hu; subst hu; rw [← Nat.add_assoc]; exact c14
  | 15, _ => simp [CaE.cells] at hu; subst hu; rw [← Nat.add_assoc]; exact c15
  | 16, _ => simp [CaE.cells] at hu; subst hu; rw [← Nat.add_assoc]; exact c16
  | 17, _ => simp [CaE.cells] at hu; subst hu; rw [← Nat.add_assoc]; exact c17
  | 18, _ => simp [CaE.cells] at hu; subst hu; rw [← Nat.add_assoc]; exact c18
  | 19, _ => simp [CaE.cells] at hu; subst hu; rw [← Nat.add_assoc]; exact c19
/-- a row of the call's own, its block no older than M -/
def CaO (M : Nat) (W : World) (v : Value) (ob : Option Nat) (L : List CaE) : Prop := Row W v ob 67 20 L.length (llCa L) ∧ okCa L ∧ ∀ g, ob = some g → M ≤ g
theorem cao_nil (W : World) (M : Nat) : CaO M W (.slice none 0 0) none [] := ⟨Row.nil _ _ _, fun x h => absurd h (by simp), fun g e => by cases e⟩
theorem CaO.v {W : World} {M : Nat} {v : Value} {ob : Option Nat} {L : List CaE} (h : CaO M W v ob L) : CaV W v L := cav_row h.1 h.2.1
theorem CaO.step {A B : World} {M : Nat} {v : Value} {ob : Option Nat} {L : List CaE} (h : CaO M A v ob L) (hB : Below A.heap.size A B) : CaO M B v ob L := ⟨h.1.congr fun g e => hB.block g (by subst e; exact h.1.lt), h.2.1, h.2.2⟩
theorem CaO.fr {A B : World} {M N : Nat} {v : Value} {ob : Option Nat} {L : List CaE} (h : CaO M A v ob L) (hf : Fr [N] A B) (hN : N < M) : CaO M B v ob L := ⟨h.1.congr fun g e => hf.block g (by subst e; exact h.1.lt) (by have := h.2.2 g e; simp; omega), h.2.1, h.2.2⟩
/-- append of a piece (empty too) to a row of the call's own -/
theorem ca_app {W : World} {M : Nat} {ty : TypeId} {v v2 : Value} {ob : Option Nat} {L L2 : List CaE} (h : CaO M W v ob L) (h2 : CaV W v2 L2) (hM : M ≤ W.heap.size) (hn : L.length + L2.length ≤ 100000) :
    ∃ v' ob' w', (Builtin.append_ #[52, 52] ty #[v, v2]).run Try.prog W = .ok v' w' ∧ CaO M w' v' ob' (L ++ L2) ∧ Below M W w' := by
  have ho2 := h2.ok
  obtain ⟨r1, r4, r5⟩ := h
  obtain ⟨a2, b2, o2, c2, rfl, d1⟩ := h2
  obtain ⟨i0, hi, hz0, hz1, hz2⟩ := info_parts caZero
  rcases Nat.eq_zero_or_pos L2.length with h0 | h0
  · have hL2 : L2 = [] := List.eq_nil_of_length_eq_zero h0
    subst hL2
    rw [List.append_nil]
    exact ⟨v, ob, W, run_append_row_zero (P := Try.prog) (w := W) 52 ty 67 i0 20 Try.underlying52 hi v ob _ _ r1 a2 c2, ⟨r1, r4, r5⟩, Below.refl _ _⟩
  · obtain ⟨e0, e1⟩ := d1.at_ h0
    subst e0
    have hat := fun j u hu => ca_at2 d1 j u hu
    rw [← llCa_g] at hat
    obtain ⟨v', ob', w', hrun, s1, s2, s3⟩ := run_append_row (P := Try.prog) W 52 ty 67 i0 _ 20 176 Try.underlying52 hi hz0 hz1 hz2 rfl (by decide) v ob L.length (llCa L) r1 ⟨b2, o2, none⟩ L2.length c2 (llCa L2) h0 (llCa_len L2) (fun j u hu => by rw [addr_add]; exact hat j u hu) (llCa_ones L2) (by unfold maxLen; omega) (by omega)
    refine ⟨v', some ob', w', hrun, ⟨by rw [List.length_append, llCa_append]; exact s1, fun x hx => ?_, fun g e => ?_⟩, ?_⟩
    · rcases List.mem_append.1 hx with h | h
      · exact r4 x h
      · exact ho2 x h
    · obtain rfl := Option.some.inj e
      rcases s3 with h | h
      · exact r5 _ h
      · omega
    · exact (Below.refl M W).grown s2 hM r5
/-- one element in a new block, as a piece -/
theorem cav_one {W : World} {b : Nat} {e : CaE} (h : Blk W b #[.int .i8 e.kind, .int .i64 e.client, .int .i64 e.number, .int .i64 e.tenant, .int .i64 e.crate, .int .i64 e.cburst, .int .i64 e.shaper, .int .i64 e.epoch, .int .i64 e.clease, .int .i64 e.csize, .int .i64 e.spent, .bool e.closed, .slice e.lsa e.lsn e.lsc, .int .i64 e.fr, .int .i64 e.til, .int .i64 e.e, .int .i64 e.rate, .int .i64 e.burst, .int .i64 e.lease, .int .i64 e.size] 67) (ho : e.ok) : CaV W (.slice (some ⟨b, 0, none⟩) 1 1) [e] := by
  refine ⟨some ⟨b, 0, none⟩, b, 0, 1, rfl, Nat.le_refl _, by unfold maxLen; simp, fun _ => ⟨rfl, h.lt⟩, fun k hk => ?_, fun k hk => ?_⟩
  · obtain rfl : k = 0 := by simpa using hk
    exact ⟨cell_at h 0, cell_at h 1, cell_at h 2, cell_at h 3, cell_at h 4, cell_at h 5, cell_at h 6, cell_at h 7, cell_at h 8, cell_at h 9, cell_at h 10, cell_at h 11, cell_at h 12, cell_at h 13, cell_at h 14, cell_at h 15, cell_at h 16, cell_at h 17, cell_at h 18, cell_at h 19⟩
  · obtain rfl : k = 0 := by simpa using hk
    exact ho
end Go.Proofs.Ythmjlomlceljkaa
