/-
  Tables in memory, as lists.
-/
import Derived.Test.YthmjlomlceljkaaHiB
import Derived.Deep.DeepFit
import Derived.Lib.AppendZeros
import Derived.OwnWalk
import Derived.BigQuiet
import Derived.BigRegion
import Derived.Deep.QuietTactic
import Derived.IntWalk
import Derived.Lib.Small
import Derived.RegionTactic
import Derived.Deep.RegionHeld3
import Derived.OrdersHeld
import Derived.Lib.Hide
import Derived.Deep.DeepCutAuto
import Derived.WalkMore
import Derived.WalkSpells
import Derived.Laws.OwnMore
namespace Go.Proofs.Ythmjlomlceljkaa
open Go.RowKit
set_option linter.unusedSimpArgs false
set_option linter.unusedVariables false

structure FcE where
  tick : Int
  tenant : Int
  rate : Int
  burst : Int
deriving DecidableEq
def FcE.cells (e : FcE) : List Value := [.int .i64 e.tick, .int .i64 e.tenant, .int .i64 e.rate, .int .i64 e.burst]
def FcE.ok (e : FcE) : Prop := (-9223372036854775808 ≤ e.tick ∧ e.tick ≤ 9223372036854775807) ∧ (-9223372036854775808 ≤ e.tenant ∧ e.tenant ≤ 9223372036854775807) ∧ (-9223372036854775808 ≤ e.rate ∧ e.rate ≤ 9223372036854775807) ∧ (-9223372036854775808 ≤ e.burst ∧ e.burst ≤ 9223372036854775807)
structure FcIn (W : World) (a : Option Addr) (len cap b o : Nat) (E : Nat → FcE) : Prop where
  le : len ≤ cap
  max : cap ≤ maxLen
  at_ : 0 < len → a = some ⟨b, o, none⟩ ∧ b < W.heap.size
  cell : ∀ k, k < len → W.cell? ⟨b, o + k * 4, none⟩ = some (.int .i64 (E k).tick) ∧ W.cell? ⟨b, o + k * 4 + 1, none⟩ = some (.int .i64 (E k).tenant) ∧ W.cell? ⟨b, o + k * 4 + 2, none⟩ = some (.int .i64 (E k).rate) ∧ W.cell? ⟨b, o + k * 4 + 3, none⟩ = some (.int .i64 (E k).burst)
  bd : ∀ k, k < len → (E k).ok
theorem FcIn.below {W W' : World} {a : Option Addr} {len cap b o : Nat} {E : Nat → FcE} (h : FcIn W a len cap b o E) (hB : Below W.heap.size W W') : FcIn W' a len cap b o E :=
  ⟨h.le, h.max, fun hk => ⟨(h.at_ hk).1, by have := (h.at_ hk).2; have := hB.size; omega⟩, fun k hk => by
    have hb := (h.at_ (by omega)).2
    obtain ⟨c0, c1, c2, c3⟩ := h.cell k hk
    exact ⟨(hB.cell (p := ⟨b, _, none⟩) hb).trans c0, (hB.cell (p := ⟨b, _, none⟩) hb).trans c1, (hB.cell (p := ⟨b, _, none⟩) hb).trans c2, (hB.cell (p := ⟨b, _, none⟩) hb).trans c3⟩, h.bd⟩
theorem fc_cells (W : World) {a : Option Addr} {len cap : Nat} {xs : List Dt} (h : SliceFits Try.prog W 87 a len cap xs) : ∃ (b o : Nat) (E : Nat → FcE), FcIn W a len cap b o E := by
  have hc : Try.prog.cellsOf 87 = 4 := by kernel_rfl
  obtain ⟨b, o, h1, h2⟩ := h.spot (by rw [hc]; omega)
  have hex : ∀ k, ∃ q : FcE, k < len → (W.cell? ⟨b, o + k * 4, none⟩ = some (.int .i64 q.tick) ∧ W.cell? ⟨b, o + k * 4 + 1, none⟩ = some (.int .i64 q.tenant) ∧ W.cell? ⟨b, o + k * 4 + 2, none⟩ = some (.int .i64 q.rate) ∧ W.cell? ⟨b, o + k * 4 + 3, none⟩ = some (.int .i64 q.burst)) ∧ q.ok := fun k => by
    by_cases hk : k < len
    · have hl := h.length
      have hx := List.getElem?_eq_getElem (l := xs) (i := k) (by omega)
      obtain ⟨l0, hxe, hl0, hf0⟩ := (h.each k _ hx).1.agg_inv Try.underlying87
      obtain ⟨y0_0, e0_0, f0_0⟩ := hf0 0 _ rfl
      obtain ⟨y0_1, e0_1, f0_1⟩ := hf0 1 _ rfl
      obtain ⟨y0_2, e0_2, f0_2⟩ := hf0 2 _ rfl
      obtain ⟨y0_3, e0_3, f0_3⟩ := hf0 3 _ rfl
      obtain ⟨v0_0, rfl, gv0_0⟩ := f0_0.int_inv Try.underlying3
      obtain ⟨v0_1, rfl, gv0_1⟩ := f0_1.int_inv Try.underlying3
      obtain ⟨v0_2, rfl, gv0_2⟩ := f0_2.int_inv Try.underlying3
      obtain ⟨v0_3, rfl, gv0_3⟩ := f0_3.int_inv Try.underlying3
      match l0, hl0 with
      | [z0_0, z0_1, z0_2, z0_3], _ =>
        obtain rfl : z0_0 = _ := by simpa using e0_0
        obtain rfl : z0_1 = _ := by simpa using e0_1
        obtain rfl : z0_2 = _ := by simpa using e0_2
        obtain rfl : z0_3 = _ := by simpa using e0_3
        have hcell := h2 k _ hx
        rw [hxe, hc] at hcell
        exact ⟨⟨v0_0, v0_1, v0_2, v0_3⟩, fun _ => ⟨⟨hcell 0 _ rfl, by have := hcell 1 _ rfl; rwa [← Nat.add_assoc] at this, by have := hcell 2 _ rfl; rwa [← Nat.add_assoc] at this, by have := hcell 3 _ rfl; rwa [← Nat.add_assoc] at this⟩, gv0_0, gv0_1, gv0_2, gv0_3⟩⟩
    · exact ⟨⟨0, 0, 0, 0⟩, fun h => absurd h hk⟩
  have hg := fun k => Classical.choose_spec (hex k)
  exact ⟨b, o, fun k => Classical.choose (hex k), h.le, h.max, h1, fun k hk => (hg k hk).1, fun k hk => (hg k hk).2⟩
def fcL (E : Nat → FcE) (n : Nat) : List Value := (List.range n).flatMap fun k => (E k).cells
theorem fcL_succ (E : Nat → FcE) (n : Nat) : fcL E (n + 1) = fcL E n ++ (E n).cells := by simp [fcL, List.range_succ, List.flatMap_append]
theorem fcL_len (E : Nat → FcE) : ∀ n : Nat, (fcL E n).length = n * 4
  | 0 => by simp [fcL]
  | n + 1 => by rw [fcL_succ, List.length_append, fcL_len E n]; simp [FcE.cells]; omega
theorem fcL_congr {E E' : Nat → FcE} : ∀ {n : Nat}, (∀ k, k < n → E k = E' k) → fcL E n = fcL E' n
  | 0, _ => rfl
  | n + 1, h => by rw [fcL_succ, fcL_succ, fcL_congr (fun k hk => h k (by omega)), h n (by omega)]
theorem fcL_at (E : Nat → FcE) : ∀ (n k j : Nat), k < n → j < 4 → (fcL E n)[k * 4 + j]? = (E k).cells[j]?
  | 0, _, _, h, _ => by omega
  | n + 1, k, j, h, hj => by
    have hl := fcL_len E n
    rw [fcL_succ]
    by_cases hk : k < n
    · rw [List.getElem?_append_left (by omega)]
      exact fcL_at E n k j hk hj
    · obtain rfl : k = n := by omega
      rw [List.getElem?_append_right (by omega), hl]
      congr 1
      omega
theorem fc_row {w : World} {v : Value} {ob : Option Nat} {E : Nat → FcE} {n : Nat} (h : Row w v ob 87 4 n (fcL E n)) (hE : ∀ k, k < n → (E k).ok) :
    ∃ a cap, v = .slice a n cap ∧ FcIn w a n cap (ob.getD 0) 0 E := by
  obtain ⟨a, cap, rfl, h1, h2, h3⟩ := h.shape
  refine ⟨a, cap, rfl, h1, h2, fun hk => ?_, fun k hk => ?_, hE⟩
  · obtain ⟨g, hg, _⟩ := h.cell 0 (by omega)
    subst hg
    exact ⟨h3, h.lt⟩
  · have hh : ∀ j, j < 4 → w.cell? ⟨ob.getD 0, 0 + k * 4 + j, none⟩ = (E k).cells[j]? := fun j hj => by
      obtain ⟨g, hg, hc, _⟩ := h.cell (k * 4 + j) (by omega)
      subst hg
      rw [Option.getD_some, Nat.zero_add, hc, fcL_at E n k j hk hj]
    exact ⟨hh 0 (by omega), hh 1 (by omega), hh 2 (by omega), hh 3 (by omega)⟩
def FcE.agg (e : FcE) : Value := .agg #[.int .i64 e.tick, .int .i64 e.tenant, .int .i64 e.rate, .int .i64 e.burst]
def zFc : FcE := ⟨0, 0, 0, 0⟩
def gFc (L : List FcE) (k : Nat) : FcE := (L[k]?).getD zFc
theorem gFc_lt {L : List FcE} {k : Nat} (h : k < L.length) : L[k]? = some (gFc L k) := by unfold gFc; rw [List.getElem?_eq_getElem h]; rfl
theorem gFc_of {L : List FcE} {k : Nat} {x : FcE} (h : L[k]? = some x) : gFc L k = x := by unfold gFc; rw [h]; rfl
def llFc (L : List FcE) : List Value := L.flatMap FcE.cells
theorem llFc_append (a b : List FcE) : llFc (a ++ b) = llFc a ++ llFc b := by simp [llFc]
theorem llFc_one (m : FcE) : llFc [m] = m.cells := by simp [llFc]
theorem llFc_len : ∀ L : List FcE, (llFc L).length = L.length * 4
  | [] => rfl
  | m :: l => by
    show (m.cells ++ llFc l).length = _
    rw [List.length_append, llFc_len l]
    simp [FcE.cells]
    omega
theorem llFc_g : ∀ (L : List FcE), llFc L = fcL (gFc L) L.length := by
  intro L
  suffices h : ∀ n, n ≤ L.length → llFc (L.take n) = fcL (gFc L) n by
    have := h L.length (Nat.le_refl _)
    rwa [List.take_length] at this
  intro n
  induction n with
  | zero => intro _; rfl
  | succ n ih =>
    intro hn
    rw [fcL_succ, ← ih (by omega), List.take_add_one, gFc_lt (by omega)]
    rw [llFc_append]
    simp [llFc]
theorem llFc_take (L : List FcE) (i : Nat) (hi : i ≤ L.length) : (llFc L).take (i * 4) = llFc (L.take i) := by
  have h : llFc L = llFc (L.take i) ++ llFc (L.drop i) := by rw [← llFc_append, List.take_append_drop]
  rw [h, List.take_append_of_le_length (by rw [llFc_len, List.length_take, Nat.min_eq_left hi]; exact Nat.le_refl _), List.take_of_length_le (by rw [llFc_len, List.length_take, Nat.min_eq_left hi]; exact Nat.le_refl _)]
/-- the list that a value stands for -/
def FcV (W : World) (v : Value) (L : List FcE) : Prop := ∃ a b o cap, v = .slice a L.length cap ∧ FcIn W a L.length cap b o (gFc L)
theorem FcV.below {W W' : World} {v : Value} {L : List FcE} (h : FcV W v L) (hB : Below W.heap.size W W') : FcV W' v L := by
  obtain ⟨a, b, o, c, rfl, h⟩ := h
  exact ⟨a, b, o, c, rfl, h.below hB⟩
def okFc (L : List FcE) : Prop := ∀ x ∈ L, x.ok
theorem okFc_g {L : List FcE} (h : okFc L) (k : Nat) (hk : k < L.length) : (gFc L k).ok := h _ (List.mem_of_getElem? (gFc_lt hk))
theorem FcV.ok {W : World} {v : Value} {L : List FcE} (h : FcV W v L) : okFc L := by
  obtain ⟨a, b, o, c, rfl, h⟩ := h
  intro x hx
  obtain ⟨k, hk, rfl⟩ := List.mem_iff_getElem.1 hx
  have := h.bd k hk
  rwa [gFc_of (List.getElem?_eq_getElem hk)] at this
theorem FcV.sh {W : World} {v : Value} {L : List FcE} (h : FcV W v L) : ∃ a n c, v = .slice a n c ∧ Hid (n = L.length) ∧ n ≤ c ∧ c ≤ 9223372036854775807 := by
  obtain ⟨a, b, o, c, rfl, h⟩ := h
  exact ⟨a, _, c, rfl, Lib.hid rfl, h.le, by have := h.max; unfold maxLen at this; exact this⟩
theorem FcV.at {W : World} {a : Option Addr} {n c : Nat} {L : List FcE} (h : FcV W (.slice a n c) L) (k : Nat) (hk : k < n) : ∃ (g o : Nat) (e : FcE), a = some ⟨g, o, none⟩ ∧ g < W.heap.size ∧ L[k]? = some e ∧ W.cell? ⟨g, o + k * 4, none⟩ = some (.int .i64 e.tick) ∧ W.cell? ⟨g, o + k * 4 + 1, none⟩ = some (.int .i64 e.tenant) ∧ W.cell? ⟨g, o + k * 4 + 2, none⟩ = some (.int .i64 e.rate) ∧ W.cell? ⟨g, o + k * 4 + 3, none⟩ = some (.int .i64 e.burst) := by
  obtain ⟨a', b, o, c', ee, h⟩ := h
  injection ee with e1 e2 e3
  subst e1 e2 e3
  have h1 := h.at_ (by omega)
  exact ⟨b, o, gFc L k, h1.1, h1.2, gFc_lt hk, h.cell k hk⟩
theorem fcv_row {W : World} {v : Value} {ob : Option Nat} {L : List FcE} (h : Row W v ob 87 4 L.length (llFc L)) (ho : okFc L) : FcV W v L := by
  rw [llFc_g] at h
  obtain ⟨a, c, e, h2⟩ := fc_row h (okFc_g ho)
  exact ⟨a, _, 0, c, e, h2⟩
theorem fcv_nil (W : World) : FcV W (.slice none 0 0) [] := ⟨none, 0, 0, 0, rfl, Nat.le_refl _, Nat.zero_le _, fun h => absurd h (by simp), fun k hk => absurd hk (by simp), fun k hk => absurd hk (by simp)⟩
theorem fcv_cells (W : World) {a : Option Addr} {len cap : Nat} {xs : List Dt} (h : SliceFits Try.prog W 87 a len cap xs) : ∃ L : List FcE, L.length = len ∧ FcV W (.slice a len cap) L := by
  obtain ⟨b, o, E, hE⟩ := fc_cells W h
  refine ⟨(List.range len).map E, by simp, a, b, o, cap, by simp, ?_⟩
  have hg : ∀ k, k < len → gFc ((List.range len).map E) k = E k := fun k hk => gFc_of (by simp [hk])
  rw [show ((List.range len).map E).length = len by simp]
  exact ⟨hE.le, hE.max, hE.at_, fun k hk => by rw [hg k hk]; exact hE.cell k hk, fun k hk => by rw [hg k hk]; exact hE.bd k hk⟩
theorem fcZero : (Try.prog.info? 87).map (fun i => (i.zero, i.size, i.bytes)) = some (some (Value.agg #[.int .i64 0, .int .i64 0, .int .i64 0, .int .i64 0]), 4, 32) := by kernel_rfl
theorem llFc_ones (L : List FcE) : ∀ u ∈ llFc L, u.oneCell' = true := by
  intro u hu
  simp only [llFc, List.mem_flatMap] at hu
  obtain ⟨y, _, hk⟩ := hu
  have : y.cells.all (fun u => u.oneCell') = true := rfl
  exact List.all_eq_true.1 this u hk
theorem fc_at2 {W : World} {a : Option Addr} {n c b o : Nat} {E : Nat → FcE} (h : FcIn W a n c b o E) (j : Nat) (u : Value) (hu : (fcL E n)[j]? = some u) : W.cell? ⟨b, o + j, none⟩ = some u := by
  have hj : j < n * 4 := by have := (List.getElem?_eq_some_iff.1 hu).1; rwa [fcL_len] at this
  obtain ⟨k, i, hk, hi, rfl⟩ : ∃ k i, k < n ∧ i < 4 ∧ j = k * 4 + i := ⟨j / 4, j % 4, by omega, by omega, by omega⟩
  rw [fcL_at E n k i hk hi] at hu
  obtain ⟨c0, c1, c2, c3⟩ := h.cell k hk
  match i, hi with
  | 0, _ => simp [FcE.cells] at hu; subst hu; exact c0
  | 1, _ => simp [FcE.cells] at hu; subst hu; rw [← Nat.add_assoc]; exact c1
  | 2, _ => simp [FcE.cells] at hu; subst hu; rw [← Nat.add_assoc]; exact c2
  | 3, _ => simp [FcE.cells] at hu; subst hu; rw [← Nat.add_assoc]; exact c3
/-- a row of the call's own, its block no older than M -/
def FcO (M : Nat) (W : World) (v : Value) (ob : Option Nat) (L : List FcE) : Prop := Row W v ob 87 4 L.length (llFc L) ∧ okFc L ∧ ∀ g, ob = some g → M ≤ g
theorem fco_nil (W : World) (M : Nat) : FcO M W (.slice none 0 0) none [] := ⟨Row.nil _ _ _, fun x h => absurd h (by simp), fun g e => by cases e⟩
theorem FcO.v {W : World} {M : Nat} {v : Value} {ob : Option Nat} {L : List FcE} (h : FcO M W v ob L) : FcV W v L := fcv_row h.1 h.2.1
theorem FcO.step {A B : World} {M : Nat} {v : Value} {ob : Option Nat} {L : List FcE} (h : FcO M A v ob L) (hB : Below A.heap.size A B) : FcO M B v ob L := ⟨h.1.congr fun g e => hB.block g (by subst e; exact h.1.lt), h.2.1, h.2.2⟩
theorem FcO.fr {A B : World} {M N : Nat} {v : Value} {ob : Option Nat} {L : List FcE} (h : FcO M A v ob L) (hf : Fr [N] A B) (hN : N < M) : FcO M B v ob L := ⟨h.1.congr fun g e => hf.block g (by subst e; exact h.1.lt) (by have := h.2.2 g e; simp; omega), h.2.1, h.2.2⟩
/-- append of a piece (empty too) to a row of the call's own -/
theorem fc_app {W : World} {M : Nat} {ty : TypeId} {v v2 : Value} {ob : Option Nat} {L L2 : List FcE} (h : FcO M W v ob L) (h2 : FcV W v2 L2) (hM : M ≤ W.heap.size) (hn : L.length + L2.length ≤ 100000) :
    ∃ v' ob' w', (Builtin.append_ #[48, 48] ty #[v, v2]).run Try.prog W = .ok v' w' ∧ FcO M w' v' ob' (L ++ L2) ∧ Below M W w' := by
  have ho2 := h2.ok
  obtain ⟨r1, r4, r5⟩ := h
  obtain ⟨a2, b2, o2, c2, rfl, d1⟩ := h2
  obtain ⟨i0, hi, hz0, hz1, hz2⟩ := info_parts fcZero
  rcases Nat.eq_zero_or_pos L2.length with h0 | h0
  · have hL2 : L2 = [] := List.eq_nil_of_length_eq_zero h0
    subst hL2
    rw [List.append_nil]
    exact ⟨v, ob, W, run_append_row_zero (P := Try.prog) (w := W) 48 ty 87 i0 4 Try.underlying48 hi v ob _ _ r1 a2 c2, ⟨r1, r4, r5⟩, Below.refl _ _⟩
  · obtain ⟨e0, e1⟩ := d1.at_ h0
    subst e0
    have hat := fun j u hu => fc_at2 d1 j u hu
    rw [← llFc_g] at hat
    obtain ⟨v', ob', w', hrun, s1, s2, s3⟩ := run_append_row (P := Try.prog) W 48 ty 87 i0 _ 4 32 Try.underlying48 hi hz0 hz1 hz2 rfl (by decide) v ob L.length (llFc L) r1 ⟨b2, o2, none⟩ L2.length c2 (llFc L2) h0 (llFc_len L2) (fun j u hu => by rw [addr_add]; exact hat j u hu) (llFc_ones L2) (by unfold maxLen; omega) (by omega)
    refine ⟨v', some ob', w', hrun, ⟨by rw [List.length_append, llFc_append]; exact s1, fun x hx => ?_, fun g e => ?_⟩, ?_⟩
    · rcases List.mem_append.1 hx with h | h
      · exact r4 x h
      · exact ho2 x h
    · obtain rfl := Option.some.inj e
      rcases s3 with h | h
      · exact r5 _ h
      · omega
    · exact (Below.refl M W).grown s2 hM r5
/-- one element in a new block, as a piece -/
theorem fcv_one {W : World} {b : Nat} {e : FcE} (h : Blk W b #[.int .i64 e.tick, .int .i64 e.tenant, .int .i64 e.rate, .int .i64 e.burst] 87) (ho : e.ok) : FcV W (.slice (some ⟨b, 0, none⟩) 1 1) [e] := by
  refine ⟨some ⟨b, 0, none⟩, b, 0, 1, rfl, Nat.le_refl _, by unfold maxLen; simp, fun _ => ⟨rfl, h.lt⟩, fun k hk => ?_, fun k hk => ?_⟩
  · obtain rfl : k = 0 := by simpa using hk
    exact ⟨cell_at h 0, cell_at h 1, cell_at h 2, cell_at h 3⟩
  · obtain rfl : k = 0 := by simpa using hk
    exact ho
set_option maxRecDepth 100000 in
set_option maxHeartbeats 4000000 in
theorem fcclone_any (v : Value) (L : List FcE) (w : World) (h : FcV w v L) (hn : L.length ≤ 5000) :
    Calls Try.prog 40 #[v] w fun e w' => ∃ v' ob, e = .returned v' ∧ FcO w.heap.size w' v' ob L ∧ Below w.heap.size w w' := by
  have HOK := Lib.hid h.ok
  have HV := Lib.hid h
  obtain ⟨i0, hi, hz0, hz1, hz2⟩ := info_parts fcZero
  have HR0 : Hid (FcO w.heap.size (w.alloc (.cells #[] 87)) (.slice (some ⟨w.heap.size, 0, none⟩) 0 0) (some w.heap.size) []) := Lib.hid ⟨Row.mk (heap_alloc_new w _) (Nat.le_refl _) (by unfold maxLen; omega) rfl rfl, fun x h => absurd h (by simp), fun g e => by obtain rfl := Option.some.inj e; exact Nat.le_refl _⟩
  have HB0 : Hid (Below w.heap.size w (w.alloc (.cells #[] 87))) := Lib.hid ((Below.refl _ _).alloc (Nat.le_refl _) _)
  obtain ⟨v3, ob3, W3, hrun, hor, hBM⟩ := fc_app (ty := 48) HR0.out (HV.out.below HB0.out) HB0.out.size (by simp; omega)
  rw [List.nil_append] at hor
  obtain ⟨a, b, o, c, rfl, h⟩ := h
  have hl := h.le
  have hm := h.max
  unfold maxLen at hm
  cases a with
  | none =>
    obtain hz : L.length = 0 := by
      rcases Nat.eq_zero_or_pos L.length with h0 | h0
      · exact h0
      · exact absurd (h.at_ h0).1 (by simp)
    obtain rfl : L = [] := List.eq_nil_of_length_eq_zero hz
    have hnil : ∀ W, (binOp .eql 48 (.slice none 0 c) (.slice none 0 0)).run Try.prog W = .ok (.bool true) W := fun _ => rfl
    clear hrun hor hBM h
    show Calls Try.prog _ #[.slice none 0 c] w _
    go_enter Try.func40, Try.ntmps40
    go_wp2_with fail
    go_ret
    exact ⟨_, none, rfl, fco_nil _ _, Below.refl _ _⟩
  | some p =>
    obtain ⟨n, hn2⟩ : ∃ n, n = L.length := ⟨_, rfl⟩
    rw [← hn2] at hrun hl ⊢
    have hnil : ∀ W, (binOp .eql 48 (.slice (some p) n c) (.slice none 0 0)).run Try.prog W = .ok (.bool false) W := fun _ => rfl
    have HRUN := Lib.hid hrun
    have HOR := Lib.hid hor
    have HB3 := Lib.hid (HB0.out.trans hBM)
    clear hrun hor hBM h hn2
    go_enter Try.func40, Try.ntmps40
    go_wp2_with (at_builtin; refine Lib.wpList_append_run _ rfl (.tmp 5) (.tmp 6) 48 48 rfl _ _ rfl rfl _ _ HRUN.out ?_)
    go_wp2_with fail
    go_ret
    exact ⟨_, _, rfl, HOR.out, HB3.out⟩
end Go.Proofs.Ythmjlomlceljkaa
