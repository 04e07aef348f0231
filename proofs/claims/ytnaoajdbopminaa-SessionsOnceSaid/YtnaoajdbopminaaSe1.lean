/-
  Rows of sessions; which of them may be: the program's Check and the document's.
-/
import Derived.Test.YtnaoajdbopminaaLib2
import Derived.Test.YtnaoajdbopminaaDt
import Derived.Test.YtnaoajdbopminaaMp
import Derived.Test.YtnaoajdbopminaaBl
import Derived.OwnWalk
import Derived.BigQuiet
import Derived.BigRegion
import Derived.Deep.QuietTactic
import Derived.IntWalk
import Derived.Lib.Small
import Derived.RegionTactic
import Derived.Deep.RegionHeld3
import Derived.OrdersHeld
import Derived.Lib.Hide
namespace Go.Proofs.Ytnaoajdbopminaa
open Go.RowKit
set_option linter.unusedSimpArgs false
set_option linter.unusedVariables false

structure SeE where
  client : Int
  number : Int
  e : Int
  rate : Int
  burst : Int
  lease : Int
  size : Int
def SeE.cells (e : SeE) : List Value := [.int .i64 e.client, .int .i64 e.number, .int .i64 e.e, .int .i64 e.rate, .int .i64 e.burst, .int .i64 e.lease, .int .i64 e.size]
def SeE.ok (e : SeE) : Prop := (-9223372036854775808 ≤ e.client ∧ e.client ≤ 9223372036854775807) ∧ (-9223372036854775808 ≤ e.number ∧ e.number ≤ 9223372036854775807) ∧ (-9223372036854775808 ≤ e.e ∧ e.e ≤ 9223372036854775807) ∧ (-9223372036854775808 ≤ e.rate ∧ e.rate ≤ 9223372036854775807) ∧ (-9223372036854775808 ≤ e.burst ∧ e.burst ≤ 9223372036854775807) ∧ (-9223372036854775808 ≤ e.lease ∧ e.lease ≤ 9223372036854775807) ∧ (-9223372036854775808 ≤ e.size ∧ e.size ≤ 9223372036854775807)
structure SeIn (W : World) (a : Option Addr) (len cap b o : Nat) (E : Nat → SeE) : Prop where
  le : len ≤ cap
  max : cap ≤ maxLen
  at_ : 0 < len → a = some ⟨b, o, none⟩ ∧ b < W.heap.size
  cell : ∀ k, k < len → W.cell? ⟨b, o + k * 7, none⟩ = some (.int .i64 (E k).client) ∧ W.cell? ⟨b, o + k * 7 + 1, none⟩ = some (.int .i64 (E k).number) ∧ W.cell? ⟨b, o + k * 7 + 2, none⟩ = some (.int .i64 (E k).e) ∧ W.cell? ⟨b, o + k * 7 + 3, none⟩ = some (.int .i64 (E k).rate) ∧ W.cell? ⟨b, o + k * 7 + 4, none⟩ = some (.int .i64 (E k).burst) ∧ W.cell? ⟨b, o + k * 7 + 5, none⟩ = some (.int .i64 (E k).lease) ∧ W.cell? ⟨b, o + k * 7 + 6, none⟩ = some (.int .i64 (E k).size)
  bd : ∀ k, k < len → (E k).ok
theorem SeIn.below {W W' : World} {a : Option Addr} {len cap b o : Nat} {E : Nat → SeE} (h : SeIn W a len cap b o E) (hB : Below W.heap.size W W') : SeIn W' a len cap b o E :=
  ⟨h.le, h.max, fun hk => ⟨(h.at_ hk).1, by have := (h.at_ hk).2; have := hB.size; omega⟩, fun k hk => by
    have hb := (h.at_ (by omega)).2
    obtain ⟨c0, c1, c2, c3, c4, c5, c6⟩ := h.cell k hk
    exact ⟨(hB.cell (p := ⟨b, _, none⟩) hb).trans c0, (hB.cell (p := ⟨b, _, none⟩) hb).trans c1, (hB.cell (p := ⟨b, _, none⟩) hb).trans c2, (hB.cell (p := ⟨b, _, none⟩) hb).trans c3, (hB.cell (p := ⟨b, _, none⟩) hb).trans c4, (hB.cell (p := ⟨b, _, none⟩) hb).trans c5, (hB.cell (p := ⟨b, _, none⟩) hb).trans c6⟩, h.bd⟩
theorem se_cells (W : World) {a : Option Addr} {len cap : Nat} {xs : List Dt} (h : SliceFits Try.prog W 113 a len cap xs) : ∃ (b o : Nat) (E : Nat → SeE), SeIn W a len cap b o E := by
  have hc : Try.prog.cellsOf 113 = 7 := by kernel_rfl
  obtain ⟨b, o, h1, h2⟩ := h.spot (by rw [hc]; omega)
  have hex : ∀ k, ∃ q : SeE, k < len → (W.cell? ⟨b, o + k * 7, none⟩ = some (.int .i64 q.client) ∧ W.cell? ⟨b, o + k * 7 + 1, none⟩ = some (.int .i64 q.number) ∧ W.cell? ⟨b, o + k * 7 + 2, none⟩ = some (.int .i64 q.e) ∧ W.cell? ⟨b, o + k * 7 + 3, none⟩ = some (.int .i64 q.rate) ∧ W.cell? ⟨b, o + k * 7 + 4, none⟩ = some (.int .i64 q.burst) ∧ W.cell? ⟨b, o + k * 7 + 5, none⟩ = some (.int .i64 q.lease) ∧ W.cell? ⟨b, o + k * 7 + 6, none⟩ = some (.int .i64 q.size)) ∧ q.ok := fun k => by
    by_cases hk : k < len
    · have hl := h.length
      have hx := List.getElem?_eq_getElem (l := xs) (i := k) (by omega)
      obtain ⟨l0, hxe, hl0, hf0⟩ := (h.each k _ hx).1.agg_inv Try.underlying113
      obtain ⟨y0_0, e0_0, f0_0⟩ := hf0 0 _ rfl
      obtain ⟨y0_1, e0_1, f0_1⟩ := hf0 1 _ rfl
      obtain ⟨y0_2, e0_2, f0_2⟩ := hf0 2 _ rfl
      obtain ⟨v0_0, rfl, gv0_0⟩ := f0_0.int_inv Try.underlying3
      obtain ⟨v0_1, rfl, gv0_1⟩ := f0_1.int_inv Try.underlying3
      obtain ⟨l1, rfl, hl1, hf1⟩ := f0_2.agg_inv Try.underlying73
      obtain ⟨y1_0, e1_0, f1_0⟩ := hf1 0 _ rfl
      obtain ⟨y1_1, e1_1, f1_1⟩ := hf1 1 _ rfl
      obtain ⟨y1_2, e1_2, f1_2⟩ := hf1 2 _ rfl
      obtain ⟨y1_3, e1_3, f1_3⟩ := hf1 3 _ rfl
      obtain ⟨y1_4, e1_4, f1_4⟩ := hf1 4 _ rfl
      obtain ⟨v1_0, rfl, gv1_0⟩ := f1_0.int_inv Try.underlying25
      obtain ⟨v1_1, rfl, gv1_1⟩ := f1_1.int_inv Try.underlying3
      obtain ⟨v1_2, rfl, gv1_2⟩ := f1_2.int_inv Try.underlying3
      obtain ⟨v1_3, rfl, gv1_3⟩ := f1_3.int_inv Try.underlying3
      obtain ⟨v1_4, rfl, gv1_4⟩ := f1_4.int_inv Try.underlying3
      match l0, hl0 with
      | [z0_0, z0_1, z0_2], _ =>
        obtain rfl : z0_0 = _ := by simpa using e0_0
        obtain rfl : z0_1 = _ := by simpa using e0_1
        obtain rfl : z0_2 = _ := by simpa using e0_2
        match l1, hl1 with
        | [z1_0, z1_1, z1_2, z1_3, z1_4], _ =>
          obtain rfl : z1_0 = _ := by simpa using e1_0
          obtain rfl : z1_1 = _ := by simpa using e1_1
          obtain rfl : z1_2 = _ := by simpa using e1_2
          obtain rfl : z1_3 = _ := by simpa using e1_3
          obtain rfl : z1_4 = _ := by simpa using e1_4
          have hcell := h2 k _ hx
          rw [hxe, hc] at hcell
          exact ⟨⟨v0_0, v0_1, v1_0, v1_1, v1_2, v1_3, v1_4⟩, fun _ => ⟨⟨hcell 0 _ rfl, by have := hcell 1 _ rfl; rwa [← Nat.add_assoc] at this, by have := hcell 2 _ rfl; rwa [← Nat.add_assoc] at this, by have := hcell 3 _ rfl; rwa [← Nat.add_assoc] at this, by have := hcell 4 _ rfl; rwa [← Nat.add_assoc] at this, by have := hcell 5 _ rfl; rwa [← Nat.add_assoc] at this, by have := hcell 6 _ rfl; rwa [← Nat.add_assoc] at this⟩, gv0_0, gv0_1, gv1_0, gv1_1, gv1_2, gv1_3, gv1_4⟩⟩
    · exact ⟨⟨0, 0, 0, 0, 0, 0, 0⟩, fun h => absurd h hk⟩
  have hg := fun k => Classical.choose_spec (hex k)
  exact ⟨b, o, fun k => Classical.choose (hex k), h.le, h.max, h1, fun k hk => (hg k hk).1, fun k hk => (hg k hk).2⟩
def seL (E : Nat → SeE) (n : Nat) : List Value := (List.range n).flatMap fun k => (E k).cells
theorem seL_succ (E : Nat → SeE) (n : Nat) : seL E (n + 1) = seL E n ++ (E n).cells := by simp [seL, List.range_succ, List.flatMap_append]
theorem seL_len (E : Nat → SeE) : ∀ n : Nat, (seL E n).length = n * 7
  | 0 => by simp [seL]
  | n + 1 => by rw [seL_succ, List.length_append, seL_len E n]; simp [SeE.cells]; omega
theorem seL_congr {E E' : Nat → SeE} : ∀ {n : Nat}, (∀ k, k < n → E k = E' k) → seL E n = seL E' n
  | 0, _ => rfl
  | n + 1, h => by rw [seL_succ, seL_succ, seL_congr (fun k hk => h k (by omega)), h n (by omega)]
theorem seL_at (E : Nat → SeE) : ∀ (n k j : Nat), k < n → j < 7 → (seL E n)[k * 7 + j]? = (E k).cells[j]?
  | 0, _, _, h, _ => by omega
  | n + 1, k, j, h, hj => by
    have hl := seL_len E n
    rw [seL_succ]
    by_cases hk : k < n
    · rw [List.getElem?_append_left (by omega)]
      exact seL_at E n k j hk hj
    · obtain rfl : k = n := by omega
      rw [List.getElem?_append_right (by omega), hl]
      congr 1
      omega
theorem se_row {w : World} {v : Value} {ob : Option Nat} {E : Nat → SeE} {n : Nat} (h : Row w v ob 113 7 n (seL E n)) (hE : ∀ k, k < n → (E k).ok) :
    ∃ a cap, v = .slice a n cap ∧ SeIn w a n cap (ob.getD 0) 0 E := by
  obtain ⟨a, cap, rfl, h1, h2, h3⟩ := h.shape
  refine ⟨a, cap, rfl, h1, h2, fun hk => ?_, fun k hk => ?_, hE⟩
  · obtain ⟨g, hg, _⟩ := h.cell 0 (by omega)
    subst hg
    exact ⟨h3, h.lt⟩
  · have hh : ∀ j, j < 7 → w.cell? ⟨ob.getD 0, 0 + k * 7 + j, none⟩ = (E k).cells[j]? := fun j hj => by
      obtain ⟨g, hg, hc, _⟩ := h.cell (k * 7 + j) (by omega)
      subst hg
      rw [Option.getD_some, Nat.zero_add, hc, seL_at E n k j hk hj]
    exact ⟨hh 0 (by omega), hh 1 (by omega), hh 2 (by omega), hh 3 (by omega), hh 4 (by omega), hh 5 (by omega), hh 6 (by omega)⟩

theorem below_dN {B : Nat} {w X : World} (h : Below B w X) (n : Nat) : Below B w (X.drewN n) := ⟨h.os, h.tape, h.output, h.size, h.block⟩
/-- which client the next one must be above -/
def lastS (S : Nat → SeE) : Nat → Int
  | 0 => 0
  | k + 1 => (S k).client
def okS (S : Nat → SeE) (k : Nat) : Bool := decide (lastS S k < (S k).client) && (decide ((S k).client ≤ 16) && decide (1 ≤ (S k).number))
def chkS (S : Nat → SeE) : Nat → Bool
  | 0 => true
  | k + 1 => chkS S k && okS S k
theorem chkS_false {S : Nat → SeE} {k n : Nat} (hk : k < n) (h : okS S k = false) : chkS S n = false := by
  induction n with
  | zero => omega
  | succ n ih =>
    by_cases hkn : k = n
    · subst hkn; simp [chkS, h]
    · simp [chkS, ih (by omega)]
theorem chkS_le {S : Nat → SeE} {k n : Nat} (hk : k ≤ n) (h : chkS S n = true) : chkS S k = true := by
  induction n with
  | zero => obtain rfl : k = 0 := by omega
            exact h
  | succ n ih =>
    by_cases hkn : k = n + 1
    · subst hkn; exact h
    · exact ih (by omega) (by simp only [chkS, Bool.and_eq_true] at h; exact h.1)
theorem chkS_ok {S : Nat → SeE} {k n : Nat} (hk : k < n) (h : chkS S n = true) : lastS S k < (S k).client ∧ (S k).client ≤ 16 ∧ 1 ≤ (S k).number := by
  have h1 := chkS_le (k := k + 1) (by omega) h
  simp only [chkS, okS, Bool.and_eq_true, decide_eq_true_eq] at h1
  exact h1.2
theorem chkS_pos {S : Nat → SeE} {k n : Nat} (hk : k < n) (h : chkS S n = true) : 1 ≤ (S k).client := by
  induction k with
  | zero => have := (chkS_ok hk h).1; simp only [lastS] at this; omega
  | succ k ih =>
    have := (chkS_ok hk h).1
    have := ih (by omega)
    simp only [lastS] at *
    omega
theorem lastS_nonneg {S : Nat → SeE} {k n : Nat} (hk : k ≤ n) (h : chkS S n = true) : 0 ≤ lastS S k := by
  cases k with
  | zero => simp [lastS]
  | succ k => have := chkS_pos (k := k) (by omega) h; simp only [lastS]; omega
theorem chkS_lt {S : Nat → SeE} {n : Nat} (h : chkS S n = true) : ∀ {i j : Nat}, i < j → j < n → (S i).client < (S j).client
  | i, 0, h1, _ => by omega
  | i, j + 1, h1, h2 => by
    have h3 := (chkS_ok h2 h).1
    simp only [lastS] at h3
    by_cases hij : i = j
    · subst hij; exact h3
    · have := chkS_lt h (i := i) (j := j) (by omega) (by omega); omega

set_option maxRecDepth 100000 in
set_option maxHeartbeats 8000000 in
theorem check_any (a : Option Addr) (n cap b o : Nat) (S : Nat → SeE) (w : World) (hs : SeIn w a n cap b o S) :
    Calls Try.prog 51 #[.slice a n cap] w fun e w' => e = .returned (.bool (chkS S n)) ∧ Below w.heap.size w w' := by
  have m1 := hs.le
  have m2 := hs.max
  unfold maxLen at m2
  have HS := Lib.hid hs
  obtain ⟨C, hC⟩ : ∃ C, C = chkS S n := ⟨_, rfl⟩
  rw [← hC]
  have HC := Lib.hid hC
  clear hs hC
  go_enter Try.func51, Try.ntmps51
  go_wp2_with fail
  go_loopw [3, 8] (fun l i wr => ∃ k : Nat, k ≤ n ∧ i = .int .i64 k ∧ l = .int .i64 (lastS S k) ∧ chkS S k = true ∧ Below w.heap.size w wr) (fun _ i _ => n - (intOf i).toNat)
  case atStart => exact ⟨0, Nat.zero_le _, rfl, rfl, rfl, Below.refl _ _⟩
  case round =>
    obtain ⟨k, hk, rfl, rfl, hc, hB⟩ := hrel
    have HB := Lib.hid hB
    have HCK := Lib.hid hc
    clear hc hB
    by_cases hlt : k < n
    · have hsr := HS.out.below HB.out
      obtain ⟨e0, e1⟩ := hsr.at_ (by omega)
      subst e0
      obtain ⟨c0, c1, c2, c3, c4, c5, c6⟩ := hsr.cell k hlt
      obtain ⟨l, hl⟩ : ∃ l, l = lastS S k := ⟨_, rfl⟩
      obtain ⟨x, hx⟩ : ∃ x, x = S k := ⟨_, rfl⟩
      rw [← hl]
      have HF : Hid (okS S k = false → C = false) := Lib.hid (fun h => by rw [HC.out]; exact chkS_false hlt h)
      have HOK : Hid (okS S k = (decide (l < x.client) && (decide (x.client ≤ 16) && decide (1 ≤ x.number)))) := Lib.hid (by rw [hl, hx]; rfl)
      rw [← hx] at c0 c1 c2 c3 c4 c5 c6
      have HX := Lib.hid hx
      have HBx : Hid (Below w.heap.size w (wr.alloc (.cells #[.int .i64 x.client, .int .i64 x.number, .int .i64 x.e, .int .i64 x.rate, .int .i64 x.burst, .int .i64 x.lease, .int .i64 x.size] 113))) := Lib.hid (HB.out.alloc HB.out.size _)
      clear hsr hl hx
      by_cases h1 : x.client ≤ l
      · have d1 : decide (x.client ≤ l) = true := by simpa using h1
        go_wp2_with fail
        go_ret
        exact ⟨(by rw [HF.out (by rw [HOK.out]; simp; omega)]; rfl), HBx.out⟩
      · by_cases h2 : 16 < x.client
        · go_wp2_with fail
          go_ret
          exact ⟨(by rw [HF.out (by rw [HOK.out]; simp; omega)]; rfl), HBx.out⟩
        · by_cases h3 : x.number < 1
          · go_wp2_with fail
            go_ret
            exact ⟨(by rw [HF.out (by rw [HOK.out]; simp; omega)]; rfl), HBx.out⟩
          · go_wp2_with fail
            go_roundw
            case rel => exact ⟨k + 1, by omega, by go_num, by rw [lastS, ← HX.out], by simp only [chkS, HCK.out, HOK.out]; simp; omega, HBx.out⟩
            case measure => first | (simp [intOf]; done) | (simp [intOf]; omega)
    · obtain rfl : k = n := by omega
      go_wp2_with fail
      go_ret
      exact ⟨(by rw [HC.out, HCK.out]; rfl), HB.out⟩

set_option maxRecDepth 100000 in
set_option maxHeartbeats 8000000 in
theorem rcheck_any (a : Option Addr) (n cap b o : Nat) (S : Nat → SeE) (w : World) (hs : SeIn w a n cap b o S) :
    Calls Try.prog 52 #[.slice a n cap] w fun e w' => e = .returned (.bool (chkS S n)) ∧ Below w.heap.size w w' := by
  have m1 := hs.le
  have m2 := hs.max
  unfold maxLen at m2
  have HS := Lib.hid hs
  obtain ⟨C, hC⟩ : ∃ C, C = chkS S n := ⟨_, rfl⟩
  rw [← hC]
  have HC := Lib.hid hC
  clear hs hC
  go_enter Try.func52, Try.ntmps52
  go_wp2_with fail
  go_loopw [3] (fun i wr => ∃ k : Nat, k ≤ n ∧ i = .int .i64 k ∧ chkS S k = true ∧ Below w.heap.size w wr) (fun i _ => n - (intOf i).toNat)
  case atStart => exact ⟨0, Nat.zero_le _, rfl, rfl, Below.refl _ _⟩
  case round =>
    obtain ⟨k, hk, rfl, hc, hB⟩ := hrel
    have HCK := Lib.hid hc
    have HB := Lib.hid hB
    clear hc hB
    by_cases hlt : k < n
    · have hsr := HS.out.below HB.out
      obtain ⟨e0, e1⟩ := hsr.at_ (by omega)
      subst e0
      obtain ⟨c0, c1, _⟩ := hsr.cell k hlt
      obtain ⟨x, hx⟩ : ∃ x, x = S k := ⟨_, rfl⟩
      have HF : Hid (okS S k = false → C = false) := Lib.hid (fun h => by rw [HC.out]; exact chkS_false hlt h)
      have hl0 := lastS_nonneg (Nat.le_refl k) HCK.out
      have HOK : Hid (okS S k = (decide (lastS S k < x.client) && (decide (x.client ≤ 16) && decide (1 ≤ x.number)))) := Lib.hid (by rw [hx]; rfl)
      have HL0 := Lib.hid hl0
      rw [← hx] at c0 c1
      clear hx hl0
      by_cases h1 : x.client < 1
      · have d1 : decide (x.client < 1) = true := by simpa using h1
        go_wp2_with fail
        (refine wp_region_quiet_lit (by kernel_rfl) (by kernel_rfl) ?_; (repeat (first | go_big_quiet_step (fail) | (refine BigFrame.wpQuiet_skip (by rfl) ?_; try simp only [Act.put, List.setIfInBounds_toArray, List.set_cons_zero, List.set_cons_succ]))); refine wpQuiet_nil ?_; intro _ hw9; obtain ⟨nq, hw8⟩ := hw9; subst hw8)
        go_wp2_with fail
        go_ret
        exact ⟨(by rw [HF.out (by rw [HOK.out]; have := HL0.out; simp; omega)]; rfl), below_dN HB.out nq⟩
      · have d1 : decide (x.client < 1) = false := by simpa using h1
        by_cases h2 : 16 < x.client
        · have d2 : decide (16 < x.client) = true := by simpa using h2
          go_wp2_with fail
          (refine wp_region_quiet_lit (by kernel_rfl) (by kernel_rfl) ?_; (repeat (first | go_big_quiet_step (fail) | (refine BigFrame.wpQuiet_skip (by rfl) ?_; try simp only [Act.put, List.setIfInBounds_toArray, List.set_cons_zero, List.set_cons_succ]))); refine wpQuiet_nil ?_; intro _ hw9; obtain ⟨nq, hw8⟩ := hw9; subst hw8)
          go_wp2_with fail
          go_ret
          exact ⟨(by rw [HF.out (by rw [HOK.out]; simp; omega)]; rfl), below_dN HB.out nq⟩
        · have d2 : decide (16 < x.client) = false := by simpa using h2
          by_cases h3 : x.number < 1
          · have d3 : decide (x.number < 1) = true := by simpa using h3
            go_wp2_with fail
            (refine wp_region_quiet_lit (by kernel_rfl) (by kernel_rfl) ?_; (repeat (first | go_big_quiet_step (fail) | (refine BigFrame.wpQuiet_skip (by rfl) ?_; try simp only [Act.put, List.setIfInBounds_toArray, List.set_cons_zero, List.set_cons_succ]))); refine wpQuiet_nil ?_; intro _ hw9; obtain ⟨nq, hw8⟩ := hw9; subst hw8)
            go_wp2_with fail
            go_ret
            exact ⟨(by rw [HF.out (by rw [HOK.out]; simp; omega)]; rfl), below_dN HB.out nq⟩
          · have d3 : decide (x.number < 1) = false := by simpa using h3
            by_cases hk0 : k = 0
            · have HLZ : Hid (lastS S k = 0) := Lib.hid (by rw [hk0]; rfl)
              have d4 : decide (0 < k) = false := by simp; omega
              have HK0 := Lib.hid hk0
              clear hk0
              go_wp2_with fail
              (refine wp_region_quiet_lit (by kernel_rfl) (by kernel_rfl) ?_; (repeat (first | go_big_quiet_step (fail) | (refine BigFrame.wpQuiet_skip (by rfl) ?_; try simp only [Act.put, List.setIfInBounds_toArray, List.set_cons_zero, List.set_cons_succ]))); refine wpQuiet_nil ?_; intro _ hw9; obtain ⟨nq, hw8⟩ := hw9; subst hw8)
              go_wp2_with fail
              go_roundw
              case rel => exact ⟨k + 1, by omega, by go_num, by simp only [chkS, HCK.out, HOK.out, HLZ.out]; simp; omega, below_dN HB.out nq⟩
              case measure => first | (simp [intOf]; done) | (simp [intOf]; omega)
            · obtain ⟨q, hq⟩ : ∃ q, k = q + 1 := ⟨k - 1, by omega⟩
              have hp := (hsr.cell q (by omega)).1
              have hw1 : IntKind.i64.wrap ((k : Int) - 1) = (q : Int) := by rw [IntKind.wrap_i64]; omega
              have HLZ : Hid (lastS S k = (S q).client) := Lib.hid (by rw [hq]; rfl)
              obtain ⟨y, hy⟩ : ∃ y, y = (S q).client := ⟨_, rfl⟩
              rw [← hy] at hp HLZ
              have d4 : decide (0 < k) = true := by simp; omega
              have hqn : q < n := by omega
              clear hy hq
              by_cases h4 : x.client ≤ y
              · have d5 : decide (x.client ≤ y) = true := by simpa using h4
                go_wp2_with fail
                (refine wp_region_quiet_lit (by kernel_rfl) (by kernel_rfl) ?_; (repeat (first | go_big_quiet_step (fail) | (refine BigFrame.wpQuiet_skip (by rfl) ?_; try simp only [Act.put, List.setIfInBounds_toArray, List.set_cons_zero, List.set_cons_succ]))); refine wpQuiet_nil ?_; intro _ hw9; obtain ⟨nq, hw8⟩ := hw9; subst hw8)
                go_wp2_with fail
                go_ret
                exact ⟨(by rw [HF.out (by rw [HOK.out, HLZ.out]; simp; omega)]; rfl), below_dN HB.out nq⟩
              · have d5 : decide (x.client ≤ y) = false := by simpa using h4
                go_wp2_with fail
                (refine wp_region_quiet_lit (by kernel_rfl) (by kernel_rfl) ?_; (repeat (first | go_big_quiet_step (fail) | (refine BigFrame.wpQuiet_skip (by rfl) ?_; try simp only [Act.put, List.setIfInBounds_toArray, List.set_cons_zero, List.set_cons_succ]))); refine wpQuiet_nil ?_; intro _ hw9; obtain ⟨nq, hw8⟩ := hw9; subst hw8)
                go_wp2_with fail
                go_roundw
                case rel => exact ⟨k + 1, by omega, by go_num, by simp only [chkS, HCK.out, HOK.out, HLZ.out]; simp; omega, below_dN HB.out nq⟩
                case measure => first | (simp [intOf]; done) | (simp [intOf]; omega)
    · obtain rfl : k = n := by omega
      go_wp2_with fail
      go_ret
      exact ⟨(by rw [HC.out, HCK.out]; rfl), HB.out⟩
end Go.Proofs.Ytnaoajdbopminaa
