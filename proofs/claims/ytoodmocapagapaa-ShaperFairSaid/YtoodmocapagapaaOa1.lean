/-
  Texts of this claim, put together: Vu, Vu2, Vu3, Vup, Vu4, Vu5, Vu6, Vu7, Vu8, Vu9, Vu11, Vu12, Vu13, Vu22, Fa1, Lz, HiB, Vu14, Vu10, Vu15, Vu23, Vu24, Fa2.
-/
import Derived.Test.YtoodmocapagapaaBl
import Derived.Test.YtoodmocapagapaaDt
import Derived.Test.YtoodmocapagapaaLib
import Derived.Test.YtoodmocapagapaaLib2
import Derived.Outline
import Derived.IntWalk
import Derived.Lib.Hide
import Derived.Deep.QuietTactic
import Derived.BigRegion
import Derived.BigQuiet
import Derived.RegionTactic
import Derived.Deep.DeepCutAuto
import Derived.Deep.RegionWith
import Derived.Deep.RegionHeld3
import Derived.Laws.MakeOwn
import Derived.StillTailTactics
import Derived.Laws.OwnMore
import Derived.Deep.DeepFit
import Derived.Lib.AppendZeros
import Derived.OwnWalk
import Derived.Lib.Small
import Derived.OrdersHeld
import Derived.WalkMore
import Derived.WalkSpells
namespace Go.Proofs.Ytoodmocapagapaa
open Go.RowKit
set_option linter.unusedSimpArgs false
set_option linter.unusedVariables false

structure TagsE where
  s : Int
  f : Int
def TagsE.cells (e : TagsE) : List Value := [.int .i64 e.s, .int .i64 e.f]
def TagsE.ok (e : TagsE) : Prop := (-9223372036854775808 ≤ e.s ∧ e.s ≤ 9223372036854775807) ∧ (-9223372036854775808 ≤ e.f ∧ e.f ≤ 9223372036854775807)
structure TagsIn (W : World) (a : Option Addr) (len cap b o : Nat) (E : Nat → TagsE) : Prop where
  le : len ≤ cap
  max : cap ≤ maxLen
  at_ : 0 < len → a = some ⟨b, o, none⟩ ∧ b < W.heap.size
  cell : ∀ k, k < len → W.cell? ⟨b, o + k * 2, none⟩ = some (.int .i64 (E k).s) ∧ W.cell? ⟨b, o + k * 2 + 1, none⟩ = some (.int .i64 (E k).f)
  bd : ∀ k, k < len → (E k).ok
theorem TagsIn.below {W W' : World} {a : Option Addr} {len cap b o : Nat} {E : Nat → TagsE} (h : TagsIn W a len cap b o E) (hB : Below W.heap.size W W') : TagsIn W' a len cap b o E :=
  ⟨h.le, h.max, fun hk => ⟨(h.at_ hk).1, by have := (h.at_ hk).2; have := hB.size; omega⟩, fun k hk => by
    have hb := (h.at_ (by omega)).2
    obtain ⟨c0, c1⟩ := h.cell k hk
    exact ⟨(hB.cell (p := ⟨b, _, none⟩) hb).trans c0, (hB.cell (p := ⟨b, _, none⟩) hb).trans c1⟩, h.bd⟩
theorem tags_cells (W : World) {a : Option Addr} {len cap : Nat} {xs : List Dt} (h : SliceFits Try.prog W 129 a len cap xs) : ∃ (b o : Nat) (E : Nat → TagsE), TagsIn W a len cap b o E := by
  have hc : Try.prog.cellsOf 129 = 2 := by kernel_rfl
  obtain ⟨b, o, h1, h2⟩ := h.spot (by rw [hc]; omega)
  have hex : ∀ k, ∃ q : TagsE, k < len → (W.cell? ⟨b, o + k * 2, none⟩ = some (.int .i64 q.s) ∧ W.cell? ⟨b, o + k * 2 + 1, none⟩ = some (.int .i64 q.f)) ∧ q.ok := fun k => by
    by_cases hk : k < len
    · have hl := h.length
      have hx := List.getElem?_eq_getElem (l := xs) (i := k) (by omega)
      obtain ⟨l0, hl1, hl0, hf0⟩ := (h.each k _ hx).1.agg_inv Try.underlying129
      obtain ⟨y0_0, e0_0, f0_0⟩ := hf0 0 _ rfl
      obtain ⟨y0_1, e0_1, f0_1⟩ := hf0 1 _ rfl
      obtain ⟨v0_0, rfl, gv0_0⟩ := f0_0.int_inv Try.underlying3
      obtain ⟨v0_1, rfl, gv0_1⟩ := f0_1.int_inv Try.underlying3
      match l0, hl0 with
      | [z0_0, z0_1], _ =>
        obtain rfl : z0_0 = _ := by simpa using e0_0
        obtain rfl : z0_1 = _ := by simpa using e0_1
        have hcell := h2 k _ hx
        rw [hl1, hc] at hcell
        exact ⟨⟨v0_0, v0_1⟩, fun _ => ⟨⟨hcell 0 _ rfl, by have := hcell 1 _ rfl; rwa [← Nat.add_assoc] at this⟩, gv0_0, gv0_1⟩⟩
    · exact ⟨⟨0, 0⟩, fun h => absurd h hk⟩
  have hg := fun k => Classical.choose_spec (hex k)
  exact ⟨b, o, fun k => Classical.choose (hex k), h.le, h.max, h1, fun k hk => (hg k hk).1, fun k hk => (hg k hk).2⟩
def tagsL (E : Nat → TagsE) (n : Nat) : List Value := (List.range n).flatMap fun k => (E k).cells
theorem tagsL_succ (E : Nat → TagsE) (n : Nat) : tagsL E (n + 1) = tagsL E n ++ (E n).cells := by simp [tagsL, List.range_succ, List.flatMap_append]
theorem tagsL_len (E : Nat → TagsE) : ∀ n : Nat, (tagsL E n).length = n * 2
  | 0 => by simp [tagsL]
  | n + 1 => by rw [tagsL_succ, List.length_append, tagsL_len E n]; simp [TagsE.cells]; omega
theorem tagsL_congr {E E' : Nat → TagsE} : ∀ {n : Nat}, (∀ k, k < n → E k = E' k) → tagsL E n = tagsL E' n
  | 0, _ => rfl
  | n + 1, h => by rw [tagsL_succ, tagsL_succ, tagsL_congr (fun k hk => h k (by omega)), h n (by omega)]
theorem tagsL_at (E : Nat → TagsE) : ∀ (n k j : Nat), k < n → j < 2 → (tagsL E n)[k * 2 + j]? = (E k).cells[j]?
  | 0, _, _, h, _ => by omega
  | n + 1, k, j, h, hj => by
    have hl := tagsL_len E n
    rw [tagsL_succ]
    by_cases hk : k < n
    · rw [List.getElem?_append_left (by omega)]
      exact tagsL_at E n k j hk hj
    · obtain rfl : k = n := by omega
      rw [List.getElem?_append_right (by omega), hl]
      congr 1
      omega
theorem tags_row {w : World} {v : Value} {ob : Option Nat} {E : Nat → TagsE} {n : Nat} (h : Row w v ob 129 2 n (tagsL E n)) (hE : ∀ k, k < n → (E k).ok) :
    ∃ a cap, v = .slice a n cap ∧ TagsIn w a n cap (ob.getD 0) 0 E := by
  obtain ⟨a, cap, rfl, h1, h2, h3⟩ := h.shape
  refine ⟨a, cap, rfl, h1, h2, fun hk => ?_, fun k hk => ?_, hE⟩
  · obtain ⟨g, hg, _⟩ := h.cell 0 (by omega)
    subst hg
    exact ⟨h3, h.lt⟩
  · have hh : ∀ j, j < 2 → w.cell? ⟨ob.getD 0, 0 + k * 2 + j, none⟩ = (E k).cells[j]? := fun j hj => by
      obtain ⟨g, hg, hc, _⟩ := h.cell (k * 2 + j) (by omega)
      subst hg
      rw [Option.getD_some, Nat.zero_add, hc, tagsL_at E n k j hk hj]
    exact ⟨hh 0 (by omega), hh 1 (by omega)⟩
end Go.Proofs.Ytoodmocapagapaa
namespace Go.Proofs.Ytoodmocapagapaa
open Go.RowKit
set_option linter.unusedSimpArgs false
set_option linter.unusedVariables false

def timeB (n : Int) : Bool := decide (0 ≤ n) && decide (n ≤ 1152921504606846976)
def tagB (t : TagsE) : Bool := timeB t.s && timeB t.f && decide (t.s ≤ t.f)
def okN (T : Nat → TagsE) : Nat → Bool
  | 0 => true
  | m + 1 => okN T m && tagB (T m)
theorem okN_iff (T : Nat → TagsE) : ∀ n : Nat, okN T n = true ↔ ∀ k, k < n → tagB (T k) = true
  | 0 => by simp [okN]
  | n + 1 => by
    simp only [okN, Bool.and_eq_true, okN_iff T n]
    constructor
    · rintro ⟨h1, h2⟩ k hk
      rcases Nat.lt_or_ge k n with h | h
      · exact h1 k h
      · obtain rfl : k = n := by omega
        exact h2
    · exact fun h => ⟨fun k hk => h k (by omega), h n (by omega)⟩
theorem okN_no {T : Nat → TagsE} {n k : Nat} (hk : k < n) (h : tagB (T k) = false) : okN T n = false := by
  cases hh : okN T n
  · rfl
  · have := (okN_iff T n).1 hh k hk
    rw [h] at this; cases this
/-- may a virtual time be? -/
def vokB (V : Int) (n : Nat) (T : Nat → TagsE) : Bool := decide (n ≤ 8) && timeB V && okN T n

theorem time_cases (n : Int) : (n < 0 ∧ timeB n = false) ∨ (0 ≤ n ∧ n ≤ 1152921504606846976 ∧ timeB n = true) ∨ (0 ≤ n ∧ 1152921504606846976 < n ∧ timeB n = false) := by
  rcases (show n < 0 ∨ (0 ≤ n ∧ n ≤ 1152921504606846976) ∨ (0 ≤ n ∧ 1152921504606846976 < n) by omega) with h | ⟨h, h2⟩ | ⟨h, h2⟩
  · exact .inl ⟨h, by unfold timeB; simp; omega⟩
  · exact .inr (.inl ⟨h, h2, by unfold timeB; simp; omega⟩)
  · exact .inr (.inr ⟨h, h2, by unfold timeB; simp; omega⟩)
theorem isTime_any (n : Int) (w : World) : Calls Try.prog 79 #[.int .i64 n] w fun e w' => e = .returned (.bool (timeB n)) ∧ w = w' := by
  rcases time_cases n with ⟨h, hb⟩ | ⟨h, h2, hb⟩ | ⟨h, h2, hb⟩
  all_goals
    rw [hb]
    clear hb
    go_enter Try.func79, Try.ntmps79
    go_wp2_with fail
    go_ret
    exact ⟨by first | rfl | exact congrArg (fun b => Ending.returned (.bool b)) (by simp; omega), rfl⟩

set_option maxRecDepth 100000 in
set_option maxHeartbeats 4000000 in
theorem check_any (V : Int) (a : Option Addr) (n c b o : Nat) (T : Nat → TagsE) (w : World) (hs : TagsIn w a n c b o T) :
    Calls Try.prog 65 #[.agg #[.int .i64 V, .slice a n c]] w fun e w' => e = .returned (.bool (vokB V n T)) ∧ Below w.heap.size w w' := by
  have hm := hs.max
  have hl := hs.le
  unfold maxLen at hm
  obtain ⟨C, hC⟩ : ∃ C, C = vokB V n T := ⟨_, rfl⟩
  rw [← hC]
  obtain ⟨tv, htv⟩ : ∃ tv, tv = timeB V := ⟨_, rfl⟩
  have C1 : Hid (∀ w, Calls Try.prog 79 #[.int .i64 V] w fun e w' => e = .returned (.bool tv) ∧ w = w') := Lib.hid (fun w => by rw [htv]; exact isTime_any V w)
  unfold vokB at hC
  rw [← htv] at hC
  clear htv
  by_cases h8 : 8 < n
  · have HC : Hid (C = false) := Lib.hid (by rw [hC]; simp; omega)
    clear hC hs
    go_enter Try.func65, Try.ntmps65
    go_wp2_with fail
    go_ret
    exact ⟨by rw [HC.out]; rfl, (Below.refl _ _).alloc (Nat.le_refl _) _⟩
  · cases tv
    · have HC : Hid (C = false) := Lib.hid (by rw [hC]; simp)
      clear hC hs
      go_enter Try.func65, Try.ntmps65
      go_wp2_with (go_at_call 79; refine (C1.out _).mono ?_; rintro e w' ⟨rfl, rfl⟩)
      go_ret
      exact ⟨by rw [HC.out]; rfl, (Below.refl _ _).alloc (Nat.le_refl _) _⟩
    · have HC : Hid (C = okN T n) := Lib.hid (by rw [hC]; simp; omega)
      have HS := Lib.hid hs
      clear hC hs
      go_enter Try.func65, Try.ntmps65
      go_wp2_with (go_at_call 79; refine (C1.out _).mono ?_; rintro e w' ⟨rfl, rfl⟩)
      go_loopw [18] (fun i wr => ∃ k : Nat, k ≤ n ∧ i = .int .i64 k ∧ (∀ j, j < k → tagB (T j) = true) ∧ Below w.heap.size w wr) (fun i _ => n - (intOf i).toNat)
      case atStart => exact ⟨0, Nat.zero_le _, rfl, (fun j hj => by omega), (Below.refl _ _).alloc (Nat.le_refl _) _⟩
      case round =>
        obtain ⟨k, hk, rfl, hall, hbel⟩ := hrel
        by_cases hlt : k < n
        · obtain ⟨e0, e1⟩ := HS.out.at_ (by omega)
          subst e0
          obtain ⟨c0, c1⟩ := (HS.out.below hbel).cell k hlt
          obtain ⟨x, hx⟩ : ∃ x, x = (T k).s := ⟨_, rfl⟩
          obtain ⟨y, hy⟩ : ∃ y, y = (T k).f := ⟨_, rfl⟩
          rw [← hx] at c0
          rw [← hy] at c1
          obtain ⟨p, hp⟩ : ∃ p, p = timeB x := ⟨_, rfl⟩
          obtain ⟨q, hq⟩ : ∃ q, q = timeB y := ⟨_, rfl⟩
          have HT : Hid (tagB (T k) = (p && q && decide (x ≤ y))) := Lib.hid (by unfold tagB; rw [← hx, ← hy, ← hp, ← hq])
          have CX : Hid (∀ w, Calls Try.prog 79 #[.int .i64 x] w fun e w' => e = .returned (.bool p) ∧ w = w') := Lib.hid (fun w => by rw [hp]; exact isTime_any x w)
          have CY : Hid (∀ w, Calls Try.prog 79 #[.int .i64 y] w fun e w' => e = .returned (.bool q) ∧ w = w') := Lib.hid (fun w => by rw [hq]; exact isTime_any y w)
          have HA := Lib.hid hall
          clear hall hx hy hp hq
          have hbel1 : ∀ o, Below w.heap.size w (wr.alloc o) := fun o => hbel.alloc hbel.size o
          have HB1 := Lib.hid hbel1
          clear hbel1
          by_cases hg : p = true ∧ q = true ∧ x ≤ y
          · obtain ⟨rfl, rfl, hxy⟩ := hg
            have HA2 : Hid (∀ j, j < k + 1 → tagB (T j) = true) := Lib.hid (fun j hj => by
              rcases Nat.lt_or_ge j k with h | h
              · exact HA.out j h
              · obtain rfl : j = k := by omega
                rw [HT.out]; simp; omega)
            go_wp2_with (first
              | (go_at_call_of 79 (Value.int .i64 x); with_reducible refine Calls.mono (CX.out _) ?_; rintro e w' ⟨rfl, rfl⟩)
              | (go_at_call 79; with_reducible refine Calls.mono (CY.out _) ?_; rintro e w' ⟨rfl, rfl⟩))
            go_roundw
            case rel => exact ⟨k + 1, by omega, by go_num, HA2.out, HB1.out _⟩
            case measure => simp [intOf]; omega
          · have HN : Hid (C = false) := Lib.hid (by
              rw [HC.out]
              refine okN_no hlt ?_
              rw [HT.out]
              cases p <;> cases q <;> simp at hg ⊢
              omega)
            have hcs : p = false ∨ (p = true ∧ q = false) ∨ (p = true ∧ q = true ∧ y < x) := by cases p <;> cases q <;> simp at hg ⊢; omega
            clear hg
            rcases hcs with rfl | ⟨rfl, rfl⟩ | ⟨rfl, rfl, hyx⟩
            all_goals
              go_wp2_with (first
                | (go_at_call_of 79 (Value.int .i64 x); with_reducible refine Calls.mono (CX.out _) ?_; rintro e w' ⟨rfl, rfl⟩)
                | (go_at_call 79; with_reducible refine Calls.mono (CY.out _) ?_; rintro e w' ⟨rfl, rfl⟩))
              go_ret
              exact ⟨by rw [HN.out]; rfl, HB1.out _⟩
        · obtain rfl : k = n := by omega
          have HN : Hid (C = true) := Lib.hid (by rw [HC.out]; exact (okN_iff T k).2 hall)
          go_wp2_with fail
          go_ret
          exact ⟨by rw [HN.out]; rfl, hbel⟩
end Go.Proofs.Ytoodmocapagapaa
namespace Go.Proofs.Ytoodmocapagapaa
open Go.RowKit
set_option linter.unusedSimpArgs false
set_option linter.unusedVariables false

theorem tag_cases (t : TagsE) : (t.s < 0 ∧ tagB t = false) ∨ (0 ≤ t.s ∧ t.f < t.s ∧ tagB t = false) ∨ (0 ≤ t.s ∧ t.s ≤ t.f ∧ 1152921504606846976 < t.f ∧ tagB t = false) ∨ (0 ≤ t.s ∧ t.s ≤ t.f ∧ t.f ≤ 1152921504606846976 ∧ tagB t = true) := by
  rcases (show t.s < 0 ∨ (0 ≤ t.s ∧ t.f < t.s) ∨ (0 ≤ t.s ∧ t.s ≤ t.f ∧ 1152921504606846976 < t.f) ∨ (0 ≤ t.s ∧ t.s ≤ t.f ∧ t.f ≤ 1152921504606846976) by omega) with h | ⟨h, h2⟩ | ⟨h, h2, h3⟩ | ⟨h, h2, h3⟩
  · exact .inl ⟨h, by unfold tagB timeB; simp; omega⟩
  · exact .inr (.inl ⟨h, h2, by unfold tagB timeB; simp; omega⟩)
  · exact .inr (.inr (.inl ⟨h, h2, h3, by unfold tagB timeB; simp; omega⟩))
  · exact .inr (.inr (.inr ⟨h, h2, h3, by unfold tagB timeB; simp; omega⟩))

end Go.Proofs.Ytoodmocapagapaa
namespace Go.Proofs.Ytoodmocapagapaa

/-- the first place, of those that are looked at, that none goes ahead of -/
def firstS (tk : Nat → Bool) (lt : Nat → Nat → Bool) : Nat → Option Nat
  | 0 => none
  | m + 1 => match firstS tk lt m with
    | none => if tk m then some m else none
    | some b => if tk m && lt m b then some m else some b
def firstI (tk : Nat → Bool) (lt : Nat → Nat → Bool) (n : Nat) : Int := match firstS tk lt n with
  | none => -1
  | some b => b
theorem firstS_some {tk : Nat → Bool} {lt : Nat → Nat → Bool} : ∀ {n b : Nat}, firstS tk lt n = some b → b < n ∧ tk b = true
  | 0, _, h => by simp [firstS] at h
  | m + 1, b, h => by
    unfold firstS at h
    split at h
    · split at h
      · obtain rfl : m = b := by simpa using h
        exact ⟨by omega, by assumption⟩
      · simp at h
    · rename_i c hc
      have := firstS_some hc
      split at h
      · rename_i h2
        obtain rfl : m = b := by simpa using h
        simp at h2
        exact ⟨by omega, h2.1⟩
      · obtain rfl : c = b := by simpa using h
        exact ⟨by omega, this.2⟩
theorem firstS_none {tk : Nat → Bool} {lt : Nat → Nat → Bool} : ∀ {n : Nat}, firstS tk lt n = none → ∀ j, j < n → tk j = false
  | 0, _, j, hj => by omega
  | m + 1, h, j, hj => by
    unfold firstS at h
    split at h
    · rename_i hc
      split at h
      · simp at h
      · rename_i h2
        by_cases hjm : j < m
        · exact firstS_none hc j hjm
        · obtain rfl : j = m := by omega
          simpa using h2
    · split at h <;> simp at h
/-- by keys: the one that is picked has the least -/
theorem firstS_least {tk : Nat → Bool} {key : Nat → Int} : ∀ {n b : Nat}, firstS tk (fun i j => decide (key i < key j)) n = some b → ∀ j, j < n → tk j = true → key b ≤ key j
  | 0, _, h, j, hj, _ => by omega
  | m + 1, b, h, j, hj, ht => by
    unfold firstS at h
    split at h
    · rename_i hc
      split at h
      · obtain rfl : m = b := by simpa using h
        by_cases hjm : j < m
        · have := firstS_none hc j hjm
          rw [this] at ht; cases ht
        · obtain rfl : j = m := by omega
          omega
      · simp at h
    · rename_i c hc
      have ih := fun hj => firstS_least hc j hj ht
      split at h
      · rename_i h2
        obtain rfl : m = b := by simpa using h
        simp at h2
        by_cases hjm : j < m
        · have := ih hjm; omega
        · obtain rfl : j = m := by omega
          omega
      · rename_i h2
        obtain rfl : c = b := by simpa using h
        by_cases hjm : j < m
        · exact ih hjm
        · obtain rfl : j = m := by omega
          simp [ht] at h2
          omega
theorem firstS_congr {tk tk' : Nat → Bool} {lt lt' : Nat → Nat → Bool} : ∀ {n : Nat}, (∀ j, j < n → tk j = tk' j) → (∀ i j, i < n → j < n → lt i j = lt' i j) → firstS tk lt n = firstS tk' lt' n
  | 0, _, _ => rfl
  | m + 1, h1, h2 => by
    unfold firstS
    rw [firstS_congr (fun j hj => h1 j (by omega)) (fun i j hi hj => h2 i j (by omega) (by omega)), h1 m (by omega)]
    cases hc : firstS tk' lt' m with
    | none => rfl
    | some b => simp only; rw [h2 m b (by omega) (by have := (firstS_some hc).1; omega)]
end Go.Proofs.Ytoodmocapagapaa
/-
  Package virtual: what a packet costs; new times; a time that is the same. The document's answers beside them.
-/
namespace Go.Proofs.Ytoodmocapagapaa
open Go.RowKit
set_option linter.unusedSimpArgs false
set_option linter.unusedVariables false

def costB (s w a : Int) : Bool := decide (1 ≤ s) && decide (s ≤ 1500) && decide (1 ≤ w) && decide (w ≤ 16) && decide (w ≤ a) && decide (a ≤ 128)
def costS (s w a : Int) : Int := if costB s w a = true then s * a * (720720 / w) else 0
theorem costB_cases (s w a : Int) : (costB s w a = false ∧ (s < 1 ∨ (1 ≤ s ∧ 1500 < s) ∨ (1 ≤ s ∧ s ≤ 1500 ∧ w < 1) ∨ (1 ≤ s ∧ s ≤ 1500 ∧ 1 ≤ w ∧ 16 < w) ∨ (1 ≤ s ∧ s ≤ 1500 ∧ 1 ≤ w ∧ w ≤ 16 ∧ a < w) ∨ (1 ≤ s ∧ s ≤ 1500 ∧ 1 ≤ w ∧ w ≤ 16 ∧ w ≤ a ∧ 128 < a))) ∨ (costB s w a = true ∧ 1 ≤ s ∧ s ≤ 1500 ∧ 1 ≤ w ∧ w ≤ 16 ∧ w ≤ a ∧ a ≤ 128) := by
  cases h : costB s w a
  · left
    refine ⟨rfl, ?_⟩
    unfold costB at h
    simp at h
    omega
  · right
    unfold costB at h
    simp at h
    exact ⟨rfl, by omega, by omega, by omega, by omega, by omega, by omega⟩
theorem cost_bd {s w a : Int} (h1 : 1 ≤ s) (h2 : s ≤ 1500) (h3 : 1 ≤ w) (h5 : w ≤ a) (h6 : a ≤ 128) :
    1 ≤ s * a ∧ s * a ≤ 192000 ∧ 0 ≤ 720720 / w ∧ 720720 / w ≤ 720720 ∧ 0 ≤ s * a * (720720 / w) ∧ s * a * (720720 / w) ≤ 138378240000 := by
  have e1 : 1 * 1 ≤ s * a := Int.mul_le_mul h1 (by omega) (by omega) (by omega)
  have e2 : s * a ≤ 1500 * 128 := Int.mul_le_mul h2 h6 (by omega) (by omega)
  have e3 : 0 ≤ 720720 / w := Int.ediv_nonneg (by omega) (by omega)
  have e4 : 720720 / w ≤ 720720 := Int.ediv_le_self _ (by omega)
  have e5 : 0 ≤ s * a * (720720 / w) := Int.mul_nonneg (by omega) e3
  have e6 : s * a * (720720 / w) ≤ 192000 * 720720 := Int.mul_le_mul (by omega) e4 e3 (by omega)
  exact ⟨by omega, by omega, e3, e4, e5, by omega⟩
theorem cost_range (s w a : Int) : 0 ≤ costS s w a ∧ costS s w a ≤ 138378240000 := by
  unfold costS
  rcases costB_cases s w a with ⟨h, _⟩ | ⟨h, h1, h2, h3, h4, h5, h6⟩
  · rw [if_neg (by rw [h]; simp)]; omega
  · rw [if_pos h]
    have := cost_bd h1 h2 h3 h5 h6
    omega

set_option maxRecDepth 100000 in
set_option maxHeartbeats 4000000 in
theorem cost_any (s wt a : Int) (w : World) : Calls Try.prog 76 #[.int .i64 s, .int .i64 wt, .int .i64 a] w fun e w' => e = .returned (.int .i64 (costS s wt a)) ∧ w = w' := by
  obtain ⟨C, hC⟩ : ∃ C, C = costS s wt a := ⟨_, rfl⟩
  rw [← hC]
  unfold costS at hC
  rcases costB_cases s wt a with ⟨h, hh⟩ | ⟨h, h1, h2, h3, h4, h5, h6⟩
  · rw [if_neg (by rw [h]; simp)] at hC
    have HC := Lib.hid hC
    clear hC h
    rcases hh with h | ⟨h, h2⟩ | ⟨h, h2, h3⟩ | ⟨h, h2, h3, h4⟩ | ⟨h, h2, h3, h4, h5⟩ | ⟨h, h2, h3, h4, h5, h6⟩
    all_goals
      go_enter Try.func76, Try.ntmps76
      go_wp2_with fail
      go_ret
      exact ⟨by rw [HC.out]; rfl, rfl⟩
  · rw [if_pos h] at hC
    have hb := cost_bd h1 h2 h3 h5 h6
    obtain ⟨b1, b2, b3, b4, b5, b6⟩ := hb
    have k1 : IntKind.u64.wrap (s * a) = s * a := IntWalk.u64_in _ (by omega)
    have k2 : IntKind.u64.wrap (s * a * (720720 / wt)) = s * a * (720720 / wt) := IntWalk.u64_in _ (by omega)
    have HC := Lib.hid hC
    clear hC h
    go_enter Try.func76, Try.ntmps76
    go_wp2_with fail
    go_ret
    exact ⟨by rw [HC.out]; rfl, rfl⟩
/-- a virtual time in memory of the call's own -/
def VOut (w w' : World) (v : Value) (V : Int) (n : Nat) (T : Nat → TagsE) : Prop := ∃ a c ob, v = .agg #[.int .i64 V, .slice a n c] ∧ Row w' (.slice a n c) ob 129 2 n (tagsL T n) ∧ (∀ g, ob = some g → w.heap.size ≤ g) ∧ Below w.heap.size w w'
def VRes (w : World) (V : Int) (n : Nat) (T : Nat → TagsE) (er : Int) (e : Ending) (w' : World) : Prop := ∃ v, e = .returned (.tuple #[v, .int .i64 er]) ∧ VOut w w' v V n T

theorem infoTags : (Try.prog.info? 129).map (fun i => (i.zero, i.size, i.bytes)) = some (some (.agg #[.int .i64 0, .int .i64 0]), 2, 16) := by kernel_rfl
def zeroT (_ : Nat) : TagsE := ⟨0, 0⟩
theorem made_tags (n : Nat) : (madeCells (Value.agg #[.int .i64 0, .int .i64 0]).cells (n * 2)).toList = tagsL zeroT n := by
  apply List.ext_getElem?
  intro j
  have hl := tagsL_len zeroT n
  by_cases hj : j < n * 2
  · have h1 := tagsL_at zeroT n (j / 2) (j % 2) (by omega) (by omega)
    rw [show j / 2 * 2 + j % 2 = j by omega] at h1
    rw [h1]
    rcases (show j % 2 = 0 ∨ j % 2 = 1 by omega) with e | e
    · simp [madeCells, hj, e, TagsE.cells, zeroT, Value.cells]
    · simp [madeCells, hj, e, TagsE.cells, zeroT, Value.cells]
  · rw [List.getElem?_eq_none (by rw [Array.length_toList, size_madeCells]; omega), List.getElem?_eq_none (by omega)]

theorem make_tags (k : Nat) (h8 : k ≤ 8) (w : World) : (Instr.makeSlice 97 (.int .i64 (k : Int)) (.int .i64 (k : Int))).run Try.prog w = .ok (.slice (some ⟨w.heap.size, 0, none⟩) k k) (w.alloc (.cells (madeCells (Value.agg #[.int .i64 0, .int .i64 0]).cells (k * 2)) 129)) := by
  obtain ⟨i0, hi, hz0, hz1, hz2⟩ := info_parts infoTags
  have hr := run_makeSlice (P := Try.prog) w 97 129 i0 _ Try.underlying97 hi hz0 .i64 .i64 k k (by omega) (Int.le_refl _) (by rw [hz1]; simp; omega) (by rw [hz2]; omega) (by omega)
  rw [hz1] at hr
  simpa only [Int.toNat_natCast] using hr
set_option maxRecDepth 100000 in
set_option maxHeartbeats 4000000 in
theorem new_bad (n : Int) (w : World) (h : n < 1 ∨ (1 ≤ n ∧ 8 < n)) : Calls Try.prog 59 #[.int .i64 n] w (VRes w 0 0 zeroT 2) := by
  rcases h with h | ⟨h, h2⟩
  all_goals
    go_enter Try.func59, Try.ntmps59
    go_wp2_with fail
    refine bodyPost_ret (v := .tuple #[.agg #[.int .i64 0, .slice none 0 0], .int .i64 2]) (by simp [results, Try.results59, go_sem]) rfl ⟨_, rfl, none, 0, none, rfl, Row.nil _ _ _, (fun _ h => by cases h), ?_⟩
    (repeat (first | with_reducible exact Below.refl _ _ | with_reducible refine Below.drew ?_ | ((with_reducible refine Below.alloc ?_ ?_ _); (rotate_left; first | omega | (simp; done) | (simp; omega))) | ((with_reducible refine Below.setCell ?_ ?_ _); (rotate_left; first | omega | (simp only; omega) | (simp; done) | (simp; omega)))))
set_option maxRecDepth 100000 in
set_option maxHeartbeats 4000000 in
theorem new_good (k : Nat) (w : World) (h : 1 ≤ k) (h8 : k ≤ 8) : Calls Try.prog 59 #[.int .i64 k] w (VRes w 0 k zeroT 0) := by
  have hmk := make_tags k h8
  have HK : Hid (madeCells #[.int .i64 0, .int .i64 0] (k * 2) = (tagsL zeroT k).toArray) := Lib.hid (by have := made_tags k; rw [← this]; rfl)
  go_enter Try.func59, Try.ntmps59
  go_wp2_with fail
  refine bodyPost_ret (v := .tuple #[.agg #[.int .i64 0, .slice (some ⟨w.heap.size + 1, 0, none⟩) k k], .int .i64 0]) (by simp [results, Try.results59, go_sem]) rfl ⟨_, rfl, _, _, some (w.heap.size + 1), rfl, ?_, (fun g h => by obtain rfl := Option.some.inj h; omega), ?_⟩
  · refine Row.mk (cur := (tagsL zeroT k).toArray) ?_ (Nat.le_refl _) (by unfold maxLen; omega) (by simp [tagsL_len]) (by simp; rw [List.take_of_length_le (by rw [tagsL_len]; omega)])
    rw [HK.out]
    refine Eq.trans (congrArg (fun k => _root_.GetElem?.getElem? _ k) ?_) (heap_alloc_new _ _)
    simp
  · exact ((Below.refl _ _).alloc (Nat.le_refl _) _).alloc (by simp) _
end Go.Proofs.Ytoodmocapagapaa
namespace Go.Proofs.Ytoodmocapagapaa
open Go.RowKit
set_option linter.unusedSimpArgs false
set_option linter.unusedVariables false

theorem Row.drew {w : World} {v : Value} {ob : Option Nat} {e : TypeId} {size n : Nat} {xs : List Value} (h : Row w v ob e size n xs) : Row w.drew v ob e size n xs := h.congr fun _ _ => rfl
theorem addr_pl (b o j : Nat) : (⟨b, o, none⟩ : Addr).add j = ⟨b, o + j, none⟩ := by simp [Addr.add]
theorem news_at (W : World) (xs : Array Value) (e : TypeId) (j : Nat) (u : Value) (h : xs.toList[j]? = some u) : (W.alloc (.cells xs e)).cell? ((⟨W.heap.size, 0, none⟩ : Addr).add j) = some u := by
  have h1 : (W.alloc (.cells xs e)).heap[W.heap.size]? = some (.cells xs e (0, 0)) := heap_alloc_new W _
  have h2 := cell_at h1 (0 + j)
  rw [Nat.zero_add, ← Array.getElem?_toList, h] at h2
  have h3 : (⟨W.heap.size, 0, none⟩ : Addr).add j = ⟨W.heap.size, 0 + j, none⟩ := addr_pl _ _ _
  rw [h3, Nat.zero_add]
  exact h2
theorem eql_nil (w : World) (t e : TypeId) (a : Option Addr) (l c : Nat) (h : Try.prog.underlying t = some (.slice e)) : (binOp .eql t (.slice a l c) (.slice none 0 0)).run Try.prog w = .ok (.bool a.isNone) w := by
  simp [binOp, run_equal_slice_nil w t e a l c h]
theorem own_mono {w : World} {b b' : Nat} {e : TypeId} {size n : Nat} {v : Value} {xs : List Value} (h : w.ownsRow b e size v n xs) (hb : b' ≤ b) : w.ownsRow b' e size v n xs := by
  obtain ⟨h1, h2⟩ := h
  refine ⟨h1, ?_⟩
  rcases h2 with h2 | ⟨g, cap, cur, e1, e2, rest⟩
  · exact .inl h2
  · exact .inr ⟨g, cap, cur, e1, Nat.le_trans hb e2, rest⟩

theorem tagsL_of {w : World} {a : Option Addr} {n c b o : Nat} {T : Nat → TagsE} (h : TagsIn w a n c b o T) (j : Nat) (u : Value) (hu : (tagsL T n)[j]? = some u) : a = some ⟨b, o, none⟩ ∧ b < w.heap.size ∧ w.cell? ⟨b, o + j, none⟩ = some u := by
  have hj : j < n * 2 := by
    have := (List.getElem?_eq_some_iff.1 hu).1
    rwa [tagsL_len] at this
  have h1 := tagsL_at T n (j / 2) (j % 2) (by omega) (by omega)
  rw [show j / 2 * 2 + j % 2 = j by omega, hu] at h1
  obtain ⟨e1, e2⟩ := h.at_ (by omega)
  obtain ⟨c0, c1⟩ := h.cell (j / 2) (by omega)
  refine ⟨e1, e2, ?_⟩
  rcases (show j % 2 = 0 ∨ j % 2 = 1 by omega) with e | e
  · rw [e] at h1
    obtain rfl : u = .int .i64 (T (j / 2)).s := by simpa [TagsE.cells] using h1
    rw [show o + j = o + j / 2 * 2 by omega]
    exact c0
  · rw [e] at h1
    obtain rfl : u = .int .i64 (T (j / 2)).f := by simpa [TagsE.cells] using h1
    rw [show o + j = o + j / 2 * 2 + 1 by omega]
    exact c1
theorem tagsL_one (T : Nat → TagsE) (n : Nat) : ∀ u ∈ tagsL T n, u.oneCell' = true := fun u hu => by
  simp only [tagsL, List.mem_flatMap] at hu
  obtain ⟨p, _, hu⟩ := hu
  simp [TagsE.cells] at hu
  rcases hu with rfl | rfl <;> rfl

def CloneP (w : World) (n : Nat) (T : Nat → TagsE) (r : Ending) (w' : World) : Prop := ∃ a c ob, r = .returned (.slice a n c) ∧ Row w' (.slice a n c) ob 129 2 n (tagsL T n) ∧ Below w.heap.size w w' ∧ ∀ g, ob = some g → w.heap.size ≤ g

set_option maxHeartbeats 1000000 in
set_option maxRecDepth 100000 in
theorem clone_any (a : Option Addr) (n c b o : Nat) (T : Nat → TagsE) (w : World) (hs : TagsIn w a n c b o T) (hn : n * 16 ≤ 140737488351232) :
    Calls Try.prog 80 #[.slice a n c] w (CloneP w n T) := by
  cases a with
  | none =>
    have h0 : n = 0 := by
      rcases Nat.eq_zero_or_pos n with e | e
      · exact e
      · cases (hs.at_ e).1
    subst h0
    have heq := fun W n => eql_nil W 97 129 none n c Try.underlying97
    go_enter Try.func80, Try.ntmps80
    go_wp2
    go_ret
    exact ⟨_, _, none, rfl, Row.nil _ _ _, Below.refl _ _, fun g hg => (nomatch hg)⟩
  | some x =>
    have hc : ∀ j u, (tagsL T n)[j]? = some u → w.cell? (x.add j) = some u := fun j u hu => by
      obtain ⟨e1, e2, e3⟩ := tagsL_of hs j u hu
      obtain rfl := Option.some.inj e1
      rw [addr_pl]
      exact e3
    have hxl : ∀ j u, (tagsL T n)[j]? = some u → (x.add j).block < w.heap.size := fun j u hu => by
      obtain ⟨e1, e2, e3⟩ := tagsL_of hs j u hu
      obtain rfl := Option.some.inj e1
      rw [addr_pl]
      exact e2
    obtain ⟨i0, hi, hz0, hz1, hz2⟩ := info_parts infoTags
    have HI := Lib.hid hi
    have hlen := tagsL_len T n
    have hone := tagsL_one T n
    have HT : Hid (∀ v, v = tagsL T n → v = tagsL T n) := Lib.hid (fun _ h => h)
    obtain ⟨cs, hcs⟩ : ∃ cs, cs = tagsL T n := ⟨_, rfl⟩
    rw [← hcs] at hc hxl hlen hone
    have HC := Lib.hid hc
    have HX := Lib.hid hxl
    have HCS := Lib.hid hcs
    clear hs hi hcs hc hxl HT
    have heq := fun W => eql_nil W 97 129 (some x) n c Try.underlying97
    go_enter Try.func80, Try.ntmps80
    have hown0 : (w.alloc (.cells #[] 129)).ownsRow w.heap.size 129 2 (.slice (some ⟨w.heap.size, 0, none⟩) 0 0) 0 [] :=
      ⟨rfl, .inr ⟨w.heap.size, 0, #[], rfl, Nat.le_refl _, heap_alloc_new w _, Nat.le_refl _, Nat.zero_le _, rfl, rfl⟩⟩
    go_wp2_with (at_builtin; refine wpList_append_own _ rfl (.tmp 5) (.tmp 6) 97 rfl w.heap.size 129 i0 (.agg #[.int .i64 0, .int .i64 0]) 2 16 Try.underlying97 HI.out hz0 hz1 hz2 rfl (by decide) _ _ _ rfl hown0 x n c cs rfl hlen ?c1 ?c2 ?c3 ?c4 ?c5 ?_)
    case c1 =>
      intro j u hj
      exact (((Below.refl w.heap.size w).alloc (Nat.le_refl _) _).cell (HX.out j u hj)).trans (HC.out j u hj)
    case c2 => exact hone
    case c3 => unfold maxLen; omega
    case c4 => omega
    case c5 => simp
    intro v' w2 hown' hgrow _
    have hB : Below w.heap.size w w2 := ((Below.refl w.heap.size w).alloc (Nat.le_refl _) (.cells #[] 129)).grown hgrow (by simp) (fun j e => (hown0.lt j e).1)
    clear hgrow hown0
    have hown' : w2.ownsRow w.heap.size 129 2 v' n cs := by simpa using hown'
    have hRow : Row w2 v' v'.ownBlock 129 2 n cs := ⟨own_mono hown' (Nat.zero_le _), rfl⟩
    have hge : ∀ g, v'.ownBlock = some g → w.heap.size ≤ g := fun g hg => (hown'.lt g hg).1
    have HR := Lib.hid hRow
    obtain ⟨a2, c2, rfl, _, _, _⟩ := hRow.shape
    have HG := Lib.hid hge
    clear hRow hown' hge
    go_wp2
    go_ret
    exact ⟨_, _, _, rfl, by rw [← HCS.out]; exact HR.out, hB, HG.out⟩

set_option maxRecDepth 100000 in
set_option maxHeartbeats 4000000 in
theorem twin_any (V : Int) (a : Option Addr) (n c b o : Nat) (T : Nat → TagsE) (w : World) (hs : TagsIn w a n c b o T) (hn : n * 16 ≤ 140737488351232) :
    Calls Try.prog 71 #[.agg #[.int .i64 V, .slice a n c]] w fun e w' => ∃ v, e = .returned v ∧ VOut w w' v V n T := by
  have HB0 : Hid (Below w.heap.size w ((w.alloc (.cells #[.int .i64 V, .slice a n c] 99)).alloc (.cells #[.int .i64 0, .slice none 0 0] 99))) := Lib.hid (((Below.refl _ _).alloc (Nat.le_refl _) _).alloc (by simp) _)
  have C1 := Lib.hid (fun W h => clone_any a n c b o T W h hn)
  have HS := Lib.hid hs
  clear hs
  go_enter Try.func71, Try.ntmps71
  go_wp2_with (go_at_call 80; refine Calls.mono (C1.out _ (HS.out.below HB0.out)) ?_; rintro e W1 ⟨a1, c1, ob, rfl, hRow, hB, hO⟩; have T2 := tw2 (n := w.heap.size) hB rfl; obtain ⟨⟨r0, y0, z0⟩, ⟨r1, y1, z1⟩⟩ := T2; have HR := Lib.hid hRow; have HO := Lib.hid hO; have HBB := Lib.hid hB; clear hRow hO hB)
  refine bodyPost_ret (v := .agg #[.int .i64 V, .slice a1 n c1]) (by simp [results, Try.results71, go_sem, r0, r1, y0, y1, z0, z1]) rfl ⟨_, rfl, a1, c1, ob, rfl, ?_, ?_, ?_⟩
  · refine HR.out.congr fun g e => ?_
    have := HO.out g e
    simp at this
    repeat rw [heap_setCell_ne _ _ _ _ (by simp only; omega)]
  · intro g e
    have := HO.out g e
    simp at this
    omega
  · have h1 := HB0.out.trans (HBB.out.mono (by simp; omega))
    exact ((h1.setCell (Nat.le_refl _) _).setCell (by simp only; omega) _).setCell (by simp only; omega) _
end Go.Proofs.Ytoodmocapagapaa
namespace Go.Proofs.Ytoodmocapagapaa
open Go.RowKit
set_option linter.unusedSimpArgs false
set_option linter.unusedVariables false

/-- the copy while it grows -/
def CopyR (w : World) (V : Int) (a : Option Addr) (n c : Nat) (T : Nat → TagsE) (k : Nat) (wr : World) : Prop := ∃ v ob, wr.heap[w.heap.size + 2]? = some (.cells #[.int .i64 V, v] 99 (0, 0)) ∧ Row wr v ob 129 2 k (tagsL T k) ∧ Below w.heap.size w wr ∧ (∀ g, ob = some g → w.heap.size + 3 ≤ g) ∧
  wr.heap[w.heap.size]? = some (.cells #[.int .i64 V, .slice a n c] 99 (0, 0)) ∧ wr.heap[w.heap.size + 1]? = some (.cells #[.int .i64 0, .slice none 0 0] 99 (0, 0))

theorem copyR_step {w W1 w2 : World} {V : Int} {a : Option Addr} {n c : Nat} {T : Nat → TagsE} {k : Nat} {ob : Option Nat} {a' : Option Addr} {cap' ob' : Nat} {v : Value} {s f : Int} (ht : T k = ⟨s, f⟩) (h1 : Below w.heap.size w W1) (hs : w.heap.size + 3 ≤ W1.heap.size) (hO : ∀ g, ob = some g → w.heap.size + 3 ≤ g)
    (HRow2 : Row w2 (.slice a' (k + 1) cap') (some ob') 129 2 (k + 1) (tagsL T k ++ [.int .i64 s, .int .i64 f])) (HG2 : W1.grownBy w2 ob) (HOB2 : ob = some ob' ∨ ob' = W1.heap.size)
    (hb2 : w2.heap[w.heap.size + 2]? = some (.cells #[.int .i64 V, v] 99 (0, 0))) (hb0 : w2.heap[w.heap.size]? = some (.cells #[.int .i64 V, .slice a n c] 99 (0, 0))) (hb1 : w2.heap[w.heap.size + 1]? = some (.cells #[.int .i64 0, .slice none 0 0] 99 (0, 0))) :
    CopyR w V a n c T (k + 1) (w2.setCell ⟨w.heap.size + 2, 1, none⟩ (.slice a' (k + 1) cap')) := by
  have hob : w.heap.size + 3 ≤ ob' := by
    rcases HOB2 with h | h
    · exact hO _ h
    · omega
  refine ⟨.slice a' (k + 1) cap', some ob', heap_setCell_same hb2 1 _, ?_, ?_, (fun g e => by obtain rfl := Option.some.inj e; exact hob), ?_, ?_⟩
  · rw [tagsL_succ, ht]
    exact HRow2.congr fun g e => by obtain rfl := Option.some.inj e; exact heap_setCell_ne _ _ _ _ (by simp only; omega)
  · exact (h1.grown HG2 (by have := h1.size; omega) (fun g e => by have := hO g e; omega)).setCell (by simp) _
  · rw [heap_setCell_ne _ _ _ _ (by simp)]
    exact hb0
  · rw [heap_setCell_ne _ _ _ _ (by simp)]
    exact hb1

end Go.Proofs.Ytoodmocapagapaa
namespace Go.Proofs.Ytoodmocapagapaa
open Go.RowKit
set_option linter.unusedSimpArgs false
set_option linter.unusedVariables false

theorem ret_int {k : IntKind} {a b : Int} (h : a = b) : Ending.returned (.int k a) = .returned (.int k b) := by rw [h]
theorem below_drewN {B : Nat} {w X : World} (h : Below B w X) (n : Nat) : Below B w (X.drewN n) := ⟨h.os, h.tape, h.output, h.size, h.block⟩
theorem Holds.step {A B : World} {n : Nat} {c : Array Value} (h : Holds A n c) (hB : Below A.heap.size A B) : Holds B n c :=
  ⟨fun j => (hB.cell (p := ⟨n, j, none⟩) h.2.2).trans (h.1 j), fun j => (hB.frozen (p := ⟨n, j, none⟩) h.2.2).trans (h.2.1 j), by have := hB.size; have := h.2.2; omega⟩
theorem Row.set {w : World} {v : Value} {g : Nat} {e : TypeId} {size n : Nat} {xs : List Value} (h : Row w v (some g) e size n xs) (j : Nat) (u : Value) : Row (w.setCell ⟨g, j, none⟩ u) v (some g) e size n (xs.set j u) := by
  rcases h.cases with ⟨h1, _⟩ | ⟨g', cap, cur, hg, rfl, h3, h4, h5, h6, h7⟩
  · cases h1
  · obtain rfl := Option.some.inj hg
    refine Row.mk (heap_setCell_same h3 j u) h4 h5 (by simpa using h6) ?_
    rw [← h7, Array.toList_setIfInBounds, ← List.take_set]
def updT (T : Nat → TagsE) (k : Nat) (t : TagsE) : Nat → TagsE := fun j => if j = k then t else T j
theorem set_append_len {A : Type} (l m : List A) (x : A) (j n : Nat) (h : l.length = n) : (l ++ m).set (n + j) x = l ++ m.set j x := by
  subst h
  rw [List.set_append_right _ _ (by omega)]
  congr 2
  omega
theorem tagsL_upd (T : Nat → TagsE) (k : Nat) (s f : Int) : ∀ n : Nat, k < n → ((tagsL T n).set (k * 2) (.int .i64 s)).set (k * 2 + 1) (.int .i64 f) = tagsL (updT T k ⟨s, f⟩) n
  | 0, h => by omega
  | n + 1, h => by
    have hl := tagsL_len T n
    rw [tagsL_succ, tagsL_succ]
    by_cases hk : k < n
    · rw [List.set_append_left _ _ (by omega), List.set_append_left _ _ (by rw [List.length_set]; omega), tagsL_upd T k s f n hk]
      congr 2
      unfold updT
      rw [if_neg (by omega)]
    · obtain rfl : k = n := by omega
      have e0 := set_append_len (tagsL T k) (T k).cells (.int .i64 s) 0 (k * 2) hl
      rw [Nat.add_zero] at e0
      rw [e0, set_append_len (tagsL T k) _ (.int .i64 f) 1 (k * 2) hl, tagsL_congr (E := updT T k ⟨s, f⟩) (E' := T) (fun j hj => by unfold updT; rw [if_neg (by omega)])]
      congr 1
      unfold updT
      rw [if_pos rfl]
      rfl

set_option maxHeartbeats 1000000 in
theorem wake1_any (s f V : Int) (g : Nat) (w : World) (hg : w.cell? ⟨g, 0, none⟩ = some (.int .i64 V)) (hlt : g < w.heap.size) :
    Calls Try.prog 78 #[.agg #[.int .i64 s, .int .i64 f], .pointer (some ⟨g, 0, none⟩)] w fun e w' => e = .returned (.int .i64 (max f V)) ∧ w.alloc (.cells #[.int .i64 s, .int .i64 f] 129) = w' := by
  have hne : (w.heap.size = g) = False := eq_false (by omega)
  have hne2 : (g = w.heap.size) = False := eq_false (by omega)
  go_enter Try.func78, Try.ntmps78
  go_wp2_with fail
  all_goals
    go_ret
    exact ⟨ret_int (by omega), rfl⟩
set_option maxHeartbeats 1000000 in
theorem next1_any (s f : Int) (w : World) :
    Calls Try.prog 77 #[.agg #[.int .i64 s, .int .i64 f]] w fun e w' => e = .returned (.int .i64 f) ∧ w.alloc (.cells #[.int .i64 s, .int .i64 f] 129) = w' := by
  go_enter Try.func77, Try.ntmps77
  go_wp2_with fail
  go_ret
  exact ⟨rfl, rfl⟩
theorem Row.own {w : World} {a : Option Addr} {g c n : Nat} {e : TypeId} {size : Nat} {xs : List Value} (h : Row w (.slice a n c) (some g) e size n xs) : a = some ⟨g, 0, none⟩ := by
  rcases h.cases with ⟨h1, _⟩ | ⟨g', cap, cur, hg, hv, _⟩
  · cases h1
  · obtain rfl := Option.some.inj hg
    injection hv
/-- two boxes of the call's own -/
def VB2 (w : World) (c1 c2 : Array Value) (W : World) : Prop := Holds W w.heap.size c1 ∧ Holds W (w.heap.size + 1) c2 ∧ Below w.heap.size w W
theorem VB2.step {w A B : World} {c1 c2 : Array Value} (h : VB2 w c1 c2 A) (hB : Below A.heap.size A B) : VB2 w c1 c2 B := ⟨Holds.step h.1 hB, Holds.step h.2.1 hB, h.2.2.trans (hB.mono h.2.2.size)⟩
theorem VB2.mk0 (w : World) (c1 c2 : Array Value) (t1 t2 : TypeId) : VB2 w c1 c2 ((w.alloc (.cells c1 t1)).alloc (.cells c2 t2)) := by
  obtain ⟨h1, h2⟩ := tw2 (Below.refl _ ((w.alloc (.cells c1 t1)).alloc (.cells c2 t2))) rfl
  exact ⟨h1, h2, ((Below.refl _ _).alloc (Nat.le_refl _) _).alloc (by simp) _⟩
theorem VB2.alloc {w A : World} {c1 c2 : Array Value} (h : VB2 w c1 c2 A) (o : Obj) : VB2 w c1 c2 (A.alloc o) := h.step ((Below.refl _ _).alloc (Nat.le_refl _) o)
end Go.Proofs.Ytoodmocapagapaa
namespace Go.Proofs.Ytoodmocapagapaa
open Go.RowKit
set_option linter.unusedSimpArgs false
set_option linter.unusedVariables false

/-- is a tag given? -/
def goodTag (V : Int) (n : Nat) (T : Nat → TagsE) (k cost at_ : Int) : Bool := vokB V n T && decide (0 ≤ k) && decide (k < n) && (cost != 0) && decide (at_ ≤ 1152921504606846976 - cost)
def TagRes (w : World) (V : Int) (n : Nat) (T : Nat → TagsE) (k : Nat) (cost at_ : Int) (e : Ending) (w' : World) : Bool → Prop
  | true => VRes w V n (updT T k ⟨at_, at_ + cost⟩) 0 e w'
  | false => VRes w 0 0 zeroT 2 e w'

theorem own_k {W : World} {n : Nat} {T : Nat → TagsE} {a : Option Addr} {c : Nat} {ob : Option Nat} (h : Row W (.slice a n c) ob 129 2 n (tagsL T n)) {k : Nat} (hk : k < n) : ∃ g, ob = some g ∧ a = some ⟨g, 0, none⟩ ∧ g < W.heap.size ∧
    W.cell? ⟨g, k * 2, none⟩ = some (.int .i64 (T k).s) ∧ W.cell? ⟨g, k * 2 + 1, none⟩ = some (.int .i64 (T k).f) ∧ W.frozen? ⟨g, k * 2, none⟩ = false ∧ W.frozen? ⟨g, k * 2 + 1, none⟩ = false := by
  obtain ⟨g, rfl, c0, f0⟩ := h.cell (k * 2) (by omega)
  obtain ⟨g', e, c1, f1⟩ := h.cell (k * 2 + 1) (by omega)
  obtain rfl := Option.some.inj e
  have h0 := tagsL_at T n k 0 hk (by omega)
  have h1 := tagsL_at T n k 1 hk (by omega)
  rw [Nat.add_zero] at h0
  rw [h0] at c0
  rw [h1] at c1
  exact ⟨g, rfl, h.own, h.lt, c0, c1, f0, f1⟩

theorem row_tag {W : World} {n k : Nat} {T : Nat → TagsE} {a : Option Addr} {c g : Nat} {s f : Int} (h : Row W (.slice a n c) (some g) 129 2 n (tagsL T n)) (hk : k < n) : Row ((W.setCell ⟨g, k * 2, none⟩ (.int .i64 s)).setCell ⟨g, k * 2 + 1, none⟩ (.int .i64 f)) (.slice a n c) (some g) 129 2 n (tagsL (updT T k ⟨s, f⟩) n) := by
  have := (h.set (k * 2) (.int .i64 s)).set (k * 2 + 1) (.int .i64 f)
  rwa [tagsL_upd T k s f n hk] at this
theorem Row.other {w : World} {v : Value} {g : Nat} {e : TypeId} {size n : Nat} {xs : List Value} (h : Row w v (some g) e size n xs) (b j : Nat) (hb : b ≠ g) (u : Value) : Row (w.setCell ⟨b, j, none⟩ u) v (some g) e size n xs :=
  h.congr fun g' e => by obtain rfl := Option.some.inj e; exact heap_setCell_ne _ _ _ _ (by simp only; omega)

set_option maxRecDepth 100000 in
set_option maxHeartbeats 8000000 in
theorem beginW_good (V : Int) (a : Option Addr) (n c b o : Nat) (T : Nat → TagsE) (k : Nat) (cost at_ : Int) (g : Nat) (w : World) (hs : TagsIn w a n c b o T) (hn : n * 16 ≤ 140737488351232) (hk : k < n) (hok : vokB V n T = true)
    (h0 : 0 < cost) (h1 : cost ≤ 138378240000) (ha : at_ = max (T k).f V) (hat : at_ ≤ 1152921504606846976 - cost) (ha0 : 0 ≤ at_) (hg : w.cell? ⟨g, 0, none⟩ = some (.int .i64 V)) (hgl : g < w.heap.size) :
    Calls Try.prog 75 #[.agg #[.int .i64 V, .slice a n c], .int .i64 k, .int .i64 cost, .func (.func 78) #[] #[.pointer (some ⟨g, 0, none⟩)]] w (VRes w V n (updT T k ⟨at_, at_ + cost⟩) 0) := by
  have hm := hs.max
  have hl := hs.le
  unfold maxLen at hm
  have HQ := Lib.hid (VB2.mk0 w #[.int .i64 V, .slice a n c] #[.int .i64 0, .slice none 0 0] 99 99)
  have HS := Lib.hid hs
  have C1 : Hid (∀ W, TagsIn W a n c b o T → Calls Try.prog 65 #[.agg #[.int .i64 V, .slice a n c]] W fun e w' => e = .returned (.bool true) ∧ Below W.heap.size W w') := Lib.hid (fun W h => by rw [← hok]; exact check_any V a n c b o T W h)
  obtain ⟨e0, e1⟩ := hs.at_ (by omega)
  subst e0
  have C3 := Lib.hid (fun W h => twin_any V (some ⟨b, o, none⟩) n c b o T W h hn)
  obtain ⟨s, hs1⟩ : ∃ s, s = (T k).s := ⟨_, rfl⟩
  obtain ⟨f, hf1⟩ : ∃ f, f = (T k).f := ⟨_, rfl⟩
  rw [← hf1] at ha
  have HW : Hid (∀ W, Below w.heap.size w W → Calls Try.prog 78 #[.agg #[.int .i64 s, .int .i64 f], .pointer (some ⟨g, 0, none⟩)] W fun e w' => e = .returned (.int .i64 at_) ∧ W.alloc (.cells #[.int .i64 s, .int .i64 f] 129) = w') :=
    Lib.hid (fun W h => by rw [ha]; exact wake1_any s f V g W ((h.cell (p := ⟨g, 0, none⟩) hgl).trans hg) (by have := h.size; omega))
  have HK : Hid (∀ W, Below w.heap.size w W → W.cell? ⟨b, o + k * 2, none⟩ = some (.int .i64 s) ∧ W.cell? ⟨b, o + k * 2 + 1, none⟩ = some (.int .i64 f)) := Lib.hid (fun W h => by rw [hs1, hf1]; exact (hs.below h).cell k hk)
  have b1 : (cost == 0) = false := by simp; omega
  have b2 : decide (n ≤ k) = false := by simp; omega
  have b3 : decide ((k : Int) < 0) = false := by simp
  clear hs hok ha hs1 hf1 hg
  go_enter Try.func75, Try.ntmps75
  go_wp2_with (first
    | (go_at_call 65; refine Calls.mono (C1.out _ (HS.out.below HQ.out.2.2)) ?_; rintro e W1 ⟨rfl, hW1⟩; have HQ1 := Lib.hid (HQ.out.step hW1); have r0 := HQ1.out.1.1; have y0 := HQ1.out.1.2.1; have z0 := HQ1.out.1.2.2; have r1 := HQ1.out.2.1.1; have y1 := HQ1.out.2.1.2.1; have z1 := HQ1.out.2.1.2.2; have KK := HK.out W1 HQ1.out.2.2; obtain ⟨k0, k1⟩ := KK)
    | (go_at_call 78; refine Calls.mono (HW.out _ HQ1.out.2.2) ?_; rintro e W2 ⟨rfl, rfl⟩))
  go_at_call 71
  refine Calls.mono (C3.out _ (HS.out.below (HQ1.out.alloc _).2.2)) ?_
  rintro e W2 ⟨v2, rfl, hV2⟩
  obtain ⟨a2, c2, ob2, rfl, hR, hO, hB⟩ := hV2
  have T3 := own_k hR hk
  obtain ⟨g2, rfl, rfl, hg2, u0, u1, v0, v1⟩ := T3
  have hgo := hO g2 rfl
  simp only [World.size_alloc] at hgo
  have zz := HQ1.out.2.1.2.2
  have HQ2 := Lib.hid ((HQ1.out.alloc _).step hB)
  have HR := Lib.hid hR
  clear hO hB hR r0 y0 z0 r1 y1 z1 k0 k1
  have r0 := HQ2.out.1.1
  have y0 := HQ2.out.1.2.1
  have z0 := HQ2.out.1.2.2
  have r1 := HQ2.out.2.1.1
  have y1 := HQ2.out.2.1.2.1
  have z1 := HQ2.out.2.1.2.2
  have q1 : (g2 = w.heap.size) = False := eq_false (by omega)
  have q2 : (w.heap.size = g2) = False := eq_false (by omega)
  have q3 : (g2 = w.heap.size + 1) = False := eq_false (by omega)
  have q4 : (w.heap.size + 1 = g2) = False := eq_false (by omega)
  go_wp2_with fail
  refine bodyPost_ret (v := .tuple #[.agg #[.int .i64 V, .slice (some ⟨g2, 0, none⟩) n c2], .int .i64 0]) (by simp [results, Try.results75, go_sem, z1, r1, y1]) rfl ⟨_, rfl, _, _, some g2, rfl, ?_, ?_, ?_⟩
  · exact ((row_tag ((HR.out.other _ 0 (by omega) _).other _ 1 (by omega) _) hk).other _ 0 (by omega) _).other _ 1 (by omega) _
  · intro g' e
    obtain rfl := Option.some.inj e
    omega
  · exact (((((HQ2.out.2.2.setCell (by simp only; omega) _).setCell (by simp only; omega) _).setCell (by simp only; omega) _).setCell (by simp only; omega) _).setCell (by simp only; omega) _).setCell (by simp only; omega) _
set_option maxRecDepth 100000 in
set_option maxHeartbeats 8000000 in
theorem beginN_good (V : Int) (a : Option Addr) (n c b o : Nat) (T : Nat → TagsE) (k : Nat) (cost at_ : Int) (w : World) (hs : TagsIn w a n c b o T) (hn : n * 16 ≤ 140737488351232) (hk : k < n) (hok : vokB V n T = true)
    (h0 : 0 < cost) (h1 : cost ≤ 138378240000) (ha : at_ = (T k).f) (hat : at_ ≤ 1152921504606846976 - cost) (ha0 : 0 ≤ at_) :
    Calls Try.prog 75 #[.agg #[.int .i64 V, .slice a n c], .int .i64 k, .int .i64 cost, .func (.func 77) #[] #[]] w (VRes w V n (updT T k ⟨at_, at_ + cost⟩) 0) := by
  have hm := hs.max
  have hl := hs.le
  unfold maxLen at hm
  have HQ := Lib.hid (VB2.mk0 w #[.int .i64 V, .slice a n c] #[.int .i64 0, .slice none 0 0] 99 99)
  have HS := Lib.hid hs
  have C1 : Hid (∀ W, TagsIn W a n c b o T → Calls Try.prog 65 #[.agg #[.int .i64 V, .slice a n c]] W fun e w' => e = .returned (.bool true) ∧ Below W.heap.size W w') := Lib.hid (fun W h => by rw [← hok]; exact check_any V a n c b o T W h)
  obtain ⟨e0, e1⟩ := hs.at_ (by omega)
  subst e0
  have C3 := Lib.hid (fun W h => twin_any V (some ⟨b, o, none⟩) n c b o T W h hn)
  obtain ⟨s, hs1⟩ : ∃ s, s = (T k).s := ⟨_, rfl⟩
  obtain ⟨f, hf1⟩ : ∃ f, f = (T k).f := ⟨_, rfl⟩
  rw [← hf1] at ha
  have HW : Hid (∀ W, Below w.heap.size w W → Calls Try.prog 77 #[.agg #[.int .i64 s, .int .i64 f]] W fun e w' => e = .returned (.int .i64 at_) ∧ W.alloc (.cells #[.int .i64 s, .int .i64 f] 129) = w') :=
    Lib.hid (fun W h => by rw [ha]; exact next1_any s f W)
  have HK : Hid (∀ W, Below w.heap.size w W → W.cell? ⟨b, o + k * 2, none⟩ = some (.int .i64 s) ∧ W.cell? ⟨b, o + k * 2 + 1, none⟩ = some (.int .i64 f)) := Lib.hid (fun W h => by rw [hs1, hf1]; exact (hs.below h).cell k hk)
  have b1 : (cost == 0) = false := by simp; omega
  have b2 : decide (n ≤ k) = false := by simp; omega
  have b3 : decide ((k : Int) < 0) = false := by simp
  clear hs hok ha hs1 hf1
  go_enter Try.func75, Try.ntmps75
  go_wp2_with (first
    | (go_at_call 65; refine Calls.mono (C1.out _ (HS.out.below HQ.out.2.2)) ?_; rintro e W1 ⟨rfl, hW1⟩; have HQ1 := Lib.hid (HQ.out.step hW1); have r0 := HQ1.out.1.1; have y0 := HQ1.out.1.2.1; have z0 := HQ1.out.1.2.2; have r1 := HQ1.out.2.1.1; have y1 := HQ1.out.2.1.2.1; have z1 := HQ1.out.2.1.2.2; have KK := HK.out W1 HQ1.out.2.2; obtain ⟨k0, k1⟩ := KK)
    | (go_at_call 77; refine Calls.mono (HW.out _ HQ1.out.2.2) ?_; rintro e W2 ⟨rfl, rfl⟩))
  go_at_call 71
  refine Calls.mono (C3.out _ (HS.out.below (HQ1.out.alloc _).2.2)) ?_
  rintro e W2 ⟨v2, rfl, hV2⟩
  obtain ⟨a2, c2, ob2, rfl, hR, hO, hB⟩ := hV2
  have T3 := own_k hR hk
  obtain ⟨g2, rfl, rfl, hg2, u0, u1, v0, v1⟩ := T3
  have hgo := hO g2 rfl
  simp only [World.size_alloc] at hgo
  have zz := HQ1.out.2.1.2.2
  have HQ2 := Lib.hid ((HQ1.out.alloc _).step hB)
  have HR := Lib.hid hR
  clear hO hB hR r0 y0 z0 r1 y1 z1 k0 k1
  have r0 := HQ2.out.1.1
  have y0 := HQ2.out.1.2.1
  have z0 := HQ2.out.1.2.2
  have r1 := HQ2.out.2.1.1
  have y1 := HQ2.out.2.1.2.1
  have z1 := HQ2.out.2.1.2.2
  have q1 : (g2 = w.heap.size) = False := eq_false (by omega)
  have q2 : (w.heap.size = g2) = False := eq_false (by omega)
  have q3 : (g2 = w.heap.size + 1) = False := eq_false (by omega)
  have q4 : (w.heap.size + 1 = g2) = False := eq_false (by omega)
  go_wp2_with fail
  refine bodyPost_ret (v := .tuple #[.agg #[.int .i64 V, .slice (some ⟨g2, 0, none⟩) n c2], .int .i64 0]) (by simp [results, Try.results75, go_sem, z1, r1, y1]) rfl ⟨_, rfl, _, _, some g2, rfl, ?_, ?_, ?_⟩
  · exact ((row_tag ((HR.out.other _ 0 (by omega) _).other _ 1 (by omega) _) hk).other _ 0 (by omega) _).other _ 1 (by omega) _
  · intro g' e
    obtain rfl := Option.some.inj e
    omega
  · exact (((((HQ2.out.2.2.setCell (by simp only; omega) _).setCell (by simp only; omega) _).setCell (by simp only; omega) _).setCell (by simp only; omega) _).setCell (by simp only; omega) _).setCell (by simp only; omega) _
set_option maxRecDepth 100000 in
set_option maxHeartbeats 8000000 in
theorem beginW_far (V : Int) (a : Option Addr) (n c b o : Nat) (T : Nat → TagsE) (k : Nat) (cost at_ : Int) (g : Nat) (w : World) (hs : TagsIn w a n c b o T) (hn : n * 16 ≤ 140737488351232) (hk : k < n) (hok : vokB V n T = true)
    (h0 : 0 < cost) (h1 : cost ≤ 138378240000) (ha : at_ = max (T k).f V) (hat : 1152921504606846976 - cost < at_) (hg : w.cell? ⟨g, 0, none⟩ = some (.int .i64 V)) (hgl : g < w.heap.size) :
    Calls Try.prog 75 #[.agg #[.int .i64 V, .slice a n c], .int .i64 k, .int .i64 cost, .func (.func 78) #[] #[.pointer (some ⟨g, 0, none⟩)]] w (VRes w 0 0 zeroT 2) := by
  have hm := hs.max
  have hl := hs.le
  unfold maxLen at hm
  have HQ := Lib.hid (VB2.mk0 w #[.int .i64 V, .slice a n c] #[.int .i64 0, .slice none 0 0] 99 99)
  have HS := Lib.hid hs
  have C1 : Hid (∀ W, TagsIn W a n c b o T → Calls Try.prog 65 #[.agg #[.int .i64 V, .slice a n c]] W fun e w' => e = .returned (.bool true) ∧ Below W.heap.size W w') := Lib.hid (fun W h => by rw [← hok]; exact check_any V a n c b o T W h)
  obtain ⟨e0, e1⟩ := hs.at_ (by omega)
  subst e0
  obtain ⟨s, hs1⟩ : ∃ s, s = (T k).s := ⟨_, rfl⟩
  obtain ⟨f, hf1⟩ : ∃ f, f = (T k).f := ⟨_, rfl⟩
  rw [← hf1] at ha
  have HW : Hid (∀ W, Below w.heap.size w W → Calls Try.prog 78 #[.agg #[.int .i64 s, .int .i64 f], .pointer (some ⟨g, 0, none⟩)] W fun e w' => e = .returned (.int .i64 at_) ∧ W.alloc (.cells #[.int .i64 s, .int .i64 f] 129) = w') :=
    Lib.hid (fun W h => by rw [ha]; exact wake1_any s f V g W ((h.cell (p := ⟨g, 0, none⟩) hgl).trans hg) (by have := h.size; omega))
  have HK : Hid (∀ W, Below w.heap.size w W → W.cell? ⟨b, o + k * 2, none⟩ = some (.int .i64 s) ∧ W.cell? ⟨b, o + k * 2 + 1, none⟩ = some (.int .i64 f)) := Lib.hid (fun W h => by rw [hs1, hf1]; exact (hs.below h).cell k hk)
  have b1 : (cost == 0) = false := by simp; omega
  have b2 : decide (n ≤ k) = false := by simp; omega
  have b3 : decide ((k : Int) < 0) = false := by simp
  clear hs hok ha hs1 hf1 hg
  go_enter Try.func75, Try.ntmps75
  go_wp2_with (first
    | (go_at_call 65; refine Calls.mono (C1.out _ (HS.out.below HQ.out.2.2)) ?_; rintro e W1 ⟨rfl, hW1⟩; have HQ1 := Lib.hid (HQ.out.step hW1); have r0 := HQ1.out.1.1; have y0 := HQ1.out.1.2.1; have z0 := HQ1.out.1.2.2; have r1 := HQ1.out.2.1.1; have y1 := HQ1.out.2.1.2.1; have z1 := HQ1.out.2.1.2.2; have KK := HK.out W1 HQ1.out.2.2; obtain ⟨k0, k1⟩ := KK)
    | (go_at_call 78; refine Calls.mono (HW.out _ HQ1.out.2.2) ?_; rintro e W2 ⟨rfl, rfl⟩))
  refine bodyPost_ret (v := .tuple #[.agg #[.int .i64 0, .slice none 0 0], .int .i64 2]) (by simp [results, Try.results75, go_sem, z1, r1, y1]) rfl ⟨_, rfl, none, 0, none, rfl, Row.nil _ _ _, (fun _ h => by cases h), ?_⟩
  exact ((HQ1.out.2.2.setCell (by simp only; omega) _).setCell (by simp only; omega) _).alloc (by have := HQ1.out.2.2.size; simp; omega) _
set_option maxRecDepth 100000 in
set_option maxHeartbeats 8000000 in
theorem beginN_far (V : Int) (a : Option Addr) (n c b o : Nat) (T : Nat → TagsE) (k : Nat) (cost at_ : Int) (w : World) (hs : TagsIn w a n c b o T) (hn : n * 16 ≤ 140737488351232) (hk : k < n) (hok : vokB V n T = true)
    (h0 : 0 < cost) (h1 : cost ≤ 138378240000) (ha : at_ = (T k).f) (hat : 1152921504606846976 - cost < at_) :
    Calls Try.prog 75 #[.agg #[.int .i64 V, .slice a n c], .int .i64 k, .int .i64 cost, .func (.func 77) #[] #[]] w (VRes w 0 0 zeroT 2) := by
  have hm := hs.max
  have hl := hs.le
  unfold maxLen at hm
  have HQ := Lib.hid (VB2.mk0 w #[.int .i64 V, .slice a n c] #[.int .i64 0, .slice none 0 0] 99 99)
  have HS := Lib.hid hs
  have C1 : Hid (∀ W, TagsIn W a n c b o T → Calls Try.prog 65 #[.agg #[.int .i64 V, .slice a n c]] W fun e w' => e = .returned (.bool true) ∧ Below W.heap.size W w') := Lib.hid (fun W h => by rw [← hok]; exact check_any V a n c b o T W h)
  obtain ⟨e0, e1⟩ := hs.at_ (by omega)
  subst e0
  obtain ⟨s, hs1⟩ : ∃ s, s = (T k).s := ⟨_, rfl⟩
  obtain ⟨f, hf1⟩ : ∃ f, f = (T k).f := ⟨_, rfl⟩
  rw [← hf1] at ha
  have HW : Hid (∀ W, Below w.heap.size w W → Calls Try.prog 77 #[.agg #[.int .i64 s, .int .i64 f]] W fun e w' => e = .returned (.int .i64 at_) ∧ W.alloc (.cells #[.int .i64 s, .int .i64 f] 129) = w') :=
    Lib.hid (fun W h => by rw [ha]; exact next1_any s f W)
  have HK : Hid (∀ W, Below w.heap.size w W → W.cell? ⟨b, o + k * 2, none⟩ = some (.int .i64 s) ∧ W.cell? ⟨b, o + k * 2 + 1, none⟩ = some (.int .i64 f)) := Lib.hid (fun W h => by rw [hs1, hf1]; exact (hs.below h).cell k hk)
  have b1 : (cost == 0) = false := by simp; omega
  have b2 : decide (n ≤ k) = false := by simp; omega
  have b3 : decide ((k : Int) < 0) = false := by simp
  clear hs hok ha hs1 hf1
  go_enter Try.func75, Try.ntmps75
  go_wp2_with (first
    | (go_at_call 65; refine Calls.mono (C1.out _ (HS.out.below HQ.out.2.2)) ?_; rintro e W1 ⟨rfl, hW1⟩; have HQ1 := Lib.hid (HQ.out.step hW1); have r0 := HQ1.out.1.1; have y0 := HQ1.out.1.2.1; have z0 := HQ1.out.1.2.2; have r1 := HQ1.out.2.1.1; have y1 := HQ1.out.2.1.2.1; have z1 := HQ1.out.2.1.2.2; have KK := HK.out W1 HQ1.out.2.2; obtain ⟨k0, k1⟩ := KK)
    | (go_at_call 77; refine Calls.mono (HW.out _ HQ1.out.2.2) ?_; rintro e W2 ⟨rfl, rfl⟩))
  refine bodyPost_ret (v := .tuple #[.agg #[.int .i64 0, .slice none 0 0], .int .i64 2]) (by simp [results, Try.results75, go_sem, z1, r1, y1]) rfl ⟨_, rfl, none, 0, none, rfl, Row.nil _ _ _, (fun _ h => by cases h), ?_⟩
  exact ((HQ1.out.2.2.setCell (by simp only; omega) _).setCell (by simp only; omega) _).alloc (by have := HQ1.out.2.2.size; simp; omega) _
set_option maxRecDepth 100000 in
set_option maxHeartbeats 8000000 in
theorem begin_bad (V : Int) (a : Option Addr) (n c b o : Nat) (T : Nat → TagsE) (k cost : Int) (fv : Value) (w : World) (hs : TagsIn w a n c b o T)
    (hh : vokB V n T = false ∨ (vokB V n T = true ∧ k < 0) ∨ (vokB V n T = true ∧ 0 ≤ k ∧ n ≤ k) ∨ (vokB V n T = true ∧ 0 ≤ k ∧ k < n ∧ cost = 0)) :
    Calls Try.prog 75 #[.agg #[.int .i64 V, .slice a n c], .int .i64 k, .int .i64 cost, fv] w (VRes w 0 0 zeroT 2) := by
  have hm := hs.max
  have hl := hs.le
  unfold maxLen at hm
  have HQ := Lib.hid (VB2.mk0 w #[.int .i64 V, .slice a n c] #[.int .i64 0, .slice none 0 0] 99 99)
  have HS := Lib.hid hs
  obtain ⟨C, hC⟩ : ∃ C, C = vokB V n T := ⟨_, rfl⟩
  have C1 : Hid (∀ W, TagsIn W a n c b o T → Calls Try.prog 65 #[.agg #[.int .i64 V, .slice a n c]] W fun e w' => e = .returned (.bool C) ∧ Below W.heap.size W w') := Lib.hid (fun W h => by rw [hC]; exact check_any V a n c b o T W h)
  rw [← hC] at hh
  clear hs hC
  rcases hh with rfl | ⟨rfl, h⟩ | ⟨rfl, h, h2⟩ | ⟨rfl, h, h2, rfl⟩
  all_goals
    go_enter Try.func75, Try.ntmps75
    go_wp2_with (go_at_call 65; refine Calls.mono (C1.out _ (HS.out.below HQ.out.2.2)) ?_; rintro e W1 ⟨rfl, hW1⟩; have HQ1 := Lib.hid (HQ.out.step hW1); have r0 := HQ1.out.1.1; have y0 := HQ1.out.1.2.1; have z0 := HQ1.out.1.2.2; have r1 := HQ1.out.2.1.1; have y1 := HQ1.out.2.1.2.1; have z1 := HQ1.out.2.1.2.2)
    refine bodyPost_ret (v := .tuple #[.agg #[.int .i64 0, .slice none 0 0], .int .i64 2]) (by simp [results, Try.results75, go_sem, z1, r1, y1]) rfl ⟨_, rfl, none, 0, none, rfl, Row.nil _ _ _, (fun _ h => by cases h), ?_⟩
    exact (HQ1.out.2.2.setCell (by simp only; omega) _).setCell (by simp only; omega) _
end Go.Proofs.Ytoodmocapagapaa
namespace Go.Proofs.Ytoodmocapagapaa
open Go.RowKit
set_option linter.unusedSimpArgs false
set_option linter.unusedVariables false

def headF (T : Nat → TagsE) (k : Int) : Int := (T k.toNat).f
theorem goodTag_cases (V : Int) (n : Nat) (T : Nat → TagsE) (k cost at_ : Int) :
    (goodTag V n T k cost at_ = false ∧ (vokB V n T = false ∨ (vokB V n T = true ∧ k < 0) ∨ (vokB V n T = true ∧ 0 ≤ k ∧ n ≤ k) ∨ (vokB V n T = true ∧ 0 ≤ k ∧ k < n ∧ cost = 0))) ∨
    (goodTag V n T k cost at_ = false ∧ vokB V n T = true ∧ 0 ≤ k ∧ k < n ∧ cost ≠ 0 ∧ 1152921504606846976 - cost < at_) ∨
    (goodTag V n T k cost at_ = true ∧ vokB V n T = true ∧ 0 ≤ k ∧ k < n ∧ cost ≠ 0 ∧ at_ ≤ 1152921504606846976 - cost) := by
  unfold goodTag
  cases hv : vokB V n T
  · exact .inl ⟨by simp, .inl rfl⟩
  · by_cases h1 : k < 0
    · exact .inl ⟨by simp; omega, .inr (.inl ⟨rfl, h1⟩)⟩
    · by_cases h2 : (n : Int) ≤ k
      · exact .inl ⟨by simp; omega, .inr (.inr (.inl ⟨rfl, by omega, h2⟩))⟩
      · by_cases h3 : cost = 0
        · exact .inl ⟨by simp [h3], .inr (.inr (.inr ⟨rfl, by omega, by omega, h3⟩))⟩
        · by_cases h4 : at_ ≤ 1152921504606846976 - cost
          · exact .inr (.inr ⟨by simp; omega, rfl, by omega, by omega, h3, h4⟩)
          · exact .inr (.inl ⟨by simp; omega, rfl, by omega, by omega, h3, by omega⟩)
theorem vok_at {V : Int} {n : Nat} {T : Nat → TagsE} (h : vokB V n T = true) {k : Nat} (hk : k < n) : 0 ≤ (T k).s ∧ (T k).s ≤ (T k).f ∧ (T k).f ≤ 1152921504606846976 ∧ 0 ≤ V ∧ V ≤ 1152921504606846976 ∧ n ≤ 8 := by
  unfold vokB at h
  simp only [Bool.and_eq_true, decide_eq_true_eq] at h
  have h2 := (okN_iff T n).1 h.2 k hk
  have h3 := h.1.2
  unfold tagB timeB at h2
  unfold timeB at h3
  simp at h2 h3
  omega

/-- what a tag that is asked for comes to -/
def TagP (w : World) (V : Int) (n : Nat) (T : Nat → TagsE) (k : Int) (cost at_ : Int) (e : Ending) (w' : World) : Prop := TagRes w V n T k.toNat cost at_ e w' (goodTag V n T k cost at_)

theorem beginW_any (V : Int) (a : Option Addr) (n c b o : Nat) (T : Nat → TagsE) (k cost at_ : Int) (g : Nat) (w : World) (hs : TagsIn w a n c b o T) (hn : n * 16 ≤ 140737488351232) (h0 : 0 ≤ cost) (h1 : cost ≤ 138378240000) (ha : at_ = max (headF T k) V)
    (hg : w.cell? ⟨g, 0, none⟩ = some (.int .i64 V)) (hgl : g < w.heap.size) :
    Calls Try.prog 75 #[.agg #[.int .i64 V, .slice a n c], .int .i64 k, .int .i64 cost, .func (.func 78) #[] #[.pointer (some ⟨g, 0, none⟩)]] w (TagP w V n T k cost at_) := by
  unfold TagP
  rcases goodTag_cases V n T k cost at_ with ⟨hG, hh⟩ | ⟨hG, hv, k0, k1, hc, hat⟩ | ⟨hG, hv, k0, k1, hc, hat⟩
  · rw [hG]
    exact begin_bad V a n c b o T k cost _ w hs hh
  · rw [hG]
    obtain ⟨k', rfl⟩ : ∃ k' : Nat, k = k' := ⟨k.toNat, by omega⟩
    exact beginW_far V a n c b o T k' cost at_ g w hs hn (by omega) hv (by omega) h1 (by simpa [headF] using ha) hat hg hgl
  · rw [hG]
    obtain ⟨k', rfl⟩ : ∃ k' : Nat, k = k' := ⟨k.toNat, by omega⟩
    have hb := vok_at hv (k := k') (by omega)
    simp only [headF, Int.toNat_natCast] at ha
    exact beginW_good V a n c b o T k' cost at_ g w hs hn (by omega) hv (by omega) h1 ha hat (by omega) hg hgl
theorem beginN_any (V : Int) (a : Option Addr) (n c b o : Nat) (T : Nat → TagsE) (k cost at_ : Int) (w : World) (hs : TagsIn w a n c b o T) (hn : n * 16 ≤ 140737488351232) (h0 : 0 ≤ cost) (h1 : cost ≤ 138378240000) (ha : at_ = headF T k) :
    Calls Try.prog 75 #[.agg #[.int .i64 V, .slice a n c], .int .i64 k, .int .i64 cost, .func (.func 77) #[] #[]] w (TagP w V n T k cost at_) := by
  unfold TagP
  rcases goodTag_cases V n T k cost at_ with ⟨hG, hh⟩ | ⟨hG, hv, k0, k1, hc, hat⟩ | ⟨hG, hv, k0, k1, hc, hat⟩
  · rw [hG]
    exact begin_bad V a n c b o T k cost _ w hs hh
  · rw [hG]
    obtain ⟨k', rfl⟩ : ∃ k' : Nat, k = k' := ⟨k.toNat, by omega⟩
    exact beginN_far V a n c b o T k' cost at_ w hs hn (by omega) hv (by omega) h1 (by simpa [headF] using ha) hat
  · rw [hG]
    obtain ⟨k', rfl⟩ : ∃ k' : Nat, k = k' := ⟨k.toNat, by omega⟩
    have hb := vok_at hv (k := k') (by omega)
    simp only [headF, Int.toNat_natCast] at ha
    exact beginN_good V a n c b o T k' cost at_ w hs hn (by omega) hv (by omega) h1 ha hat (by omega)

theorem TagP.res {w : World} {V : Int} {n : Nat} {T : Nat → TagsE} {k cost at_ : Int} {e : Ending} {w' : World} (h : TagP w V n T k cost at_ e w') : ∃ V' n' T' er, VRes w V' n' T' er e w' ∧
    (∀ e2 w2 w3, VRes w3 V' n' T' er e2 w2 → TagP w3 V n T k cost at_ e2 w2) := by
  unfold TagP at h ⊢
  cases hG : goodTag V n T k cost at_
  · rw [hG] at h
    exact ⟨0, 0, zeroT, 2, h, fun _ _ _ h => h⟩
  · rw [hG] at h
    exact ⟨V, n, _, 0, h, fun _ _ _ h => h⟩

set_option maxRecDepth 100000 in
set_option maxHeartbeats 8000000 in
theorem wake_any (V : Int) (a : Option Addr) (n c b o : Nat) (T : Nat → TagsE) (k s wt al : Int) (w : World) (hs : TagsIn w a n c b o T) (hn : n * 16 ≤ 140737488351232) :
    Calls Try.prog 64 #[.agg #[.int .i64 V, .slice a n c], .int .i64 k, .int .i64 s, .int .i64 wt, .int .i64 al] w (TagP w V n T k (costS s wt al) (max (headF T k) V)) := by
  have hcr := cost_range s wt al
  obtain ⟨C, hC⟩ : ∃ C, C = costS s wt al := ⟨_, rfl⟩
  rw [← hC] at hcr ⊢
  have C1 : Hid (∀ W, Calls Try.prog 76 #[.int .i64 s, .int .i64 wt, .int .i64 al] W fun e w' => e = .returned (.int .i64 C) ∧ W = w') := Lib.hid (fun W => by rw [hC]; exact cost_any s wt al W)
  obtain ⟨H, hH⟩ : ∃ H, H = max (headF T k) V := ⟨_, rfl⟩
  rw [← hH]
  have C2 : Hid (∀ W g, TagsIn W a n c b o T → W.cell? ⟨g, 0, none⟩ = some (.int .i64 V) → g < W.heap.size → Calls Try.prog 75 #[.agg #[.int .i64 V, .slice a n c], .int .i64 k, .int .i64 C, .func (.func 78) #[] #[.pointer (some ⟨g, 0, none⟩)]] W (TagP W V n T k C H)) :=
    Lib.hid (fun W g h1 h2 h3 => beginW_any V a n c b o T k C H g W h1 hn hcr.1 hcr.2 hH h2 h3)
  have HQ := Lib.hid (VB2.mk0 w #[.int .i64 V, .slice a n c] #[.int .i64 0, .slice none 0 0] 99 99)
  have HQ1 := Lib.hid (HQ.out.step (Below.refl _ _).drew)
  have HS := Lib.hid hs
  clear hs hC hH hcr
  go_enter Try.func64, Try.ntmps64
  go_wp2_with fail
  go_region_with (first
    | (go_at_call 76; refine Calls.mono (C1.out _) ?_; rintro e w' ⟨rfl, rfl⟩)
    | (go_at_call 75; refine Calls.mono (C2.out _ _ (HS.out.below HQ1.out.2.2) (HQ1.out.1.1 0) HQ1.out.1.2.2) ?_; rintro e W2 hT; have hT2 := hT.res; obtain ⟨V', n', T', er, hR, hK⟩ := hT2; obtain ⟨v, rfl, a2, c2, ob2, rfl, hRow, hO, hB⟩ := hR; have HQ2 := Lib.hid (HQ1.out.step hB); have z0 := HQ2.out.1.2.2; have r1 := HQ2.out.2.1.1; have y1 := HQ2.out.2.1.2.1; have z1 := HQ2.out.2.1.2.2; have HR := Lib.hid hRow; have HO := Lib.hid hO; have HK := Lib.hid hK; have zz := HQ1.out.2.1.2.2; clear hT hRow hO hK hB))
  all_goals
    go_wp2_with fail
    refine bodyPost_ret (v := .tuple #[.agg #[.int .i64 V', .slice a2 n' c2], .int .i64 er]) (by simp [results, Try.results64, go_sem, z1, r1, y1]) rfl (HK.out _ _ _ ⟨_, rfl, a2, c2, ob2, rfl, ?_, ?_, ?_⟩)
    · refine HR.out.congr fun g e => ?_
      have := HO.out g e
      rw [heap_setCell_ne _ _ _ _ (by simp only; omega), heap_setCell_ne _ _ _ _ (by simp only; omega)]
    · exact fun g e => by have := HO.out g e; omega
    · exact (HQ2.out.2.2.setCell (by simp only; omega) _).setCell (by simp only; omega) _
set_option maxRecDepth 100000 in
set_option maxHeartbeats 8000000 in
theorem next_any (V : Int) (a : Option Addr) (n c b o : Nat) (T : Nat → TagsE) (k s wt al : Int) (w : World) (hs : TagsIn w a n c b o T) (hn : n * 16 ≤ 140737488351232) :
    Calls Try.prog 63 #[.agg #[.int .i64 V, .slice a n c], .int .i64 k, .int .i64 s, .int .i64 wt, .int .i64 al] w (TagP w V n T k (costS s wt al) (headF T k)) := by
  have hcr := cost_range s wt al
  obtain ⟨C, hC⟩ : ∃ C, C = costS s wt al := ⟨_, rfl⟩
  rw [← hC] at hcr ⊢
  have C1 : Hid (∀ W, Calls Try.prog 76 #[.int .i64 s, .int .i64 wt, .int .i64 al] W fun e w' => e = .returned (.int .i64 C) ∧ W = w') := Lib.hid (fun W => by rw [hC]; exact cost_any s wt al W)
  obtain ⟨H, hH⟩ : ∃ H, H = headF T k := ⟨_, rfl⟩
  rw [← hH]
  have C2 : Hid (∀ W, TagsIn W a n c b o T → Calls Try.prog 75 #[.agg #[.int .i64 V, .slice a n c], .int .i64 k, .int .i64 C, .func (.func 77) #[] #[]] W (TagP W V n T k C H)) :=
    Lib.hid (fun W h1 => beginN_any V a n c b o T k C H W h1 hn hcr.1 hcr.2 hH)
  have HQ := Lib.hid (VB2.mk0 w #[.int .i64 V, .slice a n c] #[.int .i64 0, .slice none 0 0] 99 99)
  have HQ1 := Lib.hid (HQ.out.step (Below.refl _ _).drew)
  have HS := Lib.hid hs
  clear hs hC hH hcr
  go_enter Try.func63, Try.ntmps63
  go_wp2_with fail
  go_region_with (first
    | (go_at_call 76; refine Calls.mono (C1.out _) ?_; rintro e w' ⟨rfl, rfl⟩)
    | (go_at_call 75; refine Calls.mono (C2.out _ (HS.out.below HQ1.out.2.2)) ?_; rintro e W2 hT; have hT2 := hT.res; obtain ⟨V', n', T', er, hR, hK⟩ := hT2; obtain ⟨v, rfl, a2, c2, ob2, rfl, hRow, hO, hB⟩ := hR; have HQ2 := Lib.hid (HQ1.out.step hB); have z0 := HQ2.out.1.2.2; have r1 := HQ2.out.2.1.1; have y1 := HQ2.out.2.1.2.1; have z1 := HQ2.out.2.1.2.2; have HR := Lib.hid hRow; have HO := Lib.hid hO; have HK := Lib.hid hK; have zz := HQ1.out.2.1.2.2; clear hT hRow hO hK hB))
  all_goals
    go_wp2_with fail
    refine bodyPost_ret (v := .tuple #[.agg #[.int .i64 V', .slice a2 n' c2], .int .i64 er]) (by simp [results, Try.results63, go_sem, z1, r1, y1]) rfl (HK.out _ _ _ ⟨_, rfl, a2, c2, ob2, rfl, ?_, ?_, ?_⟩)
    · refine HR.out.congr fun g e => ?_
      have := HO.out g e
      rw [heap_setCell_ne _ _ _ _ (by simp only; omega), heap_setCell_ne _ _ _ _ (by simp only; omega)]
    · exact fun g e => by have := HO.out g e; omega
    · exact (HQ2.out.2.2.setCell (by simp only; omega) _).setCell (by simp only; omega) _
end Go.Proofs.Ytoodmocapagapaa
namespace Go.Proofs.Ytoodmocapagapaa
open Go.RowKit
set_option linter.unusedSimpArgs false
set_option linter.unusedVariables false

theorem firstI_none {tk : Nat → Bool} {lt : Nat → Nat → Bool} {k : Nat} (h : firstS tk lt k = none) : firstI tk lt k = -1 := by unfold firstI; rw [h]
theorem firstI_some {tk : Nat → Bool} {lt : Nat → Nat → Bool} {k b : Nat} (h : firstS tk lt k = some b) : firstI tk lt k = b := by unfold firstI; rw [h]
theorem firstS_n0 {tk : Nat → Bool} {lt : Nat → Nat → Bool} {k : Nat} (h : firstS tk lt k = none) (h1 : tk k = false) : firstS tk lt (k + 1) = none := by unfold firstS; rw [h]; simp [h1]
theorem firstS_n1 {tk : Nat → Bool} {lt : Nat → Nat → Bool} {k : Nat} (h : firstS tk lt k = none) (h1 : tk k = true) : firstS tk lt (k + 1) = some k := by unfold firstS; rw [h]; simp [h1]
theorem firstS_s0 {tk : Nat → Bool} {lt : Nat → Nat → Bool} {k b : Nat} (h : firstS tk lt k = some b) (h1 : (tk k && lt k b) = false) : firstS tk lt (k + 1) = some b := by unfold firstS; rw [h]; simp only [h1]; rfl
theorem firstS_s1 {tk : Nat → Bool} {lt : Nat → Nat → Bool} {k b : Nat} (h : firstS tk lt k = some b) (h1 : (tk k && lt k b) = true) : firstS tk lt (k + 1) = some k := by unfold firstS; rw [h]; simp only [h1]; rfl

/-- two blocks of the call's own -/
def FQ (w : World) (n1 n2 : Nat) (c1 c2 : Array Value) (X : World) : Prop := Holds X n1 c1 ∧ Holds X n2 c2 ∧ Below w.heap.size w X
theorem FQ.step {w A B : World} {n1 n2 : Nat} {c1 c2 : Array Value} (h : FQ w n1 n2 c1 c2 A) (hB : Below A.heap.size A B) : FQ w n1 n2 c1 c2 B := ⟨Holds.step h.1 hB, Holds.step h.2.1 hB, h.2.2.trans (hB.mono h.2.2.size)⟩

set_option maxRecDepth 100000 in
set_option maxHeartbeats 8000000 in
theorem first_any (a : Option Addr) (n c b o : Nat) (T : Nat → TagsE) (fT fA : Nat) (capT : Array Value) (tk : Nat → Bool) (lt : Nat → Nat → Bool) (w : World) (hs : TagsIn w a n c b o T)
    (hcT : ∀ args w, (callFunc fT args).run Try.prog w = .ok (.enter fT args) w) (hcA : ∀ args w, (callFunc fA args).run Try.prog w = .ok (.enter fA args) w)
    (HT0 : ∀ W (k : Nat), Below w.heap.size w W → k < n → Calls Try.prog fT (#[.int .i64 k] ++ capT) W fun e w' => e = .returned (.bool (tk k)) ∧ Below W.heap.size W w')
    (HA0 : ∀ W i j, i < n → j < n → Calls Try.prog fA (#[.agg #[.int .i64 (T i).s, .int .i64 (T i).f], .agg #[.int .i64 (T j).s, .int .i64 (T j).f]] ++ #[]) W fun e w' => e = .returned (.bool (lt i j)) ∧ Below W.heap.size W w') :
    Calls Try.prog 66 #[.slice a n c, .agg #[.func (.func fT) #[] capT, .func (.func fA) #[] #[]]] w fun e w' => e = .returned (.int .i64 (firstI tk lt n)) ∧ Below w.heap.size w w' := by
  have hm := hs.max
  have hl := hs.le
  unfold maxLen at hm
  have HS := Lib.hid hs
  have HT := Lib.hid HT0
  have HA := Lib.hid HA0
  have hb0 : Below w.heap.size w (w.alloc (.cells #[.func (.func fT) #[] capT, .func (.func fA) #[] #[]] 134)) := (Below.refl _ _).alloc (Nat.le_refl _) _
  have hh0 := tw1 (n := w.heap.size) (Below.refl _ (w.alloc (.cells #[.func (.func fT) #[] capT, .func (.func fA) #[] #[]] 134))) rfl
  have HB0 := Lib.hid hb0
  have HH0 := Lib.hid hh0
  clear hs HT0 HA0 hb0 hh0
  go_enter Try.func66, Try.ntmps66
  go_wp2_with fail
  go_loopw [5, 10] (fun q i wr => ∃ k : Nat, k ≤ n ∧ i = .int .i64 k ∧ q = .int .i64 (firstI tk lt k) ∧ Below w.heap.size w wr ∧ Holds wr w.heap.size #[.func (.func fT) #[] capT, .func (.func fA) #[] #[]]) (fun _ i _ => n - (intOf i).toNat)
  case atStart => exact ⟨0, Nat.zero_le _, rfl, rfl, HB0.out, HH0.out⟩
  case round =>
    obtain ⟨k, hk, rfl, rfl, hbel, hh⟩ := hrel
    by_cases hlt : k < n
    · obtain ⟨e0, e1⟩ := HS.out.at_ (by omega)
      subst e0
      obtain ⟨k0, k1⟩ := (HS.out.below hbel).cell k hlt
      obtain ⟨s, hs⟩ : ∃ s, s = (T k).s := ⟨_, rfl⟩
      obtain ⟨f, hf⟩ : ∃ f, f = (T k).f := ⟨_, rfl⟩
      rw [← hs] at k0
      rw [← hf] at k1
      have hw0 : w.heap.size < wr.heap.size := hh.2.2
      have HQ : Hid (FQ w w.heap.size wr.heap.size #[.func (.func fT) #[] capT, .func (.func fA) #[] #[]] #[.int .i64 s, .int .i64 f] (wr.alloc (.cells #[.int .i64 s, .int .i64 f] 129)).drew) := Lib.hid
        ⟨Holds.step hh (((Below.refl _ _).alloc (Nat.le_refl _) _).drew), tw1 (n := wr.heap.size) (Below.refl _ (wr.alloc (.cells #[.int .i64 s, .int .i64 f] 129))).drew rfl, (hbel.alloc hbel.size _).drew⟩
      have q0 : wr.cell? ⟨w.heap.size, 0, none⟩ = some (.func (.func fT) #[] capT) := hh.1 0
      have q1 : wr.cell? ⟨w.heap.size, 1, none⟩ = some (.func (.func fA) #[] #[]) := hh.1 1
      have CT : Hid (∀ W, Below w.heap.size w W → Calls Try.prog fT (#[.int .i64 k] ++ capT) W fun e w' => e = .returned (.bool (tk k)) ∧ Below W.heap.size W w') := Lib.hid (fun W h => HT.out W k h hlt)
      clear hh
      cases hbst : firstS tk lt k with
      | none =>
        rw [firstI_none hbst]
        cases htk : tk k
        · have HF : Hid (firstI tk lt (k + 1) = -1) := Lib.hid (firstI_none (firstS_n0 hbst htk))
          rw [htk] at CT
          clear hbst htk hs hf
          go_wp2_with fail
          refine wp_region_held_drew (S := fun X => X.cell? ⟨w.heap.size, 0, none⟩ = some (.func (.func fT) #[] capT)) (by kernel_rfl) (HQ.out.1.1 0) (fun hHeld => ?_)
          ((refine wpAnyH_take (i := 0) (v := ?_) (by (simp only [List.getElem?_toArray, List.getElem?_cons_succ, List.getElem?_cons_zero]); rfl) (by kernel_rfl) (by kernel_rfl) (by kernel_rfl) (by exact fun _ _ _ h => h) (Or.inl ⟨by rfl, ?_⟩) (by assumption) ?_); rotate_left; focus (intro wS hSw; (try dsimp only at hSw); go_simp; first | done | with_reducible rfl); try simp only [Act.put, List.setIfInBounds_toArray, List.set_cons_zero, List.set_cons_succ])
          ((refine wpAnyH_take (i := 1) (v := ?_) (by (simp only [List.getElem?_toArray, List.getElem?_cons_succ, List.getElem?_cons_zero]); rfl) (by kernel_rfl) (by kernel_rfl) (by kernel_rfl) (by exact fun _ _ _ h => h) (Or.inl ⟨by rfl, ?_⟩) (by assumption) ?_); rotate_left; focus (intro wS hSw; (try dsimp only at hSw); go_simp; first | done | with_reducible rfl); try simp only [Act.put, List.setIfInBounds_toArray, List.set_cons_zero, List.set_cons_succ])
          ((refine wpAnyH_take (i := 2) (v := ?_) (by (simp only [List.getElem?_toArray, List.getElem?_cons_succ, List.getElem?_cons_zero]); rfl) (by kernel_rfl) (by kernel_rfl) (by kernel_rfl) (by exact fun _ _ _ h => h) (Or.inl ⟨by rfl, ?_⟩) (by assumption) ?_); rotate_left; focus (intro wS hSw; (try dsimp only at hSw); go_simp; first | done | with_reducible rfl); try simp only [Act.put, List.setIfInBounds_toArray, List.set_cons_zero, List.set_cons_succ])
          ((refine wpAnyH_ready (rs := [3]) (by kernel_rfl) (by simp) ?_); (refine AllReadyH.cons (by (simp only [List.getElem?_toArray, List.getElem?_cons_succ, List.getElem?_cons_zero]); rfl) (fun K hK => ?_) AllReadyH.nil); go_simp; refine Calls.mono (CT.out _ HQ.out.2.2) ?_)
          rintro e W1 ⟨rfl, hW1⟩
          have HQ1 := Lib.hid (HQ.out.step hW1)
          have p0 : W1.cell? ⟨w.heap.size, 0, none⟩ = some (.func (.func fT) #[] capT) := HQ1.out.1.1 0
          clear hW1
          go_wp2_with fail
          refine hK.out _ _ p0 (fun hHeld2 => ?_)
          try simp only [Act.put, List.setIfInBounds_toArray, List.set_cons_zero, List.set_cons_succ]
          ((refine wpAnyH_take (i := 4) (v := ?_) (by (simp only [List.getElem?_toArray, List.getElem?_cons_succ, List.getElem?_cons_zero]); rfl) (by kernel_rfl) (by kernel_rfl) (by kernel_rfl) (by exact fun _ _ _ h => h) (Or.inl ⟨by rfl, ?_⟩) (by assumption) ?_); rotate_left; focus (intro wS hSw; (try dsimp only at hSw); go_simp; first | done | with_reducible rfl); try simp only [Act.put, List.setIfInBounds_toArray, List.set_cons_zero, List.set_cons_succ])
          ((refine wpAnyH_take (i := 5) (v := undef) (by (simp only [List.getElem?_toArray, List.getElem?_cons_succ, List.getElem?_cons_zero]); rfl) (by kernel_rfl) (by kernel_rfl) (by kernel_rfl) (by exact fun _ _ _ h => h) (Or.inr ⟨by (go_simp; try (intro hh; cases hh)), rfl⟩) (by assumption) ?_); try simp only [Act.put, List.setIfInBounds_toArray, List.set_cons_zero, List.set_cons_succ])
          ((refine wpAnyH_take (i := 6) (v := undef) (by (simp only [List.getElem?_toArray, List.getElem?_cons_succ, List.getElem?_cons_zero]); rfl) (by kernel_rfl) (by kernel_rfl) (by kernel_rfl) (by exact fun _ _ _ h => h) (Or.inr ⟨by (go_simp; try (intro hh; cases hh)), rfl⟩) (by assumption) ?_); try simp only [Act.put, List.setIfInBounds_toArray, List.set_cons_zero, List.set_cons_succ])
          ((refine wpAnyH_take (i := 7) (v := undef) (by (simp only [List.getElem?_toArray, List.getElem?_cons_succ, List.getElem?_cons_zero]); rfl) (by kernel_rfl) (by kernel_rfl) (by kernel_rfl) (by exact fun _ _ _ h => h) (Or.inr ⟨by (go_simp; try (intro hh; cases hh)), rfl⟩) (by assumption) ?_); try simp only [Act.put, List.setIfInBounds_toArray, List.set_cons_zero, List.set_cons_succ])

          ((refine wpAnyH_take (i := 8) (v := undef) (by (simp only [List.getElem?_toArray, List.getElem?_cons_succ, List.getElem?_cons_zero]); rfl) (by kernel_rfl) (by kernel_rfl) (by kernel_rfl) (by exact fun _ _ _ h => h) (Or.inr ⟨by (go_simp; try (intro hh; cases hh)), rfl⟩) (by assumption) ?_); try simp only [Act.put, List.setIfInBounds_toArray, List.set_cons_zero, List.set_cons_succ])
          ((refine wpAnyH_take (i := 9) (v := undef) (by (simp only [List.getElem?_toArray, List.getElem?_cons_succ, List.getElem?_cons_zero]); rfl) (by kernel_rfl) (by kernel_rfl) (by kernel_rfl) (by exact fun _ _ _ h => h) (Or.inr ⟨by (go_simp; try (intro hh; cases hh)), rfl⟩) (by assumption) ?_); try simp only [Act.put, List.setIfInBounds_toArray, List.set_cons_zero, List.set_cons_succ])
          ((refine wpAnyH_take (i := 10) (v := undef) (by (simp only [List.getElem?_toArray, List.getElem?_cons_succ, List.getElem?_cons_zero]); rfl) (by kernel_rfl) (by kernel_rfl) (by kernel_rfl) (by exact fun _ _ _ h => h) (Or.inr ⟨by (go_simp; try (intro hh; cases hh)), rfl⟩) (by assumption) ?_); try simp only [Act.put, List.setIfInBounds_toArray, List.set_cons_zero, List.set_cons_succ])
          ((refine wpAnyH_take (i := 11) (v := undef) (by (simp only [List.getElem?_toArray, List.getElem?_cons_succ, List.getElem?_cons_zero]); rfl) (by kernel_rfl) (by kernel_rfl) (by kernel_rfl) (by exact fun _ _ _ h => h) (Or.inr ⟨by (go_simp; try (intro hh; cases hh)), rfl⟩) (by assumption) ?_); try simp only [Act.put, List.setIfInBounds_toArray, List.set_cons_zero, List.set_cons_succ])
          ((refine wpAnyH_take (i := 12) (v := undef) (by (simp only [List.getElem?_toArray, List.getElem?_cons_succ, List.getElem?_cons_zero]); rfl) (by kernel_rfl) (by kernel_rfl) (by kernel_rfl) (by exact fun _ _ _ h => h) (Or.inr ⟨by (go_simp; try (intro hh; cases hh)), rfl⟩) (by assumption) ?_); try simp only [Act.put, List.setIfInBounds_toArray, List.set_cons_zero, List.set_cons_succ])
          ((refine wpAnyH_take (i := 13) (v := undef) (by (simp only [List.getElem?_toArray, List.getElem?_cons_succ, List.getElem?_cons_zero]); rfl) (by kernel_rfl) (by kernel_rfl) (by kernel_rfl) (by exact fun _ _ _ h => h) (Or.inr ⟨by (go_simp; try (intro hh; cases hh)), rfl⟩) (by assumption) ?_); try simp only [Act.put, List.setIfInBounds_toArray, List.set_cons_zero, List.set_cons_succ])
          ((refine wpAnyH_take (i := 14) (v := undef) (by (simp only [List.getElem?_toArray, List.getElem?_cons_succ, List.getElem?_cons_zero]); rfl) (by kernel_rfl) (by kernel_rfl) (by kernel_rfl) (by exact fun _ _ _ h => h) (Or.inr ⟨by (go_simp; try (intro hh; cases hh)), rfl⟩) (by assumption) ?_); try simp only [Act.put, List.setIfInBounds_toArray, List.set_cons_zero, List.set_cons_succ])
          ((refine wpAnyH_take (i := 15) (v := undef) (by (simp only [List.getElem?_toArray, List.getElem?_cons_succ, List.getElem?_cons_zero]); rfl) (by kernel_rfl) (by kernel_rfl) (by kernel_rfl) (by exact fun _ _ _ h => h) (Or.inr ⟨by (go_simp; try (intro hh; cases hh)), rfl⟩) (by assumption) ?_); try simp only [Act.put, List.setIfInBounds_toArray, List.set_cons_zero, List.set_cons_succ])
          ((refine wpAnyH_take (i := 16) (v := undef) (by (simp only [List.getElem?_toArray, List.getElem?_cons_succ, List.getElem?_cons_zero]); rfl) (by kernel_rfl) (by kernel_rfl) (by kernel_rfl) (by exact fun _ _ _ h => h) (Or.inr ⟨by (go_simp; try (intro hh; cases hh)), rfl⟩) (by assumption) ?_); try simp only [Act.put, List.setIfInBounds_toArray, List.set_cons_zero, List.set_cons_succ])
          ((refine wpAnyH_take (i := 17) (v := ?_) (by (simp only [List.getElem?_toArray, List.getElem?_cons_succ, List.getElem?_cons_zero]); rfl) (by kernel_rfl) (by kernel_rfl) (by kernel_rfl) (by exact fun _ _ _ h => h) (Or.inl ⟨by rfl, ?_⟩) (by assumption) ?_); rotate_left; focus (intro wS hSw; (try dsimp only at hSw); go_simp; first | done | with_reducible rfl); try simp only [Act.put, List.setIfInBounds_toArray, List.set_cons_zero, List.set_cons_succ])
          refine wpAnyH_done (by kernel_rfl) ?_ _
          all_goals
            go_wp2_with fail
            go_roundw
            case rel => exact ⟨k + 1, by omega, by go_num, by rw [HF.out], HQ1.out.2.2, HQ1.out.1⟩
            case measure => simp [intOf]; omega
        · have HF : Hid (firstI tk lt (k + 1) = k) := Lib.hid (firstI_some (firstS_n1 hbst htk))
          rw [htk] at CT
          clear hbst htk hs hf
          go_wp2_with fail
          refine wp_region_held_drew (S := fun X => X.cell? ⟨w.heap.size, 0, none⟩ = some (.func (.func fT) #[] capT)) (by kernel_rfl) (HQ.out.1.1 0) (fun hHeld => ?_)
          ((refine wpAnyH_take (i := 0) (v := ?_) (by (simp only [List.getElem?_toArray, List.getElem?_cons_succ, List.getElem?_cons_zero]); rfl) (by kernel_rfl) (by kernel_rfl) (by kernel_rfl) (by exact fun _ _ _ h => h) (Or.inl ⟨by rfl, ?_⟩) (by assumption) ?_); rotate_left; focus (intro wS hSw; (try dsimp only at hSw); go_simp; first | done | with_reducible rfl); try simp only [Act.put, List.setIfInBounds_toArray, List.set_cons_zero, List.set_cons_succ])
          ((refine wpAnyH_take (i := 1) (v := ?_) (by (simp only [List.getElem?_toArray, List.getElem?_cons_succ, List.getElem?_cons_zero]); rfl) (by kernel_rfl) (by kernel_rfl) (by kernel_rfl) (by exact fun _ _ _ h => h) (Or.inl ⟨by rfl, ?_⟩) (by assumption) ?_); rotate_left; focus (intro wS hSw; (try dsimp only at hSw); go_simp; first | done | with_reducible rfl); try simp only [Act.put, List.setIfInBounds_toArray, List.set_cons_zero, List.set_cons_succ])
          ((refine wpAnyH_take (i := 2) (v := ?_) (by (simp only [List.getElem?_toArray, List.getElem?_cons_succ, List.getElem?_cons_zero]); rfl) (by kernel_rfl) (by kernel_rfl) (by kernel_rfl) (by exact fun _ _ _ h => h) (Or.inl ⟨by rfl, ?_⟩) (by assumption) ?_); rotate_left; focus (intro wS hSw; (try dsimp only at hSw); go_simp; first | done | with_reducible rfl); try simp only [Act.put, List.setIfInBounds_toArray, List.set_cons_zero, List.set_cons_succ])
          ((refine wpAnyH_ready (rs := [3]) (by kernel_rfl) (by simp) ?_); (refine AllReadyH.cons (by (simp only [List.getElem?_toArray, List.getElem?_cons_succ, List.getElem?_cons_zero]); rfl) (fun K hK => ?_) AllReadyH.nil); go_simp; refine Calls.mono (CT.out _ HQ.out.2.2) ?_)
          rintro e W1 ⟨rfl, hW1⟩
          have HQ1 := Lib.hid (HQ.out.step hW1)
          have p0 : W1.cell? ⟨w.heap.size, 0, none⟩ = some (.func (.func fT) #[] capT) := HQ1.out.1.1 0
          clear hW1
          go_wp2_with fail
          refine hK.out _ _ p0 (fun hHeld2 => ?_)
          try simp only [Act.put, List.setIfInBounds_toArray, List.set_cons_zero, List.set_cons_succ]
          ((refine wpAnyH_take (i := 4) (v := ?_) (by (simp only [List.getElem?_toArray, List.getElem?_cons_succ, List.getElem?_cons_zero]); rfl) (by kernel_rfl) (by kernel_rfl) (by kernel_rfl) (by exact fun _ _ _ h => h) (Or.inl ⟨by rfl, ?_⟩) (by assumption) ?_); rotate_left; focus (intro wS hSw; (try dsimp only at hSw); go_simp; first | done | with_reducible rfl); try simp only [Act.put, List.setIfInBounds_toArray, List.set_cons_zero, List.set_cons_succ])
          ((refine wpAnyH_take (i := 5) (v := ?_) (by (simp only [List.getElem?_toArray, List.getElem?_cons_succ, List.getElem?_cons_zero]); rfl) (by kernel_rfl) (by kernel_rfl) (by kernel_rfl) (by exact fun _ _ _ h => h) (Or.inl ⟨by (go_simp; try rfl), ?_⟩) (by assumption) ?_); rotate_left; focus (intro wS hSw; (try dsimp only at hSw); go_simp; first | done | with_reducible rfl); try simp only [Act.put, List.setIfInBounds_toArray, List.set_cons_zero, List.set_cons_succ])
          ((refine wpAnyH_take (i := 6) (v := ?_) (by (simp only [List.getElem?_toArray, List.getElem?_cons_succ, List.getElem?_cons_zero]); rfl) (by kernel_rfl) (by kernel_rfl) (by kernel_rfl) (by exact fun _ _ _ h => h) (Or.inl ⟨by (go_simp; try rfl), ?_⟩) (by assumption) ?_); rotate_left; focus (intro wS hSw; (try dsimp only at hSw); go_simp; first | done | with_reducible rfl); try simp only [Act.put, List.setIfInBounds_toArray, List.set_cons_zero, List.set_cons_succ])
          ((refine wpAnyH_take (i := 7) (v := ?_) (by (simp only [List.getElem?_toArray, List.getElem?_cons_succ, List.getElem?_cons_zero]); rfl) (by kernel_rfl) (by kernel_rfl) (by kernel_rfl) (by exact fun _ _ _ h => h) (Or.inl ⟨by (go_simp; try rfl), ?_⟩) (by assumption) ?_); rotate_left; focus (intro wS hSw; (try dsimp only at hSw); go_simp; first | done | with_reducible rfl); try simp only [Act.put, List.setIfInBounds_toArray, List.set_cons_zero, List.set_cons_succ])

          ((refine wpAnyH_take (i := 8) (v := undef) (by (simp only [List.getElem?_toArray, List.getElem?_cons_succ, List.getElem?_cons_zero]); rfl) (by kernel_rfl) (by kernel_rfl) (by kernel_rfl) (by exact fun _ _ _ h => h) (Or.inr ⟨by (go_simp; try (intro hh; cases hh)), rfl⟩) (by assumption) ?_); try simp only [Act.put, List.setIfInBounds_toArray, List.set_cons_zero, List.set_cons_succ])
          ((refine wpAnyH_take (i := 9) (v := undef) (by (simp only [List.getElem?_toArray, List.getElem?_cons_succ, List.getElem?_cons_zero]); rfl) (by kernel_rfl) (by kernel_rfl) (by kernel_rfl) (by exact fun _ _ _ h => h) (Or.inr ⟨by (go_simp; try (intro hh; cases hh)), rfl⟩) (by assumption) ?_); try simp only [Act.put, List.setIfInBounds_toArray, List.set_cons_zero, List.set_cons_succ])
          ((refine wpAnyH_take (i := 10) (v := undef) (by (simp only [List.getElem?_toArray, List.getElem?_cons_succ, List.getElem?_cons_zero]); rfl) (by kernel_rfl) (by kernel_rfl) (by kernel_rfl) (by exact fun _ _ _ h => h) (Or.inr ⟨by (go_simp; try (intro hh; cases hh)), rfl⟩) (by assumption) ?_); try simp only [Act.put, List.setIfInBounds_toArray, List.set_cons_zero, List.set_cons_succ])
          ((refine wpAnyH_take (i := 11) (v := undef) (by (simp only [List.getElem?_toArray, List.getElem?_cons_succ, List.getElem?_cons_zero]); rfl) (by kernel_rfl) (by kernel_rfl) (by kernel_rfl) (by exact fun _ _ _ h => h) (Or.inr ⟨by (go_simp; try (intro hh; cases hh)), rfl⟩) (by assumption) ?_); try simp only [Act.put, List.setIfInBounds_toArray, List.set_cons_zero, List.set_cons_succ])
          ((refine wpAnyH_take (i := 12) (v := undef) (by (simp only [List.getElem?_toArray, List.getElem?_cons_succ, List.getElem?_cons_zero]); rfl) (by kernel_rfl) (by kernel_rfl) (by kernel_rfl) (by exact fun _ _ _ h => h) (Or.inr ⟨by (go_simp; try (intro hh; cases hh)), rfl⟩) (by assumption) ?_); try simp only [Act.put, List.setIfInBounds_toArray, List.set_cons_zero, List.set_cons_succ])
          ((refine wpAnyH_take (i := 13) (v := undef) (by (simp only [List.getElem?_toArray, List.getElem?_cons_succ, List.getElem?_cons_zero]); rfl) (by kernel_rfl) (by kernel_rfl) (by kernel_rfl) (by exact fun _ _ _ h => h) (Or.inr ⟨by (go_simp; try (intro hh; cases hh)), rfl⟩) (by assumption) ?_); try simp only [Act.put, List.setIfInBounds_toArray, List.set_cons_zero, List.set_cons_succ])
          ((refine wpAnyH_take (i := 14) (v := undef) (by (simp only [List.getElem?_toArray, List.getElem?_cons_succ, List.getElem?_cons_zero]); rfl) (by kernel_rfl) (by kernel_rfl) (by kernel_rfl) (by exact fun _ _ _ h => h) (Or.inr ⟨by (go_simp; try (intro hh; cases hh)), rfl⟩) (by assumption) ?_); try simp only [Act.put, List.setIfInBounds_toArray, List.set_cons_zero, List.set_cons_succ])
          ((refine wpAnyH_take (i := 15) (v := undef) (by (simp only [List.getElem?_toArray, List.getElem?_cons_succ, List.getElem?_cons_zero]); rfl) (by kernel_rfl) (by kernel_rfl) (by kernel_rfl) (by exact fun _ _ _ h => h) (Or.inr ⟨by (go_simp; try (intro hh; cases hh)), rfl⟩) (by assumption) ?_); try simp only [Act.put, List.setIfInBounds_toArray, List.set_cons_zero, List.set_cons_succ])
          ((refine wpAnyH_take (i := 16) (v := ?_) (by (simp only [List.getElem?_toArray, List.getElem?_cons_succ, List.getElem?_cons_zero]); rfl) (by kernel_rfl) (by kernel_rfl) (by kernel_rfl) (by exact fun _ _ _ h => h) (Or.inl ⟨by (go_simp; try rfl), ?_⟩) (by assumption) ?_); rotate_left; focus (intro wS hSw; (try dsimp only at hSw); go_simp; first | done | with_reducible rfl); try simp only [Act.put, List.setIfInBounds_toArray, List.set_cons_zero, List.set_cons_succ])
          ((refine wpAnyH_take (i := 17) (v := ?_) (by (simp only [List.getElem?_toArray, List.getElem?_cons_succ, List.getElem?_cons_zero]); rfl) (by kernel_rfl) (by kernel_rfl) (by kernel_rfl) (by exact fun _ _ _ h => h) (Or.inl ⟨by rfl, ?_⟩) (by assumption) ?_); rotate_left; focus (intro wS hSw; (try dsimp only at hSw); go_simp; first | done | with_reducible rfl); try simp only [Act.put, List.setIfInBounds_toArray, List.set_cons_zero, List.set_cons_succ])
          refine wpAnyH_done (by kernel_rfl) ?_ _
          all_goals
            go_wp2_with fail
            go_roundw
            case rel => exact ⟨k + 1, by omega, by go_num, by rw [HF.out], HQ1.out.2.2, HQ1.out.1⟩
            case measure => simp [intOf]; omega
      | some m =>
        rw [firstI_some hbst]
        have hml := (firstS_some hbst).1
        cases htk : tk k
        · have HF : Hid (firstI tk lt (k + 1) = m) := Lib.hid (firstI_some (firstS_s0 hbst (by rw [htk]; rfl)))
          rw [htk] at CT
          clear hbst htk hs hf
          go_wp2_with fail
          refine wp_region_held_drew (S := fun X => X.cell? ⟨w.heap.size, 0, none⟩ = some (.func (.func fT) #[] capT)) (by kernel_rfl) (HQ.out.1.1 0) (fun hHeld => ?_)
          ((refine wpAnyH_take (i := 0) (v := ?_) (by (simp only [List.getElem?_toArray, List.getElem?_cons_succ, List.getElem?_cons_zero]); rfl) (by kernel_rfl) (by kernel_rfl) (by kernel_rfl) (by exact fun _ _ _ h => h) (Or.inl ⟨by rfl, ?_⟩) (by assumption) ?_); rotate_left; focus (intro wS hSw; (try dsimp only at hSw); go_simp; first | done | with_reducible rfl); try simp only [Act.put, List.setIfInBounds_toArray, List.set_cons_zero, List.set_cons_succ])
          ((refine wpAnyH_take (i := 1) (v := ?_) (by (simp only [List.getElem?_toArray, List.getElem?_cons_succ, List.getElem?_cons_zero]); rfl) (by kernel_rfl) (by kernel_rfl) (by kernel_rfl) (by exact fun _ _ _ h => h) (Or.inl ⟨by rfl, ?_⟩) (by assumption) ?_); rotate_left; focus (intro wS hSw; (try dsimp only at hSw); go_simp; first | done | with_reducible rfl); try simp only [Act.put, List.setIfInBounds_toArray, List.set_cons_zero, List.set_cons_succ])
          ((refine wpAnyH_take (i := 2) (v := ?_) (by (simp only [List.getElem?_toArray, List.getElem?_cons_succ, List.getElem?_cons_zero]); rfl) (by kernel_rfl) (by kernel_rfl) (by kernel_rfl) (by exact fun _ _ _ h => h) (Or.inl ⟨by rfl, ?_⟩) (by assumption) ?_); rotate_left; focus (intro wS hSw; (try dsimp only at hSw); go_simp; first | done | with_reducible rfl); try simp only [Act.put, List.setIfInBounds_toArray, List.set_cons_zero, List.set_cons_succ])
          ((refine wpAnyH_ready (rs := [3]) (by kernel_rfl) (by simp) ?_); (refine AllReadyH.cons (by (simp only [List.getElem?_toArray, List.getElem?_cons_succ, List.getElem?_cons_zero]); rfl) (fun K hK => ?_) AllReadyH.nil); go_simp; refine Calls.mono (CT.out _ HQ.out.2.2) ?_)
          rintro e W1 ⟨rfl, hW1⟩
          have HQ1 := Lib.hid (HQ.out.step hW1)
          have p0 : W1.cell? ⟨w.heap.size, 0, none⟩ = some (.func (.func fT) #[] capT) := HQ1.out.1.1 0
          clear hW1
          go_wp2_with fail
          refine hK.out _ _ p0 (fun hHeld2 => ?_)
          try simp only [Act.put, List.setIfInBounds_toArray, List.set_cons_zero, List.set_cons_succ]
          ((refine wpAnyH_take (i := 4) (v := ?_) (by (simp only [List.getElem?_toArray, List.getElem?_cons_succ, List.getElem?_cons_zero]); rfl) (by kernel_rfl) (by kernel_rfl) (by kernel_rfl) (by exact fun _ _ _ h => h) (Or.inl ⟨by rfl, ?_⟩) (by assumption) ?_); rotate_left; focus (intro wS hSw; (try dsimp only at hSw); go_simp; first | done | with_reducible rfl); try simp only [Act.put, List.setIfInBounds_toArray, List.set_cons_zero, List.set_cons_succ])
          ((refine wpAnyH_take (i := 5) (v := undef) (by (simp only [List.getElem?_toArray, List.getElem?_cons_succ, List.getElem?_cons_zero]); rfl) (by kernel_rfl) (by kernel_rfl) (by kernel_rfl) (by exact fun _ _ _ h => h) (Or.inr ⟨by (go_simp; try (intro hh; cases hh)), rfl⟩) (by assumption) ?_); try simp only [Act.put, List.setIfInBounds_toArray, List.set_cons_zero, List.set_cons_succ])
          ((refine wpAnyH_take (i := 6) (v := undef) (by (simp only [List.getElem?_toArray, List.getElem?_cons_succ, List.getElem?_cons_zero]); rfl) (by kernel_rfl) (by kernel_rfl) (by kernel_rfl) (by exact fun _ _ _ h => h) (Or.inr ⟨by (go_simp; try (intro hh; cases hh)), rfl⟩) (by assumption) ?_); try simp only [Act.put, List.setIfInBounds_toArray, List.set_cons_zero, List.set_cons_succ])
          ((refine wpAnyH_take (i := 7) (v := undef) (by (simp only [List.getElem?_toArray, List.getElem?_cons_succ, List.getElem?_cons_zero]); rfl) (by kernel_rfl) (by kernel_rfl) (by kernel_rfl) (by exact fun _ _ _ h => h) (Or.inr ⟨by (go_simp; try (intro hh; cases hh)), rfl⟩) (by assumption) ?_); try simp only [Act.put, List.setIfInBounds_toArray, List.set_cons_zero, List.set_cons_succ])

          ((refine wpAnyH_take (i := 8) (v := undef) (by (simp only [List.getElem?_toArray, List.getElem?_cons_succ, List.getElem?_cons_zero]); rfl) (by kernel_rfl) (by kernel_rfl) (by kernel_rfl) (by exact fun _ _ _ h => h) (Or.inr ⟨by (go_simp; try (intro hh; cases hh)), rfl⟩) (by assumption) ?_); try simp only [Act.put, List.setIfInBounds_toArray, List.set_cons_zero, List.set_cons_succ])
          ((refine wpAnyH_take (i := 9) (v := undef) (by (simp only [List.getElem?_toArray, List.getElem?_cons_succ, List.getElem?_cons_zero]); rfl) (by kernel_rfl) (by kernel_rfl) (by kernel_rfl) (by exact fun _ _ _ h => h) (Or.inr ⟨by (go_simp; try (intro hh; cases hh)), rfl⟩) (by assumption) ?_); try simp only [Act.put, List.setIfInBounds_toArray, List.set_cons_zero, List.set_cons_succ])
          ((refine wpAnyH_take (i := 10) (v := undef) (by (simp only [List.getElem?_toArray, List.getElem?_cons_succ, List.getElem?_cons_zero]); rfl) (by kernel_rfl) (by kernel_rfl) (by kernel_rfl) (by exact fun _ _ _ h => h) (Or.inr ⟨by (go_simp; try (intro hh; cases hh)), rfl⟩) (by assumption) ?_); try simp only [Act.put, List.setIfInBounds_toArray, List.set_cons_zero, List.set_cons_succ])
          ((refine wpAnyH_take (i := 11) (v := undef) (by (simp only [List.getElem?_toArray, List.getElem?_cons_succ, List.getElem?_cons_zero]); rfl) (by kernel_rfl) (by kernel_rfl) (by kernel_rfl) (by exact fun _ _ _ h => h) (Or.inr ⟨by (go_simp; try (intro hh; cases hh)), rfl⟩) (by assumption) ?_); try simp only [Act.put, List.setIfInBounds_toArray, List.set_cons_zero, List.set_cons_succ])
          ((refine wpAnyH_take (i := 12) (v := undef) (by (simp only [List.getElem?_toArray, List.getElem?_cons_succ, List.getElem?_cons_zero]); rfl) (by kernel_rfl) (by kernel_rfl) (by kernel_rfl) (by exact fun _ _ _ h => h) (Or.inr ⟨by (go_simp; try (intro hh; cases hh)), rfl⟩) (by assumption) ?_); try simp only [Act.put, List.setIfInBounds_toArray, List.set_cons_zero, List.set_cons_succ])
          ((refine wpAnyH_take (i := 13) (v := undef) (by (simp only [List.getElem?_toArray, List.getElem?_cons_succ, List.getElem?_cons_zero]); rfl) (by kernel_rfl) (by kernel_rfl) (by kernel_rfl) (by exact fun _ _ _ h => h) (Or.inr ⟨by (go_simp; try (intro hh; cases hh)), rfl⟩) (by assumption) ?_); try simp only [Act.put, List.setIfInBounds_toArray, List.set_cons_zero, List.set_cons_succ])
          ((refine wpAnyH_take (i := 14) (v := undef) (by (simp only [List.getElem?_toArray, List.getElem?_cons_succ, List.getElem?_cons_zero]); rfl) (by kernel_rfl) (by kernel_rfl) (by kernel_rfl) (by exact fun _ _ _ h => h) (Or.inr ⟨by (go_simp; try (intro hh; cases hh)), rfl⟩) (by assumption) ?_); try simp only [Act.put, List.setIfInBounds_toArray, List.set_cons_zero, List.set_cons_succ])
          ((refine wpAnyH_take (i := 15) (v := undef) (by (simp only [List.getElem?_toArray, List.getElem?_cons_succ, List.getElem?_cons_zero]); rfl) (by kernel_rfl) (by kernel_rfl) (by kernel_rfl) (by exact fun _ _ _ h => h) (Or.inr ⟨by (go_simp; try (intro hh; cases hh)), rfl⟩) (by assumption) ?_); try simp only [Act.put, List.setIfInBounds_toArray, List.set_cons_zero, List.set_cons_succ])
          ((refine wpAnyH_take (i := 16) (v := undef) (by (simp only [List.getElem?_toArray, List.getElem?_cons_succ, List.getElem?_cons_zero]); rfl) (by kernel_rfl) (by kernel_rfl) (by kernel_rfl) (by exact fun _ _ _ h => h) (Or.inr ⟨by (go_simp; try (intro hh; cases hh)), rfl⟩) (by assumption) ?_); try simp only [Act.put, List.setIfInBounds_toArray, List.set_cons_zero, List.set_cons_succ])
          ((refine wpAnyH_take (i := 17) (v := ?_) (by (simp only [List.getElem?_toArray, List.getElem?_cons_succ, List.getElem?_cons_zero]); rfl) (by kernel_rfl) (by kernel_rfl) (by kernel_rfl) (by exact fun _ _ _ h => h) (Or.inl ⟨by rfl, ?_⟩) (by assumption) ?_); rotate_left; focus (intro wS hSw; (try dsimp only at hSw); go_simp; first | done | with_reducible rfl); try simp only [Act.put, List.setIfInBounds_toArray, List.set_cons_zero, List.set_cons_succ])
          refine wpAnyH_done (by kernel_rfl) ?_ _
          all_goals
            go_wp2_with fail
            go_roundw
            case rel => exact ⟨k + 1, by omega, by go_num, by rw [HF.out], HQ1.out.2.2, HQ1.out.1⟩
            case measure => simp [intOf]; omega
        · obtain ⟨s2, hs2⟩ : ∃ s2, s2 = (T m).s := ⟨_, rfl⟩
          obtain ⟨f2, hf2⟩ : ∃ f2, f2 = (T m).f := ⟨_, rfl⟩
          obtain ⟨l0, l1⟩ := (HS.out.below hbel).cell m (by omega)
          rw [← hs2] at l0
          rw [← hf2] at l1
          obtain ⟨L, hL⟩ : ∃ L, L = lt k m := ⟨_, rfl⟩
          have CA : Hid (∀ W, Calls Try.prog fA (#[.agg #[.int .i64 s, .int .i64 f], .agg #[.int .i64 s2, .int .i64 f2]] ++ #[]) W fun e w' => e = .returned (.bool L) ∧ Below W.heap.size W w') := Lib.hid (fun W => by rw [hs, hf, hs2, hf2, hL]; exact HA.out W k m hlt (by omega))
          have HF : Hid (firstI tk lt (k + 1) = if L then k else m) := Lib.hid (by
            cases hL2 : L
            · rw [firstI_some (firstS_s0 hbst (by rw [htk, ← hL, hL2]; rfl))]; rfl
            · rw [firstI_some (firstS_s1 hbst (by rw [htk, ← hL, hL2]; rfl))]; rfl)
          have HKL : Hid (∀ X, FQ w w.heap.size wr.heap.size #[.func (.func fT) #[] capT, .func (.func fA) #[] #[]] #[.int .i64 s, .int .i64 f] X → X.cell? ⟨b, o + m * 2, none⟩ = some (.int .i64 s2) ∧ X.cell? ⟨b, o + m * 2 + 1, none⟩ = some (.int .i64 f2)) := Lib.hid (fun X hX => by rw [hs2, hf2]; exact (HS.out.below hX.2.2).cell m (by omega))
          rw [htk] at CT
          have bm : decide ((m : Int) < 0) = false := by simp
          have q2 : wr.heap.size ≠ b := by omega
          have i1 : (0 : Int) ≤ (m : Int) := by omega
          have i2 : (m : Int) < (n : Int) := by omega
          clear hbst htk hs hf hs2 hf2 hL
          cases L
          all_goals
            go_wp2_with fail
            go_region_held3 (fun X => X.cell? ⟨w.heap.size, 0, none⟩ = some (.func (.func fT) #[] capT) ∧ X.cell? ⟨w.heap.size, 1, none⟩ = some (.func (.func fA) #[] #[]) ∧ X.cell? ⟨wr.heap.size, 0, none⟩ = some (.int .i64 s) ∧ X.cell? ⟨wr.heap.size, 1, none⟩ = some (.int .i64 f) ∧ X.cell? ⟨b, o + m * 2, none⟩ = some (.int .i64 s2) ∧ X.cell? ⟨b, o + m * 2 + 1, none⟩ = some (.int .i64 f2))
              (first | exact ⟨HQ.out.1.1 0, HQ.out.1.1 1, HQ.out.2.1.1 0, HQ.out.2.1.1 1, (HKL.out _ HQ.out).1, (HKL.out _ HQ.out).2⟩ | with_reducible exact ⟨g0, g1, g2, g3, g4, g5⟩ | with_reducible exact ⟨p0, p1, p2, p3, p4, p5⟩ | go_keep)
              (first
                | (refine Calls.mono (CT.out _ HQ.out.2.2) ?_; rintro e W1 ⟨rfl, hW1⟩; have HQ1 := Lib.hid (HQ.out.step hW1); have p0 : W1.cell? ⟨w.heap.size, 0, none⟩ = some (.func (.func fT) #[] capT) := HQ1.out.1.1 0; have p1 : W1.cell? ⟨w.heap.size, 1, none⟩ = some (.func (.func fA) #[] #[]) := HQ1.out.1.1 1; have p2 : W1.cell? ⟨wr.heap.size, 0, none⟩ = some (.int .i64 s) := HQ1.out.2.1.1 0; have p3 : W1.cell? ⟨wr.heap.size, 1, none⟩ = some (.int .i64 f) := HQ1.out.2.1.1 1; have p45 := HKL.out _ HQ1.out; obtain ⟨p4, p5⟩ := p45; clear hW1)
                | (refine Calls.mono (CA.out _) ?_; rintro e W2 ⟨rfl, hW2⟩; have HQ2 := Lib.hid (HQ1.out.step hW2); have g0 : W2.cell? ⟨w.heap.size, 0, none⟩ = some (.func (.func fT) #[] capT) := HQ2.out.1.1 0; have g1 : W2.cell? ⟨w.heap.size, 1, none⟩ = some (.func (.func fA) #[] #[]) := HQ2.out.1.1 1; have g2 : W2.cell? ⟨wr.heap.size, 0, none⟩ = some (.int .i64 s) := HQ2.out.2.1.1 0; have g3 : W2.cell? ⟨wr.heap.size, 1, none⟩ = some (.int .i64 f) := HQ2.out.2.1.1 1; have g45 := HKL.out _ HQ2.out; obtain ⟨g4, g5⟩ := g45; clear hW2))
            all_goals
              go_wp2_with fail
              go_roundw
              case rel => exact ⟨k + 1, by omega, by go_num, by rw [HF.out]; rfl, HQ2.out.2.2, HQ2.out.1⟩
              case measure => simp [intOf]; omega
    · obtain rfl : k = n := by omega
      go_wp2_with fail
      go_ret
      exact ⟨rfl, hbel⟩
end Go.Proofs.Ytoodmocapagapaa
namespace Go.Proofs.Ytoodmocapagapaa
open Go.RowKit
set_option linter.unusedSimpArgs false
set_option linter.unusedVariables false

/-- Bools that came in. -/
structure BoolsIn (W : World) (a : Option Addr) (len cap : Nat) (b o : Nat) (R : Nat → Bool) : Prop where
  le : len ≤ cap
  max : cap ≤ maxLen
  at_ : 0 < len → a = some ⟨b, o, none⟩ ∧ b < W.heap.size
  cell : ∀ k, k < len → W.cell? ⟨b, o + k, none⟩ = some (.bool (R k))
theorem bools_cells (W : World) {a : Option Addr} {len cap : Nat} {xs : List Dt} (h : SliceFits Try.prog W 4 a len cap xs) : ∃ (b o : Nat) (R : Nat → Bool), BoolsIn W a len cap b o R := by
  have hc : Try.prog.cellsOf 4 = 1 := by kernel_rfl
  obtain ⟨b, o, h1, h2⟩ := h.spot (by rw [hc]; omega)
  have hex : ∀ k, ∃ q : Bool, k < len → W.cell? ⟨b, o + k, none⟩ = some (.bool q) := fun k => by
    by_cases hk : k < len
    · have hl := h.length
      have hx := List.getElem?_eq_getElem (l := xs) (i := k) (by omega)
      obtain ⟨n0, e0⟩ := (h.each k _ hx).1.bool_inv Try.underlying4
      have hcell := h2 k _ hx
      rw [e0, hc] at hcell
      exact ⟨n0, fun _ => by have := hcell 0 _ rfl; rwa [Nat.mul_one] at this⟩
    · exact ⟨false, fun h => absurd h hk⟩
  have hg := fun k => Classical.choose_spec (hex k)
  exact ⟨b, o, fun k => Classical.choose (hex k), h.le, h.max, h1, fun k hk => hg k hk⟩
theorem BoolsIn.below {W W' : World} {a : Option Addr} {len cap b o : Nat} {R : Nat → Bool} (h : BoolsIn W a len cap b o R) (hB : Below W.heap.size W W') : BoolsIn W' a len cap b o R :=
  ⟨h.le, h.max, fun hk => ⟨(h.at_ hk).1, by have := (h.at_ hk).2; have := hB.size; omega⟩, fun k hk => (hB.cell (p := ⟨b, _, none⟩) (h.at_ (by omega)).2).trans (h.cell k hk)⟩

def ltS (T : Nat → TagsE) (i j : Nat) : Bool := decide ((T i).s < (T j).s)
def ltF (T : Nat → TagsE) (i j : Nat) : Bool := decide ((T i).f < (T j).f)
def tkN (T : Nat → TagsE) (R : Nat → Bool) (now : Int) (j : Nat) : Bool := R j && decide ((T j).s ≤ now)
theorem second_some {T : Nat → TagsE} {R : Nat → Bool} {V : Int} {n k : Nat} (h : firstS R (ltS T) n = some k) : ∃ m, firstS (tkN T R (max V (T k).s)) (ltF T) n = some m := by
  cases hc : firstS (tkN T R (max V (T k).s)) (ltF T) n with
  | some m => exact ⟨m, rfl⟩
  | none =>
    obtain ⟨h1, h2⟩ := firstS_some h
    have := firstS_none hc k h1
    unfold tkN at this
    rw [h2] at this
    simp at this
    omega

def PickOut (w : World) (V : Int) (n : Nat) (T : Nat → TagsE) (k : Int) (ok : Bool) (e : Ending) (w' : World) : Prop := ∃ v, e = .returned (.tuple #[v, .int .i64 k, .bool ok]) ∧ VOut w w' v V n T

set_option maxHeartbeats 1000000 in
theorem pick1_any (k n : Nat) (rb : Nat) (ra : Option Addr) (rc b o : Nat) (R : Nat → Bool) (w : World) (hb : w.cell? ⟨rb, 0, none⟩ = some (.slice ra n rc)) (hr : BoolsIn w ra n rc b o R) (hk : k < n) :
    Calls Try.prog 67 #[.int .i64 k, .pointer (some ⟨rb, 0, none⟩)] w fun e w' => e = .returned (.bool (R k)) ∧ w = w' := by
  have hm := hr.max
  have hl := hr.le
  unfold maxLen at hm
  obtain ⟨e0, e1⟩ := hr.at_ (by omega)
  subst e0
  have c0 := hr.cell k hk
  obtain ⟨r, hr1⟩ : ∃ r, r = R k := ⟨_, rfl⟩
  rw [← hr1] at c0 ⊢
  clear hr hr1
  go_enter Try.func67, Try.ntmps67
  go_wp2_with fail
  go_ret
  exact ⟨rfl, rfl⟩
set_option maxHeartbeats 1000000 in
theorem pick2_any (s f s2 f2 : Int) (w : World) :
    Calls Try.prog 68 #[.agg #[.int .i64 s, .int .i64 f], .agg #[.int .i64 s2, .int .i64 f2]] w fun e w' => e = .returned (.bool (decide (s < s2))) ∧ Below w.heap.size w w' := by
  go_enter Try.func68, Try.ntmps68
  go_wp2_with fail
  go_ret
  exact ⟨rfl, ((Below.refl _ _).alloc (Nat.le_refl _) _).alloc (by simp) _⟩
set_option maxHeartbeats 1000000 in
theorem pick4_any (s f s2 f2 : Int) (w : World) :
    Calls Try.prog 70 #[.agg #[.int .i64 s, .int .i64 f], .agg #[.int .i64 s2, .int .i64 f2]] w fun e w' => e = .returned (.bool (decide (f < f2))) ∧ Below w.heap.size w w' := by
  go_enter Try.func70, Try.ntmps70
  go_wp2_with fail
  go_ret
  exact ⟨rfl, ((Below.refl _ _).alloc (Nat.le_refl _) _).alloc (by simp) _⟩
set_option maxRecDepth 100000 in
set_option maxHeartbeats 2000000 in
theorem pick3_any (k n : Nat) (rb vb nb : Nat) (V now : Int) (ra : Option Addr) (rc b o : Nat) (R : Nat → Bool) (a : Option Addr) (c tb to_ : Nat) (T : Nat → TagsE) (w : World) (hb : w.cell? ⟨rb, 0, none⟩ = some (.slice ra n rc)) (hr : BoolsIn w ra n rc b o R) (hv : w.cell? ⟨vb, 1, none⟩ = some (.slice a n c)) (hs : TagsIn w a n c tb to_ T)
    (hn : w.cell? ⟨nb, 0, none⟩ = some (.int .i64 now)) (hk : k < n) :
    Calls Try.prog 69 #[.int .i64 k, .pointer (some ⟨rb, 0, none⟩), .pointer (some ⟨vb, 0, none⟩), .pointer (some ⟨nb, 0, none⟩)] w fun e w' => e = .returned (.bool (tkN T R now k)) ∧ Below w.heap.size w w' := by
  have hm := hr.max
  have hl := hr.le
  have hm2 := hs.max
  have hl2 := hs.le
  unfold maxLen at hm hm2
  obtain ⟨e0, e1⟩ := hr.at_ (by omega)
  obtain ⟨e2, e3⟩ := hs.at_ (by omega)
  subst e0 e2
  have c0 := hr.cell k hk
  have c1 := (hs.cell k hk).1
  obtain ⟨r, hr1⟩ : ∃ r, r = R k := ⟨_, rfl⟩
  obtain ⟨s, hs1⟩ : ∃ s, s = (T k).s := ⟨_, rfl⟩
  unfold tkN
  rw [← hr1] at c0 ⊢
  rw [← hs1] at c1 ⊢
  clear hr hr1 hs hs1
  cases r
  all_goals
    go_enter Try.func69, Try.ntmps69
    go_wp2_with fail
    go_quiet (fail)
    go_wp2_with fail
    go_ret
    exact ⟨by simp, below_drewN (Below.refl _ _) _⟩

/-- three boxes of the call's own -/
def P3 (w : World) (c1 c2 c3 : Array Value) (W : World) : Prop := Holds W w.heap.size c1 ∧ Holds W (w.heap.size + 1) c2 ∧ Holds W (w.heap.size + 1 + 1) c3 ∧ Below w.heap.size w W
theorem P3.step {w A B : World} {c1 c2 c3 : Array Value} (h : P3 w c1 c2 c3 A) (hB : Below A.heap.size A B) : P3 w c1 c2 c3 B :=
  ⟨Holds.step h.1 hB, Holds.step h.2.1 hB, Holds.step h.2.2.1 hB, h.2.2.2.trans (hB.mono h.2.2.2.size)⟩
theorem P3.mk0 (w : World) (c1 c2 c3 : Array Value) (t1 t2 t3 : TypeId) : P3 w c1 c2 c3 (((w.alloc (.cells c1 t1)).alloc (.cells c2 t2)).alloc (.cells c3 t3)) := by
  obtain ⟨h1, h2, h3⟩ := tw3 (Below.refl _ (((w.alloc (.cells c1 t1)).alloc (.cells c2 t2)).alloc (.cells c3 t3))) rfl
  exact ⟨h1, h2, h3, (((Below.refl _ _).alloc (Nat.le_refl _) _).alloc (by simp) _).alloc (by simp; omega) _⟩

set_option maxRecDepth 100000 in
set_option maxHeartbeats 8000000 in
theorem pick_good (V : Int) (a : Option Addr) (n c b o : Nat) (T : Nat → TagsE) (ra : Option Addr) (rc rb ro : Nat) (R : Nat → Bool) (k m : Nat) (now : Int) (w : World) (hs : TagsIn w a n c b o T) (hn : n * 16 ≤ 140737488351232) (hr : BoolsIn w ra n rc rb ro R) (hok : vokB V n T = true)
    (hk : firstS R (ltS T) n = some k) (hnow : now = max V (T k).s) (hm2 : firstS (tkN T R now) (ltF T) n = some m) :
    Calls Try.prog 52 #[.agg #[.int .i64 V, .slice a n c], .slice ra n rc] w (PickOut w now n T m true) := by
  have hm := hs.max
  have hl := hs.le
  unfold maxLen at hm
  have hkn := (firstS_some hk).1
  have HQ := Lib.hid (P3.mk0 w #[.int .i64 V, .slice a n c] #[.slice ra n rc] #[.int .i64 0, .slice none 0 0] 99 106 99)
  have HS := Lib.hid hs
  have HR := Lib.hid hr
  have C1 : Hid (∀ W, TagsIn W a n c b o T → Calls Try.prog 65 #[.agg #[.int .i64 V, .slice a n c]] W fun e w' => e = .returned (.bool true) ∧ Below W.heap.size W w') := Lib.hid (fun W h => by rw [← hok]; exact check_any V a n c b o T W h)
  have C2 : Hid (∀ W g, Below w.heap.size w W → W.cell? ⟨g, 0, none⟩ = some (.slice ra n rc) → g < W.heap.size → Calls Try.prog 66 #[.slice a n c, .agg #[.func (.func 67) #[] #[.pointer (some ⟨g, 0, none⟩)], .func (.func 68) #[] #[]]] W fun e w' => e = .returned (.int .i64 k) ∧ Below W.heap.size W w') := Lib.hid (fun W g h1 h2 h3 => by
    have := first_any a n c b o T 67 68 #[.pointer (some ⟨g, 0, none⟩)] R (ltS T) W (hs.below h1) (fun _ _ => rfl) (fun _ _ => rfl)
      (fun X j hX hj => (pick1_any j n g ra rc rb ro R X ((hX.cell (p := ⟨g, 0, none⟩) h3).trans h2) ((hr.below h1).below hX) hj).mono fun e w' ⟨he, hw⟩ => ⟨he, by rw [← hw]; exact Below.refl _ _⟩)
      (fun X i j _ _ => pick2_any _ _ _ _ X)
    rwa [firstI_some hk] at this)
  have C3 : Hid (∀ W g vg ng, Below w.heap.size w W → W.cell? ⟨g, 0, none⟩ = some (.slice ra n rc) → g < W.heap.size → W.cell? ⟨vg, 1, none⟩ = some (.slice a n c) → vg < W.heap.size → W.cell? ⟨ng, 0, none⟩ = some (.int .i64 now) → ng < W.heap.size →
      Calls Try.prog 66 #[.slice a n c, .agg #[.func (.func 69) #[] #[.pointer (some ⟨g, 0, none⟩), .pointer (some ⟨vg, 0, none⟩), .pointer (some ⟨ng, 0, none⟩)], .func (.func 70) #[] #[]]] W fun e w' => e = .returned (.int .i64 m) ∧ Below W.heap.size W w') := Lib.hid (fun W g vg ng h1 h2 h3 h4 h5 h6 h7 => by
    have := first_any a n c b o T 69 70 #[.pointer (some ⟨g, 0, none⟩), .pointer (some ⟨vg, 0, none⟩), .pointer (some ⟨ng, 0, none⟩)] (tkN T R now) (ltF T) W (hs.below h1) (fun _ _ => rfl) (fun _ _ => rfl)
      (fun X j hX hj => pick3_any j n g vg ng V now ra rc rb ro R a c b o T X ((hX.cell (p := ⟨g, 0, none⟩) h3).trans h2) ((hr.below h1).below hX) ((hX.cell (p := ⟨vg, 1, none⟩) h5).trans h4) ((hs.below h1).below hX) ((hX.cell (p := ⟨ng, 0, none⟩) h7).trans h6) hj)
      (fun X i j _ _ => pick4_any _ _ _ _ X)
    rwa [firstI_some hm2] at this)
  have C4 := Lib.hid (fun W h => twin_any V a n c b o T W h hn)
  obtain ⟨e0, e1⟩ := hs.at_ (by omega)
  obtain ⟨s, hs1⟩ : ∃ s, s = (T k).s := ⟨_, rfl⟩
  have HKK : Hid (∀ W, Below w.heap.size w W → W.cell? ⟨b, o + k * 2, none⟩ = some (.int .i64 s)) := Lib.hid (fun W h => by rw [hs1]; exact ((hs.below h).cell k hkn).1)
  rw [← hs1] at hnow
  have hif : (if V < s then s else V) = now := by rw [hnow]; split <;> omega
  have bk : decide ((k : Int) < 0) = false := by simp
  clear hs hr hok hk hm2 hs1 hnow
  subst e0
  go_enter Try.func52, Try.ntmps52
  go_wp2_with (first
    | (go_at_call 65; refine Calls.mono (C1.out _ (HS.out.below HQ.out.2.2.2)) ?_; rintro e W1 ⟨rfl, hW1⟩; have HQ1 := Lib.hid (HQ.out.step hW1); have r0 := HQ1.out.1.1; have z0 := HQ1.out.1.2.2; have r1 := HQ1.out.2.1.1; have z1 := HQ1.out.2.1.2.2)
    | (go_at_call 66; refine Calls.mono (C2.out _ _ HQ1.out.2.2.2 (HQ1.out.2.1.1 0) HQ1.out.2.1.2.2) ?_; rintro e W2 ⟨rfl, hW2⟩; have HQ2 := Lib.hid (HQ1.out.step hW2); clear r0 z0 r1 z1; have r0 : W2.cell? ⟨w.heap.size, 0, none⟩ = some (.int .i64 V) := HQ2.out.1.1 0; have r1 : W2.cell? ⟨w.heap.size, 1, none⟩ = some (.slice (some ⟨b, o, none⟩) n c) := HQ2.out.1.1 1; have r2 := HKK.out _ HQ2.out.2.2.2; have z0 := HQ2.out.1.2.2; have z1 := HQ2.out.2.1.2.2; have z2 := HQ2.out.2.2.1.2.2; have z3 : b < W2.heap.size := Nat.lt_of_lt_of_le e1 HQ2.out.2.2.2.size))
  go_upto_region 6 with fail
  go_cut [8] (fun x wx => x = .pointer (some ⟨W2.heap.size, 0, none⟩) ∧ wx = (W2.alloc (.cells #[.int .i64 now] 3)).drew)
  case first =>
    go_region_held3 (fun X => X.cell? ⟨w.heap.size, 0, none⟩ = some (.int .i64 V) ∧ X.cell? ⟨w.heap.size, 1, none⟩ = some (.slice (some ⟨b, o, none⟩) n c) ∧ X.cell? ⟨b, o + k * 2, none⟩ = some (.int .i64 s)) (first | with_reducible exact ⟨r0, r1, r2⟩ | go_keep) (fail)
    all_goals
      go_wp2_with fail
      go_meet
      exact ⟨rfl, rfl⟩
  case rest =>
    obtain ⟨rfl, rfl⟩ := hcut
    have hN := tw1 (n := W2.heap.size) (Below.refl _ (W2.alloc (.cells #[.int .i64 now] 3))).drew rfl
    have hB3 : Below W2.heap.size W2 (W2.alloc (.cells #[.int .i64 now] 3)).drew := ((Below.refl _ _).alloc (Nat.le_refl _) _).drew
    obtain ⟨W3, hW3⟩ : ∃ W3, W3 = (W2.alloc (.cells #[.int .i64 now] 3)).drew := ⟨_, rfl⟩
    rw [← hW3] at hN hB3 ⊢
    have HQ3 := Lib.hid (HQ2.out.step hB3)
    have HN := Lib.hid hN
    have hsz : w.heap.size + 1 + 1 < W2.heap.size := z2
    clear r0 r1 r2 z0 z1 z2 z3 hN hB3 hW3
    have r0 : W3.cell? ⟨w.heap.size, 0, none⟩ = some (.int .i64 V) := HQ3.out.1.1 0
    have r1 : W3.cell? ⟨w.heap.size, 1, none⟩ = some (.slice (some ⟨b, o, none⟩) n c) := HQ3.out.1.1 1
    have z0 := HQ3.out.1.2.2
    go_wp2_with (go_at_call 66; refine Calls.mono (C3.out _ _ _ _ HQ3.out.2.2.2 (HQ3.out.2.1.1 0) HQ3.out.2.1.2.2 (HQ3.out.1.1 1) HQ3.out.1.2.2 (HN.out.1 0) HN.out.2.2) ?_; rintro e W4 ⟨rfl, hW4⟩; have HQ4 := Lib.hid (HQ3.out.step hW4); have HN4 := Lib.hid (Holds.step HN.out hW4); clear r0 r1 z0; have r0 : W4.cell? ⟨w.heap.size, 0, none⟩ = some (.int .i64 V) := HQ4.out.1.1 0; have r1 : W4.cell? ⟨w.heap.size, 1, none⟩ = some (.slice (some ⟨b, o, none⟩) n c) := HQ4.out.1.1 1; have z0 := HQ4.out.1.2.2)
    go_at_call 71
    refine Calls.mono (C4.out _ (HS.out.below HQ4.out.2.2.2)) ?_
    rintro e W5 ⟨v5, rfl, hV5⟩
    obtain ⟨a5, c5, ob5, rfl, hR5, hO5, hB5⟩ := hV5
    have HQ5 := Lib.hid (HQ4.out.step hB5)
    have HN5 := Lib.hid (Holds.step HN4.out hB5)
    have HRR := Lib.hid hR5
    have HOO := Lib.hid hO5
    clear r0 r1 z0 hR5 hO5 hB5
    have x0 := HQ5.out.1.1
    have x1 := HQ5.out.1.2.1
    have x2 := HQ5.out.1.2.2
    have y0 := HQ5.out.2.2.1.1
    have y1 := HQ5.out.2.2.1.2.1
    have y2 := HQ5.out.2.2.1.2.2
    have n0 : W5.cell? ⟨W2.heap.size, 0, none⟩ = some (.int .i64 now) := HN5.out.1 0
    have n1 := HN5.out.2.2
    have q1 : (W2.heap.size = w.heap.size) = False := eq_false (by omega)
    have q2 : (w.heap.size = W2.heap.size) = False := eq_false (by omega)
    have q3 : (w.heap.size = w.heap.size + 1 + 1) = False := eq_false (by omega)
    have q4 : (w.heap.size + 1 + 1 = w.heap.size) = False := eq_false (by omega)
    have hsz5 := HQ4.out.2.2.1.2.2
    go_wp2_with fail
    refine bodyPost_ret (v := .tuple #[.agg #[.int .i64 now, .slice a5 n c5], .int .i64 m, .bool true]) (by simp [results, Try.results52, go_sem, x0, x1, x2, y0, y1, y2, q3, q4]) rfl ⟨_, rfl, a5, c5, ob5, rfl, ?_, ?_, ?_⟩
    · refine HRR.out.congr fun g e => ?_
      have := HOO.out g e
      repeat rw [heap_setCell_ne _ _ _ _ (by simp only; omega)]
    · exact fun g e => by have := HOO.out g e; omega
    · exact ((((HQ5.out.2.2.2.setCell (by simp only; omega) _).setCell (by simp only; omega) _).setCell (by simp only; omega) _).setCell (by simp only; omega) _).setCell (by simp only; omega) _
end Go.Proofs.Ytoodmocapagapaa
namespace Go.Proofs.Ytoodmocapagapaa
open Go.RowKit
set_option linter.unusedSimpArgs false
set_option linter.unusedVariables false

set_option maxRecDepth 100000 in
set_option maxHeartbeats 8000000 in
theorem pick_bad (V : Int) (a : Option Addr) (n c b o : Nat) (T : Nat → TagsE) (ra : Option Addr) (rn rc : Nat) (w : World) (hs : TagsIn w a n c b o T) (hrl : rn ≤ rc) (hrm : rc ≤ maxLen) (hh : vokB V n T = false ∨ (vokB V n T = true ∧ rn ≠ n)) :
    Calls Try.prog 52 #[.agg #[.int .i64 V, .slice a n c], .slice ra rn rc] w (PickOut w 0 0 zeroT 0 false) := by
  have hm := hs.max
  have hl := hs.le
  unfold maxLen at hm hrm
  have HQ := Lib.hid (P3.mk0 w #[.int .i64 V, .slice a n c] #[.slice ra rn rc] #[.int .i64 0, .slice none 0 0] 99 106 99)
  have HS := Lib.hid hs
  obtain ⟨C, hC⟩ : ∃ C, C = vokB V n T := ⟨_, rfl⟩
  have C1 : Hid (∀ W, TagsIn W a n c b o T → Calls Try.prog 65 #[.agg #[.int .i64 V, .slice a n c]] W fun e w' => e = .returned (.bool C) ∧ Below W.heap.size W w') := Lib.hid (fun W h => by rw [hC]; exact check_any V a n c b o T W h)
  rw [← hC] at hh
  have hb : rn ≠ n → ((rn : Int) != (n : Int)) = true := fun h => by rw [bne_iff_ne]; omega
  clear hs hC
  rcases hh with rfl | ⟨rfl, h⟩
  · clear hb
    go_enter Try.func52, Try.ntmps52
    go_wp2_with (go_at_call 65; refine Calls.mono (C1.out _ (HS.out.below HQ.out.2.2.2)) ?_; rintro e W1 ⟨rfl, hW1⟩; have HQ1 := Lib.hid (HQ.out.step hW1); have r0 := HQ1.out.1.1; have z0 := HQ1.out.1.2.2; have r1 := HQ1.out.2.1.1; have z1 := HQ1.out.2.1.2.2; have y0 := HQ1.out.2.2.1.1; have y1 := HQ1.out.2.2.1.2.1; have y2 := HQ1.out.2.2.1.2.2)
    refine bodyPost_ret (v := .tuple #[.agg #[.int .i64 0, .slice none 0 0], .int .i64 0, .bool false]) (by simp [results, Try.results52, go_sem, y0, y1, y2]) rfl ⟨_, rfl, none, 0, none, rfl, Row.nil _ _ _, (fun _ h => by cases h), ?_⟩
    exact (HQ1.out.2.2.2.setCell (by simp only; omega) _).setCell (by simp only; omega) _
  · have hne := hb h
    have hne2 : decide ((rn : Nat) = n) = false := by simpa using h
    clear hb
    go_enter Try.func52, Try.ntmps52
    go_wp2_with (go_at_call 65; refine Calls.mono (C1.out _ (HS.out.below HQ.out.2.2.2)) ?_; rintro e W1 ⟨rfl, hW1⟩; have HQ1 := Lib.hid (HQ.out.step hW1); have r0 := HQ1.out.1.1; have z0 := HQ1.out.1.2.2; have r1 := HQ1.out.2.1.1; have z1 := HQ1.out.2.1.2.2; have y0 := HQ1.out.2.2.1.1; have y1 := HQ1.out.2.2.1.2.1; have y2 := HQ1.out.2.2.1.2.2)
    refine bodyPost_ret (v := .tuple #[.agg #[.int .i64 0, .slice none 0 0], .int .i64 0, .bool false]) (by simp [results, Try.results52, go_sem, y0, y1, y2]) rfl ⟨_, rfl, none, 0, none, rfl, Row.nil _ _ _, (fun _ h => by cases h), ?_⟩
    exact (HQ1.out.2.2.2.setCell (by simp only; omega) _).setCell (by simp only; omega) _

set_option maxRecDepth 100000 in
set_option maxHeartbeats 8000000 in
theorem pick_none (V : Int) (a : Option Addr) (n c b o : Nat) (T : Nat → TagsE) (ra : Option Addr) (rc rb ro : Nat) (R : Nat → Bool) (w : World) (hs : TagsIn w a n c b o T) (hr : BoolsIn w ra n rc rb ro R) (hok : vokB V n T = true) (hk : firstS R (ltS T) n = none) :
    Calls Try.prog 52 #[.agg #[.int .i64 V, .slice a n c], .slice ra n rc] w (PickOut w 0 0 zeroT 0 false) := by
  have hm := hs.max
  have hl := hs.le
  unfold maxLen at hm
  have HQ := Lib.hid (P3.mk0 w #[.int .i64 V, .slice a n c] #[.slice ra n rc] #[.int .i64 0, .slice none 0 0] 99 106 99)
  have HS := Lib.hid hs
  have C1 : Hid (∀ W, TagsIn W a n c b o T → Calls Try.prog 65 #[.agg #[.int .i64 V, .slice a n c]] W fun e w' => e = .returned (.bool true) ∧ Below W.heap.size W w') := Lib.hid (fun W h => by rw [← hok]; exact check_any V a n c b o T W h)
  have C2 : Hid (∀ W g, Below w.heap.size w W → W.cell? ⟨g, 0, none⟩ = some (.slice ra n rc) → g < W.heap.size → Calls Try.prog 66 #[.slice a n c, .agg #[.func (.func 67) #[] #[.pointer (some ⟨g, 0, none⟩)], .func (.func 68) #[] #[]]] W fun e w' => e = .returned (.int .i64 (-1)) ∧ Below W.heap.size W w') := Lib.hid (fun W g h1 h2 h3 => by
    have := first_any a n c b o T 67 68 #[.pointer (some ⟨g, 0, none⟩)] R (ltS T) W (hs.below h1) (fun _ _ => rfl) (fun _ _ => rfl)
      (fun X j hX hj => (pick1_any j n g ra rc rb ro R X ((hX.cell (p := ⟨g, 0, none⟩) h3).trans h2) ((hr.below h1).below hX) hj).mono fun e w' ⟨he, hw⟩ => ⟨he, by rw [← hw]; exact Below.refl _ _⟩)
      (fun X i j _ _ => pick2_any _ _ _ _ X)
    rwa [firstI_none hk] at this)
  clear hs hr hok hk
  go_enter Try.func52, Try.ntmps52
  go_wp2_with (first
    | (go_at_call 65; refine Calls.mono (C1.out _ (HS.out.below HQ.out.2.2.2)) ?_; rintro e W1 ⟨rfl, hW1⟩; have HQ1 := Lib.hid (HQ.out.step hW1); have r0 := HQ1.out.1.1; have z0 := HQ1.out.1.2.2; have r1 := HQ1.out.2.1.1; have z1 := HQ1.out.2.1.2.2)
    | (go_at_call 66; refine Calls.mono (C2.out _ _ HQ1.out.2.2.2 (HQ1.out.2.1.1 0) HQ1.out.2.1.2.2) ?_; rintro e W2 ⟨rfl, hW2⟩; have HQ2 := Lib.hid (HQ1.out.step hW2); clear r0 z0 r1 z1; have y0 := HQ2.out.2.2.1.1; have y1 := HQ2.out.2.2.1.2.1; have y2 := HQ2.out.2.2.1.2.2))
  refine bodyPost_ret (v := .tuple #[.agg #[.int .i64 0, .slice none 0 0], .int .i64 0, .bool false]) (by simp [results, Try.results52, go_sem, y0, y1, y2]) rfl ⟨_, rfl, none, 0, none, rfl, Row.nil _ _ _, (fun _ h => by cases h), ?_⟩
  exact (HQ2.out.2.2.2.setCell (by simp only; omega) _).setCell (by simp only; omega) _

/-- what is picked -/
def PickP (w : World) (V : Int) (n : Nat) (T : Nat → TagsE) (rn : Nat) (R : Nat → Bool) (e : Ending) (w' : World) : Prop :=
  if vokB V n T = true ∧ rn = n then match firstS R (ltS T) n with
    | none => PickOut w 0 0 zeroT 0 false e w'
    | some k => PickOut w (max V (T k).s) n T (firstI (tkN T R (max V (T k).s)) (ltF T) n) true e w'
  else PickOut w 0 0 zeroT 0 false e w'

theorem pick_any (V : Int) (a : Option Addr) (n c b o : Nat) (T : Nat → TagsE) (ra : Option Addr) (rn rc rb ro : Nat) (R : Nat → Bool) (w : World) (hs : TagsIn w a n c b o T) (hn : n * 16 ≤ 140737488351232) (hr : BoolsIn w ra rn rc rb ro R) :
    Calls Try.prog 52 #[.agg #[.int .i64 V, .slice a n c], .slice ra rn rc] w (PickP w V n T rn R) := by
  by_cases hc : vokB V n T = true ∧ rn = n
  · obtain ⟨hok, rfl⟩ := hc
    cases hk : firstS R (ltS T) rn with
    | none => exact (pick_none V a rn c b o T ra rc rb ro R w hs hr hok hk).mono fun e w' h => by unfold PickP; rw [if_pos ⟨hok, rfl⟩, hk]; exact h
    | some k =>
      obtain ⟨m, hm⟩ := second_some (V := V) hk
      exact (pick_good V a rn c b o T ra rc rb ro R k m _ w hs hn hr hok hk rfl hm).mono fun e w' h => by unfold PickP; rw [if_pos ⟨hok, rfl⟩, hk]; simp only; rw [firstI_some hm]; exact h
  · refine (pick_bad V a n c b o T ra rn rc w hs hr.le hr.max ?_).mono fun e w' h => by unfold PickP; rw [if_neg hc]; exact h
    cases hv : vokB V n T
    · exact .inl rfl
    · exact .inr ⟨rfl, fun h => hc ⟨hv, h⟩⟩

/-- what a flow's serving comes to -/
def serveB (V : Int) (n : Nat) (T : Nat → TagsE) (s : Int) : Bool := vokB V n T && decide (1 ≤ s) && decide (s ≤ 1500) && decide (V ≤ 1152921504606846976 - s * 720720)
def ServeP (w : World) (V : Int) (n : Nat) (T : Nat → TagsE) (s : Int) (e : Ending) (w' : World) : Prop :=
  match serveB V n T s with
  | true => VRes w (V + s * 720720) n T 0 e w'
  | false => VRes w 0 0 zeroT 2 e w'
theorem serve_cases (V : Int) (n : Nat) (T : Nat → TagsE) (s : Int) :
    (serveB V n T s = false ∧ (vokB V n T = false ∨ (vokB V n T = true ∧ s < 1) ∨ (vokB V n T = true ∧ 1 ≤ s ∧ 1500 < s) ∨ (vokB V n T = true ∧ 1 ≤ s ∧ s ≤ 1500 ∧ 1152921504606846976 - s * 720720 < V))) ∨
    (serveB V n T s = true ∧ vokB V n T = true ∧ 1 ≤ s ∧ s ≤ 1500 ∧ V ≤ 1152921504606846976 - s * 720720) := by
  unfold serveB
  cases hv : vokB V n T
  · exact .inl ⟨by simp, .inl rfl⟩
  · by_cases h1 : s < 1
    · exact .inl ⟨by simp; omega, .inr (.inl ⟨rfl, h1⟩)⟩
    · by_cases h2 : 1500 < s
      · exact .inl ⟨by simp; omega, .inr (.inr (.inl ⟨rfl, by omega, h2⟩))⟩
      · by_cases h3 : 1152921504606846976 - s * 720720 < V
        · exact .inl ⟨by simp; omega, .inr (.inr (.inr ⟨rfl, by omega, by omega, h3⟩))⟩
        · exact .inr ⟨by simp; omega, rfl, by omega, by omega, by omega⟩
theorem vok_V {V : Int} {n : Nat} {T : Nat → TagsE} (h : vokB V n T = true) : 0 ≤ V ∧ V ≤ 1152921504606846976 := by
  unfold vokB timeB at h
  simp at h
  omega

set_option maxRecDepth 100000 in
set_option maxHeartbeats 8000000 in
theorem serve_any (V : Int) (a : Option Addr) (n c b o : Nat) (T : Nat → TagsE) (s : Int) (w : World) (hs : TagsIn w a n c b o T) (hn : n * 16 ≤ 140737488351232) :
    Calls Try.prog 54 #[.agg #[.int .i64 V, .slice a n c], .int .i64 s] w (ServeP w V n T s) := by
  unfold ServeP
  have HQ := Lib.hid (VB2.mk0 w #[.int .i64 V, .slice a n c] #[.int .i64 0, .slice none 0 0] 99 99)
  have HS := Lib.hid hs
  obtain ⟨C, hC⟩ : ∃ C, C = vokB V n T := ⟨_, rfl⟩
  have C1 : Hid (∀ W, TagsIn W a n c b o T → Calls Try.prog 65 #[.agg #[.int .i64 V, .slice a n c]] W fun e w' => e = .returned (.bool C) ∧ Below W.heap.size W w') := Lib.hid (fun W h => by rw [hC]; exact check_any V a n c b o T W h)
  have C3 := Lib.hid (fun W h => twin_any V a n c b o T W h hn)
  rcases serve_cases V n T s with ⟨hG, hh⟩ | ⟨hG, hv, h1, h2, h3⟩
  · rw [hG]
    simp only
    rw [← hC] at hh
    clear hs hC hG C3
    rcases hh with rfl | ⟨rfl, h⟩ | ⟨rfl, h, h2⟩ | ⟨rfl, h, h2, h3⟩
    all_goals
      go_enter Try.func54, Try.ntmps54
      go_wp2_with (go_at_call 65; refine Calls.mono (C1.out _ (HS.out.below HQ.out.2.2)) ?_; rintro e W1 ⟨rfl, hW1⟩; have HQ1 := Lib.hid (HQ.out.step hW1); have r0 := HQ1.out.1.1; have y0 := HQ1.out.1.2.1; have z0 := HQ1.out.1.2.2; have r1 := HQ1.out.2.1.1; have y1 := HQ1.out.2.1.2.1; have z1 := HQ1.out.2.1.2.2)
      refine bodyPost_ret (v := .tuple #[.agg #[.int .i64 0, .slice none 0 0], .int .i64 2]) (by simp [results, Try.results54, go_sem, z1, r1, y1]) rfl ⟨_, rfl, none, 0, none, rfl, Row.nil _ _ _, (fun _ h => by cases h), ?_⟩
      exact (HQ1.out.2.2.setCell (by simp only; omega) _).setCell (by simp only; omega) _
  · rw [hG]
    simp only
    rw [hv] at hC
    subst hC
    have hVV := vok_V hv
    have b1 : decide (1152921504606846976 - s * 720720 < V) = false := by simp; omega
    clear hs hG hv
    go_enter Try.func54, Try.ntmps54
    go_wp2_with (go_at_call 65; refine Calls.mono (C1.out _ (HS.out.below HQ.out.2.2)) ?_; rintro e W1 ⟨rfl, hW1⟩; have HQ1 := Lib.hid (HQ.out.step hW1); have r0 := HQ1.out.1.1; have y0 := HQ1.out.1.2.1; have z0 := HQ1.out.1.2.2; have r1 := HQ1.out.2.1.1; have y1 := HQ1.out.2.1.2.1; have z1 := HQ1.out.2.1.2.2)
    go_at_call 71
    refine Calls.mono (C3.out _ (HS.out.below HQ1.out.2.2)) ?_
    rintro e W5 ⟨v5, rfl, hV5⟩
    obtain ⟨a5, c5, ob5, rfl, hR5, hO5, hB5⟩ := hV5
    have HQ5 := Lib.hid (HQ1.out.step hB5)
    have HRR := Lib.hid hR5
    have HOO := Lib.hid hO5
    have zz := HQ1.out.2.1.2.2
    clear r0 y0 z0 r1 y1 z1 hR5 hO5 hB5
    have x0 := HQ5.out.1.1
    have x1 := HQ5.out.1.2.1
    have x2 := HQ5.out.1.2.2
    have y0 := HQ5.out.2.1.1
    have y1 := HQ5.out.2.1.2.1
    have y2 := HQ5.out.2.1.2.2
    have q7 : (w.heap.size + 1 = W5.heap.size) = False := eq_false (by omega)
    have q8 : (W5.heap.size = w.heap.size + 1) = False := eq_false (by omega)
    go_wp2_with fail
    refine bodyPost_ret (v := .tuple #[.agg #[.int .i64 (V + s * 720720), .slice a5 n c5], .int .i64 0]) (by simp [results, Try.results54, go_sem, x0, x1, x2, y0, y1, y2, q7, q8]) rfl ⟨_, rfl, a5, c5, ob5, rfl, ?_, ?_, ?_⟩
    · refine HRR.out.congr fun g e => ?_
      have := HOO.out g e
      repeat rw [heap_setCell_ne _ _ _ _ (by simp only; omega)]
    · exact fun g e => by have := HOO.out g e; omega
    · exact ((((HQ5.out.2.2.setCell (by simp only; omega) _).setCell (by simp only; omega) _).setCell (by simp only; omega) _).setCell (by simp only; omega) _).setCell (by simp only; omega) _

end Go.Proofs.Ytoodmocapagapaa
namespace Go.Proofs.Ytoodmocapagapaa
open Go.RowKit
set_option linter.unusedSimpArgs false
set_option linter.unusedVariables false

def rebE (off : Int) (t : TagsE) : TagsE := ⟨max t.s off - off, max t.f off - off⟩
def rebT (T : Nat → TagsE) (off : Int) (k : Nat) (j : Nat) : TagsE := if j < k then rebE off (T j) else T j
theorem rebT_step {T : Nat → TagsE} {off : Int} {k : Nat} {s f : Int} (h : rebE off (T k) = ⟨s, f⟩) (n : Nat) : tagsL (updT (rebT T off k) k ⟨s, f⟩) n = tagsL (rebT T off (k + 1)) n := by
  refine tagsL_congr fun j _ => ?_
  unfold updT rebT
  by_cases hj : j = k
  · rw [if_pos hj, if_pos (by omega), ← h, hj]
  · rw [if_neg hj]
    by_cases h2 : j < k
    · rw [if_pos h2, if_pos (by omega)]
    · rw [if_neg h2, if_neg (by omega)]
theorem rebT_zero (T : Nat → TagsE) (off : Int) (n : Nat) : tagsL (rebT T off 0) n = tagsL T n := tagsL_congr fun j _ => by unfold rebT; rw [if_neg (by omega)]
/-- is a time brought down? -/
def lateB (V : Int) (n : Nat) (T : Nat → TagsE) : Bool := vokB V n T && decide (1125899906842624 < V)
def RebP (w : World) (V : Int) (n : Nat) (T : Nat → TagsE) (e : Ending) (w' : World) : Prop := ∃ v, e = .returned v ∧ match lateB V n T with
  | true => VOut w w' v 1099511627776 n (rebT T (V - 1099511627776) n)
  | false => VOut w w' v V n T
theorem reb_ok {T : Nat → TagsE} {off : Int} {n : Nat} (h0 : 0 ≤ off) (h1 : off ≤ 1152921504606846976) (hT : ∀ k, k < n → (T k).ok) (k : Nat) (hk : k < n) : (rebT T off n k).ok := by
  have := hT k hk
  unfold rebT
  rw [if_pos hk]
  unfold TagsE.ok at this ⊢
  unfold rebE
  simp only
  omega

set_option maxRecDepth 100000 in
set_option maxHeartbeats 8000000 in
theorem rebase_keep (V : Int) (a : Option Addr) (n c b o : Nat) (T : Nat → TagsE) (w : World) (hs : TagsIn w a n c b o T) (hn : n * 16 ≤ 140737488351232) (hh : vokB V n T = false ∨ (vokB V n T = true ∧ V ≤ 1125899906842624)) :
    Calls Try.prog 55 #[.agg #[.int .i64 V, .slice a n c]] w fun e w' => ∃ v, e = .returned v ∧ VOut w w' v V n T := by
  have HQ := Lib.hid (VB2.mk0 w #[.int .i64 V, .slice a n c] #[.int .i64 0, .slice none 0 0] 99 99)
  have HS := Lib.hid hs
  obtain ⟨C, hC⟩ : ∃ C, C = vokB V n T := ⟨_, rfl⟩
  have C1 : Hid (∀ W, TagsIn W a n c b o T → Calls Try.prog 65 #[.agg #[.int .i64 V, .slice a n c]] W fun e w' => e = .returned (.bool C) ∧ Below W.heap.size W w') := Lib.hid (fun W h => by rw [hC]; exact check_any V a n c b o T W h)
  have C3 := Lib.hid (fun W h => twin_any V a n c b o T W h hn)
  rw [← hC] at hh
  clear hs hC
  rcases hh with rfl | ⟨rfl, h⟩
  all_goals
    go_enter Try.func55, Try.ntmps55
    go_wp2_with fail
    go_at_call 71
    refine Calls.mono (C3.out _ (HS.out.below HQ.out.2.2)) ?_
    rintro e W1 ⟨v1, rfl, hV1⟩
    obtain ⟨a2, c2, ob2, rfl, hR, hO, hB⟩ := hV1
    have HQ1 := Lib.hid (HQ.out.step hB)
    have hy : Below W1.heap.size W1 (W1.alloc (.cells #[.int .i64 V, .slice a2 n c2] 99)) := (Below.refl _ _).alloc (Nat.le_refl _) _
    have HQ2 := Lib.hid (HQ1.out.step hy)
    have HR := Lib.hid hR
    have HO := Lib.hid hO
    have r0 : W1.cell? ⟨w.heap.size, 0, none⟩ = some (.int .i64 V) := HQ1.out.1.1 0
    have r1 : W1.cell? ⟨w.heap.size, 1, none⟩ = some (.slice a n c) := HQ1.out.1.1 1
    have z0 := HQ1.out.1.2.2
    have zz := HQ1.out.2.1.2.2
    clear hR hO hB hy
    go_wp2_with fail
    go_at_call 65
    refine Calls.mono (C1.out _ (HS.out.below HQ2.out.2.2)) ?_
    rintro e W3 ⟨rfl, hB3⟩
    have hx := tw1 (n := W1.heap.size) hB3 rfl
    have HQ3 := Lib.hid (HQ2.out.step hB3)
    have HB3 := Lib.hid hB3
    have x0 := hx.1
    have x1 := hx.2.1
    have x2 := hx.2.2
    clear r0 r1 z0 hx hB3
    have r0 : W3.cell? ⟨w.heap.size, 0, none⟩ = some (.int .i64 V) := HQ3.out.1.1 0
    have z0 := HQ3.out.1.2.2
    have y0 := HQ3.out.2.1.1
    have y1 := HQ3.out.2.1.2.1
    have y2 := HQ3.out.2.1.2.2
    go_wp2_with fail
    refine bodyPost_ret (v := .agg #[.int .i64 V, .slice a2 n c2]) (by simp [results, Try.results55, go_sem, y0, y1, y2]) rfl ⟨_, rfl, a2, c2, ob2, rfl, ?_, ?_, ?_⟩
    · refine HR.out.congr fun g e => ?_
      have := HO.out g e
      have hlt : g < W1.heap.size := by subst e; exact HR.out.lt
      simp only [World.size_alloc] at this
      rw [heap_setCell_ne _ _ _ _ (by simp only; omega), heap_setCell_ne _ _ _ _ (by simp only; omega), HB3.out.block _ (by simp; omega), Below.heap_alloc _ _ _ hlt]
    · exact fun g e => by have := HO.out g e; simp only [World.size_alloc] at this; omega
    · exact (HQ3.out.2.2.setCell (by simp only; omega) _).setCell (by simp only; omega) _

theorem Holds.other {X : World} {n : Nat} {c : Array Value} (h : Holds X n c) (b j : Nat) (u : Value) (hb : b ≠ n) : Holds (X.setCell ⟨b, j, none⟩ u) n c :=
  ⟨fun i => (World.cell?_of_block (a := ⟨n, i, none⟩) (heap_setCell_ne X ⟨b, j, none⟩ u n (by simp only; omega))).trans (h.1 i), fun i => by
    have := h.2.1 i
    unfold World.frozen? at this ⊢
    rw [heap_setCell_ne X ⟨b, j, none⟩ u n (by simp only; omega)]
    exact this, by have := h.2.2; simpa using this⟩
/-- times on their way down -/
def RebR (w W1 : World) (V : Int) (a : Option Addr) (n c : Nat) (a2 : Option Addr) (c2 : Nat) (ob2 : Option Nat) (T : Nat → TagsE) (off : Int) (B : Int) (k : Nat) (wr : World) : Prop :=
  Row wr (.slice a2 n c2) ob2 129 2 n (tagsL (rebT T off k) n) ∧ Holds wr w.heap.size #[.int .i64 V, .slice a n c] ∧ Holds wr (w.heap.size + 1) #[.int .i64 0, .slice none 0 0] ∧ Holds wr W1.heap.size #[.int .i64 B, .slice a2 n c2] ∧ Below w.heap.size w wr

set_option maxRecDepth 100000 in
set_option maxHeartbeats 8000000 in
theorem rebase_down (V : Int) (a : Option Addr) (n c b o : Nat) (T : Nat → TagsE) (w : World) (hs : TagsIn w a n c b o T) (hn : n * 16 ≤ 140737488351232) (hv : vokB V n T = true) (hV : 1125899906842624 < V) :
    Calls Try.prog 55 #[.agg #[.int .i64 V, .slice a n c]] w fun e w' => ∃ v, e = .returned v ∧ VOut w w' v 1099511627776 n (rebT T (V - 1099511627776) n) := by
  have hm := hs.max
  have hl := hs.le
  unfold maxLen at hm
  have hVV := vok_V hv
  have HV := Lib.hid hv
  have HQ := Lib.hid (VB2.mk0 w #[.int .i64 V, .slice a n c] #[.int .i64 0, .slice none 0 0] 99 99)
  have HS := Lib.hid hs
  have C1 : Hid (∀ W, TagsIn W a n c b o T → Calls Try.prog 65 #[.agg #[.int .i64 V, .slice a n c]] W fun e w' => e = .returned (.bool true) ∧ Below W.heap.size W w') := Lib.hid (fun W h => by rw [← hv]; exact check_any V a n c b o T W h)
  have C3 := Lib.hid (fun W h => twin_any V a n c b o T W h hn)
  clear hs hv
  go_enter Try.func55, Try.ntmps55
  go_wp2_with fail
  go_at_call 71
  refine Calls.mono (C3.out _ (HS.out.below HQ.out.2.2)) ?_
  rintro e W1 ⟨v1, rfl, hV1⟩
  obtain ⟨a2, c2, ob2, rfl, hR, hO, hB⟩ := hV1
  have HQ1 := Lib.hid (HQ.out.step hB)
  have hy : Below W1.heap.size W1 (W1.alloc (.cells #[.int .i64 V, .slice a2 n c2] 99)) := (Below.refl _ _).alloc (Nat.le_refl _) _
  have HQ2 := Lib.hid (HQ1.out.step hy)
  have HR := Lib.hid hR
  have HO := Lib.hid hO
  have r0 : W1.cell? ⟨w.heap.size, 0, none⟩ = some (.int .i64 V) := HQ1.out.1.1 0
  have r1 : W1.cell? ⟨w.heap.size, 1, none⟩ = some (.slice a n c) := HQ1.out.1.1 1
  have z0 := HQ1.out.1.2.2
  have zz := HQ1.out.2.1.2.2
  have hcap : n ≤ c2 ∧ c2 ≤ maxLen := by obtain ⟨_, _, he, h1, h2, _⟩ := hR.shape; injection he with _ _ h3; subst h3; exact ⟨h1, h2⟩
  obtain ⟨hc1, hc2⟩ := hcap
  unfold maxLen at hc2
  clear hR hO hB hy
  go_wp2_with fail
  go_at_call 65
  refine Calls.mono (C1.out _ (HS.out.below HQ2.out.2.2)) ?_
  rintro e W3 ⟨rfl, hB3⟩
  have hx := tw1 (n := W1.heap.size) hB3 rfl
  have HQ3 := Lib.hid (HQ2.out.step hB3)
  have hR3 : Row W3 (.slice a2 n c2) ob2 129 2 n (tagsL T n) := HR.out.congr fun g e => by
    have hlt : g < W1.heap.size := by subst e; exact HR.out.lt
    rw [hB3.block _ (by simp; omega), Below.heap_alloc _ _ _ hlt]
  have HR3 := Lib.hid hR3
  have HX := Lib.hid hx
  have x0 : W3.cell? ⟨W1.heap.size, 0, none⟩ = some (.int .i64 V) := hx.1 0
  have x1 : W3.cell? ⟨W1.heap.size, 1, none⟩ = some (.slice a2 n c2) := hx.1 1
  have x2 := hx.2.2
  clear r0 r1 z0 hx hB3 hR3
  have r0 : W3.cell? ⟨w.heap.size, 0, none⟩ = some (.int .i64 V) := HQ3.out.1.1 0
  have z0 := HQ3.out.1.2.2
  have b1 : decide (V ≤ 1125899906842624) = false := by simp; omega
  have hOb : ∀ g, ob2 = some g → w.heap.size + 1 < g ∧ g < W1.heap.size := fun g e => by
    have := HO.out g e
    simp only [World.size_alloc] at this
    have hlt : g < W1.heap.size := by subst e; exact HR.out.lt
    omega
  have HOB := Lib.hid hOb
  clear hOb
  go_wp2_with fail
  go_loopw [24] (fun i wr => ∃ k : Nat, k ≤ n ∧ i = .int .i64 k ∧ RebR w W1 V a n c a2 c2 ob2 T (V - 1099511627776) V k wr) (fun i _ => n - (intOf i).toNat)
  case atStart => exact ⟨0, Nat.zero_le _, rfl, by rw [rebT_zero]; exact HR3.out, HQ3.out.1, HQ3.out.2.1, HX.out, HQ3.out.2.2⟩
  case round =>
    clear r0 z0 x0 x1 x2
    obtain ⟨k, hk, rfl, hrow, hh0, hh1, hh2, hbel⟩ := hrel
    by_cases hlt : k < n
    · have T3 := own_k hrow hlt
      obtain ⟨g2, rfl, rfl, hg2, u0, u1, v0, v1⟩ := T3
      obtain ⟨q1, q2⟩ := HOB.out g2 rfl
      have hvk := vok_at HV.out hlt
      have hrk : rebT T (V - 1099511627776) k k = T k := by unfold rebT; rw [if_neg (by omega)]
      rw [hrk] at u0 u1
      obtain ⟨s, hs⟩ : ∃ s, s = (T k).s := ⟨_, rfl⟩
      obtain ⟨f, hf⟩ : ∃ f, f = (T k).f := ⟨_, rfl⟩
      rw [← hs] at u0
      rw [← hf] at u1
      rw [← hs, ← hf] at hvk
      obtain ⟨ms, hms⟩ : ∃ ms, ms = max s (V - 1099511627776) := ⟨_, rfl⟩
      obtain ⟨mf, hmf⟩ : ∃ mf, mf = max f (V - 1099511627776) := ⟨_, rfl⟩
      have hi1 : (if s < V - 1099511627776 then V - 1099511627776 else s) = ms := by rw [hms]; split <;> omega
      have hi2 : (if f < V - 1099511627776 then V - 1099511627776 else f) = mf := by rw [hmf]; split <;> omega
      have HE : Hid (rebE (V - 1099511627776) (T k) = ⟨ms - (V - 1099511627776), mf - (V - 1099511627776)⟩) := Lib.hid (by unfold rebE; rw [← hs, ← hf, ← hms, ← hmf])
      have hb1 : V - 1099511627776 ≤ ms := by omega
      have hb2 : ms ≤ 1152921504606846976 := by omega
      have hb3 : V - 1099511627776 ≤ mf := by omega
      have hb4 : mf ≤ 1152921504606846976 := by omega
      have o1 : wr.cell? ⟨W1.heap.size, 1, none⟩ = some (.slice (some ⟨g2, 0, none⟩) n c2) := hh2.1 1
      have o2 := hh2.2.2
      have HROW := Lib.hid hrow
      have HH0 := Lib.hid hh0
      have HH1 := Lib.hid hh1
      have HH2 := Lib.hid hh2
      have HBL := Lib.hid hbel
      have n1 : (g2 = wr.heap.size) = False := eq_false (by omega)
      have n2 : (wr.heap.size = g2) = False := eq_false (by omega)
      have n3 : (wr.heap.size = W1.heap.size) = False := eq_false (by omega)
      have n4 : (W1.heap.size = wr.heap.size) = False := eq_false (by omega)
      have n5 : g2 < wr.heap.size + 1 := by omega
      clear hrow hh0 hh1 hh2 hbel hs hf hms hmf hrk
      go_wp2_with fail
      go_roundw
      case rel =>
        have hal : ∀ (Y : World) (o : Obj), Below Y.heap.size Y (Y.alloc o) := fun Y o => (Below.refl _ _).alloc (Nat.le_refl _) _
        refine ⟨k + 1, by omega, by go_num, ?_, ?_, ?_, ?_, ?_⟩
        · rw [← rebT_step HE.out]
          exact (row_tag HROW.out hlt).alloc _
        · exact Holds.step (Holds.other (Holds.other HH0.out _ _ _ (by omega)) _ _ _ (by omega)) (hal _ _)
        · exact Holds.step (Holds.other (Holds.other HH1.out _ _ _ (by omega)) _ _ _ (by omega)) (hal _ _)
        · exact Holds.step (Holds.other (Holds.other HH2.out _ _ _ (by omega)) _ _ _ (by omega)) (hal _ _)
        · have hz := HBL.out.size
          exact ((HBL.out.setCell (by simp only; omega) _).setCell (by simp only; omega) _).alloc (by simp; omega) _
      case measure => simp [intOf]; omega
    · obtain rfl : k = n := by omega
      have o0 := hh2.1
      have o1 := hh2.2.1
      have o2 := hh2.2.2
      have y0 := hh1.1
      have y1 := hh1.2.1
      have y2 := hh1.2.2
      have HROW := Lib.hid hrow
      have HBL := Lib.hid hbel
      clear hrow hh0 hh1 hh2 hbel
      have n3 : (w.heap.size + 1 = W1.heap.size) = False := eq_false (by omega)
      have n4 : (W1.heap.size = w.heap.size + 1) = False := eq_false (by omega)
      go_wp2_with fail
      refine bodyPost_ret (v := .agg #[.int .i64 1099511627776, .slice a2 k c2]) (by simp [results, Try.results55, go_sem, y0, y1, y2, o0, o1, o2, n3, n4]) rfl ⟨_, rfl, a2, c2, ob2, rfl, ?_, ?_, ?_⟩
      · refine HROW.out.congr fun g e => ?_
        obtain ⟨q1, q2⟩ := HOB.out g e
        rw [heap_setCell_ne _ _ _ _ (by simp only; omega), heap_setCell_ne _ _ _ _ (by simp only; omega), heap_setCell_ne _ _ _ _ (by simp only; omega)]
      · exact fun g e => by have := (HOB.out g e).1; omega
      · exact ((HBL.out.setCell (by simp only; omega) _).setCell (by simp only; omega) _).setCell (by simp only; omega) _
end Go.Proofs.Ytoodmocapagapaa
namespace Go.Proofs.Ytoodmocapagapaa
open Go.RowKit
set_option linter.unusedSimpArgs false
set_option linter.unusedVariables false

structure FS where
  V : Int
  T : Nat → TagsE
  z : Nat → Int
  sv : Nat → Bool
def upf {α : Type} (f : Nat → α) (k : Nat) (x : α) : Nat → α := fun j => if j = k then x else f j
theorem upf_at {α : Type} (f : Nat → α) (k : Nat) (x : α) : upf f k x k = x := by simp [upf]
theorem upf_ne {α : Type} (f : Nat → α) {k j : Nat} (x : α) (h : j ≠ k) : upf f k x j = f j := by simp [upf, h]
theorem updT_at (T : Nat → TagsE) (k : Nat) (x : TagsE) : updT T k x k = x := by simp [updT]
theorem updT_ne (T : Nat → TagsE) {k j : Nat} (x : TagsE) (h : j ≠ k) : updT T k x j = T j := by simp [updT, h]
/-- what was not served starts no more -/
def hT1 (k : Nat) (m : Int) (s : FS) : Nat → TagsE := if s.sv k = false ∧ s.z k ≠ m ∧ 0 < s.z k then updT s.T k ⟨(s.T k).s, (s.T k).s⟩ else s.T
/-- where a flow's head starts, if it gets new tags -/
def hAt (k : Nat) (m : Int) (s : FS) : Int := if s.sv k = true then (s.T k).f else max (hT1 k m s k).f s.V
def hNew (k : Nat) (m : Int) (s : FS) : Bool := decide (m ≠ 0) && (s.sv k || decide (s.z k ≠ m))
def hearS (wt al : Int) (k : Nat) (m : Int) (s : FS) : FS :=
  ⟨s.V, if hNew k m s = true then updT (hT1 k m s) k ⟨hAt k m s, hAt k m s + costS m wt al⟩ else hT1 k m s, upf s.z k m, upf s.sv k false⟩
def hearN (wt : Nat → Int) (al : Int) (m : Nat → Int) : Nat → FS → FS
  | 0, s => s
  | k + 1, s => hearS (wt k) al k (m k) (hearN wt al m k s)
def rdy (m : Nat → Int) (k : Nat) : Bool := decide (0 < m k)
/-- what a pick leaves, of flow k at time now -/
def takeS (n k : Nat) (now size : Int) (s : FS) : FS :=
  ⟨if 1125899906842624 < now + size * 720720 then 1099511627776 else now + size * 720720,
   if 1125899906842624 < now + size * 720720 then rebT s.T (now + size * 720720 - 1099511627776) n else s.T, s.z, upf s.sv k true⟩
def pickS (n : Nat) (m : Nat → Int) (s : FS) : Option (Nat × FS) :=
  match firstS (rdy m) (ltS s.T) n with
  | none => none
  | some k0 => match firstS (tkN s.T (rdy m) (max s.V (s.T k0).s)) (ltF s.T) n with
    | none => none
    | some k => some (k, takeS n k (max s.V (s.T k0).s) (m k) s)
def pkS (n : Nat) (wt : Nat → Int) (al : Int) (m : Nat → Int) (s : FS) : FS := match pickS n m (hearN wt al m n s) with
  | none => hearN wt al m n s
  | some p => p.2
def pkK (n : Nat) (wt : Nat → Int) (al : Int) (m : Nat → Int) (s : FS) : Option Nat := (pickS n m (hearN wt al m n s)).map (·.1)

/-- what holds of one flow -/
structure InvK (s : FS) (k : Nat) : Prop where
  s0 : 0 ≤ (s.T k).s
  sf : (s.T k).s ≤ (s.T k).f
  fs : (s.T k).f ≤ (s.T k).s + 138378240000
  sV : (s.T k).s ≤ s.V + 138378240000
  z0 : 0 ≤ s.z k ∧ s.z k ≤ 1500
  fV : s.sv k = true ∨ s.z k = 0 → (s.T k).f ≤ s.V + 138378240000
structure Inv (n : Nat) (s : FS) : Prop where
  n8 : n ≤ 8
  V : 0 ≤ s.V ∧ s.V ≤ 1125899906842624
  k : ∀ k, k < n → InvK s k
structure WtOk (n : Nat) (wt : Nat → Int) (al : Int) : Prop where
  w : ∀ k, k < n → 1 ≤ wt k ∧ wt k ≤ 16 ∧ wt k ≤ al
  a : al ≤ 128
theorem InvK.tag {s : FS} {k : Nat} (h : InvK s k) (hV : 0 ≤ s.V ∧ s.V ≤ 1125899906842624) : tagB (s.T k) = true := by
  have := h.s0
  have := h.sf
  have := h.fs
  have := h.sV
  unfold tagB timeB
  simp
  omega
theorem Inv.vok {n : Nat} {s : FS} (h : Inv n s) : vokB s.V n s.T = true := by
  have h8 := h.n8
  have hV := h.V
  unfold vokB timeB
  simp only [Bool.and_eq_true, decide_eq_true_eq]
  exact ⟨⟨by omega, by omega, by omega⟩, (okN_iff s.T n).2 fun k hk => (h.k k hk).tag hV⟩
theorem Inv.tok {n : Nat} {s : FS} (h : Inv n s) (k : Nat) (hk : k < n) : (s.T k).ok := by
  have h1 := h.k k hk
  have := h.V
  have := h1.s0
  have := h1.sf
  have := h1.fs
  have := h1.sV
  unfold TagsE.ok
  omega
theorem cost_pos {m wt al : Int} (hm : 1 ≤ m ∧ m ≤ 1500) (hw : 1 ≤ wt ∧ wt ≤ 16 ∧ wt ≤ al) (ha : al ≤ 128) : 0 < costS m wt al := by
  unfold costS
  rw [if_pos (by unfold costB; simp; omega)]
  have h1 : 1 ≤ 720720 / wt := by
    rw [Int.le_ediv_iff_mul_le (by omega)]
    omega
  have h2 : 0 < m * al := Int.mul_pos (by omega) (by omega)
  exact Int.mul_pos h2 (by omega)
/-- the tags behind the first part -/
theorem hT1_k (k : Nat) (m : Int) (s : FS) : ((hT1 k m s) k).s = (s.T k).s ∧ (((hT1 k m s) k).f = (s.T k).f ∨ (((hT1 k m s) k).f = (s.T k).s ∧ s.sv k = false ∧ 0 < s.z k)) := by
  unfold hT1
  split
  · next h => rw [updT_at]; exact ⟨rfl, .inr ⟨rfl, h.1, h.2.2⟩⟩
  · exact ⟨rfl, .inl rfl⟩
theorem hT1_ne (k j : Nat) (m : Int) (s : FS) (h : j ≠ k) : (hT1 k m s) j = s.T j := by
  unfold hT1
  split
  · rw [updT_ne _ _ h]
  · rfl
theorem hAt_bd {s : FS} {k : Nat} (h : InvK s k) (hV : 0 ≤ s.V ∧ s.V ≤ 1125899906842624) (m : Int) (hn : hNew k m s = true) : 0 ≤ hAt k m s ∧ hAt k m s ≤ s.V + 138378240000 := by
  have h1 := h.s0
  have h2 := h.sf
  have h3 := h.sV
  have h4 := h.fV
  have h5 := h.z0
  obtain ⟨e1, e2⟩ := hT1_k k m s
  unfold hNew at hn
  unfold hAt
  cases hs : s.sv k
  · rw [hs] at hn h4 e2
    simp at hn
    simp only [Bool.false_eq_true, if_false]
    by_cases hz : 0 < s.z k
    · have hf : ((hT1 k m s) k).f = (s.T k).s := by
        unfold hT1
        rw [if_pos ⟨hs, hn.2, hz⟩, updT_at]
      omega
    · have h6 := h4 (.inr (by omega))
      rcases e2 with e2 | ⟨_, _, e2⟩ <;> omega
  · have h6 := h4 (.inl hs)
    simp only [if_true]
    omega
theorem inv_hear {n : Nat} {s : FS} (h : Inv n s) {k : Nat} (hk : k < n) {m : Int} (hm : 0 ≤ m ∧ m ≤ 1500) {wt al : Int} (hw : 1 ≤ wt ∧ wt ≤ 16 ∧ wt ≤ al) (ha : al ≤ 128) : Inv n (hearS wt al k m s) := by
  refine ⟨h.n8, h.V, fun j hj => ?_⟩
  have hc := cost_range m wt al
  by_cases hjk : j = k
  · subst hjk
    have h0 := h.k j hj
    have h1 := h0.s0
    have h2 := h0.sf
    have h3 := h0.fs
    have h4 := h0.sV
    have h5 := h0.fV
    have h6 := h0.z0
    have hV := h.V
    obtain ⟨e1, e2⟩ := hT1_k j m s
    unfold hearS
    cases hn : hNew j m s
    · simp only [Bool.false_eq_true, if_false]
      have hcase : m = 0 ∨ (s.sv j = false ∧ s.z j = m) := by
        unfold hNew at hn
        cases hs : s.sv j
        · rw [hs] at hn; simp at hn; by_cases h0 : m = 0; exact .inl h0; exact .inr ⟨rfl, hn h0⟩
        · rw [hs] at hn; simp at hn; exact .inl hn
      have hmz : m = 0 → ((hT1 j m s) j).f ≤ s.V + 138378240000 := by
        intro h0
        cases hs : s.sv j
        · by_cases hz : 0 < s.z j
          · have : ((hT1 j m s) j).f = (s.T j).s := by unfold hT1; rw [if_pos ⟨hs, by omega, hz⟩, updT_at]
            omega
          · have := h5 (.inr (by omega))
            rcases e2 with e | ⟨_, _, e⟩ <;> omega
        · have := h5 (.inl hs)
          rcases e2 with e | ⟨_, e, _⟩
          · omega
          · rw [hs] at e; cases e
      refine ⟨by simp only; omega, by simp only; rcases e2 with e | ⟨e, _⟩ <;> omega, by simp only; rcases e2 with e | ⟨e, _⟩ <;> omega, by simp only; omega, by simp only [upf_at]; exact hm, ?_⟩
      simp only [upf_at]
      rintro (e | e)
      · cases e
      · exact hmz e
    · simp only [if_true]
      obtain ⟨b1, b2⟩ := hAt_bd h0 hV m hn
      refine ⟨by simp only [updT_at]; exact b1, by simp only [updT_at]; omega, by simp only [updT_at]; omega, by simp only [updT_at]; exact b2, by simp only [upf_at]; exact hm, ?_⟩
      simp only [upf_at]
      rintro (e | e)
      · cases e
      · unfold hNew at hn; simp at hn; omega
  · have h0 := h.k j hj
    have hT : (hearS wt al k m s).T j = s.T j := by
      unfold hearS
      simp only
      split
      · rw [updT_ne _ _ hjk, hT1_ne _ _ _ _ hjk]
      · rw [hT1_ne _ _ _ _ hjk]
    have hz : (hearS wt al k m s).z j = s.z j := upf_ne _ _ hjk
    have hs : (hearS wt al k m s).sv j = s.sv j := upf_ne _ _ hjk
    exact ⟨by rw [hT]; exact h0.s0, by rw [hT]; exact h0.sf, by rw [hT]; exact h0.fs, by rw [hT]; exact h0.sV, by rw [hz]; exact h0.z0, by rw [hT, hz, hs]; exact h0.fV⟩
theorem inv_hearN {n : Nat} {wt : Nat → Int} {al : Int} (hw : WtOk n wt al) {m : Nat → Int} (hm : ∀ k, k < n → 0 ≤ m k ∧ m k ≤ 1500) : ∀ (k : Nat) {s : FS}, Inv n s → k ≤ n → Inv n (hearN wt al m k s)
  | 0, _, h, _ => h
  | k + 1, s, h, hk => by
    have ih := inv_hearN hw hm k h (by omega)
    exact inv_hear ih (by omega) (hm k (by omega)) (hw.w k (by omega)) hw.a
/-- what virtual is asked is never refused -/
theorem hear_good {n : Nat} {s : FS} (h : Inv n s) {k : Nat} (hk : k < n) {m : Int} (hm : 1 ≤ m ∧ m ≤ 1500) {wt al : Int} (hw : 1 ≤ wt ∧ wt ≤ 16 ∧ wt ≤ al) (ha : al ≤ 128) (hn : hNew k m s = true) :
    goodTag s.V n (hT1 k m s) k (costS m wt al) (hAt k m s) = true := by
  have hc := cost_range m wt al
  have hp := cost_pos hm hw ha
  obtain ⟨b1, b2⟩ := hAt_bd (h.k k hk) h.V m hn
  have hV := h.V
  have hv : vokB s.V n (hT1 k m s) = true := by
    have h8 := h.n8
    unfold vokB timeB
    simp only [Bool.and_eq_true, decide_eq_true_eq]
    refine ⟨⟨by omega, by omega, by omega⟩, (okN_iff _ n).2 fun j hj => ?_⟩
    have h1 := (h.k j hj).tag hV
    by_cases hjk : j = k
    · subst hjk
      obtain ⟨e1, e2⟩ := hT1_k j m s
      unfold tagB timeB at h1 ⊢
      simp at h1 ⊢
      rcases e2 with e | ⟨e, _⟩ <;> omega
    · rw [hT1_ne _ _ _ _ hjk]; exact h1
  unfold goodTag
  rw [hv]
  simp
  omega
theorem firstS_ex {tk : Nat → Bool} {lt : Nat → Nat → Bool} {n j : Nat} (hj : j < n) (h : tk j = true) : ∃ b, firstS tk lt n = some b := by
  cases hf : firstS tk lt n with
  | some b => exact ⟨b, rfl⟩
  | none => rw [firstS_none hf j hj] at h; cases h
theorem inv_pick {n : Nat} {s s' : FS} {m : Nat → Int} {k : Nat} (h : Inv n s) (hm : ∀ k, k < n → 0 ≤ m k ∧ m k ≤ 1500) (hz : ∀ k, k < n → s.z k = m k) (hp : pickS n m s = some (k, s')) : Inv n s' ∧ k < n ∧ 0 < m k := by
  unfold pickS at hp
  cases h1 : firstS (rdy m) (ltS s.T) n with
  | none => rw [h1] at hp; cases hp
  | some k0 =>
    rw [h1] at hp
    simp only at hp
    cases h2 : firstS (tkN s.T (rdy m) (max s.V (s.T k0).s)) (ltF s.T) n with
    | none => rw [h2] at hp; cases hp
    | some q =>
      rw [h2] at hp
      simp only [Option.some.injEq, Prod.mk.injEq] at hp
      obtain ⟨rfl, rfl⟩ := hp
      obtain ⟨k1, k2⟩ := firstS_some h1
      obtain ⟨q1, q2⟩ := firstS_some h2
      unfold tkN rdy at q2
      simp at q2
      obtain ⟨now, hnow⟩ : ∃ now, now = max s.V (s.T k0).s := ⟨_, rfl⟩
      rw [← hnow] at q2 ⊢
      have hk0 := h.k k0 k1
      have hV := h.V
      have g1 := hk0.sV
      have g2 := hk0.s0
      have hnow2 : s.V ≤ now ∧ now ≤ s.V + 138378240000 := by omega
      have hmk := hm q q1
      refine ⟨⟨h.n8, ?_, fun j hj => ?_⟩, q1, q2.1⟩
      · unfold takeS
        simp only
        split <;> omega
      · have h0 := h.k j hj
        have g3 := h0.s0
        have g4 := h0.sf
        have g5 := h0.fs
        have g6 := h0.sV
        have g7 := h0.fV
        have hsz : 0 ≤ m q * 720720 ∧ m q * 720720 ≤ 1081080000 := by omega
        obtain ⟨P, hP⟩ : ∃ P, P = m q * 720720 := ⟨_, rfl⟩
        have hfv : upf s.sv q true j = true ∨ s.z j = 0 → (s.T j).f ≤ now + P + 138378240000 := by
          by_cases hjq : j = q
          · subst hjq
            intro _
            omega
          · rw [upf_ne _ _ hjq]
            intro h9
            have := g7 h9
            omega
        unfold takeS
        rw [← hP] at hsz ⊢
        by_cases hl : 1125899906842624 < now + P
        · simp only [if_pos hl]
          have hr : rebT s.T (now + P - 1099511627776) n j = rebE (now + P - 1099511627776) (s.T j) := by unfold rebT; rw [if_pos hj]
          refine ⟨by simp only [hr, rebE]; omega, by simp only [hr, rebE]; omega, by simp only [hr, rebE]; omega, by simp only [hr, rebE]; omega, h0.z0, fun h9 => ?_⟩
          have := hfv h9
          simp only [hr, rebE]
          omega
        · simp only [if_neg hl]
          exact ⟨g3, g4, g5, by simp only; omega, h0.z0, hfv⟩
theorem hearN_z (wt : Nat → Int) (al : Int) (m : Nat → Int) (s : FS) : ∀ (n k : Nat), k < n → (hearN wt al m n s).z k = m k
  | 0, _, h => by omega
  | n + 1, k, h => by
    show upf (hearN wt al m n s).z n (m n) k = m k
    by_cases hk : k = n
    · subst hk; rw [upf_at]
    · rw [upf_ne _ _ hk]; exact hearN_z wt al m s n k (by omega)
theorem pk_some {n : Nat} {wt : Nat → Int} {al : Int} {m : Nat → Int} {s : FS} {j : Nat} (hj : j < n) (h : 0 < m j) : ∃ k, pkK n wt al m s = some k := by
  obtain ⟨k0, h1⟩ := firstS_ex (lt := ltS (hearN wt al m n s).T) hj (show rdy m j = true by simp [rdy, h])
  obtain ⟨k, h2⟩ := second_some (V := (hearN wt al m n s).V) h1
  exact ⟨k, by unfold pkK pickS; rw [h1]; simp only; rw [h2]; rfl⟩
theorem pk_none {n : Nat} {wt : Nat → Int} {al : Int} {m : Nat → Int} {s : FS} (h : pkK n wt al m s = none) : ∀ j, j < n → ¬ 0 < m j := by
  intro j hj h1
  obtain ⟨k, hk⟩ := pk_some (wt := wt) (al := al) (s := s) hj h1
  rw [h] at hk
  cases hk
theorem inv_pk {n : Nat} {wt : Nat → Int} {al : Int} (hw : WtOk n wt al) {m : Nat → Int} (hm : ∀ k, k < n → 0 ≤ m k ∧ m k ≤ 1500) {s : FS} (h : Inv n s) : Inv n (pkS n wt al m s) ∧ ∀ k, pkK n wt al m s = some k → k < n ∧ 0 < m k := by
  have hi := inv_hearN hw hm n h (Nat.le_refl _)
  unfold pkS pkK
  cases hp : pickS n m (hearN wt al m n s) with
  | none => exact ⟨hi, fun k e => by cases e⟩
  | some p =>
    obtain ⟨k, s'⟩ := p
    have := inv_pick hi hm (fun k hk => hearN_z wt al m s n k hk) hp
    refine ⟨this.1, fun k' e => ?_⟩
    obtain rfl : k = k' := by simpa using e
    exact this.2
end Go.Proofs.Ytoodmocapagapaa
namespace Go.Proofs.Ytoodmocapagapaa
open Go.RowKit
set_option linter.unusedSimpArgs false
set_option linter.unusedVariables false

section
variable {P : Program} (w : World)
theorem run_append_row_zero (t ty e : TypeId) (i : TypeInfo) (size : Nat) (ht : P.underlying t = some (.slice e)) (hi : P.info? e = some i) (v : Value) (ob : Option Nat) (n : Nat) (xs : List Value) (hrow : Row w v ob e size n xs) (ad : Option Addr) (c : Nat) :
    (Builtin.append_ #[t, t] ty #[v, .slice ad 0 c]).run P w = .ok v w := by
  cases ad with
  | none =>
    rcases hrow.cases with ⟨rfl, rfl, rfl, rfl⟩ | ⟨g, cap, cur, rfl, rfl, hg, hnc, hcm, hcs, htake⟩
    · simp [Builtin.append_, run_underlying ht, sizeOf, typeInfo, hi, Builtin.lenOf, Builtin.firstCells]
    · simp [Builtin.append_, run_underlying ht, sizeOf, typeInfo, hi, Builtin.lenOf, Builtin.firstCells, hnc, storeCells]
  | some a =>
    rcases hrow.cases with ⟨rfl, rfl, rfl, rfl⟩ | ⟨g, cap, cur, rfl, rfl, hg, hnc, hcm, hcs, htake⟩
    · simp [Builtin.append_, run_underlying ht, sizeOf, typeInfo, hi, Builtin.lenOf, Builtin.firstCells, loadCells, loadCellsFrom]
    · simp [Builtin.append_, run_underlying ht, sizeOf, typeInfo, hi, Builtin.lenOf, Builtin.firstCells, hnc, storeCells, loadCells, loadCellsFrom]
theorem wpList_append_row_zero {ops : Array Oper} {rest : List Oper} {o : Oper} {a : Act} {Q : Exit → Act → World → Prop} (hgd : o.guard = none) (s x : Operand) (t : TypeId)
    (ho : o.op = .call { callee := .builtin .append, args := #[s, x], argTypes := #[t, t] }) (e : TypeId) (i : TypeInfo) (size : Nat) (ht : P.underlying t = some (.slice e)) (hi : P.info? e = some i)
    (v : Value) (ob : Option Nat) (n : Nat) (xs : List Value) (hs : a.eval s = v) (hrow : Row w v ob e size n xs) (ad : Option Addr) (c : Nat) (hx : a.eval x = .slice ad 0 c)
    (h : wpList P ops Q rest (a.put o.dst v) w) : wpList P ops Q (o :: rest) a w := by
  refine wpList_plain hgd fun K hK => ?_
  have hrun := run_append_row_zero (P := P) w t o.type e i size ht hi v ob n xs hrow ad c
  unfold Oper.wp execOp
  simp only [ho, resolve, invoke, builtin, Sem.run_bind, Sem.run_pure, Result.andThen_ok, List.map_toArray, List.map_cons, List.map_nil, hs, hx, hrun]
  exact hK _ _ h
end

theorem addr_add (b o j : Nat) : (⟨b, o, none⟩ : Addr).add j = ⟨b, o + j, none⟩ := by
  unfold Addr.add
  split <;> simp_all
end Go.Proofs.Ytoodmocapagapaa
namespace Go.Proofs.Ytoodmocapagapaa
open Go.RowKit
set_option linter.unusedSimpArgs false
set_option linter.unusedVariables false

theorem stC_fr (b : Nat) : ∀ (l : List Value) (o : Nat) (w : World), Fr [b] w (w.setCells b o l)
  | [], _, w => Fr.refl _ _
  | v :: r, o, w => ((Fr.refl [b] w).setCell ⟨b, o, none⟩ (.inl (by simp)) v).trans (stC_fr b r (o + 1) _) (fun x hx => .inl hx)
theorem stC_pt {b : Nat} {t : TypeId} : ∀ (L : List Value) (o : Nat) {W : World} {cs : Array Value}, Blk W b cs t → o + L.length ≤ cs.size → ∃ cs', Blk (W.setCells b o L) b cs' t ∧ cs'.size = cs.size ∧ (∀ j, j < o → cs'[j]? = cs[j]?) ∧ (∀ i, i < L.length → cs'[o + i]? = L[i]?) ∧ ∀ j, o + L.length ≤ j → cs'[j]? = cs[j]?
  | [], o, W, cs, h, _ => ⟨cs, h, rfl, fun _ _ => rfl, fun i hi => absurd hi (Nat.not_lt_zero _), fun _ _ => rfl⟩
  | v :: r, o, W, cs, h, hl => by
    have hl' : o + (r.length + 1) ≤ cs.size := hl
    obtain ⟨cs', k1, k2, k3, k4, k5⟩ := stC_pt r (o + 1) (h.set o v) (by simp; omega)
    refine ⟨cs', k1, by simpa using k2, fun j hj => ?_, fun i hi => ?_, fun j hj => ?_⟩
    · rw [k3 j (by omega), Array.getElem?_setIfInBounds, if_neg (by omega)]
    · rcases Nat.eq_zero_or_pos i with rfl | hp
      · rw [Nat.add_zero, k3 o (by omega), Array.getElem?_setIfInBounds, if_pos rfl, if_pos (by omega)]
        rfl
      · obtain ⟨m, rfl⟩ : ∃ m, i = m + 1 := ⟨i - 1, by omega⟩
        have := k4 m (by simpa using hi)
        rw [show o + (m + 1) = o + 1 + m by omega, this]
        rfl
    · have hj' : o + (r.length + 1) ≤ j := hj
      rw [k5 j (by omega), Array.getElem?_setIfInBounds, if_neg (by omega)]
theorem stC_blk {W : World} {b : Nat} {cs : Array Value} {t : TypeId} (h : Blk W b cs t) (L : List Value) (hl : L.length = cs.size) : Blk (W.setCells b 0 L) b L.toArray t := by
  obtain ⟨cs', k1, k2, k3, k4, k5⟩ := stC_pt L 0 h (by omega)
  have : cs' = L.toArray := by
    apply Array.ext_getElem?
    intro i
    by_cases hi : i < L.length
    · have := k4 i hi
      rw [Nat.zero_add] at this
      rw [this]
      simp
    · rw [Array.getElem?_eq_none (by omega), Array.getElem?_eq_none (by simp; omega)]
  rw [this] at k1
  exact k1
theorem op_append_run {P : Program} {o : Oper} {a : Act} {K : Act → World → Prop} {Q : Exit → Act → World → Prop} {w w' : World} (s x : Operand) (t : TypeId)
    (ho : o.op = .call { callee := .builtin .append, args := #[s, x], argTypes := #[t, t] }) {v y v' : Value} (hs : a.eval s = v) (hx : a.eval x = y)
    (hr : (Builtin.append_ #[t, t] o.type #[v, y]).run P w = .ok v' w') (h : K (a.put o.dst v') w') : Oper.wp P o a w K Q := by
  unfold Oper.wp execOp
  simp only [ho, resolve, invoke, builtin, Sem.run_bind, Sem.run_pure, Result.andThen_ok, List.map_toArray, List.map_cons, List.map_nil, hs, hx, hr]
  exact h
theorem dN (w : World) (n : Nat) : Below w.heap.size w (w.drewN n) := ⟨rfl, rfl, rfl, Nat.le_refl _, fun _ _ => rfl⟩
theorem Blk.stepM {A B : World} {M n : Nat} {c : Array Value} {t : TypeId} (h : Blk A n c t) (hB : Below M A B) (hn : n < M) : Blk B n c t := (hB.block n hn).trans h
def EntK (k : FuncId) : Prop := ∀ (args : Array Value) (w : World), (callFunc k args).run Try.prog w = .ok (.enter k args) w
theorem row_ty {W : World} {v v' : Value} {g : Nat} {e e' : TypeId} {s s' n n' : Nat} {xs xs' : List Value} (h : Row W v (some g) e s n xs) (h' : Row W v' (some g) e' s' n' xs') : e = e' := by
  rcases h.cases with ⟨he, _⟩ | ⟨g1, cap, cur, he, _, h3, _⟩
  · cases he
  · obtain rfl := Option.some.inj he
    rcases h'.cases with ⟨he', _⟩ | ⟨g2, cap', cur', he', _, h3', _⟩
    · cases he'
    · obtain rfl := Option.some.inj he'
      have := h3.symm.trans h3'
      injection this with this
      injection this
theorem row_blk_ne {W : World} {v : Value} {g n0 : Nat} {e t : TypeId} {s n : Nat} {xs : List Value} {cs : Array Value} (h : Row W v (some g) e s n xs) (hb : Blk W n0 cs t) (ht : t ≠ e) : n0 ≠ g := by
  intro e1
  subst e1
  rcases h.cases with ⟨he, _⟩ | ⟨g1, cap, cur, he, _, h3, _⟩
  · cases he
  · obtain rfl := Option.some.inj he
    have hb' : W.heap[n0]? = some (.cells cs t (0, 0)) := hb
    have := h3.symm.trans hb'
    injection this with this
    injection this with a b
    exact ht b.symm
theorem row_keep {W W' : World} {v v' : Value} {ob o2 : Option Nat} {e e' : TypeId} {s s' n n' : Nat} {xs xs' : List Value} (h : Row W v ob e s n xs) (hr : Row W v' o2 e' s' n' xs') (hne : e ≠ e') (hblk : ∀ g, g < W.heap.size → (∀ g2, o2 = some g2 → g ≠ g2) → W'.heap[g]? = W.heap[g]?) : Row W' v ob e s n xs :=
  h.congr fun g eg => by
    subst eg
    refine hblk g h.lt fun g2 e2 e3 => ?_
    subst e2 e3
    exact hne (row_ty h hr)
theorem grown_blk {W W' : World} {o2 : Option Nat} (hG : W.grownBy W' o2) (g : Nat) (hg : g < W.heap.size) (hne : ∀ g2, o2 = some g2 → g ≠ g2) : W'.heap[g]? = W.heap[g]? := hG.block g hg (fun e => hne g e.symm rfl)
theorem take_set {α : Type} (l : List α) (n i : Nat) (a : α) : (l.set i a).take n = (l.take n).set i a := List.take_set
theorem row_setCell {W : World} {v : Value} {g n s : Nat} {e : TypeId} {xs : List Value} (h : Row W v (some g) e s n xs) (j : Nat) (u : Value) : Row (W.setCell ⟨g, j, none⟩ u) v (some g) e s n (xs.set j u) := by
  rcases h.cases with ⟨he, _⟩ | ⟨g1, cap, cur, he, rfl, h3, h4, h5, h6, h7⟩
  · cases he
  · obtain rfl := Option.some.inj he
    refine Row.mk (cur := cur.setIfInBounds j u) (Blk.set (show Blk W g cur e from h3) j u) h4 h5 (by simp [h6]) ?_
    rw [Array.toList_setIfInBounds, take_set, h7]
/-- a region none of whose operations panics, in a function that defers -/
def NoPan (Q : Exit → Act → World → Prop) (e : Exit) (a : Act) (w : World) : Prop :=
  match e with
  | .panic _ => False
  | e => Q e a w
theorem wp_np {P : Program} {c : Code} {Q : Exit → Act → World → Prop} {a : Act} {w : World} (h : c.wp P (NoPan Q) a w) : c.wp P Q a w :=
  Code.wp_mono (fun e a w h => by cases e <;> first | exact h | exact h.elim) h
theorem below_undrewM {B : Nat} {w X : World} (h : Below B w.drew X) : Below B w X := ⟨h.os, h.tape, h.output, h.size, h.block⟩
structure IntsIn (W : World) (a : Option Addr) (len cap : Nat) (b o : Nat) (T : Nat → Int) : Prop where
  le : len ≤ cap
  max : cap ≤ maxLen
  at_ : 0 < len → a = some ⟨b, o, none⟩ ∧ b < W.heap.size
  cell : ∀ k, k < len → W.cell? ⟨b, o + k, none⟩ = some (.int .i64 (T k))
  bd : ∀ k, k < len → -9223372036854775808 ≤ T k ∧ T k ≤ 9223372036854775807
theorem ints_cells (W : World) {a : Option Addr} {len cap : Nat} {xs : List Dt} (h : SliceFits Try.prog W 3 a len cap xs) : ∃ (b o : Nat) (T : Nat → Int), IntsIn W a len cap b o T := by
  have hc : Try.prog.cellsOf 3 = 1 := by kernel_rfl
  obtain ⟨b, o, h1, h2⟩ := h.spot (by rw [hc]; omega)
  have hex : ∀ k, ∃ q : Int, k < len → W.cell? ⟨b, o + k, none⟩ = some (.int .i64 q) ∧ -9223372036854775808 ≤ q ∧ q ≤ 9223372036854775807 := fun k => by
    by_cases hk : k < len
    · have hl := h.length
      have hx := List.getElem?_eq_getElem (l := xs) (i := k) (by omega)
      obtain ⟨n0, e0, g0⟩ := (h.each k _ hx).1.int_inv Try.underlying3
      have hcell := h2 k _ hx
      rw [e0, hc] at hcell
      exact ⟨n0, fun _ => ⟨by have := hcell 0 _ rfl; rwa [Nat.mul_one] at this, g0.1, g0.2⟩⟩
    · exact ⟨0, fun h => absurd h hk⟩
  have hg := fun k => Classical.choose_spec (hex k)
  exact ⟨b, o, fun k => Classical.choose (hex k), h.le, h.max, h1, fun k hk => (hg k hk).1, fun k hk => (hg k hk).2⟩
theorem IntsIn.below {W W' : World} {a : Option Addr} {len cap b o : Nat} {T : Nat → Int} (h : IntsIn W a len cap b o T) (hB : Below W.heap.size W W') : IntsIn W' a len cap b o T :=
  ⟨h.le, h.max, fun hk => ⟨(h.at_ hk).1, by have := (h.at_ hk).2; have := hB.size; omega⟩, fun k hk => (hB.cell (p := ⟨b, _, none⟩) (h.at_ (by omega)).2).trans (h.cell k hk), h.bd⟩
def inL (L : List Int) : List Value := L.map fun x => .int .i64 x
def gI (L : List Int) (k : Nat) : Int := (L[k]?).getD 0
def okI (L : List Int) : Prop := ∀ x ∈ L, -9223372036854775808 ≤ x ∧ x ≤ 9223372036854775807
theorem gI_lt {L : List Int} {k : Nat} (h : k < L.length) : L[k]? = some (gI L k) := by unfold gI; rw [List.getElem?_eq_getElem h]; rfl
theorem inL_len (L : List Int) : (inL L).length = L.length * 1 := by simp [inL]
theorem inL_append (a b : List Int) : inL (a ++ b) = inL a ++ inL b := by simp [inL]
theorem inL_at (L : List Int) (k : Nat) : (inL L)[k]? = (L[k]?).map fun x => .int .i64 x := by simp [inL]
theorem inL_ones (L : List Int) : ∀ u ∈ inL L, u.oneCell' = true := by
  intro u hu
  obtain ⟨x, _, rfl⟩ := List.mem_map.1 hu
  rfl
/-- the value v stands for the list L of ints -/
def InV (W : World) (v : Value) (L : List Int) : Prop := ∃ a b o cap, v = .slice a L.length cap ∧ IntsIn W a L.length cap b o (gI L)
theorem InV.below {W W' : World} {v : Value} {L : List Int} (h : InV W v L) (hB : Below W.heap.size W W') : InV W' v L := by
  obtain ⟨a, b, o, c, e, h⟩ := h
  exact ⟨a, b, o, c, e, h.below hB⟩
theorem InV.sh {W : World} {v : Value} {L : List Int} (h : InV W v L) : ∃ a n c, v = .slice a n c ∧ Hid (n = L.length) ∧ n ≤ c ∧ c ≤ 9223372036854775807 := by
  obtain ⟨a, b, o, c, rfl, h⟩ := h
  exact ⟨a, _, c, rfl, Lib.hid rfl, h.le, by have := h.max; unfold maxLen at this; exact this⟩
theorem InV.at {W : World} {a : Option Addr} {n c : Nat} {L : List Int} (h : InV W (.slice a n c) L) (k : Nat) (hk : k < n) : ∃ (g o : Nat) (x : Int), a = some ⟨g, o, none⟩ ∧ g < W.heap.size ∧ L[k]? = some x ∧ W.cell? ⟨g, o + k, none⟩ = some (.int .i64 x) ∧ -9223372036854775808 ≤ x ∧ x ≤ 9223372036854775807 := by
  obtain ⟨a', b, o, c', ee, h⟩ := h
  injection ee with e1 e2 e3
  subst e1 e2 e3
  have h1 := h.at_ (by omega)
  exact ⟨b, o, gI L k, h1.1, h1.2, gI_lt hk, h.cell k hk, h.bd k hk⟩
theorem InV.ok {W : World} {v : Value} {L : List Int} (h : InV W v L) : okI L := by
  obtain ⟨a, b, o, c, rfl, h⟩ := h
  intro x hx
  obtain ⟨k, hk, rfl⟩ := List.mem_iff_getElem.1 hx
  have := h.bd k hk
  unfold gI at this
  rw [List.getElem?_eq_getElem hk] at this
  exact this
theorem inv_cells (W : World) {a : Option Addr} {len cap : Nat} {xs : List Dt} (h : SliceFits Try.prog W 3 a len cap xs) : ∃ L : List Int, L.length = len ∧ InV W (.slice a len cap) L := by
  obtain ⟨b, o, T, h⟩ := ints_cells W h
  refine ⟨(List.range len).map T, by simp, a, b, o, cap, by simp, ?_⟩
  have e : ∀ k, k < len → gI ((List.range len).map T) k = T k := fun k hk => by simp [gI, hk]
  simp only [List.length_map, List.length_range]
  exact ⟨h.le, h.max, h.at_, fun k hk => by rw [e k hk]; exact h.cell k hk, fun k hk => by rw [e k hk]; exact h.bd k hk⟩
def InO (M : Nat) (W : World) (v : Value) (ob : Option Nat) (L : List Int) : Prop := Row W v ob 3 1 L.length (inL L) ∧ okI L ∧ ∀ g, ob = some g → M ≤ g
theorem ino_nil (W : World) (M : Nat) : InO M W (.slice none 0 0) none [] := ⟨Row.nil _ _ _, fun x h => absurd h (by simp), fun g e => by cases e⟩
theorem inv_row {W : World} {v : Value} {ob : Option Nat} {L : List Int} (h : Row W v ob 3 1 L.length (inL L)) (ho : okI L) : InV W v L := by
  rcases h.cases with ⟨rfl, rfl, hl, hx⟩ | ⟨g, cap, cur, rfl, rfl, h3, h4, h5, h6, h7⟩
  · have hn : L = [] := List.eq_nil_of_length_eq_zero hl
    subst hn
    exact ⟨none, 0, 0, 0, rfl, Nat.le_refl _, Nat.zero_le _, fun h => absurd h (by simp), fun k hk => absurd hk (by simp), fun k hk => absurd hk (by simp)⟩
  · refine ⟨some ⟨g, 0, none⟩, g, 0, cap, rfl, h4, h5, fun _ => ⟨rfl, (Array.getElem?_eq_some_iff.1 h3).1⟩, fun k hk => ?_, fun k hk => ho _ (List.mem_of_getElem? (gI_lt hk))⟩
    obtain ⟨g', e, a, _⟩ := h.cell k (by omega)
    obtain rfl := Option.some.inj e
    rw [Nat.zero_add, a, inL_at, gI_lt hk]
    rfl
theorem InO.v {W : World} {M : Nat} {v : Value} {ob : Option Nat} {L : List Int} (h : InO M W v ob L) : InV W v L := inv_row h.1 h.2.1
theorem InO.step {A B : World} {M : Nat} {v : Value} {ob : Option Nat} {L : List Int} (h : InO M A v ob L) (hB : Below A.heap.size A B) : InO M B v ob L := ⟨h.1.congr fun g e => hB.block g (by subst e; exact h.1.lt), h.2.1, h.2.2⟩
theorem InO.fr {A B : World} {M N : Nat} {v : Value} {ob : Option Nat} {L : List Int} (h : InO M A v ob L) (hf : Fr [N] A B) (hN : N < M) : InO M B v ob L := ⟨h.1.congr fun g e => hf.block g (by subst e; exact h.1.lt) (by have := h.2.2 g e; simp; omega), h.2.1, h.2.2⟩
theorem inZero : (Try.prog.info? 3).map (fun i => (i.zero, i.size, i.bytes)) = some (some (.int .i64 0), 1, 8) := by kernel_rfl
theorem in_app {W : World} {M : Nat} {ty : TypeId} {v v2 : Value} {ob : Option Nat} {L L2 : List Int} (h : InO M W v ob L) (h2 : InV W v2 L2) (hM : M ≤ W.heap.size) (hn : L.length + L2.length ≤ 100000) :
    ∃ v' ob' w', (Builtin.append_ #[76, 76] ty #[v, v2]).run Try.prog W = .ok v' w' ∧ InO M w' v' ob' (L ++ L2) ∧ Below M W w' := by
  have ho2 := h2.ok
  obtain ⟨r1, r4, r5⟩ := h
  obtain ⟨a2, b2, o2, c2, rfl, d1⟩ := h2
  obtain ⟨i0, hi, hz0, hz1, hz2⟩ := info_parts inZero
  rcases Nat.eq_zero_or_pos L2.length with h0 | h0
  · have hL2 : L2 = [] := List.eq_nil_of_length_eq_zero h0
    subst hL2
    rw [List.append_nil]
    exact ⟨v, ob, W, run_append_row_zero (P := Try.prog) (w := W) 76 ty 3 i0 1 Try.underlying76 hi v ob _ _ r1 a2 c2, ⟨r1, r4, r5⟩, Below.refl _ _⟩
  · obtain ⟨e0, e1⟩ := d1.at_ h0
    subst e0
    have hat : ∀ (j : Nat) (u : Value), (inL L2)[j]? = some u → W.cell? ⟨b2, o2 + j, none⟩ = some u := fun j u hu => by
      rw [inL_at] at hu
      obtain ⟨x, hx, rfl⟩ := Option.map_eq_some_iff.1 hu
      have hj := (List.getElem?_eq_some_iff.1 hx).1
      rw [gI_lt hj] at hx
      obtain rfl := Option.some.inj hx
      exact d1.cell j hj
    obtain ⟨v', ob', w', hrun, s1, s2, s3⟩ := run_append_row (P := Try.prog) W 76 ty 3 i0 _ 1 8 Try.underlying76 hi hz0 hz1 hz2 rfl (by decide) v ob L.length (inL L) r1 ⟨b2, o2, none⟩ L2.length c2 (inL L2) h0 (inL_len L2) (fun j u hu => by rw [addr_add]; exact hat j u hu) (inL_ones L2) (by unfold maxLen; omega) (by omega)
    refine ⟨v', some ob', w', hrun, ⟨by rw [List.length_append, inL_append]; exact s1, fun x hx => ?_, fun g e => ?_⟩, ?_⟩
    · rcases List.mem_append.1 hx with h | h
      · exact r4 x h
      · exact ho2 x h
    · obtain rfl := Option.some.inj e
      rcases s3 with h | h
      · exact r5 _ h
      · omega
    · exact (Below.refl M W).grown s2 hM r5
theorem inv_one {W : World} {b : Nat} {x : Int} (h : Blk W b #[.int .i64 x] 3) (ho : -9223372036854775808 ≤ x ∧ x ≤ 9223372036854775807) : InV W (.slice (some ⟨b, 0, none⟩) 1 1) [x] := by
  refine ⟨some ⟨b, 0, none⟩, b, 0, 1, rfl, Nat.le_refl _, by unfold maxLen; simp, fun _ => ⟨rfl, h.lt⟩, fun k hk => ?_, fun k hk => ?_⟩
  · obtain rfl : k = 0 := by simpa using hk
    exact cell_at h 0
  · obtain rfl : k = 0 := by simpa using hk
    exact ho
theorem InV.ints {W : World} {a : Option Addr} {n c : Nat} {L : List Int} (h : InV W (.slice a n c) L) : ∃ b o, IntsIn W a n c b o (gI L) := by
  obtain ⟨a', b, o, c', ee, h⟩ := h
  injection ee with e1 e2 e3
  subst e1 e2 e3
  exact ⟨b, o, h⟩
end Go.Proofs.Ytoodmocapagapaa
namespace Go.Proofs.Ytoodmocapagapaa
open Go.RowKit
set_option linter.unusedSimpArgs false
set_option linter.unusedVariables false

def leastI (T : Nat → TagsE) (R : Nat → Bool) (k : Nat) : Int := match firstS R (ltS T) k with
  | none => -1
  | some b => (T b).s
theorem leastI_none {T : Nat → TagsE} {R : Nat → Bool} {k : Nat} (h : firstS R (ltS T) k = none) : leastI T R k = -1 := by unfold leastI; rw [h]
theorem leastI_some {T : Nat → TagsE} {R : Nat → Bool} {k b : Nat} (h : firstS R (ltS T) k = some b) : leastI T R k = (T b).s := by unfold leastI; rw [h]

end Go.Proofs.Ytoodmocapagapaa
namespace Go.Proofs.Ytoodmocapagapaa
open Go.RowKit
set_option linter.unusedSimpArgs false
set_option linter.unusedVariables false

end Go.Proofs.Ytoodmocapagapaa
namespace Go.Proofs.Ytoodmocapagapaa
open Go.RowKit
set_option linter.unusedSimpArgs false
set_option linter.unusedVariables false

theorem TagsIn.set {W : World} {a : Option Addr} {n c b o : Nat} {T : Nat → TagsE} (h : TagsIn W a n c b o T) (g j : Nat) (u : Value) (hg : 0 < n → g ≠ b) : TagsIn (W.setCell ⟨g, j, none⟩ u) a n c b o T :=
  ⟨h.le, h.max, fun hk => ⟨(h.at_ hk).1, by have := (h.at_ hk).2; simpa using this⟩, fun k hk => by
    have hne := hg (by omega)
    obtain ⟨c0, c1⟩ := h.cell k hk
    exact ⟨(World.cell?_of_block (a := ⟨b, _, none⟩) (heap_setCell_ne W ⟨g, j, none⟩ u b (by simp only; omega))).trans c0, (World.cell?_of_block (a := ⟨b, _, none⟩) (heap_setCell_ne W ⟨g, j, none⟩ u b (by simp only; omega))).trans c1⟩, h.bd⟩
theorem VOut.tags {w w' : World} {v : Value} {V : Int} {n : Nat} {T : Nat → TagsE} (h : VOut w w' v V n T) (hT : ∀ k, k < n → (T k).ok) :
    ∃ a c b, v = .agg #[.int .i64 V, .slice a n c] ∧ TagsIn w' a n c b 0 T ∧ (0 < n → w.heap.size ≤ b) ∧ Below w.heap.size w w' := by
  obtain ⟨a, c, ob, rfl, hR, hO, hB⟩ := h
  obtain ⟨a', c', he, ht⟩ := tags_row hR hT
  injection he with e1 e2 e3
  subst e1 e3
  refine ⟨a, c, ob.getD 0, rfl, ht, fun hn => ?_, hB⟩
  obtain ⟨g, hg, _⟩ := own_k hR hn
  subst hg
  exact hO g rfl

def wT1 : Nat → TagsE := updT zeroT 0 ⟨0, 144144000⟩
def wT2 : Nat → TagsE := updT wT1 1 ⟨0, 144144000⟩
theorem zero_ok (k : Nat) : (zeroT k).ok := by unfold zeroT TagsE.ok; simp
theorem wT1_ok (k : Nat) : (wT1 k).ok := by unfold wT1 updT; split; (unfold TagsE.ok; simp); exact zero_ok k
theorem wT2_ok (k : Nat) : (wT2 k).ok := by unfold wT2 updT; split; (unfold TagsE.ok; simp); exact wT1_ok k
theorem w_cost : costS 100 1 2 = 144144000 := by decide +kernel
theorem k1_wake (W : World) (a : Option Addr) (c b : Nat) (h : TagsIn W a 2 c b 0 zeroT) : Calls Try.prog 64 #[.agg #[.int .i64 0, .slice a 2 c], .int .i64 0, .int .i64 100, .int .i64 1, .int .i64 2] W (VRes W 0 2 wT1 0) := by
  refine (wake_any 0 a 2 c b 0 zeroT 0 100 1 2 W h (by omega)).mono fun e w' h => ?_
  unfold TagP at h
  rw [w_cost, show max (headF zeroT 0) 0 = 0 by decide +kernel, show goodTag 0 2 zeroT 0 144144000 0 = true by decide +kernel] at h
  exact h
theorem k2_wake (W : World) (a : Option Addr) (c b : Nat) (h : TagsIn W a 2 c b 0 wT1) : Calls Try.prog 64 #[.agg #[.int .i64 0, .slice a 2 c], .int .i64 1, .int .i64 100, .int .i64 1, .int .i64 2] W (VRes W 0 2 wT2 0) := by
  refine (wake_any 0 a 2 c b 0 wT1 1 100 1 2 W h (by omega)).mono fun e w' h => ?_
  unfold TagP at h
  rw [w_cost, show max (headF wT1 1) 0 = 0 by decide +kernel, show goodTag 0 2 wT1 1 144144000 0 = true by decide +kernel] at h
  exact h
theorem k3_pick (W : World) (a : Option Addr) (c b rb : Nat) (h : TagsIn W a 2 c b 0 wT2) (hr : BoolsIn W (some ⟨rb, 0, none⟩) 2 2 rb 0 (fun _ => true)) : Calls Try.prog 52 #[.agg #[.int .i64 0, .slice a 2 c], .slice (some ⟨rb, 0, none⟩) 2 2] W (PickOut W 0 2 wT2 0 true) := by
  refine (pick_any 0 a 2 c b 0 wT2 _ 2 2 rb 0 _ W h (by omega) hr).mono fun e w' h => ?_
  unfold PickP at h
  rw [if_pos ⟨by decide +kernel, rfl⟩, show firstS (fun _ => true) (ltS wT2) 2 = some 0 by decide +kernel] at h
  simp only at h
  rw [show max (0 : Int) (wT2 0).s = 0 by decide +kernel, show firstI (tkN wT2 (fun _ => true) 0) (ltF wT2) 2 = 0 by decide +kernel] at h
  exact h

end Go.Proofs.Ytoodmocapagapaa
namespace Go.Proofs.Ytoodmocapagapaa
open Go.RowKit
set_option linter.unusedSimpArgs false
set_option linter.unusedVariables false

end Go.Proofs.Ytoodmocapagapaa
namespace Go.Proofs.Ytoodmocapagapaa
open Go.RowKit
set_option linter.unusedSimpArgs false
set_option linter.unusedVariables false

theorem rebase_any (V : Int) (a : Option Addr) (n c b o : Nat) (T : Nat → TagsE) (w : World) (hs : TagsIn w a n c b o T) (hn : n * 16 ≤ 140737488351232) : Calls Try.prog 55 #[.agg #[.int .i64 V, .slice a n c]] w (RebP w V n T) := by
  by_cases hc : vokB V n T = true ∧ 1125899906842624 < V
  · have hL : lateB V n T = true := by unfold lateB; rw [hc.1]; simpa using hc.2
    exact (rebase_down V a n c b o T w hs hn hc.1 hc.2).mono fun e w' ⟨v, h1, h2⟩ => ⟨v, h1, by rw [hL]; exact h2⟩
  · have hL : lateB V n T = false := by unfold lateB; simpa using hc
    refine (rebase_keep V a n c b o T w hs hn ?_).mono fun e w' ⟨v, h1, h2⟩ => ⟨v, h1, by rw [hL]; exact h2⟩
    cases hv : vokB V n T
    · exact .inl rfl
    · exact .inr ⟨rfl, by have : ¬ 1125899906842624 < V := fun h => hc ⟨hv, h⟩; omega⟩
theorem RebP.two {w : World} {V : Int} {n : Nat} {T : Nat → TagsE} {e : Ending} {w' : World} (h : RebP w V n T e w') (hT : ∀ j, j < n → (T j).ok) :
    ∃ V' T', (∃ v, e = .returned v ∧ VOut w w' v V' n T') ∧ (∀ j, j < n → (T' j).ok) ∧ (∀ w3 e2 w2, RebP w3 V n T e2 w2 → ∃ v, e2 = .returned v ∧ VOut w3 w2 v V' n T') := by
  unfold RebP at h ⊢
  cases hL : lateB V n T
  · rw [hL] at h
    exact ⟨V, T, h, hT, fun _ _ _ h => h⟩
  · rw [hL] at h
    unfold lateB at hL
    simp at hL
    have := vok_V hL.1
    exact ⟨_, _, h, fun j hj => reb_ok (by omega) (by omega) hT j hj, fun _ _ _ h => h⟩
/-- three blocks of the call's own -/
def F3 (w : World) (n1 n2 : Nat) (c0 c1 c2 : Array Value) (X : World) : Prop := Holds X w.heap.size c0 ∧ Holds X n1 c1 ∧ Holds X n2 c2 ∧ Below w.heap.size w X
theorem F3.step {w A B : World} {n1 n2 : Nat} {c0 c1 c2 : Array Value} (h : F3 w n1 n2 c0 c1 c2 A) (hB : Below A.heap.size A B) : F3 w n1 n2 c0 c1 c2 B := ⟨Holds.step h.1 hB, Holds.step h.2.1 hB, Holds.step h.2.2.1 hB, h.2.2.2.trans (hB.mono h.2.2.2.size)⟩

end Go.Proofs.Ytoodmocapagapaa
namespace Go.Proofs.Ytoodmocapagapaa
open Go.RowKit
set_option linter.unusedSimpArgs false
set_option linter.unusedVariables false

theorem belowN {B : Nat} {w X : World} (h : Below B w X) (n : Nat) : Below B w (X.drewN n) := ⟨h.os, h.tape, h.output, h.size, h.block⟩
/-- blocks of kinds other than these stay -/
def TyL (l : List TypeId) (W W' : World) : Prop := ∀ q cs ty, Blk W q cs ty → ty ∉ l → Blk W' q cs ty
theorem TyL.refl (l : List TypeId) (W : World) : TyL l W W := fun _ _ _ h _ => h
theorem TyL.trans {l : List TypeId} {a b c : World} (h : TyL l a b) (k : TyL l b c) : TyL l a c := fun q cs ty hb h1 => k q cs ty (h q cs ty hb h1) h1
theorem TyL.of_below {l : List TypeId} {W W' : World} (h : Below W.heap.size W W') : TyL l W W' := fun _ _ _ hb _ => hb.step h
theorem TyL.of_fr {l : List TypeId} {L : List Nat} {W W' : World} (h : Fr L W W') (hL : ∀ q ∈ L, ∃ cs ty, Blk W q cs ty ∧ ty ∈ l) : TyL l W W' := by
  intro q cs ty hb h1
  refine (h.block q hb.lt fun hm => ?_).trans hb
  obtain ⟨cs', ty', hb', ht'⟩ := hL q hm
  have := hb.symm.trans hb'
  injection this with e'
  injection e' with e1 e2
  exact h1 (e2 ▸ ht')
def fTy : List TypeId := [101, 112, 129]
structure BF (M : Nat) (W W' : World) : Prop where
  b : Below M W W'
  t : TyL fTy W W'
theorem BF.refl (M : Nat) (W : World) : BF M W W := ⟨Below.refl _ _, TyL.refl _ _⟩
theorem BF.trans {M : Nat} {a b c : World} (h : BF M a b) (k : BF M b c) : BF M a c := ⟨h.b.trans k.b, h.t.trans k.t⟩
theorem BF.size {M : Nat} {a b : World} (h : BF M a b) : a.heap.size ≤ b.heap.size := h.b.size
theorem BF.new {M : Nat} {W W' : World} (h : Below W.heap.size W W') (hM : M ≤ W.heap.size) : BF M W W' := ⟨h.mono hM, TyL.of_below h⟩
theorem blk_row {W : World} {v : Value} {g : Nat} {e : TypeId} {s n : Nat} {xs : List Value} (h : Row W v (some g) e s n xs) : ∃ cs, Blk W g cs e := by
  rcases h.cases with ⟨he, _⟩ | ⟨g1, cap, cur, he, _, h3, _⟩
  · cases he
  · obtain rfl := Option.some.inj he
    exact ⟨cur, h3⟩
/-- what a scheduler knows of its flows beside their tags -/
structure FlAt (W : World) (fo n : Nat) (wt z : Nat → Int) (sv : Nat → Bool) : Prop where
  ex : ∃ cs, Blk W fo cs 112 ∧ ∀ k, k < n → cs[k * 3]? = some (.int .u8 (wt k)) ∧ cs[k * 3 + 1]? = some (.int .u16 (z k)) ∧ cs[k * 3 + 2]? = some (.bool (sv k))
theorem FlAt.fr {W W' : World} {fo n : Nat} {wt z : Nat → Int} {sv : Nat → Bool} {l : List Nat} (h : FlAt W fo n wt z sv) (hf : Fr l W W') (hn : fo ∉ l) : FlAt W' fo n wt z sv := by
  obtain ⟨cs, hb, hc⟩ := h
  exact ⟨cs, (hf.block fo hb.lt hn).trans hb, hc⟩
theorem FlAt.lt {W : World} {fo n : Nat} {wt z : Nat → Int} {sv : Nat → Bool} (h : FlAt W fo n wt z sv) : fo < W.heap.size := by
  obtain ⟨cs, hb, hc⟩ := h
  exact hb.lt
theorem FlAt.cell {W : World} {fo n : Nat} {wt z : Nat → Int} {sv : Nat → Bool} (h : FlAt W fo n wt z sv) {k : Nat} (hk : k < n) : W.cell? ⟨fo, k * 3, none⟩ = some (.int .u8 (wt k)) ∧ W.cell? ⟨fo, k * 3 + 1, none⟩ = some (.int .u16 (z k)) ∧ W.cell? ⟨fo, k * 3 + 2, none⟩ = some (.bool (sv k)) ∧ ∀ j, W.frozen? ⟨fo, j, none⟩ = false := by
  obtain ⟨cs, hb, hc⟩ := h
  obtain ⟨c0, c1, c2⟩ := hc k hk
  exact ⟨(cell_at hb _).trans c0, (cell_at hb _).trans c1, (cell_at hb _).trans c2, fun j => free_at hb j⟩
theorem FlAt.put {W W' : World} {fo n : Nat} {wt z : Nat → Int} {sv : Nat → Bool} (h : FlAt W fo n wt z sv) {k : Nat} (hk : k < n) (m : Int) (b : Bool) (hW : W' = (W.setCell ⟨fo, k * 3 + 1, none⟩ (.int .u16 m)).setCell ⟨fo, k * 3 + 2, none⟩ (.bool b)) : FlAt W' fo n wt (upf z k m) (upf sv k b) ∧ Fr [fo] W W' := by
  obtain ⟨cs, hb, hc⟩ := h
  subst hW
  refine ⟨⟨_, (hb.set _ _).set _ _, fun j hj => ?_⟩, ((Fr.refl _ _).setCell _ (.inl (by simp)) _).setCell _ (.inl (by simp)) _⟩
  obtain ⟨c0, c1, c2⟩ := hc j hj
  obtain ⟨k0, k1, k2⟩ := hc k hk
  have hs1 := (Array.getElem?_eq_some_iff.1 k1).1
  have hs2 := (Array.getElem?_eq_some_iff.1 k2).1
  simp only [Array.getElem?_setIfInBounds, Array.size_setIfInBounds]
  by_cases hjk : j = k
  · subst hjk
    rw [upf_at, upf_at]
    refine ⟨?_, ?_, ?_⟩
    · rw [if_neg (by omega), if_neg (by omega)]; exact c0
    · rw [if_neg (by omega), if_pos rfl, if_pos hs1]
    · rw [if_pos rfl, if_pos hs2]
  · rw [upf_ne _ _ hjk, upf_ne _ _ hjk]
    refine ⟨?_, ?_, ?_⟩
    · rw [if_neg (by omega), if_neg (by omega)]; exact c0
    · rw [if_neg (by omega), if_neg (by omega)]; exact c1
    · rw [if_neg (by omega), if_neg (by omega)]; exact c2
theorem FlAt.put1 {W W' : World} {fo n : Nat} {wt z : Nat → Int} {sv : Nat → Bool} (h : FlAt W fo n wt z sv) {k : Nat} (hk : k < n) (b : Bool) (hW : W' = W.setCell ⟨fo, k * 3 + 2, none⟩ (.bool b)) : FlAt W' fo n wt z (upf sv k b) ∧ Fr [fo] W W' := by
  obtain ⟨cs, hb, hc⟩ := h
  subst hW
  refine ⟨⟨_, hb.set _ _, fun j hj => ?_⟩, (Fr.refl _ _).setCell _ (.inl (by simp)) _⟩
  obtain ⟨c0, c1, c2⟩ := hc j hj
  obtain ⟨k0, k1, k2⟩ := hc k hk
  have hs2 := (Array.getElem?_eq_some_iff.1 k2).1
  simp only [Array.getElem?_setIfInBounds]
  by_cases hjk : j = k
  · subst hjk
    rw [upf_at]
    refine ⟨?_, ?_, ?_⟩
    · rw [if_neg (by omega)]; exact c0
    · rw [if_neg (by omega)]; exact c1
    · rw [if_pos rfl, if_pos hs2]
  · rw [upf_ne _ _ hjk]
    refine ⟨?_, ?_, ?_⟩
    · rw [if_neg (by omega)]; exact c0
    · rw [if_neg (by omega)]; exact c1
    · rw [if_neg (by omega)]; exact c2
/-- a scheduler in memory -/
structure FrAt (W : World) (M g fo ft n c1 c2 : Nat) (wt : Nat → Int) (al : Int) (s : FS) : Prop where
  blk : Blk W g #[.slice (some ⟨fo, 0, none⟩) n c1, .int .i64 al, .int .i64 s.V, .slice (some ⟨ft, 0, none⟩) n c2] 101
  fl : FlAt W fo n wt s.z s.sv
  cp : n ≤ c1 ∧ c1 ≤ maxLen
  tg : Row W (.slice (some ⟨ft, 0, none⟩) n c2) (some ft) 129 2 n (tagsL s.T n)
  ge : M ≤ g ∧ M ≤ fo ∧ M ≤ ft
theorem FrAt.fr {W W' : World} {M g fo ft n c1 c2 : Nat} {wt : Nat → Int} {al : Int} {s : FS} (h : FrAt W M g fo ft n c1 c2 wt al s) {l : List Nat} (hf : Fr l W W') (h1 : g ∉ l) (h2 : fo ∉ l) (h3 : ft ∉ l) : FrAt W' M g fo ft n c1 c2 wt al s :=
  ⟨(hf.block g h.blk.lt h1).trans h.blk, h.fl.fr hf h2, h.cp, h.tg.congr fun q e => by obtain rfl := Option.some.inj e; exact hf.block _ h.tg.lt h3, h.ge⟩
theorem FrAt.step {W W' : World} {M g fo ft n c1 c2 : Nat} {wt : Nat → Int} {al : Int} {s : FS} (h : FrAt W M g fo ft n c1 c2 wt al s) (hB : Below W.heap.size W W') : FrAt W' M g fo ft n c1 c2 wt al s := h.fr (Fr.of_below hB) (by simp) (by simp) (by simp)
theorem FrAt.size {W : World} {M g fo ft n c1 c2 : Nat} {wt : Nat → Int} {al : Int} {s : FS} (h : FrAt W M g fo ft n c1 c2 wt al s) : M ≤ W.heap.size := by have := h.blk.lt; have := h.ge; omega
theorem FrAt.ne {W : World} {M g fo ft n c1 c2 : Nat} {wt : Nat → Int} {al : Int} {s : FS} (h : FrAt W M g fo ft n c1 c2 wt al s) : g ≠ fo ∧ g ≠ ft ∧ fo ≠ ft := by
  have dis : ∀ {x : Nat} {a b : Array Value} {t u : TypeId}, Blk W x a t → Blk W x b u → t ≠ u → False := fun h1 h2 hn => by
    have := h1.symm.trans h2
    injection this with e'
    injection e' with e1 e2
    exact hn e2
  obtain ⟨cs, hb, _⟩ := h.fl
  obtain ⟨ct, hc⟩ := blk_row h.tg
  refine ⟨?_, ?_, ?_⟩
  · rintro rfl; exact dis h.blk hb (by decide)
  · rintro rfl; exact dis h.blk hc (by decide)
  · rintro rfl; exact dis hb hc (by decide)
theorem FrAt.frame {W W' : World} {M g fo ft n c1 c2 : Nat} {wt : Nat → Int} {al : Int} {s : FS} (h : FrAt W M g fo ft n c1 c2 wt al s) {l : List Nat} (hf : Fr l W W') (hl : ∀ q ∈ l, q = g ∨ q = fo ∨ q = ft) : BF M W W' := by
  have hg := h.ge
  refine ⟨hf.below h.size (fun q hq => by rcases hl q hq with e | e | e <;> omega), TyL.of_fr hf fun q hq => ?_⟩
  rcases hl q hq with rfl | rfl | rfl
  · exact ⟨_, _, h.blk, by simp [fTy]⟩
  · obtain ⟨cs, hb, _⟩ := h.fl; exact ⟨_, _, hb, by simp [fTy]⟩
  · obtain ⟨cs, hb⟩ := blk_row h.tg; exact ⟨_, _, hb, by simp [fTy]⟩
theorem FrAt.tags {W : World} {M g fo ft n c1 c2 : Nat} {wt : Nat → Int} {al : Int} {s : FS} (h : FrAt W M g fo ft n c1 c2 wt al s) (hi : Inv n s) : TagsIn W (some ⟨ft, 0, none⟩) n c2 ft 0 s.T := by
  obtain ⟨a', c', he, ht⟩ := tags_row h.tg (fun k hk => hi.tok k hk)
  injection he with e1 e2 e3
  subst e1 e3
  exact ht
theorem vout_own {w w' : World} {v : Value} {V : Int} {n : Nat} {T : Nat → TagsE} (h : VOut w w' v V n T) (hn : 0 < n) : ∃ ft c, v = .agg #[.int .i64 V, .slice (some ⟨ft, 0, none⟩) n c] ∧ Row w' (.slice (some ⟨ft, 0, none⟩) n c) (some ft) 129 2 n (tagsL T n) ∧ w.heap.size ≤ ft ∧ Below w.heap.size w w' := by
  obtain ⟨a, c, ob, rfl, hR, hO, hB⟩ := h
  obtain ⟨g, rfl, rfl, _⟩ := own_k hR hn
  exact ⟨g, c, rfl, hR, hO g rfl, hB⟩
set_option maxRecDepth 100000 in
set_option maxHeartbeats 4000000 in
theorem set_ok (V' : Int) (T' : Nat → TagsE) (ft' c' : Nat) (M g fo ft n c1 c2 : Nat) (wt : Nat → Int) (al : Int) (s : FS) (w : World) (h : FrAt w M g fo ft n c1 c2 wt al s) (hr : Row w (.slice (some ⟨ft', 0, none⟩) n c') (some ft') 129 2 n (tagsL T' n)) (hM : M ≤ ft') :
    Calls Try.prog 53 #[.pointer (some ⟨g, 0, none⟩), .agg #[.int .i64 V', .slice (some ⟨ft', 0, none⟩) n c'], .int .i64 0] w fun e w' => e = .returned (.tuple #[]) ∧ FrAt w' M g fo ft' n c1 c' wt al ⟨V', T', s.z, s.sv⟩ ∧ BF M w w' ∧ Fr [g] w w' := by
  obtain ⟨N, hN⟩ : ∃ N, N = w.heap.size := ⟨_, rfl⟩
  obtain ⟨W1, hW1⟩ : ∃ W, W = w.alloc (.cells #[.int .i64 V', .slice (some ⟨ft', 0, none⟩) n c'] 99) := ⟨_, rfl⟩
  have hB1 : Below w.heap.size w W1 := by rw [hW1]; exact (Below.refl _ _).alloc (Nat.le_refl _) _
  have hb1 : Blk W1 N #[.int .i64 V', .slice (some ⟨ft', 0, none⟩) n c'] 99 := by rw [hW1, hN]; exact blk_new _ _ _
  have h1 := h.step hB1
  have c0 : W1.cell? ⟨N, 0, none⟩ = some (.int .i64 V') := cell_at hb1 0
  have d0 : W1.cell? ⟨N, 1, none⟩ = some (.slice (some ⟨ft', 0, none⟩) n c') := cell_at hb1 1
  have e2 : W1.cell? ⟨g, 2, none⟩ = some (.int .i64 s.V) := cell_at h1.blk 2
  have e3 : W1.cell? ⟨g, 3, none⟩ = some (.slice (some ⟨ft, 0, none⟩) n c2) := cell_at h1.blk 3
  have ez : ∀ j, W1.frozen? ⟨g, j, none⟩ = false := fun j => free_at h1.blk j
  have el : g < W1.heap.size := h1.blk.lt
  obtain ⟨W2, hW2⟩ : ∃ W, W = (W1.setCell ⟨g, 2, none⟩ (.int .i64 V')).setCell ⟨g, 3, none⟩ (.slice (some ⟨ft', 0, none⟩) n c') := ⟨_, rfl⟩
  have hf2 : Fr [g] W1 W2 := by rw [hW2]; exact ((Fr.refl _ _).setCell _ (.inl (by simp)) _).setCell _ (.inl (by simp)) _
  have hk2 : Blk W2 g #[.slice (some ⟨fo, 0, none⟩) n c1, .int .i64 al, .int .i64 V', .slice (some ⟨ft', 0, none⟩) n c'] 101 := by rw [hW2]; exact (h1.blk.set 2 _).set 3 _
  have hne := h1.ne
  have hgt : g ≠ ft' := by
    rintro rfl
    obtain ⟨ct, hc⟩ := blk_row hr
    have := hc.symm.trans h.blk
    injection this with e'
    injection e' with e1 e2
    revert e2
    decide
  have HR : Hid (FrAt W2 M g fo ft' n c1 c' wt al ⟨V', T', s.z, s.sv⟩ ∧ BF M w W2 ∧ Fr [g] w W2) := Lib.hid ⟨⟨hk2, h1.fl.fr hf2 (by simpa using fun e => hne.1 e.symm), h.cp, (hr.congr fun q e => by obtain rfl := Option.some.inj e; exact hB1.block _ hr.lt).congr fun q e => by
    obtain rfl := Option.some.inj e
    exact hf2.block _ (by have := hr.lt; have := hB1.size; omega) (by simpa using fun e => hgt e.symm), ⟨h.ge.1, h.ge.2.1, hM⟩⟩, (BF.new hB1 h.size).trans (h1.frame hf2 (by simp)), ((Fr.of_below hB1).mono (by simp)).trans hf2 (by simp)⟩
  clear hB1 hb1 h1 hf2 hk2 hne hgt h hr hM
  go_enter Try.func53, Try.ntmps53
  go_upto_region 1 with fail
  rw [← hN, ← hW1]
  clear hN hW1
  go_wp2_with fail
  rw [← hW2]
  go_end0
  exact ⟨rfl, HR.out⟩
end Go.Proofs.Ytoodmocapagapaa
