/-
  Tenants in memory, as lists; which may be.
-/
import Derived.Test.YtpgpcgpecpimlaaLib2
import Derived.Test.YtpgpcgpecpimlaaDt
import Derived.Test.YtpgpcgpecpimlaaBl
import Derived.Test.YtpgpcgpecpimlaaBk2
import Derived.OwnWalk
import Derived.BigQuiet
import Derived.BigRegion
import Derived.Deep.QuietTactic
import Derived.IntWalk
import Derived.Lib.Small
import Derived.RegionTactic
import Derived.Deep.RegionHeld3
import Derived.OrdersHeld
import Derived.Lib.Hide
import Derived.Deep.DeepCutAuto
import Derived.WalkMore
import Derived.WalkSpells
import Derived.Laws.OwnMore
namespace Go.Proofs.Ytpgpcgpecpimlaa
open Go.RowKit
set_option linter.unusedSimpArgs false
set_option linter.unusedVariables false

structure TnE where
  id : Int
  rate : Int
  burst : Int
  bkt : Int
  gone : Bool
deriving DecidableEq
def TnE.cells (e : TnE) : List Value := [.int .i64 e.id, .int .i64 e.rate, .int .i64 e.burst, .int .i64 e.bkt, .bool e.gone]
def TnE.ok (e : TnE) : Prop := (-9223372036854775808 ≤ e.id ∧ e.id ≤ 9223372036854775807) ∧ (-9223372036854775808 ≤ e.rate ∧ e.rate ≤ 9223372036854775807) ∧ (-9223372036854775808 ≤ e.burst ∧ e.burst ≤ 9223372036854775807) ∧ (-9223372036854775808 ≤ e.bkt ∧ e.bkt ≤ 9223372036854775807) ∧ True
structure TnIn (W : World) (a : Option Addr) (len cap b o : Nat) (E : Nat → TnE) : Prop where
  le : len ≤ cap
  max : cap ≤ maxLen
  at_ : 0 < len → a = some ⟨b, o, none⟩ ∧ b < W.heap.size
  cell : ∀ k, k < len → W.cell? ⟨b, o + k * 5, none⟩ = some (.int .i64 (E k).id) ∧ W.cell? ⟨b, o + k * 5 + 1, none⟩ = some (.int .i64 (E k).rate) ∧ W.cell? ⟨b, o + k * 5 + 2, none⟩ = some (.int .i64 (E k).burst) ∧ W.cell? ⟨b, o + k * 5 + 3, none⟩ = some (.int .i64 (E k).bkt) ∧ W.cell? ⟨b, o + k * 5 + 4, none⟩ = some (.bool (E k).gone)
  bd : ∀ k, k < len → (E k).ok
theorem TnIn.below {W W' : World} {a : Option Addr} {len cap b o : Nat} {E : Nat → TnE} (h : TnIn W a len cap b o E) (hB : Below W.heap.size W W') : TnIn W' a len cap b o E :=
  ⟨h.le, h.max, fun hk => ⟨(h.at_ hk).1, by have := (h.at_ hk).2; have := hB.size; omega⟩, fun k hk => by
    have hb := (h.at_ (by omega)).2
    obtain ⟨c0, c1, c2, c3, c4⟩ := h.cell k hk
    exact ⟨(hB.cell (p := ⟨b, _, none⟩) hb).trans c0, (hB.cell (p := ⟨b, _, none⟩) hb).trans c1, (hB.cell (p := ⟨b, _, none⟩) hb).trans c2, (hB.cell (p := ⟨b, _, none⟩) hb).trans c3, (hB.cell (p := ⟨b, _, none⟩) hb).trans c4⟩, h.bd⟩
theorem tn_cells (W : World) {a : Option Addr} {len cap : Nat} {xs : List Dt} (h : SliceFits Try.prog W 72 a len cap xs) : ∃ (b o : Nat) (E : Nat → TnE), TnIn W a len cap b o E := by
  have hc : Try.prog.cellsOf 72 = 5 := by kernel_rfl
  obtain ⟨b, o, h1, h2⟩ := h.spot (by rw [hc]; omega)
  have hex : ∀ k, ∃ q : TnE, k < len → (W.cell? ⟨b, o + k * 5, none⟩ = some (.int .i64 q.id) ∧ W.cell? ⟨b, o + k * 5 + 1, none⟩ = some (.int .i64 q.rate) ∧ W.cell? ⟨b, o + k * 5 + 2, none⟩ = some (.int .i64 q.burst) ∧ W.cell? ⟨b, o + k * 5 + 3, none⟩ = some (.int .i64 q.bkt) ∧ W.cell? ⟨b, o + k * 5 + 4, none⟩ = some (.bool q.gone)) ∧ q.ok := fun k => by
    by_cases hk : k < len
    · have hl := h.length
      have hx := List.getElem?_eq_getElem (l := xs) (i := k) (by omega)
      obtain ⟨l0, hxe, hl0, hf0⟩ := (h.each k _ hx).1.agg_inv Try.underlying72
      obtain ⟨y0_0, e0_0, f0_0⟩ := hf0 0 _ rfl
      obtain ⟨y0_1, e0_1, f0_1⟩ := hf0 1 _ rfl
      obtain ⟨y0_2, e0_2, f0_2⟩ := hf0 2 _ rfl
      obtain ⟨y0_3, e0_3, f0_3⟩ := hf0 3 _ rfl
      obtain ⟨y0_4, e0_4, f0_4⟩ := hf0 4 _ rfl
      obtain ⟨v0_0, rfl, gv0_0⟩ := f0_0.int_inv Try.underlying3
      obtain ⟨v0_1, rfl, gv0_1⟩ := f0_1.int_inv Try.underlying3
      obtain ⟨v0_2, rfl, gv0_2⟩ := f0_2.int_inv Try.underlying3
      obtain ⟨v0_3, rfl, gv0_3⟩ := f0_3.int_inv Try.underlying3
      obtain ⟨v0_4, rfl⟩ := f0_4.bool_inv Try.underlying4
      match l0, hl0 with
      | [z0_0, z0_1, z0_2, z0_3, z0_4], _ =>
        obtain rfl : z0_0 = _ := by simpa using e0_0
        obtain rfl : z0_1 = _ := by simpa using e0_1
        obtain rfl : z0_2 = _ := by simpa using e0_2
        obtain rfl : z0_3 = _ := by simpa using e0_3
        obtain rfl : z0_4 = _ := by simpa using e0_4
        have hcell := h2 k _ hx
        rw [hxe, hc] at hcell
        exact ⟨⟨v0_0, v0_1, v0_2, v0_3, v0_4⟩, fun _ => ⟨⟨hcell 0 _ rfl, by have := hcell 1 _ rfl; rwa [← Nat.add_assoc] at this, by have := hcell 2 _ rfl; rwa [← Nat.add_assoc] at this, by have := hcell 3 _ rfl; rwa [← Nat.add_assoc] at this, by have := hcell 4 _ rfl; rwa [← Nat.add_assoc] at this⟩, gv0_0, gv0_1, gv0_2, gv0_3, trivial⟩⟩
    · exact ⟨⟨0, 0, 0, 0, false⟩, fun h => absurd h hk⟩
  have hg := fun k => Classical.choose_spec (hex k)
  exact ⟨b, o, fun k => Classical.choose (hex k), h.le, h.max, h1, fun k hk => (hg k hk).1, fun k hk => (hg k hk).2⟩
def tnL (E : Nat → TnE) (n : Nat) : List Value := (List.range n).flatMap fun k => (E k).cells
theorem tnL_succ (E : Nat → TnE) (n : Nat) : tnL E (n + 1) = tnL E n ++ (E n).cells := by simp [tnL, List.range_succ, List.flatMap_append]
theorem tnL_len (E : Nat → TnE) : ∀ n : Nat, (tnL E n).length = n * 5
  | 0 => by simp [tnL]
  | n + 1 => by rw [tnL_succ, List.length_append, tnL_len E n]; simp [TnE.cells]; omega
theorem tnL_congr {E E' : Nat → TnE} : ∀ {n : Nat}, (∀ k, k < n → E k = E' k) → tnL E n = tnL E' n
  | 0, _ => rfl
  | n + 1, h => by rw [tnL_succ, tnL_succ, tnL_congr (fun k hk => h k (by omega)), h n (by omega)]
theorem tnL_at (E : Nat → TnE) : ∀ (n k j : Nat), k < n → j < 5 → (tnL E n)[k * 5 + j]? = (E k).cells[j]?
  | 0, _, _, h, _ => by omega
  | n + 1, k, j, h, hj => by
    have hl := tnL_len E n
    rw [tnL_succ]
    by_cases hk : k < n
    · rw [List.getElem?_append_left (by omega)]
      exact tnL_at E n k j hk hj
    · obtain rfl : k = n := by omega
      rw [List.getElem?_append_right (by omega), hl]
      congr 1
      omega
theorem tn_row {w : World} {v : Value} {ob : Option Nat} {E : Nat → TnE} {n : Nat} (h : Row w v ob 72 5 n (tnL E n)) (hE : ∀ k, k < n → (E k).ok) :
    ∃ a cap, v = .slice a n cap ∧ TnIn w a n cap (ob.getD 0) 0 E := by
  obtain ⟨a, cap, rfl, h1, h2, h3⟩ := h.shape
  refine ⟨a, cap, rfl, h1, h2, fun hk => ?_, fun k hk => ?_, hE⟩
  · obtain ⟨g, hg, _⟩ := h.cell 0 (by omega)
    subst hg
    exact ⟨h3, h.lt⟩
  · have hh : ∀ j, j < 5 → w.cell? ⟨ob.getD 0, 0 + k * 5 + j, none⟩ = (E k).cells[j]? := fun j hj => by
      obtain ⟨g, hg, hc, _⟩ := h.cell (k * 5 + j) (by omega)
      subst hg
      rw [Option.getD_some, Nat.zero_add, hc, tnL_at E n k j hk hj]
    exact ⟨hh 0 (by omega), hh 1 (by omega), hh 2 (by omega), hh 3 (by omega), hh 4 (by omega)⟩

def TnE.agg (e : TnE) : Value := .agg #[.int .i64 e.id, .int .i64 e.rate, .int .i64 e.burst, .int .i64 e.bkt, .bool e.gone]
def z0 : TnE := ⟨0, 0, 0, 0, false⟩
def gt (L : List TnE) (k : Nat) : TnE := (L[k]?).getD z0
theorem gt_lt {L : List TnE} {k : Nat} (h : k < L.length) : L[k]? = some (gt L k) := by unfold gt; rw [List.getElem?_eq_getElem h]; rfl
theorem gt_of {L : List TnE} {k : Nat} {x : TnE} (h : L[k]? = some x) : gt L k = x := by unfold gt; rw [h]; rfl
def listL (L : List TnE) : List Value := L.flatMap TnE.cells
theorem listL_append (a b : List TnE) : listL (a ++ b) = listL a ++ listL b := by simp [listL]
theorem listL_one (m : TnE) : listL [m] = m.cells := by simp [listL]
theorem listL_len : ∀ L : List TnE, (listL L).length = L.length * 5
  | [] => rfl
  | m :: l => by
    show (m.cells ++ listL l).length = _
    rw [List.length_append, listL_len l]
    simp [TnE.cells]
    omega
theorem tnL_gt : ∀ (L : List TnE), listL L = tnL (gt L) L.length := by
  intro L
  suffices h : ∀ n, n ≤ L.length → listL (L.take n) = tnL (gt L) n by
    have := h L.length (Nat.le_refl _)
    rwa [List.take_length] at this
  intro n
  induction n with
  | zero => intro _; rfl
  | succ n ih =>
    intro hn
    rw [tnL_succ, ← ih (by omega), List.take_add_one, gt_lt (by omega)]
    rw [listL_append]
    simp [listL]
/-- the list of tenants that a value stands for -/
def TV (W : World) (v : Value) (L : List TnE) : Prop := ∃ a b o cap, v = .slice a L.length cap ∧ TnIn W a L.length cap b o (gt L)
theorem TV.below {W W' : World} {v : Value} {L : List TnE} (h : TV W v L) (hB : Below W.heap.size W W') : TV W' v L := by
  obtain ⟨a, b, o, c, rfl, h⟩ := h
  exact ⟨a, b, o, c, rfl, h.below hB⟩
def okL (L : List TnE) : Prop := ∀ x ∈ L, x.ok
theorem okL_gt {L : List TnE} (h : okL L) (k : Nat) (hk : k < L.length) : (gt L k).ok := h _ (List.mem_of_getElem? (gt_lt hk))
theorem TV.ok {W : World} {v : Value} {L : List TnE} (h : TV W v L) : okL L := by
  obtain ⟨a, b, o, c, rfl, h⟩ := h
  intro x hx
  obtain ⟨k, hk, rfl⟩ := List.mem_iff_getElem.1 hx
  have := h.bd k hk
  rwa [gt_of (List.getElem?_eq_getElem hk)] at this
theorem tv_row {W : World} {v : Value} {ob : Option Nat} {L : List TnE} (h : Row W v ob 72 5 L.length (listL L)) (ho : okL L) : TV W v L := by
  rw [tnL_gt] at h
  obtain ⟨a, c, e, h2⟩ := tn_row h (okL_gt ho)
  exact ⟨a, _, 0, c, e, h2⟩
theorem tv_nil (W : World) : TV W (.slice none 0 0) [] := ⟨none, 0, 0, 0, rfl, Nat.le_refl _, Nat.zero_le _, fun h => absurd h (by simp), fun k hk => absurd hk (by simp), fun k hk => absurd hk (by simp)⟩
theorem tv_cells (W : World) {a : Option Addr} {len cap : Nat} {xs : List Dt} (h : SliceFits Try.prog W 72 a len cap xs) : ∃ L : List TnE, L.length = len ∧ TV W (.slice a len cap) L := by
  obtain ⟨b, o, E, hE⟩ := tn_cells W h
  refine ⟨(List.range len).map E, by simp, a, b, o, cap, by simp, ?_⟩
  have hg : ∀ k, k < len → gt ((List.range len).map E) k = E k := fun k hk => gt_of (by simp [hk])
  rw [show ((List.range len).map E).length = len by simp]
  exact ⟨hE.le, hE.max, hE.at_, fun k hk => by rw [hg k hk]; exact hE.cell k hk, fun k hk => by rw [hg k hk]; exact hE.bd k hk⟩

theorem stC_fr (b : Nat) : ∀ (l : List Value) (o : Nat) (w : World), Fr [b] w (w.setCells b o l)
  | [], _, w => Fr.refl _ _
  | v :: r, o, w => ((Fr.refl [b] w).setCell ⟨b, o, none⟩ (.inl (by simp)) v).trans (stC_fr b r (o + 1) _) (fun x hx => .inl hx)
theorem stC_pt {b : Nat} {t : TypeId} : ∀ (L : List Value) (o : Nat) {W : World} {cs : Array Value}, Blk W b cs t → o + L.length ≤ cs.size → ∃ cs', Blk (W.setCells b o L) b cs' t ∧ cs'.size = cs.size ∧ (∀ j, j < o → cs'[j]? = cs[j]?) ∧ (∀ i, i < L.length → cs'[o + i]? = L[i]?) ∧ ∀ j, o + L.length ≤ j → cs'[j]? = cs[j]?
  | [], o, W, cs, h, _ => ⟨cs, h, rfl, fun _ _ => rfl, fun i hi => absurd hi (Nat.not_lt_zero _), fun _ _ => rfl⟩
  | v :: r, o, W, cs, h, hl => by
    have hl' : o + (r.length + 1) ≤ cs.size := hl
    obtain ⟨cs', k1, k2, k3, k4, k5⟩ := stC_pt r (o + 1) (h.set o v) (by simp; omega)
    refine ⟨cs', k1, by simpa using k2, fun j hj => ?_, fun i hi => ?_, fun j hj => ?_⟩
    · rw [k3 j (by omega), Array.getElem?_setIfInBounds, if_neg (by omega)]
    · rcases Nat.eq_zero_or_pos i with rfl | hp
      · rw [Nat.add_zero, k3 o (by omega), Array.getElem?_setIfInBounds, if_pos rfl, if_pos (by omega)]
        rfl
      · obtain ⟨m, rfl⟩ : ∃ m, i = m + 1 := ⟨i - 1, by omega⟩
        have := k4 m (by simpa using hi)
        rw [show o + (m + 1) = o + 1 + m by omega, this]
        rfl
    · have hj' : o + (r.length + 1) ≤ j := hj
      rw [k5 j (by omega), Array.getElem?_setIfInBounds, if_neg (by omega)]
theorem stC_blk {W : World} {b : Nat} {cs : Array Value} {t : TypeId} (h : Blk W b cs t) (L : List Value) (hl : L.length = cs.size) : Blk (W.setCells b 0 L) b L.toArray t := by
  obtain ⟨cs', k1, k2, k3, k4, k5⟩ := stC_pt L 0 h (by omega)
  have : cs' = L.toArray := by
    apply Array.ext_getElem?
    intro i
    by_cases hi : i < L.length
    · have := k4 i hi
      rw [Nat.zero_add] at this
      rw [this]
      simp
    · rw [Array.getElem?_eq_none (by omega), Array.getElem?_eq_none (by simp; omega)]
  rw [this] at k1
  exact k1

def idB (n : Int) : Bool := decide (1 ≤ n) && decide (n ≤ 16)
def zeroB (x : TnE) : Bool := !x.gone || (decide (x.rate = 0) && decide (x.burst = 0) && decide (x.bkt = 0))
def fullB (x : TnE) : Bool := decide (0 ≤ x.bkt) && decide (x.bkt ≤ 1000000000)
def mayT (x : TnE) : Bool := idB x.id && mayB x.rate x.burst && fullB x && zeroB x
def chkF (last : Int) : List TnE → Bool
  | [] => true
  | x :: r => decide (last < x.id) && mayT x && chkF x.id r
def chk (L : List TnE) : Bool := chkF 0 L

set_option maxRecDepth 100000 in
set_option maxHeartbeats 2000000 in
theorem isId_any (n : Int) (w : World) : Calls Try.prog 76 #[.int .i64 n] w fun e w' => e = .returned (.bool (idB n)) ∧ w = w' := by
  go_enter Try.func76, Try.ntmps76
  go_wp2_with fail
  all_goals
    go_ret
    exact ⟨ret_bool (by unfold idB; simp; try omega), rfl⟩
set_option maxRecDepth 100000 in
set_option maxHeartbeats 2000000 in
theorem rid_any (n : Int) (w : World) : Calls Try.prog 82 #[.int .i64 n] w fun e w' => e = .returned (.bool (idB n)) ∧ w = w' := by
  go_enter Try.func82, Try.ntmps82
  go_wp2_with fail
  all_goals
    go_ret
    exact ⟨ret_bool (by unfold idB; simp; try omega), rfl⟩
set_option maxRecDepth 100000 in
set_option maxHeartbeats 2000000 in
theorem rmay16_any (n m : Int) (w : World) : Calls Try.prog 83 #[.int .i64 n, .int .i64 m] w fun e w' => e = .returned (.bool (mayB n m)) ∧ w = w' := by
  go_enter Try.func83, Try.ntmps83
  go_wp2_with fail
  all_goals
    go_ret
    exact ⟨ret_bool (by unfold mayB; first | (simp [*]; done) | (simp; omega)), rfl⟩

def TnE.arr (x : TnE) : Array Value := #[.int .i64 x.id, .int .i64 x.rate, .int .i64 x.burst, .int .i64 x.bkt, .bool x.gone]
set_option maxRecDepth 100000 in
set_option maxHeartbeats 2000000 in
theorem may1_any (x : TnE) (N : Nat) (w : World) (h : Blk w N x.arr 72) : Calls Try.prog 101 #[.pointer (some ⟨N, 0, none⟩)] w fun e w' => e = .returned (.bool (idB x.id)) ∧ w = w' := by
  have c0 : w.cell? ⟨N, 0, none⟩ = some (.int .i64 x.id) := cell_at h 0
  clear h
  go_enter Try.func101, Try.ntmps101
  go_wp2_with (refine (isId_any _ _).mono ?_; rintro e w' ⟨rfl, rfl⟩)
  go_ret
  exact ⟨rfl, rfl⟩
set_option maxRecDepth 100000 in
set_option maxHeartbeats 2000000 in
theorem may2_any (x : TnE) (N : Nat) (w : World) (h : Blk w N x.arr 72) : Calls Try.prog 102 #[.pointer (some ⟨N, 0, none⟩)] w fun e w' => e = .returned (.bool (mayB x.rate x.burst)) ∧ w = w' := by
  have c1 : w.cell? ⟨N, 1, none⟩ = some (.int .i64 x.rate) := cell_at h 1
  have c2 : w.cell? ⟨N, 2, none⟩ = some (.int .i64 x.burst) := cell_at h 2
  clear h
  go_enter Try.func102, Try.ntmps102
  go_wp2_with (refine (may_any _ _ _).mono ?_; rintro e w' ⟨rfl, rfl⟩)
  go_ret
  exact ⟨rfl, rfl⟩
set_option maxRecDepth 100000 in
set_option maxHeartbeats 2000000 in
theorem may3_any (x : TnE) (N : Nat) (w : World) (h : Blk w N x.arr 72) : Calls Try.prog 103 #[.pointer (some ⟨N, 0, none⟩)] w fun e w' => e = .returned (.bool (fullB x)) ∧ Below w.heap.size w w' := by
  have c3 : w.cell? ⟨N, 3, none⟩ = some (.int .i64 x.bkt) := cell_at h 3
  obtain ⟨bk, hbk⟩ : ∃ bk, bk = x.bkt := ⟨_, rfl⟩
  unfold fullB
  rw [← hbk] at c3 ⊢
  clear h hbk
  have hcs : bk < 0 ∨ (0 ≤ bk ∧ 1000000000 < bk) ∨ (0 ≤ bk ∧ bk ≤ 1000000000) := by omega
  rcases hcs with h1 | ⟨h1, h2⟩ | ⟨h1, h2⟩
  all_goals
    go_enter Try.func103, Try.ntmps103
    go_wp2_with fail
    go_ret
    refine ⟨ret_bool (by simp; try omega), ?_⟩
    first | exact Below.refl _ _ | exact (Below.refl _ _).drew
set_option maxRecDepth 100000 in
set_option maxHeartbeats 2000000 in
theorem may4_any (x : TnE) (N : Nat) (w : World) (h : Blk w N x.arr 72) : Calls Try.prog 104 #[.pointer (some ⟨N, 0, none⟩)] w fun e w' => e = .returned (.bool (zeroB x)) ∧ Below w.heap.size w w' := by
  have c1 : w.cell? ⟨N, 1, none⟩ = some (.int .i64 x.rate) := cell_at h 1
  have c2 : w.cell? ⟨N, 2, none⟩ = some (.int .i64 x.burst) := cell_at h 2
  have c3 : w.cell? ⟨N, 3, none⟩ = some (.int .i64 x.bkt) := cell_at h 3
  have c4 : w.cell? ⟨N, 4, none⟩ = some (.bool x.gone) := cell_at h 4
  unfold zeroB
  obtain ⟨id, rate, burst, bk, gone⟩ := x
  simp only at c1 c2 c3 c4 ⊢
  clear h
  have hcs : gone = false ∨ (gone = true ∧ rate ≠ 0) ∨ (gone = true ∧ rate = 0 ∧ burst ≠ 0) ∨ (gone = true ∧ rate = 0 ∧ burst = 0 ∧ bk ≠ 0) ∨ (gone = true ∧ rate = 0 ∧ burst = 0 ∧ bk = 0) := by cases gone <;> simp; omega
  rcases hcs with h1 | ⟨h1, h2⟩ | ⟨h1, h2, h3⟩ | ⟨h1, h2, h3, h4⟩ | ⟨h1, h2, h3, h4⟩
  all_goals
    try subst h1
    try subst h2
    try subst h3
    try subst h4
    go_enter Try.func104, Try.ntmps104
    go_wp2_with fail
    go_ret
    refine ⟨ret_bool (by simp [*]), ?_⟩
    first | exact Below.refl _ _ | exact (Below.refl _ _).drew
end Go.Proofs.Ytpgpcgpecpimlaa
