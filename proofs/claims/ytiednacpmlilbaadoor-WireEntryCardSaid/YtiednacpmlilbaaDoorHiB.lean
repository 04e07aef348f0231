/-
  Laws on memory; rows of ints.
-/
import Derived.Test.YtiednacpmlilbaaDoorLib2
import Derived.Test.YtiednacpmlilbaaDoorDt
import Derived.Test.YtiednacpmlilbaaDoorBl
import Derived.Test.YtiednacpmlilbaaDoorLz
import Derived.Deep.DeepFit
import Derived.Lib.AppendZeros
import Derived.OwnWalk
import Derived.BigQuiet
import Derived.BigRegion
import Derived.Deep.QuietTactic
import Derived.IntWalk
import Derived.Lib.Small
import Derived.RegionTactic
import Derived.Deep.RegionHeld3
import Derived.OrdersHeld
import Derived.Lib.Hide
import Derived.Deep.DeepCutAuto
import Derived.WalkMore
import Derived.WalkSpells
import Derived.Laws.OwnMore
namespace Go.Proofs.YtiednacpmlilbaaDoor
open Go.RowKit
set_option linter.unusedSimpArgs false
set_option linter.unusedVariables false

theorem stC_fr (b : Nat) : ∀ (l : List Value) (o : Nat) (w : World), Fr [b] w (w.setCells b o l)
  | [], _, w => Fr.refl _ _
  | v :: r, o, w => ((Fr.refl [b] w).setCell ⟨b, o, none⟩ (.inl (by simp)) v).trans (stC_fr b r (o + 1) _) (fun x hx => .inl hx)
theorem stC_pt {b : Nat} {t : TypeId} : ∀ (L : List Value) (o : Nat) {W : World} {cs : Array Value}, Blk W b cs t → o + L.length ≤ cs.size → ∃ cs', Blk (W.setCells b o L) b cs' t ∧ cs'.size = cs.size ∧ (∀ j, j < o → cs'[j]? = cs[j]?) ∧ (∀ i, i < L.length → cs'[o + i]? = L[i]?) ∧ ∀ j, o + L.length ≤ j → cs'[j]? = cs[j]?
  | [], o, W, cs, h, _ => ⟨cs, h, rfl, fun _ _ => rfl, fun i hi => absurd hi (Nat.not_lt_zero _), fun _ _ => rfl⟩
  | v :: r, o, W, cs, h, hl => by
    have hl' : o + (r.length + 1) ≤ cs.size := hl
    obtain ⟨cs', k1, k2, k3, k4, k5⟩ := stC_pt r (o + 1) (h.set o v) (by simp; omega)
    refine ⟨cs', k1, by simpa using k2, fun j hj => ?_, fun i hi => ?_, fun j hj => ?_⟩
    · rw [k3 j (by omega), Array.getElem?_setIfInBounds, if_neg (by omega)]
    · rcases Nat.eq_zero_or_pos i with rfl | hp
      · rw [Nat.add_zero, k3 o (by omega), Array.getElem?_setIfInBounds, if_pos rfl, if_pos (by omega)]
        rfl
      · obtain ⟨m, rfl⟩ : ∃ m, i = m + 1 := ⟨i - 1, by omega⟩
        have := k4 m (by simpa using hi)
        rw [show o + (m + 1) = o + 1 + m by omega, this]
        rfl
    · have hj' : o + (r.length + 1) ≤ j := hj
      rw [k5 j (by omega), Array.getElem?_setIfInBounds, if_neg (by omega)]
theorem stC_blk {W : World} {b : Nat} {cs : Array Value} {t : TypeId} (h : Blk W b cs t) (L : List Value) (hl : L.length = cs.size) : Blk (W.setCells b 0 L) b L.toArray t := by
  obtain ⟨cs', k1, k2, k3, k4, k5⟩ := stC_pt L 0 h (by omega)
  have : cs' = L.toArray := by
    apply Array.ext_getElem?
    intro i
    by_cases hi : i < L.length
    · have := k4 i hi
      rw [Nat.zero_add] at this
      rw [this]
      simp
    · rw [Array.getElem?_eq_none (by omega), Array.getElem?_eq_none (by simp; omega)]
  rw [this] at k1
  exact k1
theorem op_append_run {P : Program} {o : Oper} {a : Act} {K : Act → World → Prop} {Q : Exit → Act → World → Prop} {w w' : World} (s x : Operand) (t : TypeId)
    (ho : o.op = .call { callee := .builtin .append, args := #[s, x], argTypes := #[t, t] }) {v y v' : Value} (hs : a.eval s = v) (hx : a.eval x = y)
    (hr : (Builtin.append_ #[t, t] o.type #[v, y]).run P w = .ok v' w') (h : K (a.put o.dst v') w') : Oper.wp P o a w K Q := by
  unfold Oper.wp execOp
  simp only [ho, resolve, invoke, builtin, Sem.run_bind, Sem.run_pure, Result.andThen_ok, List.map_toArray, List.map_cons, List.map_nil, hs, hx, hr]
  exact h
theorem dN (w : World) (n : Nat) : Below w.heap.size w (w.drewN n) := ⟨rfl, rfl, rfl, Nat.le_refl _, fun _ _ => rfl⟩
theorem Blk.stepM {A B : World} {M n : Nat} {c : Array Value} {t : TypeId} (h : Blk A n c t) (hB : Below M A B) (hn : n < M) : Blk B n c t := (hB.block n hn).trans h
def EntK (k : FuncId) : Prop := ∀ (args : Array Value) (w : World), (callFunc k args).run Tryd.prog w = .ok (.enter k args) w
theorem row_ty {W : World} {v v' : Value} {g : Nat} {e e' : TypeId} {s s' n n' : Nat} {xs xs' : List Value} (h : Row W v (some g) e s n xs) (h' : Row W v' (some g) e' s' n' xs') : e = e' := by
  rcases h.cases with ⟨he, _⟩ | ⟨g1, cap, cur, he, _, h3, _⟩
  · cases he
  · obtain rfl := Option.some.inj he
    rcases h'.cases with ⟨he', _⟩ | ⟨g2, cap', cur', he', _, h3', _⟩
    · cases he'
    · obtain rfl := Option.some.inj he'
      have := h3.symm.trans h3'
      injection this with this
      injection this
theorem row_blk_ne {W : World} {v : Value} {g n0 : Nat} {e t : TypeId} {s n : Nat} {xs : List Value} {cs : Array Value} (h : Row W v (some g) e s n xs) (hb : Blk W n0 cs t) (ht : t ≠ e) : n0 ≠ g := by
  intro e1
  subst e1
  rcases h.cases with ⟨he, _⟩ | ⟨g1, cap, cur, he, _, h3, _⟩
  · cases he
  · obtain rfl := Option.some.inj he
    have hb' : W.heap[n0]? = some (.cells cs t (0, 0)) := hb
    have := h3.symm.trans hb'
    injection this with this
    injection this with a b
    exact ht b.symm
theorem row_keep {W W' : World} {v v' : Value} {ob o2 : Option Nat} {e e' : TypeId} {s s' n n' : Nat} {xs xs' : List Value} (h : Row W v ob e s n xs) (hr : Row W v' o2 e' s' n' xs') (hne : e ≠ e') (hblk : ∀ g, g < W.heap.size → (∀ g2, o2 = some g2 → g ≠ g2) → W'.heap[g]? = W.heap[g]?) : Row W' v ob e s n xs :=
  h.congr fun g eg => by
    subst eg
    refine hblk g h.lt fun g2 e2 e3 => ?_
    subst e2 e3
    exact hne (row_ty h hr)
theorem grown_blk {W W' : World} {o2 : Option Nat} (hG : W.grownBy W' o2) (g : Nat) (hg : g < W.heap.size) (hne : ∀ g2, o2 = some g2 → g ≠ g2) : W'.heap[g]? = W.heap[g]? := hG.block g hg (fun e => hne g e.symm rfl)
theorem take_set {α : Type} (l : List α) (n i : Nat) (a : α) : (l.set i a).take n = (l.take n).set i a := List.take_set
theorem row_setCell {W : World} {v : Value} {g n s : Nat} {e : TypeId} {xs : List Value} (h : Row W v (some g) e s n xs) (j : Nat) (u : Value) : Row (W.setCell ⟨g, j, none⟩ u) v (some g) e s n (xs.set j u) := by
  rcases h.cases with ⟨he, _⟩ | ⟨g1, cap, cur, he, rfl, h3, h4, h5, h6, h7⟩
  · cases he
  · obtain rfl := Option.some.inj he
    refine Row.mk (cur := cur.setIfInBounds j u) (Blk.set (show Blk W g cur e from h3) j u) h4 h5 (by simp [h6]) ?_
    rw [Array.toList_setIfInBounds, take_set, h7]
/-- a region none of whose operations panics, in a function that defers -/
def NoPan (Q : Exit → Act → World → Prop) (e : Exit) (a : Act) (w : World) : Prop :=
  match e with
  | .panic _ => False
  | e => Q e a w
theorem wp_np {P : Program} {c : Code} {Q : Exit → Act → World → Prop} {a : Act} {w : World} (h : c.wp P (NoPan Q) a w) : c.wp P Q a w :=
  Code.wp_mono (fun e a w h => by cases e <;> first | exact h | exact h.elim) h
theorem below_undrewM {B : Nat} {w X : World} (h : Below B w.drew X) : Below B w X := ⟨h.os, h.tape, h.output, h.size, h.block⟩
structure IntsIn (W : World) (a : Option Addr) (len cap : Nat) (b o : Nat) (T : Nat → Int) : Prop where
  le : len ≤ cap
  max : cap ≤ maxLen
  at_ : 0 < len → a = some ⟨b, o, none⟩ ∧ b < W.heap.size
  cell : ∀ k, k < len → W.cell? ⟨b, o + k, none⟩ = some (.int .i64 (T k))
  bd : ∀ k, k < len → -9223372036854775808 ≤ T k ∧ T k ≤ 9223372036854775807
theorem ints_cells (W : World) {a : Option Addr} {len cap : Nat} {xs : List Dt} (h : SliceFits Tryd.prog W 3 a len cap xs) : ∃ (b o : Nat) (T : Nat → Int), IntsIn W a len cap b o T := by
  have hc : Tryd.prog.cellsOf 3 = 1 := by kernel_rfl
  obtain ⟨b, o, h1, h2⟩ := h.spot (by rw [hc]; omega)
  have hex : ∀ k, ∃ q : Int, k < len → W.cell? ⟨b, o + k, none⟩ = some (.int .i64 q) ∧ -9223372036854775808 ≤ q ∧ q ≤ 9223372036854775807 := fun k => by
    by_cases hk : k < len
    · have hl := h.length
      have hx := List.getElem?_eq_getElem (l := xs) (i := k) (by omega)
      obtain ⟨n0, e0, g0⟩ := (h.each k _ hx).1.int_inv Tryd.underlying3
      have hcell := h2 k _ hx
      rw [e0, hc] at hcell
      exact ⟨n0, fun _ => ⟨by have := hcell 0 _ rfl; rwa [Nat.mul_one] at this, g0.1, g0.2⟩⟩
    · exact ⟨0, fun h => absurd h hk⟩
  have hg := fun k => Classical.choose_spec (hex k)
  exact ⟨b, o, fun k => Classical.choose (hex k), h.le, h.max, h1, fun k hk => (hg k hk).1, fun k hk => (hg k hk).2⟩
theorem IntsIn.below {W W' : World} {a : Option Addr} {len cap b o : Nat} {T : Nat → Int} (h : IntsIn W a len cap b o T) (hB : Below W.heap.size W W') : IntsIn W' a len cap b o T :=
  ⟨h.le, h.max, fun hk => ⟨(h.at_ hk).1, by have := (h.at_ hk).2; have := hB.size; omega⟩, fun k hk => (hB.cell (p := ⟨b, _, none⟩) (h.at_ (by omega)).2).trans (h.cell k hk), h.bd⟩
def inL (L : List Int) : List Value := L.map fun x => .int .i64 x
def gI (L : List Int) (k : Nat) : Int := (L[k]?).getD 0
def okI (L : List Int) : Prop := ∀ x ∈ L, -9223372036854775808 ≤ x ∧ x ≤ 9223372036854775807
theorem gI_lt {L : List Int} {k : Nat} (h : k < L.length) : L[k]? = some (gI L k) := by unfold gI; rw [List.getElem?_eq_getElem h]; rfl
theorem inL_len (L : List Int) : (inL L).length = L.length * 1 := by simp [inL]
theorem inL_append (a b : List Int) : inL (a ++ b) = inL a ++ inL b := by simp [inL]
theorem inL_at (L : List Int) (k : Nat) : (inL L)[k]? = (L[k]?).map fun x => .int .i64 x := by simp [inL]
theorem inL_ones (L : List Int) : ∀ u ∈ inL L, u.oneCell' = true := by
  intro u hu
  obtain ⟨x, _, rfl⟩ := List.mem_map.1 hu
  rfl
/-- the value v stands for the list L of ints -/
def InV (W : World) (v : Value) (L : List Int) : Prop := ∃ a b o cap, v = .slice a L.length cap ∧ IntsIn W a L.length cap b o (gI L)
theorem InV.below {W W' : World} {v : Value} {L : List Int} (h : InV W v L) (hB : Below W.heap.size W W') : InV W' v L := by
  obtain ⟨a, b, o, c, e, h⟩ := h
  exact ⟨a, b, o, c, e, h.below hB⟩
theorem InV.sh {W : World} {v : Value} {L : List Int} (h : InV W v L) : ∃ a n c, v = .slice a n c ∧ Hid (n = L.length) ∧ n ≤ c ∧ c ≤ 9223372036854775807 := by
  obtain ⟨a, b, o, c, rfl, h⟩ := h
  exact ⟨a, _, c, rfl, Lib.hid rfl, h.le, by have := h.max; unfold maxLen at this; exact this⟩
theorem InV.at {W : World} {a : Option Addr} {n c : Nat} {L : List Int} (h : InV W (.slice a n c) L) (k : Nat) (hk : k < n) : ∃ (g o : Nat) (x : Int), a = some ⟨g, o, none⟩ ∧ g < W.heap.size ∧ L[k]? = some x ∧ W.cell? ⟨g, o + k, none⟩ = some (.int .i64 x) ∧ -9223372036854775808 ≤ x ∧ x ≤ 9223372036854775807 := by
  obtain ⟨a', b, o, c', ee, h⟩ := h
  injection ee with e1 e2 e3
  subst e1 e2 e3
  have h1 := h.at_ (by omega)
  exact ⟨b, o, gI L k, h1.1, h1.2, gI_lt hk, h.cell k hk, h.bd k hk⟩
theorem InV.ok {W : World} {v : Value} {L : List Int} (h : InV W v L) : okI L := by
  obtain ⟨a, b, o, c, rfl, h⟩ := h
  intro x hx
  obtain ⟨k, hk, rfl⟩ := List.mem_iff_getElem.1 hx
  have := h.bd k hk
  unfold gI at this
  rw [List.getElem?_eq_getElem hk] at this
  exact this
theorem inv_cells (W : World) {a : Option Addr} {len cap : Nat} {xs : List Dt} (h : SliceFits Tryd.prog W 3 a len cap xs) : ∃ L : List Int, L.length = len ∧ InV W (.slice a len cap) L := by
  obtain ⟨b, o, T, h⟩ := ints_cells W h
  refine ⟨(List.range len).map T, by simp, a, b, o, cap, by simp, ?_⟩
  have e : ∀ k, k < len → gI ((List.range len).map T) k = T k := fun k hk => by simp [gI, hk]
  simp only [List.length_map, List.length_range]
  exact ⟨h.le, h.max, h.at_, fun k hk => by rw [e k hk]; exact h.cell k hk, fun k hk => by rw [e k hk]; exact h.bd k hk⟩
def InO (M : Nat) (W : World) (v : Value) (ob : Option Nat) (L : List Int) : Prop := Row W v ob 3 1 L.length (inL L) ∧ okI L ∧ ∀ g, ob = some g → M ≤ g
theorem ino_nil (W : World) (M : Nat) : InO M W (.slice none 0 0) none [] := ⟨Row.nil _ _ _, fun x h => absurd h (by simp), fun g e => by cases e⟩
theorem inv_row {W : World} {v : Value} {ob : Option Nat} {L : List Int} (h : Row W v ob 3 1 L.length (inL L)) (ho : okI L) : InV W v L := by
  rcases h.cases with ⟨rfl, rfl, hl, hx⟩ | ⟨g, cap, cur, rfl, rfl, h3, h4, h5, h6, h7⟩
  · have hn : L = [] := List.eq_nil_of_length_eq_zero hl
    subst hn
    exact ⟨none, 0, 0, 0, rfl, Nat.le_refl _, Nat.zero_le _, fun h => absurd h (by simp), fun k hk => absurd hk (by simp), fun k hk => absurd hk (by simp)⟩
  · refine ⟨some ⟨g, 0, none⟩, g, 0, cap, rfl, h4, h5, fun _ => ⟨rfl, (Array.getElem?_eq_some_iff.1 h3).1⟩, fun k hk => ?_, fun k hk => ho _ (List.mem_of_getElem? (gI_lt hk))⟩
    obtain ⟨g', e, a, _⟩ := h.cell k (by omega)
    obtain rfl := Option.some.inj e
    rw [Nat.zero_add, a, inL_at, gI_lt hk]
    rfl
theorem InO.v {W : World} {M : Nat} {v : Value} {ob : Option Nat} {L : List Int} (h : InO M W v ob L) : InV W v L := inv_row h.1 h.2.1
theorem InO.step {A B : World} {M : Nat} {v : Value} {ob : Option Nat} {L : List Int} (h : InO M A v ob L) (hB : Below A.heap.size A B) : InO M B v ob L := ⟨h.1.congr fun g e => hB.block g (by subst e; exact h.1.lt), h.2.1, h.2.2⟩
theorem InO.fr {A B : World} {M N : Nat} {v : Value} {ob : Option Nat} {L : List Int} (h : InO M A v ob L) (hf : Fr [N] A B) (hN : N < M) : InO M B v ob L := ⟨h.1.congr fun g e => hf.block g (by subst e; exact h.1.lt) (by have := h.2.2 g e; simp; omega), h.2.1, h.2.2⟩
theorem inZero : (Tryd.prog.info? 3).map (fun i => (i.zero, i.size, i.bytes)) = some (some (.int .i64 0), 1, 8) := by kernel_rfl
theorem in_app {W : World} {M : Nat} {ty : TypeId} {v v2 : Value} {ob : Option Nat} {L L2 : List Int} (h : InO M W v ob L) (h2 : InV W v2 L2) (hM : M ≤ W.heap.size) (hn : L.length + L2.length ≤ 100000) :
    ∃ v' ob' w', (Builtin.append_ #[44, 44] ty #[v, v2]).run Tryd.prog W = .ok v' w' ∧ InO M w' v' ob' (L ++ L2) ∧ Below M W w' := by
  have ho2 := h2.ok
  obtain ⟨r1, r4, r5⟩ := h
  obtain ⟨a2, b2, o2, c2, rfl, d1⟩ := h2
  obtain ⟨i0, hi, hz0, hz1, hz2⟩ := info_parts inZero
  rcases Nat.eq_zero_or_pos L2.length with h0 | h0
  · have hL2 : L2 = [] := List.eq_nil_of_length_eq_zero h0
    subst hL2
    rw [List.append_nil]
    exact ⟨v, ob, W, run_append_row_zero (P := Tryd.prog) (w := W) 44 ty 3 i0 1 Tryd.underlying44 hi v ob _ _ r1 a2 c2, ⟨r1, r4, r5⟩, Below.refl _ _⟩
  · obtain ⟨e0, e1⟩ := d1.at_ h0
    subst e0
    have hat : ∀ (j : Nat) (u : Value), (inL L2)[j]? = some u → W.cell? ⟨b2, o2 + j, none⟩ = some u := fun j u hu => by
      rw [inL_at] at hu
      obtain ⟨x, hx, rfl⟩ := Option.map_eq_some_iff.1 hu
      have hj := (List.getElem?_eq_some_iff.1 hx).1
      rw [gI_lt hj] at hx
      obtain rfl := Option.some.inj hx
      exact d1.cell j hj
    obtain ⟨v', ob', w', hrun, s1, s2, s3⟩ := run_append_row (P := Tryd.prog) W 44 ty 3 i0 _ 1 8 Tryd.underlying44 hi hz0 hz1 hz2 rfl (by decide) v ob L.length (inL L) r1 ⟨b2, o2, none⟩ L2.length c2 (inL L2) h0 (inL_len L2) (fun j u hu => by rw [addr_add]; exact hat j u hu) (inL_ones L2) (by unfold maxLen; omega) (by omega)
    refine ⟨v', some ob', w', hrun, ⟨by rw [List.length_append, inL_append]; exact s1, fun x hx => ?_, fun g e => ?_⟩, ?_⟩
    · rcases List.mem_append.1 hx with h | h
      · exact r4 x h
      · exact ho2 x h
    · obtain rfl := Option.some.inj e
      rcases s3 with h | h
      · exact r5 _ h
      · omega
    · exact (Below.refl M W).grown s2 hM r5
theorem inv_one {W : World} {b : Nat} {x : Int} (h : Blk W b #[.int .i64 x] 3) (ho : -9223372036854775808 ≤ x ∧ x ≤ 9223372036854775807) : InV W (.slice (some ⟨b, 0, none⟩) 1 1) [x] := by
  refine ⟨some ⟨b, 0, none⟩, b, 0, 1, rfl, Nat.le_refl _, by unfold maxLen; simp, fun _ => ⟨rfl, h.lt⟩, fun k hk => ?_, fun k hk => ?_⟩
  · obtain rfl : k = 0 := by simpa using hk
    exact cell_at h 0
  · obtain rfl : k = 0 := by simpa using hk
    exact ho
theorem InV.ints {W : World} {a : Option Addr} {n c : Nat} {L : List Int} (h : InV W (.slice a n c) L) : ∃ b o, IntsIn W a n c b o (gI L) := by
  obtain ⟨a', b, o, c', ee, h⟩ := h
  injection ee with e1 e2 e3
  subst e1 e2 e3
  exact ⟨b, o, h⟩
end Go.Proofs.YtiednacpmlilbaaDoor
