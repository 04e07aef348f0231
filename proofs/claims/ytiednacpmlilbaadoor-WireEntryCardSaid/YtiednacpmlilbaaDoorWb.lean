/-
  Rows of bytes, as lists.
-/
import Derived.Test.YtiednacpmlilbaaDoorHiB
import Derived.Test.YtiednacpmlilbaaDoorGn
import Derived.Test.YtiednacpmlilbaaDoorLz
namespace Go.Proofs.YtiednacpmlilbaaDoor
open Go.RowKit
set_option linter.unusedSimpArgs false
set_option linter.unusedVariables false

structure ByIn (W : World) (a : Option Addr) (len cap : Nat) (b o : Nat) (T : Nat → Nat) : Prop where
  le : len ≤ cap
  max : cap ≤ maxLen
  at_ : 0 < len → a = some ⟨b, o, none⟩ ∧ b < W.heap.size
  cell : ∀ k, k < len → W.cell? ⟨b, o + k, none⟩ = some (.int .u8 (T k : Nat))
  bd : ∀ k, k < len → T k < 256
theorem bys_cells (W : World) {a : Option Addr} {len cap : Nat} {xs : List Dt} (h : SliceFits Tryd.prog W 5 a len cap xs) : ∃ (b o : Nat) (T : Nat → Nat), ByIn W a len cap b o T := by
  have hc : Tryd.prog.cellsOf 5 = 1 := by kernel_rfl
  obtain ⟨b, o, h1, h2⟩ := h.spot (by rw [hc]; omega)
  have hex : ∀ k, ∃ q : Nat, k < len → W.cell? ⟨b, o + k, none⟩ = some (.int .u8 (q : Nat)) ∧ q < 256 := fun k => by
    by_cases hk : k < len
    · have hl := h.length
      have hx := List.getElem?_eq_getElem (l := xs) (i := k) (by omega)
      obtain ⟨n0, e0, g0⟩ := (h.each k _ hx).1.int_inv Tryd.underlying5
      have hcell := h2 k _ hx
      rw [e0, hc] at hcell
      have g1 : 0 ≤ n0 ∧ n0 ≤ 255 := g0
      obtain ⟨q, rfl⟩ := Int.eq_ofNat_of_zero_le g1.1
      exact ⟨q, fun _ => ⟨by have := hcell 0 _ rfl; rwa [Nat.mul_one] at this, by omega⟩⟩
    · exact ⟨0, fun h => absurd h hk⟩
  have hg := fun k => Classical.choose_spec (hex k)
  exact ⟨b, o, fun k => Classical.choose (hex k), h.le, h.max, h1, fun k hk => (hg k hk).1, fun k hk => (hg k hk).2⟩
theorem ByIn.below {W W' : World} {a : Option Addr} {len cap b o : Nat} {T : Nat → Nat} (h : ByIn W a len cap b o T) (hB : Below W.heap.size W W') : ByIn W' a len cap b o T :=
  ⟨h.le, h.max, fun hk => ⟨(h.at_ hk).1, by have := (h.at_ hk).2; have := hB.size; omega⟩, fun k hk => (hB.cell (p := ⟨b, _, none⟩) (h.at_ (by omega)).2).trans (h.cell k hk), h.bd⟩
def byL (L : List Nat) : List Value := L.map fun x => .int .u8 (x : Nat)
def gB (L : List Nat) (k : Nat) : Nat := (L[k]?).getD 0
def okB (L : List Nat) : Prop := ∀ x ∈ L, x < 256
theorem gB_lt {L : List Nat} {k : Nat} (h : k < L.length) : L[k]? = some (gB L k) := by unfold gB; rw [List.getElem?_eq_getElem h]; rfl
theorem byL_len (L : List Nat) : (byL L).length = L.length * 1 := by simp [byL]
theorem byL_append (a b : List Nat) : byL (a ++ b) = byL a ++ byL b := by simp [byL]
theorem byL_at (L : List Nat) (k : Nat) : (byL L)[k]? = (L[k]?).map fun x => .int .u8 (x : Nat) := by simp [byL]
theorem byL_ones (L : List Nat) : ∀ u ∈ byL L, u.oneCell' = true := by
  intro u hu
  obtain ⟨x, _, rfl⟩ := List.mem_map.1 hu
  rfl
/-- the value v stands for the list L of ints -/
def BV (W : World) (v : Value) (L : List Nat) : Prop := ∃ a b o cap, v = .slice a L.length cap ∧ ByIn W a L.length cap b o (gB L)
theorem BV.below {W W' : World} {v : Value} {L : List Nat} (h : BV W v L) (hB : Below W.heap.size W W') : BV W' v L := by
  obtain ⟨a, b, o, c, e, h⟩ := h
  exact ⟨a, b, o, c, e, h.below hB⟩
theorem BV.sh {W : World} {v : Value} {L : List Nat} (h : BV W v L) : ∃ a n c, v = .slice a n c ∧ Hid (n = L.length) ∧ n ≤ c ∧ c ≤ 9223372036854775807 := by
  obtain ⟨a, b, o, c, rfl, h⟩ := h
  exact ⟨a, _, c, rfl, Lib.hid rfl, h.le, by have := h.max; unfold maxLen at this; exact this⟩
theorem BV.at {W : World} {a : Option Addr} {n c : Nat} {L : List Nat} (h : BV W (.slice a n c) L) (k : Nat) (hk : k < n) : ∃ (g o : Nat) (x : Nat), a = some ⟨g, o, none⟩ ∧ g < W.heap.size ∧ L[k]? = some x ∧ W.cell? ⟨g, o + k, none⟩ = some (.int .u8 (x : Nat)) ∧ x < 256 := by
  obtain ⟨a', b, o, c', ee, h⟩ := h
  injection ee with e1 e2 e3
  subst e1 e2 e3
  have h1 := h.at_ (by omega)
  exact ⟨b, o, gB L k, h1.1, h1.2, gB_lt hk, h.cell k hk, h.bd k hk⟩
theorem BV.ok {W : World} {v : Value} {L : List Nat} (h : BV W v L) : okB L := by
  obtain ⟨a, b, o, c, rfl, h⟩ := h
  intro x hx
  obtain ⟨k, hk, rfl⟩ := List.mem_iff_getElem.1 hx
  have := h.bd k hk
  unfold gB at this
  rw [List.getElem?_eq_getElem hk] at this
  exact this
theorem bv_cells (W : World) {a : Option Addr} {len cap : Nat} {xs : List Dt} (h : SliceFits Tryd.prog W 5 a len cap xs) : ∃ L : List Nat, L.length = len ∧ BV W (.slice a len cap) L := by
  obtain ⟨b, o, T, h⟩ := bys_cells W h
  refine ⟨(List.range len).map T, by simp, a, b, o, cap, by simp, ?_⟩
  have e : ∀ k, k < len → gB ((List.range len).map T) k = T k := fun k hk => by simp [gB, hk]
  simp only [List.length_map, List.length_range]
  exact ⟨h.le, h.max, h.at_, fun k hk => by rw [e k hk]; exact h.cell k hk, fun k hk => by rw [e k hk]; exact h.bd k hk⟩
def BO (M : Nat) (W : World) (v : Value) (ob : Option Nat) (L : List Nat) : Prop := Row W v ob 5 1 L.length (byL L) ∧ okB L ∧ ∀ g, ob = some g → M ≤ g
theorem bo_nil (W : World) (M : Nat) : BO M W (.slice none 0 0) none [] := ⟨Row.nil _ _ _, fun x h => absurd h (by simp), fun g e => by cases e⟩
theorem bv_row {W : World} {v : Value} {ob : Option Nat} {L : List Nat} (h : Row W v ob 5 1 L.length (byL L)) (ho : okB L) : BV W v L := by
  rcases h.cases with ⟨rfl, rfl, hl, hx⟩ | ⟨g, cap, cur, rfl, rfl, h3, h4, h5, h6, h7⟩
  · have hn : L = [] := List.eq_nil_of_length_eq_zero hl
    subst hn
    exact ⟨none, 0, 0, 0, rfl, Nat.le_refl _, Nat.zero_le _, fun h => absurd h (by simp), fun k hk => absurd hk (by simp), fun k hk => absurd hk (by simp)⟩
  · refine ⟨some ⟨g, 0, none⟩, g, 0, cap, rfl, h4, h5, fun _ => ⟨rfl, (Array.getElem?_eq_some_iff.1 h3).1⟩, fun k hk => ?_, fun k hk => ho _ (List.mem_of_getElem? (gB_lt hk))⟩
    obtain ⟨g', e, a, _⟩ := h.cell k (by omega)
    obtain rfl := Option.some.inj e
    rw [Nat.zero_add, a, byL_at, gB_lt hk]
    rfl
theorem BO.v {W : World} {M : Nat} {v : Value} {ob : Option Nat} {L : List Nat} (h : BO M W v ob L) : BV W v L := bv_row h.1 h.2.1
theorem BO.step {A B : World} {M : Nat} {v : Value} {ob : Option Nat} {L : List Nat} (h : BO M A v ob L) (hB : Below A.heap.size A B) : BO M B v ob L := ⟨h.1.congr fun g e => hB.block g (by subst e; exact h.1.lt), h.2.1, h.2.2⟩
theorem BO.fr {A B : World} {M N : Nat} {v : Value} {ob : Option Nat} {L : List Nat} (h : BO M A v ob L) (hf : Fr [N] A B) (hN : N < M) : BO M B v ob L := ⟨h.1.congr fun g e => hf.block g (by subst e; exact h.1.lt) (by have := h.2.2 g e; simp; omega), h.2.1, h.2.2⟩
theorem byZero : (Tryd.prog.info? 5).map (fun i => (i.zero, i.size, i.bytes)) = some (some (.int .u8 0), 1, 1) := by kernel_rfl
theorem b_app {W : World} {M : Nat} {ty : TypeId} {v v2 : Value} {ob : Option Nat} {L L2 : List Nat} (h : BO M W v ob L) (h2 : BV W v2 L2) (hM : M ≤ W.heap.size) (hn : L.length + L2.length ≤ 1000000000) :
    ∃ v' ob' w', (Builtin.append_ #[23, 23] ty #[v, v2]).run Tryd.prog W = .ok v' w' ∧ BO M w' v' ob' (L ++ L2) ∧ Below M W w' := by
  have ho2 := h2.ok
  obtain ⟨r1, r4, r5⟩ := h
  obtain ⟨a2, b2, o2, c2, rfl, d1⟩ := h2
  obtain ⟨i0, hi, hz0, hz1, hz2⟩ := info_parts byZero
  rcases Nat.eq_zero_or_pos L2.length with h0 | h0
  · have hL2 : L2 = [] := List.eq_nil_of_length_eq_zero h0
    subst hL2
    rw [List.append_nil]
    exact ⟨v, ob, W, run_append_row_zero (P := Tryd.prog) (w := W) 23 ty 5 i0 1 Tryd.underlying23 hi v ob _ _ r1 a2 c2, ⟨r1, r4, r5⟩, Below.refl _ _⟩
  · obtain ⟨e0, e1⟩ := d1.at_ h0
    subst e0
    have hat : ∀ (j : Nat) (u : Value), (byL L2)[j]? = some u → W.cell? ⟨b2, o2 + j, none⟩ = some u := fun j u hu => by
      rw [byL_at] at hu
      obtain ⟨x, hx, rfl⟩ := Option.map_eq_some_iff.1 hu
      have hj := (List.getElem?_eq_some_iff.1 hx).1
      rw [gB_lt hj] at hx
      obtain rfl := Option.some.inj hx
      exact d1.cell j hj
    obtain ⟨v', ob', w', hrun, s1, s2, s3⟩ := run_append_row (P := Tryd.prog) W 23 ty 5 i0 _ 1 1 Tryd.underlying23 hi hz0 hz1 hz2 rfl (by decide) v ob L.length (byL L) r1 ⟨b2, o2, none⟩ L2.length c2 (byL L2) h0 (byL_len L2) (fun j u hu => by rw [addr_add]; exact hat j u hu) (byL_ones L2) (by unfold maxLen; omega) (by omega)
    refine ⟨v', some ob', w', hrun, ⟨by rw [List.length_append, byL_append]; exact s1, fun x hx => ?_, fun g e => ?_⟩, ?_⟩
    · rcases List.mem_append.1 hx with h | h
      · exact r4 x h
      · exact ho2 x h
    · obtain rfl := Option.some.inj e
      rcases s3 with h | h
      · exact r5 _ h
      · omega
    · exact (Below.refl M W).grown s2 hM r5
theorem bv_one {W : World} {b : Nat} {x : Nat} (h : Blk W b #[.int .u8 (x : Nat)] 5) (ho : x < 256) : BV W (.slice (some ⟨b, 0, none⟩) 1 1) [x] := by
  refine ⟨some ⟨b, 0, none⟩, b, 0, 1, rfl, Nat.le_refl _, by unfold maxLen; simp, fun _ => ⟨rfl, h.lt⟩, fun k hk => ?_, fun k hk => ?_⟩
  · obtain rfl : k = 0 := by simpa using hk
    exact cell_at h 0
  · obtain rfl : k = 0 := by simpa using hk
    exact ho
end Go.Proofs.YtiednacpmlilbaaDoor
