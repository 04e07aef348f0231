/-
  Dead places.
-/
import Derived.Test.YthmjlomlceljkaaHim
import Derived.Test.YthmjlomlceljkaaHic
import Derived.Deep.DeepFit
import Derived.Lib.AppendZeros
import Derived.Deep.RegionLaw
import Derived.Deep.RegionWith
import Derived.Lib.EndianBits
import Derived.Deep.MidRow
namespace Go.Proofs.Ythmjlomlceljkaa
open Go.RowKit
set_option linter.unusedSimpArgs false
set_option linter.unusedVariables false

structure DeE where
  done : Int
  ta : Option Addr
  tn : Nat
  tc : Nat
def DeE.cells (e : DeE) : List Value := [.int .u16 e.done, .slice e.ta e.tn e.tc]
def DeE.ok (e : DeE) : Prop := (0 ≤ e.done ∧ e.done ≤ 65535) ∧ (e.tn ≤ e.tc ∧ e.tc ≤ maxLen)
structure DeIn (W : World) (a : Option Addr) (len cap b o : Nat) (E : Nat → DeE) : Prop where
  le : len ≤ cap
  max : cap ≤ maxLen
  at_ : 0 < len → a = some ⟨b, o, none⟩ ∧ b < W.heap.size
  cell : ∀ k, k < len → W.cell? ⟨b, o + k * 2, none⟩ = some (.int .u16 (E k).done) ∧ W.cell? ⟨b, o + k * 2 + 1, none⟩ = some (.slice (E k).ta (E k).tn (E k).tc)
  bd : ∀ k, k < len → (E k).ok
theorem DeIn.below {W W' : World} {a : Option Addr} {len cap b o : Nat} {E : Nat → DeE} (h : DeIn W a len cap b o E) (hB : Below W.heap.size W W') : DeIn W' a len cap b o E :=
  ⟨h.le, h.max, fun hk => ⟨(h.at_ hk).1, by have := (h.at_ hk).2; have := hB.size; omega⟩, fun k hk => by
    have hb := (h.at_ (by omega)).2
    obtain ⟨c0, c1⟩ := h.cell k hk
    exact ⟨(hB.cell (p := ⟨b, _, none⟩) hb).trans c0, (hB.cell (p := ⟨b, _, none⟩) hb).trans c1⟩, h.bd⟩
theorem de_cells (W : World) {a : Option Addr} {len cap : Nat} {xs : List Dt} (h : SliceFits Try.prog W 126 a len cap xs) : ∃ (b o : Nat) (E : Nat → DeE), DeIn W a len cap b o E := by
  have hc : Try.prog.cellsOf 126 = 2 := by kernel_rfl
  obtain ⟨b, o, h1, h2⟩ := h.spot (by rw [hc]; omega)
  have hex : ∀ k, ∃ q : DeE, k < len → (W.cell? ⟨b, o + k * 2, none⟩ = some (.int .u16 q.done) ∧ W.cell? ⟨b, o + k * 2 + 1, none⟩ = some (.slice q.ta q.tn q.tc)) ∧ q.ok := fun k => by
    by_cases hk : k < len
    · have hl := h.length
      have hx := List.getElem?_eq_getElem (l := xs) (i := k) (by omega)
      obtain ⟨l0, hxe, hl0, hf0⟩ := (h.each k _ hx).1.agg_inv Try.underlying126
      obtain ⟨y0_0, e0_0, f0_0⟩ := hf0 0 _ rfl
      obtain ⟨y0_1, e0_1, f0_1⟩ := hf0 1 _ rfl
      obtain ⟨v0_0, rfl, gv0_0⟩ := f0_0.int_inv Try.underlying113
      obtain ⟨av0_1, nv0_1, cv0_1, xv0_1, rfl, gv0_1⟩ := f0_1.slice_inv Try.underlying48
      match l0, hl0 with
      | [z0_0, z0_1], _ =>
        obtain rfl : z0_0 = _ := by simpa using e0_0
        obtain rfl : z0_1 = _ := by simpa using e0_1
        have hcell := h2 k _ hx
        rw [hxe, hc] at hcell
        exact ⟨⟨v0_0, av0_1, nv0_1, cv0_1⟩, fun _ => ⟨⟨hcell 0 _ rfl, by have := hcell 1 _ rfl; rwa [← Nat.add_assoc] at this⟩, gv0_0, ⟨gv0_1.le, gv0_1.max⟩⟩⟩
    · exact ⟨⟨0, none, 0, 0⟩, fun h => absurd h hk⟩
  have hg := fun k => Classical.choose_spec (hex k)
  exact ⟨b, o, fun k => Classical.choose (hex k), h.le, h.max, h1, fun k hk => (hg k hk).1, fun k hk => (hg k hk).2⟩
def deL (E : Nat → DeE) (n : Nat) : List Value := (List.range n).flatMap fun k => (E k).cells
theorem deL_succ (E : Nat → DeE) (n : Nat) : deL E (n + 1) = deL E n ++ (E n).cells := by simp [deL, List.range_succ, List.flatMap_append]
theorem deL_len (E : Nat → DeE) : ∀ n : Nat, (deL E n).length = n * 2
  | 0 => by simp [deL]
  | n + 1 => by rw [deL_succ, List.length_append, deL_len E n]; simp [DeE.cells]; omega
theorem deL_congr {E E' : Nat → DeE} : ∀ {n : Nat}, (∀ k, k < n → E k = E' k) → deL E n = deL E' n
  | 0, _ => rfl
  | n + 1, h => by rw [deL_succ, deL_succ, deL_congr (fun k hk => h k (by omega)), h n (by omega)]
theorem deL_at (E : Nat → DeE) : ∀ (n k j : Nat), k < n → j < 2 → (deL E n)[k * 2 + j]? = (E k).cells[j]?
  | 0, _, _, h, _ => by omega
  | n + 1, k, j, h, hj => by
    have hl := deL_len E n
    rw [deL_succ]
    by_cases hk : k < n
    · rw [List.getElem?_append_left (by omega)]
      exact deL_at E n k j hk hj
    · obtain rfl : k = n := by omega
      rw [List.getElem?_append_right (by omega), hl]
      congr 1
      omega
theorem de_row {w : World} {v : Value} {ob : Option Nat} {E : Nat → DeE} {n : Nat} (h : Row w v ob 126 2 n (deL E n)) (hE : ∀ k, k < n → (E k).ok) :
    ∃ a cap, v = .slice a n cap ∧ DeIn w a n cap (ob.getD 0) 0 E := by
  obtain ⟨a, cap, rfl, h1, h2, h3⟩ := h.shape
  refine ⟨a, cap, rfl, h1, h2, fun hk => ?_, fun k hk => ?_, hE⟩
  · obtain ⟨g, hg, _⟩ := h.cell 0 (by omega)
    subst hg
    exact ⟨h3, h.lt⟩
  · have hh : ∀ j, j < 2 → w.cell? ⟨ob.getD 0, 0 + k * 2 + j, none⟩ = (E k).cells[j]? := fun j hj => by
      obtain ⟨g, hg, hc, _⟩ := h.cell (k * 2 + j) (by omega)
      subst hg
      rw [Option.getD_some, Nat.zero_add, hc, deL_at E n k j hk hj]
    exact ⟨hh 0 (by omega), hh 1 (by omega)⟩
def DeE.agg (e : DeE) : Value := .agg #[.int .u16 e.done, .slice e.ta e.tn e.tc]
def zDe : DeE := ⟨0, none, 0, 0⟩
def gDe (L : List DeE) (k : Nat) : DeE := (L[k]?).getD zDe
theorem gDe_lt {L : List DeE} {k : Nat} (h : k < L.length) : L[k]? = some (gDe L k) := by unfold gDe; rw [List.getElem?_eq_getElem h]; rfl
theorem gDe_of {L : List DeE} {k : Nat} {x : DeE} (h : L[k]? = some x) : gDe L k = x := by unfold gDe; rw [h]; rfl
def llDe (L : List DeE) : List Value := L.flatMap DeE.cells
theorem llDe_append (a b : List DeE) : llDe (a ++ b) = llDe a ++ llDe b := by simp [llDe]
theorem llDe_one (m : DeE) : llDe [m] = m.cells := by simp [llDe]
theorem llDe_len : ∀ L : List DeE, (llDe L).length = L.length * 2
  | [] => rfl
  | m :: l => by
    show (m.cells ++ llDe l).length = _
    rw [List.length_append, llDe_len l]
    simp [DeE.cells]
    omega
theorem llDe_g : ∀ (L : List DeE), llDe L = deL (gDe L) L.length := by
  intro L
  suffices h : ∀ n, n ≤ L.length → llDe (L.take n) = deL (gDe L) n by
    have := h L.length (Nat.le_refl _)
    rwa [List.take_length] at this
  intro n
  induction n with
  | zero => intro _; rfl
  | succ n ih =>
    intro hn
    rw [deL_succ, ← ih (by omega), List.take_add_one, gDe_lt (by omega)]
    rw [llDe_append]
    simp [llDe]
theorem llDe_take (L : List DeE) (i : Nat) (hi : i ≤ L.length) : (llDe L).take (i * 2) = llDe (L.take i) := by
  have h : llDe L = llDe (L.take i) ++ llDe (L.drop i) := by rw [← llDe_append, List.take_append_drop]
  rw [h, List.take_append_of_le_length (by rw [llDe_len, List.length_take, Nat.min_eq_left hi]; exact Nat.le_refl _), List.take_of_length_le (by rw [llDe_len, List.length_take, Nat.min_eq_left hi]; exact Nat.le_refl _)]
/-- the list that a value stands for -/
def DeV (W : World) (v : Value) (L : List DeE) : Prop := ∃ a b o cap, v = .slice a L.length cap ∧ DeIn W a L.length cap b o (gDe L)
theorem DeV.below {W W' : World} {v : Value} {L : List DeE} (h : DeV W v L) (hB : Below W.heap.size W W') : DeV W' v L := by
  obtain ⟨a, b, o, c, rfl, h⟩ := h
  exact ⟨a, b, o, c, rfl, h.below hB⟩
def okDe (L : List DeE) : Prop := ∀ x ∈ L, x.ok
theorem okDe_g {L : List DeE} (h : okDe L) (k : Nat) (hk : k < L.length) : (gDe L k).ok := h _ (List.mem_of_getElem? (gDe_lt hk))
theorem DeV.ok {W : World} {v : Value} {L : List DeE} (h : DeV W v L) : okDe L := by
  obtain ⟨a, b, o, c, rfl, h⟩ := h
  intro x hx
  obtain ⟨k, hk, rfl⟩ := List.mem_iff_getElem.1 hx
  have := h.bd k hk
  rwa [gDe_of (List.getElem?_eq_getElem hk)] at this
theorem DeV.sh {W : World} {v : Value} {L : List DeE} (h : DeV W v L) : ∃ a n c, v = .slice a n c ∧ Hid (n = L.length) ∧ n ≤ c ∧ c ≤ 9223372036854775807 := by
  obtain ⟨a, b, o, c, rfl, h⟩ := h
  exact ⟨a, _, c, rfl, Lib.hid rfl, h.le, by have := h.max; unfold maxLen at this; exact this⟩
theorem DeV.at {W : World} {a : Option Addr} {n c : Nat} {L : List DeE} (h : DeV W (.slice a n c) L) (k : Nat) (hk : k < n) : ∃ (g o : Nat) (e : DeE), a = some ⟨g, o, none⟩ ∧ g < W.heap.size ∧ L[k]? = some e ∧ W.cell? ⟨g, o + k * 2, none⟩ = some (.int .u16 e.done) ∧ W.cell? ⟨g, o + k * 2 + 1, none⟩ = some (.slice e.ta e.tn e.tc) := by
  obtain ⟨a', b, o, c', ee, h⟩ := h
  injection ee with e1 e2 e3
  subst e1 e2 e3
  have h1 := h.at_ (by omega)
  exact ⟨b, o, gDe L k, h1.1, h1.2, gDe_lt hk, h.cell k hk⟩
theorem dev_row {W : World} {v : Value} {ob : Option Nat} {L : List DeE} (h : Row W v ob 126 2 L.length (llDe L)) (ho : okDe L) : DeV W v L := by
  rw [llDe_g] at h
  obtain ⟨a, c, e, h2⟩ := de_row h (okDe_g ho)
  exact ⟨a, _, 0, c, e, h2⟩
theorem dev_nil (W : World) : DeV W (.slice none 0 0) [] := ⟨none, 0, 0, 0, rfl, Nat.le_refl _, Nat.zero_le _, fun h => absurd h (by simp), fun k hk => absurd hk (by simp), fun k hk => absurd hk (by simp)⟩
theorem dev_cells (W : World) {a : Option Addr} {len cap : Nat} {xs : List Dt} (h : SliceFits Try.prog W 126 a len cap xs) : ∃ L : List DeE, L.length = len ∧ DeV W (.slice a len cap) L := by
  obtain ⟨b, o, E, hE⟩ := de_cells W h
  refine ⟨(List.range len).map E, by simp, a, b, o, cap, by simp, ?_⟩
  have hg : ∀ k, k < len → gDe ((List.range len).map E) k = E k := fun k hk => gDe_of (by simp [hk])
  rw [show ((List.range len).map E).length = len by simp]
  exact ⟨hE.le, hE.max, hE.at_, fun k hk => by rw [hg k hk]; exact hE.cell k hk, fun k hk => by rw [hg k hk]; exact hE.bd k hk⟩
theorem deZero : (Try.prog.info? 126).map (fun i => (i.zero, i.size, i.bytes)) = some (some (Value.agg #[.int .u16 0, .slice none 0 0]), 2, 32) := by kernel_rfl
theorem llDe_ones (L : List DeE) : ∀ u ∈ llDe L, u.oneCell' = true := by
  intro u hu
  simp only [llDe, List.mem_flatMap] at hu
  obtain ⟨y, _, hk⟩ := hu
  have : y.cells.all (fun u => u.oneCell') = true := rfl
  exact List.all_eq_true.1 this u hk
theorem de_at2 {W : World} {a : Option Addr} {n c b o : Nat} {E : Nat → DeE} (h : DeIn W a n c b o E) (j : Nat) (u : Value) (hu : (deL E n)[j]? = some u) : W.cell? ⟨b, o + j, none⟩ = some u := by
  have hj : j < n * 2 := by have := (List.getElem?_eq_some_iff.1 hu).1; rwa [deL_len] at this
  obtain ⟨k, i, hk, hi, rfl⟩ : ∃ k i, k < n ∧ i < 2 ∧ j = k * 2 + i := ⟨j / 2, j % 2, by omega, by omega, by omega⟩
  rw [deL_at E n k i hk hi] at hu
  obtain ⟨c0, c1⟩ := h.cell k hk
  match i, hi with
  | 0, _ => simp [DeE.cells] at hu; subst hu; exact c0
  | 1, _ => simp [DeE.cells] at hu; subst hu; rw [← Nat.add_assoc]; exact c1
/-- a row of the call's own, its block no older than M -/
def DeO (M : Nat) (W : World) (v : Value) (ob : Option Nat) (L : List DeE) : Prop := Row W v ob 126 2 L.length (llDe L) ∧ okDe L ∧ ∀ g, ob = some g → M ≤ g
theorem deo_nil (W : World) (M : Nat) : DeO M W (.slice none 0 0) none [] := ⟨Row.nil _ _ _, fun x h => absurd h (by simp), fun g e => by cases e⟩
theorem DeO.v {W : World} {M : Nat} {v : Value} {ob : Option Nat} {L : List DeE} (h : DeO M W v ob L) : DeV W v L := dev_row h.1 h.2.1
theorem DeO.step {A B : World} {M : Nat} {v : Value} {ob : Option Nat} {L : List DeE} (h : DeO M A v ob L) (hB : Below A.heap.size A B) : DeO M B v ob L := ⟨h.1.congr fun g e => hB.block g (by subst e; exact h.1.lt), h.2.1, h.2.2⟩
theorem DeO.fr {A B : World} {M N : Nat} {v : Value} {ob : Option Nat} {L : List DeE} (h : DeO M A v ob L) (hf : Fr [N] A B) (hN : N < M) : DeO M B v ob L := ⟨h.1.congr fun g e => hf.block g (by subst e; exact h.1.lt) (by have := h.2.2 g e; simp; omega), h.2.1, h.2.2⟩
/-- append of a piece (empty too) to a row of the call's own -/
theorem de_app {W : World} {M : Nat} {ty : TypeId} {v v2 : Value} {ob : Option Nat} {L L2 : List DeE} (h : DeO M W v ob L) (h2 : DeV W v2 L2) (hM : M ≤ W.heap.size) (hn : L.length + L2.length ≤ 100000) :
    ∃ v' ob' w', (Builtin.append_ #[108, 108] ty #[v, v2]).run Try.prog W = .ok v' w' ∧ DeO M w' v' ob' (L ++ L2) ∧ Below M W w' := by
  have ho2 := h2.ok
  obtain ⟨r1, r4, r5⟩ := h
  obtain ⟨a2, b2, o2, c2, rfl, d1⟩ := h2
  obtain ⟨i0, hi, hz0, hz1, hz2⟩ := info_parts deZero
  rcases Nat.eq_zero_or_pos L2.length with h0 | h0
  · have hL2 : L2 = [] := List.eq_nil_of_length_eq_zero h0
    subst hL2
    rw [List.append_nil]
    exact ⟨v, ob, W, run_append_row_zero (P := Try.prog) (w := W) 108 ty 126 i0 2 Try.underlying108 hi v ob _ _ r1 a2 c2, ⟨r1, r4, r5⟩, Below.refl _ _⟩
  · obtain ⟨e0, e1⟩ := d1.at_ h0
    subst e0
    have hat := fun j u hu => de_at2 d1 j u hu
    rw [← llDe_g] at hat
    obtain ⟨v', ob', w', hrun, s1, s2, s3⟩ := run_append_row (P := Try.prog) W 108 ty 126 i0 _ 2 32 Try.underlying108 hi hz0 hz1 hz2 rfl (by decide) v ob L.length (llDe L) r1 ⟨b2, o2, none⟩ L2.length c2 (llDe L2) h0 (llDe_len L2) (fun j u hu => by rw [addr_add]; exact hat j u hu) (llDe_ones L2) (by unfold maxLen; omega) (by omega)
    refine ⟨v', some ob', w', hrun, ⟨by rw [List.length_append, llDe_append]; exact s1, fun x hx => ?_, fun g e => ?_⟩, ?_⟩
    · rcases List.mem_append.1 hx with h | h
      · exact r4 x h
      · exact ho2 x h
    · obtain rfl := Option.some.inj e
      rcases s3 with h | h
      · exact r5 _ h
      · omega
    · exact (Below.refl M W).grown s2 hM r5
/-- one element in a new block, as a piece -/
theorem dev_one {W : World} {b : Nat} {e : DeE} (h : Blk W b #[.int .u16 e.done, .slice e.ta e.tn e.tc] 126) (ho : e.ok) : DeV W (.slice (some ⟨b, 0, none⟩) 1 1) [e] := by
  refine ⟨some ⟨b, 0, none⟩, b, 0, 1, rfl, Nat.le_refl _, by unfold maxLen; simp, fun _ => ⟨rfl, h.lt⟩, fun k hk => ?_, fun k hk => ?_⟩
  · obtain rfl : k = 0 := by simpa using hk
    exact ⟨cell_at h 0, cell_at h 1⟩
  · obtain rfl : k = 0 := by simpa using hk
    exact ho
theorem bit16 (D k : Nat) (hD : D < 4096) : bits .and .u16 ((D : Int) / 2 ^ k) 1 = ((D / 2 ^ k % 2 : Nat) : Int) := by
  have e : ((D : Int) / 2 ^ k) = ((D / 2 ^ k : Nat) : Int) := by rw [Int.natCast_ediv, Int.natCast_pow]; rfl
  have hl : D / 2 ^ k < 2 ^ 16 := Nat.lt_of_le_of_lt (Nat.div_le_self _ _) (by omega)
  have h := (bits_nat .u16 16 (by decide) wraps_u16 (D / 2 ^ k) 1 hl (by decide)).1
  rw [e]
  have h' : bits .and .u16 ((D / 2 ^ k : Nat) : Int) 1 = ((D / 2 ^ k &&& 1 : Nat) : Int) := h
  rw [h', Nat.and_one_is_mod]
theorem bit16_has (D k : Nat) (hD : D < 4096) : (bits .and .u16 ((D : Int) / 2 ^ k) 1 == 1) = D.testBit k := by
  rw [bit16 D k hD, Nat.testBit_eq_decide_div_mod_eq]
  by_cases hc : D / 2 ^ k % 2 = 1
  · rw [hc]; rfl
  · rw [show D / 2 ^ k % 2 = 0 by omega]; rfl
theorem bit16_not (D k : Nat) (hD : D < 4096) : (bits .and .u16 ((D : Int) / 2 ^ k) 1 == 0) = !D.testBit k := by
  rw [bit16 D k hD, Nat.testBit_eq_decide_div_mod_eq]
  by_cases hc : D / 2 ^ k % 2 = 1
  · rw [hc]; rfl
  · rw [show D / 2 ^ k % 2 = 0 by omega]; rfl
theorem bit16_put (D k : Nat) (hD : D < 4096) (hk : k < 12) : bits .or .u16 (D : Int) (IntKind.u16.wrap (2 ^ k)) = ((D ||| 2 ^ k : Nat) : Int) := by
  have e2 : ((2 : Int) ^ k) = ((2 ^ k : Nat) : Int) := by rw [Int.natCast_pow]; rfl
  have hp : 2 ^ k < 4096 := Nat.pow_lt_pow_right (n := 12) (by decide) (by omega)
  rw [e2]
  obtain ⟨p, hpp⟩ : ∃ p : Nat, p = 2 ^ k := ⟨_, rfl⟩
  rw [← hpp] at hp ⊢
  rw [wraps_u16 _ (by omega) (by omega)]
  exact (bits_nat .u16 16 (by decide) wraps_u16 D p (by omega) (by omega)).2
theorem free_step (D k : Nat) : free D (k + 1) = free D k + (if D.testBit k then 0 else 1) := by
  unfold free
  rw [List.range_succ, List.filter_append, List.length_append]
  cases h : D.testBit k <;> simp [h]
theorem free_mono (D k : Nat) : ∀ j, free D k ≤ free D (k + j)
  | 0 => Nat.le_refl _
  | j + 1 => Nat.le_trans (free_mono D k j) (by rw [← Nat.add_assoc, free_step D (k + j)]; omega)
/-- how many places are told dead, at most -/
def cost : Nat → Nat
  | 0 => 0
  | m + 1 => 1 + m * cost m
theorem de_push {W : World} {M b : Nat} {ty : TypeId} {v : Value} {ob : Option Nat} {L : List DeE} {x : DeE} (h : DeO M W v ob L) (hb : Blk W b #[.int .u16 x.done, .slice x.ta x.tn x.tc] 126) (hx : x.ok) (hM : M ≤ W.heap.size) (hn : L.length ≤ 4000000000000) :
    ∃ v' ob' w', (Builtin.append_ #[108, 108] ty #[v, .slice (some ⟨b, 0, none⟩) 1 1]).run Try.prog W = .ok v' w' ∧ DeO M w' v' ob' (L ++ [x]) ∧ Below M W w' ∧ (∀ (n : Nat) (cs : Array Value) (ty : TypeId) (fr : Nat × Nat), W.heap[n]? = some (Obj.cells cs ty fr) → ty ≠ 126 → w'.heap[n]? = W.heap[n]?) := by
  obtain ⟨r1, r4, r5⟩ := h
  obtain ⟨i0, hi, hz0, hz1, hz2⟩ := info_parts deZero
  obtain ⟨v', ob', w', hrun, s1, s2, s3⟩ := run_append_row (P := Try.prog) W 108 ty 126 i0 _ 2 32 Try.underlying108 hi hz0 hz1 hz2 rfl (by decide) v ob L.length (llDe L) r1 ⟨b, 0, none⟩ 1 1 (llDe [x]) (by decide) (llDe_len _) (fun j u hu => by
    rw [addr_add, cell_at hb, Nat.zero_add, ← hu, llDe_one]
    show (List.toArray x.cells)[j]? = _
    rw [List.getElem?_toArray]) (llDe_ones _) (by unfold maxLen; omega) (by omega)
  refine ⟨v', some ob', w', hrun, ⟨by rw [List.length_append, llDe_append]; exact s1, fun y hy => ?_, fun g e => ?_⟩, (Below.refl M W).grown s2 hM r5, fun n cs ty' fr hi h1 => s2.block n (Array.getElem?_eq_some_iff.1 hi).1 fun e => ?_⟩
  · rcases List.mem_append.1 hy with h | h
    · exact r4 y h
    · simp at h; subst h; exact hx
  · obtain rfl := Option.some.inj e
    rcases s3 with h | h
    · exact r5 _ h
    · omega
  · rcases r1.cases with ⟨e1, _⟩ | ⟨g', cap, cur, e1, _, h4, _⟩
    · rw [e1] at e; cases e
    · rw [e1] at e
      obtain rfl := Option.some.inj e
      have := hi.symm.trans h4
      injection this with e'
      injection e' with e1 e2
      exact h1 e2
/-- what a search of the document leaves as it was -/
structure DF (M : Nat) (w w' : World) : Prop where
  lo : Below M w w'
  keep : ∀ (k : Nat) (cs : Array Value) (ty : TypeId) (fr : Nat × Nat), w.heap[k]? = some (Obj.cells cs ty fr) → ty ≠ 126 → ty ≠ 110 → w'.heap[k]? = w.heap[k]?
theorem DF.refl (M : Nat) (w : World) : DF M w w := ⟨Below.refl _ _, fun _ _ _ _ _ _ _ => rfl⟩
theorem DF.trans {M : Nat} {a b c : World} (h : DF M a b) (k : DF M b c) : DF M a c :=
  ⟨h.lo.trans k.lo, fun i cs ty fr hi h1 h2 => (k.keep i cs ty fr ((h.keep i cs ty fr hi h1 h2).trans hi) h1 h2).trans (h.keep i cs ty fr hi h1 h2)⟩
theorem DF.of_below {M : Nat} {a b : World} (h : Below a.heap.size a b) (hM : M ≤ a.heap.size) : DF M a b := ⟨h.mono hM, fun i cs ty fr hi _ _ => h.block i (Array.getElem?_eq_some_iff.1 hi).1⟩
theorem DF.fco {M : Nat} {w w' : World} {m : Nat} {v : Value} {ob : Option Nat} {t : List FcE} (h : DF M w w') (ht : FcO m w v ob t) : FcO m w' v ob t := by
  refine ⟨ht.1.congr fun g e => ?_, ht.2⟩
  rcases ht.1.cases with ⟨e1, _⟩ | ⟨g', cap, cur, e1, _, h4, _⟩
  · rw [e1] at e; cases e
  · rw [e1] at e
    obtain rfl := Option.some.inj e
    exact h.keep g' cur 87 (0, 0) h4 (by decide) (by decide)
theorem DF.blk {M : Nat} {w w' : World} {b : Nat} {cs : Array Value} {ty : TypeId} (h : DF M w w') (hb : Blk w b cs ty) (h1 : ty ≠ 126) (h2 : ty ≠ 110) : Blk w' b cs ty := (h.keep b cs ty (0, 0) hb h1 h2).trans hb
/-- what a search of the document stands on: its calls, and places that are dead -/
structure DS (w0 W : World) (F : Nat) (vl : Value) (L : List CaE) (vd : Value) (ob : Option Nat) (E : List DeE) : Prop where
  lo : Below w0.heap.size w0 W
  hl : CaV w0 vl L
  cf : Blk W F #[vl, vd] 110
  row : DeO w0.heap.size W vd ob E
  mf : w0.heap.size ≤ F
  ent : ∀ e ∈ E, ∃ o t, FcO 0 W (.slice e.ta e.tn e.tc) o t ∧ tblB 0 t = true ∧ sr L e.done.toNat t = none
theorem DS.sf {w0 W W' : World} {F : Nat} {vl : Value} {L : List CaE} {vd : Value} {ob : Option Nat} {E : List DeE} (h : DS w0 W F vl L vd ob E) (hB : Below W.heap.size W W') : DS w0 W' F vl L vd ob E :=
  ⟨h.lo.trans (hB.mono h.lo.size), h.hl, h.cf.step hB, h.row.step hB, h.mf, fun e he => by
    obtain ⟨o, t, h1, h2⟩ := h.ent e he
    exact ⟨o, t, h1.step hB, h2⟩⟩
/-- a dead place more -/
theorem DS.add {w0 W W3 W' : World} {F : Nat} {vl : Value} {L : List CaE} {vd vd' : Value} {ob ob' : Option Nat} {E : List DeE} {x : DeE} {o : Option Nat} {t : List FcE} (h : DS w0 W F vl L vd ob E)
    (ht : FcO 0 W (.slice x.ta x.tn x.tc) o t) (hb : tblB 0 t = true) (hn : sr L x.done.toNat t = none)
    (hlo : Below w0.heap.size W W3) (hk : ∀ (n : Nat) (cs : Array Value) (ty : TypeId) (fr : Nat × Nat), W.heap[n]? = some (Obj.cells cs ty fr) → ty ≠ 126 → W3.heap[n]? = W.heap[n]?)
    (hr : DeO w0.heap.size W3 vd' ob' (E ++ [x])) (hF : W' = W3.setCell ⟨F, 1, none⟩ vd') : DS w0 W' F vl L vd' ob' (E ++ [x]) ∧ DF w0.heap.size W W' := by
  have hcf : Blk W3 F #[vl, vd] 110 := (hk F _ _ _ h.cf (by decide)).trans h.cf
  have hfr : Fr [F] W3 W' := by rw [hF]; exact (Fr.refl _ _).setCell _ (.inl (by simp)) _
  have hnf : ∀ (n : Nat) (cs : Array Value) (ty : TypeId) (fr : Nat × Nat), W3.heap[n]? = some (Obj.cells cs ty fr) → ty ≠ 110 → W'.heap[n]? = W3.heap[n]? := fun n cs ty fr hi hne => by
    refine hfr.block n (Array.getElem?_eq_some_iff.1 hi).1 ?_
    simp only [List.mem_singleton]
    rintro rfl
    have := hi.symm.trans hcf
    injection this with e
    injection e with e1 e2
    exact hne e2
  have h3 : DF w0.heap.size W3 W' := by
    refine ⟨hfr.below (by have := h.lo.size; have := hlo.size; omega) (by simp; exact h.mf), fun n cs ty fr hi _ h2 => hnf n cs ty fr hi h2⟩
  have hall : DF w0.heap.size W W' := (DF.trans ⟨hlo, fun n cs ty fr hi h1 _ => hk n cs ty fr hi h1⟩ h3)
  have hbf : Blk W' F #[vl, vd'] 110 := by rw [hF]; exact hcf.set 1 vd'
  refine ⟨⟨h.lo.trans hall.lo, h.hl, hbf, ⟨hr.1.congr fun g e => ?_, hr.2⟩, h.mf, fun e he => ?_⟩, hall⟩
  · rcases hr.1.cases with ⟨e1, _⟩ | ⟨g', cap, cur, e1, _, h4, _⟩
    · rw [e1] at e; cases e
    · rw [e1] at e
      obtain rfl := Option.some.inj e
      exact hnf g' cur _ (0, 0) h4 (by decide)
  · rcases List.mem_append.1 he with he | he
    · obtain ⟨o, t, h1, h2⟩ := h.ent e he
      exact ⟨o, t, hall.fco h1, h2⟩
    · simp at he
      subst he
      exact ⟨o, t, hall.fco ht, hb, hn⟩
/-- what a search of the document tells, and leaves -/
def DP (w0 : World) (F : Nat) (vl : Value) (L : List CaE) (E : List DeE) (C D : Nat) (t : List FcE) (w : World) (e : Ending) (w' : World) : Prop :=
  ∃ v, e = .returned (.tuple #[v, .bool (sr L D t).isSome]) ∧ InV w' v ((sr L D t).getD []) ∧ DF w0.heap.size w w' ∧ ∃ vd ob E', DS w0 w' F vl L vd ob E' ∧ E'.length ≤ E.length + C
theorem inv_nil (W : World) : InV W (.slice none 0 0) [] := (ino_nil W 0).v
theorem dp_some {w0 : World} {F : Nat} {vl : Value} {L : List CaE} {E E' : List DeE} {C D : Nat} {t : List FcE} {w w' : World} {v vd : Value} {ob : Option Nat} {r : List Int} (h : DS w0 w' F vl L vd ob E') (hs : DF w0.heap.size w w') (hr : sr L D t = some r) (hv : InV w' v r) (hE : E'.length ≤ E.length + C) : DP w0 F vl L E C D t w (.returned (.tuple #[v, .bool true])) w' :=
  ⟨v, by rw [hr]; rfl, by rw [hr]; exact hv, hs, vd, ob, E', h, hE⟩
theorem dp_none {w0 : World} {F : Nat} {vl : Value} {L : List CaE} {E E' : List DeE} {C D : Nat} {t : List FcE} {w w' : World} {vd : Value} {ob : Option Nat} (h : DS w0 w' F vl L vd ob E') (hs : DF w0.heap.size w w') (hr : sr L D t = none) (hE : E'.length ≤ E.length + C) : DP w0 F vl L E C D t w (.returned (.tuple #[.slice none 0 0, .bool false])) w' :=
  ⟨_, by rw [hr]; rfl, by rw [hr]; exact inv_nil _, hs, vd, ob, E', h, hE⟩
end Go.Proofs.Ythmjlomlceljkaa
