/-
  Package fifo: a queue in memory.
-/
import Derived.Deep.RegionLaw
import Derived.StillTailTactics
import Derived.Test.YtninhjeiialbjaaFf2
namespace Go.Proofs.Ytninhjeiialbjaa
open Go.RowKit
set_option linter.unusedSimpArgs false
set_option linter.unusedVariables false

/-- a packet, and where its load lies -/
structure PkE where
  num : Int
  t : Int
  c : Int
  a : Option Addr
  n : Nat
  ca : Nat
  b : Nat
  o : Nat
  X : Nat → Nat
def PkE.cells (p : PkE) : List Value := [.int .i64 p.num, .int .i64 p.t, .int .i64 p.c, .slice p.a p.n p.ca]
def putE (E : Nat → PkE) (k : Nat) (p : PkE) (j : Nat) : PkE := if j = k then p else E j

/-- a packet's load, apart from the queue's own blocks -/
structure LdIn (W : World) (D R : Nat) (p : PkE) : Prop where
  by_ : ByIn W p.a p.n p.ca p.b p.o p.X
  le : p.n ≤ 1492
  d : 0 < p.n → p.b ≠ D
  r : 0 < p.n → p.b ≠ R

/-- a queue: its block D, its ring's block R -/
structure QIn (W : World) (D R o room f n : Nat) (by_ dr : Int) (E : Nat → PkE) : Prop where
  own : Blk W D #[.slice (some ⟨R, o, none⟩) room room, .int .i64 (f : Nat), .int .i64 (n : Nat), .int .i64 by_, .int .i64 dr] 114
  ring : ∃ cur : Array Value, Blk W R cur 57 ∧ cur.size = o + room * 4 ∧ ∀ j, j < n → ∀ i, i < 4 → cur[o + (f + j) % room * 4 + i]? = (E j).cells[i]?
  ne : D ≠ R
  r1 : 1 ≤ room
  r64 : room ≤ 64
  fl : f < room
  nl : n ≤ room
  ld : ∀ j, j < n → LdIn W D R (E j)

theorem LdIn.fr {W W' : World} {D R : Nat} {p : PkE} (h : LdIn W D R p) (hF : Fr [D, R] W W') : LdIn W' D R p :=
  ⟨⟨h.by_.le, h.by_.max, fun hk => ⟨(h.by_.at_ hk).1, by have := (h.by_.at_ hk).2; have := hF.size; omega⟩, fun k hk => by
    have hb := (h.by_.at_ (by omega)).2
    have h1 := h.d (by omega)
    have h2 := h.r (by omega)
    exact (cell_congr (hF.block p.b hb (by simp [h1, h2])) _).trans (h.by_.cell k hk), h.by_.bd⟩, h.le, h.d, h.r⟩

theorem mod_ne {f n j room : Nat} (hf : f < room) (hn : n < room) (hj : j < n) : (f + j) % room ≠ (f + n) % room := by
  intro h
  have e1 : (f + j) % room = if f + j < room then f + j else f + j - room := by
    split
    · exact Nat.mod_eq_of_lt (by omega)
    · rw [Nat.mod_eq_sub_mod (by omega), Nat.mod_eq_of_lt (by omega)]
  have e2 : (f + n) % room = if f + n < room then f + n else f + n - room := by
    split
    · exact Nat.mod_eq_of_lt (by omega)
    · rw [Nat.mod_eq_sub_mod (by omega), Nat.mod_eq_of_lt (by omega)]
  rw [e1, e2] at h
  split at h <;> split at h <;> omega

def put4 (cur : Array Value) (m : Nat) (v0 v1 v2 v3 : Value) : Array Value := (((cur.setIfInBounds m v0).setIfInBounds (m + 1) v1).setIfInBounds (m + 2) v2).setIfInBounds (m + 3) v3
theorem put4_size (cur : Array Value) (m : Nat) (v0 v1 v2 v3 : Value) : (put4 cur m v0 v1 v2 v3).size = cur.size := by simp [put4]
theorem put4_at (cur : Array Value) (m : Nat) (v0 v1 v2 v3 : Value) (h : m + 4 ≤ cur.size) (i : Nat) (hi : i < 4) : (put4 cur m v0 v1 v2 v3)[m + i]? = [v0, v1, v2, v3][i]? := by
  unfold put4
  have h4 : i = 0 ∨ i = 1 ∨ i = 2 ∨ i = 3 := by omega
  have q0 : m < cur.size := by omega
  have q1 : m + 1 < cur.size := by omega
  have q2 : m + 2 < cur.size := by omega
  have q3 : m + 3 < cur.size := by omega
  rcases h4 with rfl | rfl | rfl | rfl <;> simp [Array.getElem?_setIfInBounds, q0, q1, q2, q3]
theorem put4_ne (cur : Array Value) (m : Nat) (v0 v1 v2 v3 : Value) (x : Nat) (h : x < m ∨ m + 4 ≤ x) : (put4 cur m v0 v1 v2 v3)[x]? = cur[x]? := by
  unfold put4
  simp only [Array.getElem?_setIfInBounds, Array.size_setIfInBounds]
  rw [if_neg (by omega), if_neg (by omega), if_neg (by omega), if_neg (by omega)]
theorem LdIn.drewN' {W : World} {D R : Nat} {p : PkE} (h : LdIn W D R p) : LdIn W.drew D R p := h.fr ((Fr.refl _ _).drew)

set_option maxRecDepth 100000 in
set_option maxHeartbeats 8000000 in
theorem ring_push (D R o room f n : Nat) (by_ dr : Int) (E : Nat → PkE) (num t c : Int) (a : Option Addr) (ln ca : Nat) (w : World) (hq : QIn w D R o room f n by_ dr E) (hn : n < room) (b ob : Nat) (X : Nat → Nat) (hl : LdIn w D R ⟨num, t, c, a, ln, ca, b, ob, X⟩) :
    Calls Try.prog 82 #[.pointer (some ⟨D, 0, none⟩), .agg #[.int .i64 num, .int .i64 t, .int .i64 c, .slice a ln ca]] w fun e w' => e = .returned (.bool true) ∧ QIn w' D R o room f (n + 1) by_ dr (putE E n ⟨num, t, c, a, ln, ca, b, ob, X⟩) ∧ Fr [D, R] w w' := by
  obtain ⟨W1, hW1⟩ : ∃ W1, W1 = w.alloc (.cells #[.int .i64 num, .int .i64 t, .int .i64 c, .slice a ln ca] 57) := ⟨_, rfl⟩
  have hB1 : Below w.heap.size w W1 := by rw [hW1]; exact (Below.refl _ _).alloc (Nat.le_refl _) _
  have hD := hq.own.lt
  obtain ⟨cur, hr, hcs, hce⟩ := hq.ring
  have hR := hr.lt
  have hown1 := hq.own.step hB1
  have hr1 := hr.step hB1
  have hr64 := hq.r64
  have hf := hq.fl
  have hr0 := hq.r1
  obtain ⟨N, hN⟩ : ∃ N, N = w.heap.size := ⟨_, rfl⟩
  have hp : Blk W1 N #[.int .i64 num, .int .i64 t, .int .i64 c, .slice a ln ca] 57 := by rw [hW1, hN]; exact blk_new _ _ _
  obtain ⟨k, hk⟩ : ∃ k, k = (f + n) % room := ⟨_, rfl⟩
  have hkr : k < room := by rw [hk]; exact Nat.mod_lt _ (by omega)
  have hmod : Int.tmod ((f : Int) + (n : Int)) (room : Int) = (k : Nat) := by rw [hk, ← Int.natCast_add, ← Int.ofNat_tmod]
  have HK := Lib.hid hk
  have hcell : ∀ i, i < 4 → ∃ v, cur[o + k * 4 + i]? = some v := fun i hi => ⟨_, Array.getElem?_eq_getElem (by omega)⟩
  obtain ⟨v0, e0⟩ := hcell 0 (by omega)
  obtain ⟨v1, e1⟩ := hcell 1 (by omega)
  obtain ⟨v2, e2⟩ := hcell 2 (by omega)
  obtain ⟨v3, e3⟩ := hcell 3 (by omega)
  have q0 : W1.cell? ⟨R, o + k * 4, none⟩ = some v0 := (cell_at hr1 _).trans e0
  have q1 : W1.cell? ⟨R, o + k * 4 + 1, none⟩ = some v1 := (cell_at hr1 _).trans e1
  have q2 : W1.cell? ⟨R, o + k * 4 + 2, none⟩ = some v2 := (cell_at hr1 _).trans e2
  have q3 : W1.cell? ⟨R, o + k * 4 + 3, none⟩ = some v3 := (cell_at hr1 _).trans e3
  have y0 := free_at hr1 (o + k * 4)
  have y1 := free_at hr1 (o + k * 4 + 1)
  have y2 := free_at hr1 (o + k * 4 + 2)
  have y3 := free_at hr1 (o + k * 4 + 3)
  have c0 : W1.cell? ⟨D, 0, none⟩ = some (.slice (some ⟨R, o, none⟩) room room) := cell_at hown1 0
  have c1 : W1.cell? ⟨D, 1, none⟩ = some (.int .i64 (f : Nat)) := cell_at hown1 1
  have c2 : W1.cell? ⟨D, 2, none⟩ = some (.int .i64 (n : Nat)) := cell_at hown1 2
  have z2 := free_at hown1 2
  have p0 : W1.cell? ⟨N, 0, none⟩ = some (.int .i64 num) := cell_at hp 0
  have p1 : W1.cell? ⟨N, 1, none⟩ = some (.int .i64 t) := cell_at hp 1
  have p2 : W1.cell? ⟨N, 2, none⟩ = some (.int .i64 c) := cell_at hp 2
  have p3 : W1.cell? ⟨N, 3, none⟩ = some (.slice a ln ca) := cell_at hp 3
  have hD1 : D < W1.heap.size := hown1.lt
  have hR1 : R < W1.heap.size := hr1.lt
  have hN1 : N < W1.heap.size := hp.lt
  have hne := hq.ne
  have d1 : decide ((room : Int) ≤ n) = false := by simp; omega
  have d2 : decide (room ≤ n) = false := by simp; omega
  have HQ := Lib.hid hq
  have HL := Lib.hid hl
  have HB1 := Lib.hid hB1
  have HOWN := Lib.hid hown1
  have HR1 := Lib.hid hr1
  have HN := Lib.hid hN
  have HCE := Lib.hid hce
  clear hq hl hB1 hown1 hr1 hr hcell e0 e1 e2 e3 hp hce hk
  go_enter Try.func82, Try.ntmps82
  go_wp2_with fail
  rw [← hN, ← hW1]
  clear hN hW1
  go_quiet (fail)
  go_wp2_with fail
  generalize hWA : World.drewN W1 _ = WA
  have hdc : ∀ p, W1.cell? p = WA.cell? p := fun p => by rw [← hWA]; rfl
  have hdf : ∀ p, W1.frozen? p = WA.frozen? p := fun p => by rw [← hWA]; rfl
  have hds : W1.heap.size = WA.heap.size := by rw [← hWA]; rfl
  have HOWA : Hid (Blk WA D #[.slice (some ⟨R, o, none⟩) room room, .int .i64 (f : Nat), .int .i64 (n : Nat), .int .i64 by_, .int .i64 dr] 114) := Lib.hid (by rw [← hWA]; exact HOWN.out)
  have HRA : Hid (Blk WA R cur 57) := Lib.hid (by rw [← hWA]; exact HR1.out)
  have HBA : Hid (Below w.heap.size w WA) := Lib.hid (by rw [← hWA]; exact below_drewN HB1.out _)
  rw [hdc] at q0 q1 q2 q3 c0 c1 c2 p0 p1 p2 p3
  rw [hdf] at y0 y1 y2 y3 z2
  rw [hds] at hD1 hR1 hN1
  clear hdc hdf hds hWA HB1 HOWN HR1
  have hw : IntKind.i64.wrap ((f : Int) + (n : Int)) = (f : Int) + n := by rw [IntKind.wrap_i64]; omega
  have hz : (room = 0) = False := eq_false (by omega)
  go_still_tail 21, (by kernel_rfl)
  change wpList _ _ _ _ _ WA.drew
  go_wp2_with fail
  go_ret
  obtain ⟨WF, hWF⟩ : ∃ WF, WF = ((((WA.drew.setCell ⟨R, o + k * 4, none⟩ (.int .i64 num)).setCell ⟨R, o + k * 4 + 1, none⟩ (.int .i64 t)).setCell ⟨R, o + k * 4 + 2, none⟩ (.int .i64 c)).setCell ⟨R, o + k * 4 + 3, none⟩ (.slice a ln ca)).setCell ⟨D, 2, none⟩ (.int .i64 ((n : Int) + 1)) := ⟨_, rfl⟩
  have hRD : R ≠ D := fun e => hne e.symm
  have k1 : Blk WF D #[.slice (some ⟨R, o, none⟩) room room, .int .i64 (f : Nat), .int .i64 ((n : Int) + 1), .int .i64 by_, .int .i64 dr] 114 := by
    rw [hWF]
    exact ((((Blk.ne (A := WA.drew) HOWA.out ⟨R, o + k * 4, none⟩ hne (.int .i64 num)).ne ⟨R, o + k * 4 + 1, none⟩ hne (.int .i64 t)).ne ⟨R, o + k * 4 + 2, none⟩ hne (.int .i64 c)).ne ⟨R, o + k * 4 + 3, none⟩ hne (.slice a ln ca)).set 2 (.int .i64 ((n : Int) + 1))
  have k2 : Blk WF R (put4 cur (o + k * 4) (.int .i64 num) (.int .i64 t) (.int .i64 c) (.slice a ln ca)) 57 := by
    rw [hWF]
    exact ((((Blk.set (A := WA.drew) HRA.out (o + k * 4) (.int .i64 num)).set (o + k * 4 + 1) (.int .i64 t)).set (o + k * 4 + 2) (.int .i64 c)).set (o + k * 4 + 3) (.slice a ln ca)).ne ⟨D, 2, none⟩ hRD (.int .i64 ((n : Int) + 1))
  have hFA : Fr [D, R] w WA.drew := ((Fr.of_below HBA.out).mono (by simp)).drew
  have k3 : Fr [D, R] w WF := by
    rw [hWF]
    exact ((((hFA.setCell ⟨R, o + k * 4, none⟩ (.inl (by simp)) (.int .i64 num)).setCell ⟨R, o + k * 4 + 1, none⟩ (.inl (by simp)) (.int .i64 t)).setCell ⟨R, o + k * 4 + 2, none⟩ (.inl (by simp)) (.int .i64 c)).setCell ⟨R, o + k * 4 + 3, none⟩ (.inl (by simp)) (.slice a ln ca)).setCell ⟨D, 2, none⟩ (.inl (by simp)) (.int .i64 ((n : Int) + 1))
  have hfin : QIn WF D R o room f (n + 1) by_ dr (putE E n ⟨num, t, c, a, ln, ca, b, ob, X⟩) := by
    refine ⟨by rw [Int.natCast_add]; exact k1, ⟨_, k2, by rw [put4_size, hcs], fun j hj i hi => ?_⟩, hne, hr0, hr64, hf, hn, fun j hj => ?_⟩
    · unfold putE
      by_cases e : j = n
      · rw [if_pos e, e, ← HK.out, put4_at _ _ _ _ _ _ (by omega) i hi]; rfl
      · have hm : (f + j) % room ≠ k := by rw [HK.out]; exact mod_ne hf hn (by omega)
        have hm2 : (f + j) % room < room := Nat.mod_lt _ (by omega)
        rw [if_neg e, put4_ne _ _ _ _ _ _ _ (by omega), HCE.out j (by omega) i hi]
    · unfold putE
      by_cases e : j = n
      · rw [if_pos e]; exact HL.out.fr k3
      · rw [if_neg e]; exact (HQ.out.ld j (by omega)).fr k3
  rw [hWF] at hfin k3
  exact ⟨rfl, hfin, k3⟩
end Go.Proofs.Ytninhjeiialbjaa
