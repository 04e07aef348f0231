/-
  Messages in memory; what an ask leaves of term and vote.
-/
import Derived.Test.YtidheicmaodfgaaVm
namespace Go.Proofs.Ytidheicmaodfgaa
open Go.RowKit

structure MsgE where
  k : Int
  f : Int
  tt : Int
  t : Int
  i : Int
  l : Int
  c : Int
  g : Bool
  ea : Option Addr
  en : Nat
  ec : Nat
  si : Int
  st : Int
  ss : Int
  sa : Option Addr
  sn : Nat
  sc : Nat
  da : Option Addr
  dn : Nat
  dc : Nat
def MsgE.cells (e : MsgE) : List Value := [.int .i8 e.k, .int .i64 e.f, .int .i64 e.tt, .int .i64 e.t, .int .i64 e.i, .int .i64 e.l, .int .i64 e.c, .bool e.g, .slice e.ea e.en e.ec, .int .i64 e.si, .int .i64 e.st, .int .u8 e.ss, .slice e.sa e.sn e.sc, .slice e.da e.dn e.dc]
def MsgE.ok (e : MsgE) : Prop := (-128 ≤ e.k ∧ e.k ≤ 127) ∧ (-9223372036854775808 ≤ e.f ∧ e.f ≤ 9223372036854775807) ∧ (-9223372036854775808 ≤ e.tt ∧ e.tt ≤ 9223372036854775807) ∧ (-9223372036854775808 ≤ e.t ∧ e.t ≤ 9223372036854775807) ∧ (-9223372036854775808 ≤ e.i ∧ e.i ≤ 9223372036854775807) ∧ (-9223372036854775808 ≤ e.l ∧ e.l ≤ 9223372036854775807) ∧ (-9223372036854775808 ≤ e.c ∧ e.c ≤ 9223372036854775807) ∧ True ∧ (e.en ≤ e.ec ∧ e.ec ≤ maxLen) ∧ (-9223372036854775808 ≤ e.si ∧ e.si ≤ 9223372036854775807) ∧ (-9223372036854775808 ≤ e.st ∧ e.st ≤ 9223372036854775807) ∧ (0 ≤ e.ss ∧ e.ss ≤ 255) ∧ (e.sn ≤ e.sc ∧ e.sc ≤ maxLen) ∧ (e.dn ≤ e.dc ∧ e.dc ≤ maxLen)
structure MsgIn (W : World) (a : Option Addr) (len cap b o : Nat) (E : Nat → MsgE) : Prop where
  le : len ≤ cap
  max : cap ≤ maxLen
  at_ : 0 < len → a = some ⟨b, o, none⟩ ∧ b < W.heap.size
  cell : ∀ k, k < len → W.cell? ⟨b, o + k * 14, none⟩ = some (.int .i8 (E k).k) ∧ W.cell? ⟨b, o + k * 14 + 1, none⟩ = some (.int .i64 (E k).f) ∧ W.cell? ⟨b, o + k * 14 + 2, none⟩ = some (.int .i64 (E k).tt) ∧ W.cell? ⟨b, o + k * 14 + 3, none⟩ = some (.int .i64 (E k).t) ∧ W.cell? ⟨b, o + k * 14 + 4, none⟩ = some (.int .i64 (E k).i) ∧ W.cell? ⟨b, o + k * 14 + 5, none⟩ = some (.int .i64 (E k).l) ∧ W.cell? ⟨b, o + k * 14 + 6, none⟩ = some (.int .i64 (E k).c) ∧ W.cell? ⟨b, o + k * 14 + 7, none⟩ = some (.bool (E k).g) ∧ W.cell? ⟨b, o + k * 14 + 8, none⟩ = some (.slice (E k).ea (E k).en (E k).ec) ∧ W.cell? ⟨b, o + k * 14 + 9, none⟩ = some (.int .i64 (E k).si) ∧ W.cell? ⟨b, o + k * 14 + 10, none⟩ = some (.int .i64 (E k).st) ∧ W.cell? ⟨b, o + k * 14 + 11, none⟩ = some (.int .u8 (E k).ss) ∧ W.cell? ⟨b, o + k * 14 + 12, none⟩ = some (.slice (E k).sa (E k).sn (E k).sc) ∧ W.cell? ⟨b, o + k * 14 + 13, none⟩ = some (.slice (E k).da (E k).dn (E k).dc)
  bd : ∀ k, k < len → (E k).ok
theorem MsgIn.below {W W' : World} {a : Option Addr} {len cap b o : Nat} {E : Nat → MsgE} (h : MsgIn W a len cap b o E) (hB : Below W.heap.size W W') : MsgIn W' a len cap b o E :=
  ⟨h.le, h.max, fun hk => ⟨(h.at_ hk).1, by have := (h.at_ hk).2; have := hB.size; omega⟩, fun k hk => by
    have hb := (h.at_ (by omega)).2
    obtain ⟨c0, c1, c2, c3, c4, c5, c6, c7, c8, c9, c10, c11, c12, c13⟩ := h.cell k hk
    exact ⟨(hB.cell (p := ⟨b, _, none⟩) hb).trans c0, (hB.cell (p := ⟨b, _, none⟩) hb).trans c1, (hB.cell (p := ⟨b, _, none⟩) hb).trans c2, (hB.cell (p := ⟨b, _, none⟩) hb).trans c3, (hB.cell (p := ⟨b, _, none⟩) hb).trans c4, (hB.cell (p := ⟨b, _, none⟩) hb).trans c5, (hB.cell (p := ⟨b, _, none⟩) hb).trans c6, (hB.cell (p := ⟨b, _, none⟩) hb).trans c7, (hB.cell (p := ⟨b, _, none⟩) hb).trans c8, (hB.cell (p := ⟨b, _, none⟩) hb).trans c9, (hB.cell (p := ⟨b, _, none⟩) hb).trans c10, (hB.cell (p := ⟨b, _, none⟩) hb).trans c11, (hB.cell (p := ⟨b, _, none⟩) hb).trans c12, (hB.cell (p := ⟨b, _, none⟩) hb).trans c13⟩, h.bd⟩
theorem msg_cells (W : World) {a : Option Addr} {len cap : Nat} {xs : List Dt} (h : SliceFits Try.prog W 40 a len cap xs) : ∃ (b o : Nat) (E : Nat → MsgE), MsgIn W a len cap b o E := by
  have hc : Try.prog.cellsOf 40 = 14 := by kernel_rfl
  obtain ⟨b, o, h1, h2⟩ := h.spot (by rw [hc]; omega)
  have hex : ∀ k, ∃ q : MsgE, k < len → (W.cell? ⟨b, o + k * 14, none⟩ = some (.int .i8 q.k) ∧ W.cell? ⟨b, o + k * 14 + 1, none⟩ = some (.int .i64 q.f) ∧ W.cell? ⟨b, o + k * 14 + 2, none⟩ = some (.int .i64 q.tt) ∧ W.cell? ⟨b, o + k * 14 + 3, none⟩ = some (.int .i64 q.t) ∧ W.cell? ⟨b, o + k * 14 + 4, none⟩ = some (.int .i64 q.i) ∧ W.cell? ⟨b, o + k * 14 + 5, none⟩ = some (.int .i64 q.l) ∧ W.cell? ⟨b, o + k * 14 + 6, none⟩ = some (.int .i64 q.c) ∧ W.cell? ⟨b, o + k * 14 + 7, none⟩ = some (.bool q.g) ∧ W.cell? ⟨b, o + k * 14 + 8, none⟩ = some (.slice q.ea q.en q.ec) ∧ W.cell? ⟨b, o + k * 14 + 9, none⟩ = some (.int .i64 q.si) ∧ W.cell? ⟨b, o + k * 14 + 10, none⟩ = some (.int .i64 q.st) ∧ W.cell? ⟨b, o + k * 14 + 11, none⟩ = some (.int .u8 q.ss) ∧ W.cell? ⟨b, o + k * 14 + 12, none⟩ = some (.slice q.sa q.sn q.sc) ∧ W.cell? ⟨b, o + k * 14 + 13, none⟩ = some (.slice q.da q.dn q.dc)) ∧ q.ok := fun k => by
    by_cases hk : k < len
    · have hl := h.length
      have hx := List.getElem?_eq_getElem (l := xs) (i := k) (by omega)
      obtain ⟨l0, hxe, hl0, hf0⟩ := (h.each k _ hx).1.agg_inv Try.underlying40
      obtain ⟨y0_0, e0_0, f0_0⟩ := hf0 0 _ rfl
      obtain ⟨y0_1, e0_1, f0_1⟩ := hf0 1 _ rfl
      obtain ⟨y0_2, e0_2, f0_2⟩ := hf0 2 _ rfl
      obtain ⟨y0_3, e0_3, f0_3⟩ := hf0 3 _ rfl
      obtain ⟨y0_4, e0_4, f0_4⟩ := hf0 4 _ rfl
      obtain ⟨y0_5, e0_5, f0_5⟩ := hf0 5 _ rfl
      obtain ⟨y0_6, e0_6, f0_6⟩ := hf0 6 _ rfl
      obtain ⟨y0_7, e0_7, f0_7⟩ := hf0 7 _ rfl
      obtain ⟨y0_8, e0_8, f0_8⟩ := hf0 8 _ rfl
      obtain ⟨y0_9, e0_9, f0_9⟩ := hf0 9 _ rfl
      obtain ⟨y0_10, e0_10, f0_10⟩ := hf0 10 _ rfl
      obtain ⟨v0_0, rfl, gv0_0⟩ := f0_0.int_inv Try.underlying35
      obtain ⟨v0_1, rfl, gv0_1⟩ := f0_1.int_inv Try.underlying3
      obtain ⟨v0_2, rfl, gv0_2⟩ := f0_2.int_inv Try.underlying3
      obtain ⟨v0_3, rfl, gv0_3⟩ := f0_3.int_inv Try.underlying3
      obtain ⟨v0_4, rfl, gv0_4⟩ := f0_4.int_inv Try.underlying3
      obtain ⟨v0_5, rfl, gv0_5⟩ := f0_5.int_inv Try.underlying3
      obtain ⟨v0_6, rfl, gv0_6⟩ := f0_6.int_inv Try.underlying3
      obtain ⟨v0_7, rfl⟩ := f0_7.bool_inv Try.underlying4
      obtain ⟨av0_8, nv0_8, cv0_8, xv0_8, rfl, gv0_8⟩ := f0_8.slice_inv Try.underlying24
      obtain ⟨l1, rfl, hl1, hf1⟩ := f0_9.agg_inv Try.underlying38
      obtain ⟨y1_0, e1_0, f1_0⟩ := hf1 0 _ rfl
      obtain ⟨y1_1, e1_1, f1_1⟩ := hf1 1 _ rfl
      obtain ⟨y1_2, e1_2, f1_2⟩ := hf1 2 _ rfl
      obtain ⟨y1_3, e1_3, f1_3⟩ := hf1 3 _ rfl
      obtain ⟨v1_0, rfl, gv1_0⟩ := f1_0.int_inv Try.underlying3
      obtain ⟨v1_1, rfl, gv1_1⟩ := f1_1.int_inv Try.underlying3
      obtain ⟨v1_2, rfl, gv1_2⟩ := f1_2.int_inv Try.underlying5
      obtain ⟨av1_3, nv1_3, cv1_3, xv1_3, rfl, gv1_3⟩ := f1_3.slice_inv Try.underlying36
      obtain ⟨av0_10, nv0_10, cv0_10, xv0_10, rfl, gv0_10⟩ := f0_10.slice_inv Try.underlying36
      match l0, hl0 with
      | [z0_0, z0_1, z0_2, z0_3, z0_4, z0_5, z0_6, z0_7, z0_8, z0_9, z0_10], _ =>
        obtain rfl : z0_0 = _ := by simpa using e0_0
        obtain rfl : z0_1 = _ := by simpa using e0_1
        obtain rfl : z0_2 = _ := by simpa using e0_2
        obtain rfl : z0_3 = _ := by simpa using e0_3
        obtain rfl : z0_4 = _ := by simpa using e0_4
        obtain rfl : z0_5 = _ := by simpa using e0_5
        obtain rfl : z0_6 = _ := by simpa using e0_6
        obtain rfl : z0_7 = _ := by simpa using e0_7
        obtain rfl : z0_8 = _ := by simpa using e0_8
        obtain rfl : z0_9 = _ := by simpa using e0_9
        obtain rfl : z0_10 = _ := by simpa using e0_10
        match l1, hl1 with
        | [z1_0, z1_1, z1_2, z1_3], _ =>
          obtain rfl : z1_0 = _ := by simpa using e1_0
          obtain rfl : z1_1 = _ := by simpa using e1_1
          obtain rfl : z1_2 = _ := by simpa using e1_2
          obtain rfl : z1_3 = _ := by simpa using e1_3
          have hcell := h2 k _ hx
          rw [hxe, hc] at hcell
          exact ⟨⟨v0_0, v0_1, v0_2, v0_3, v0_4, v0_5, v0_6, v0_7, av0_8, nv0_8, cv0_8, v1_0, v1_1, v1_2, av1_3, nv1_3, cv1_3, av0_10, nv0_10, cv0_10⟩, fun _ => ⟨⟨hcell 0 _ rfl, by have := hcell 1 _ rfl; rwa [← Nat.add_assoc] at this, by have := hcell 2 _ rfl; rwa [← Nat.add_assoc] at this, by have := hcell 3 _ rfl; rwa [← Nat.add_assoc] at this, by have := hcell 4 _ rfl; rwa [← Nat.add_assoc] at this, by have := hcell 5 _ rfl; rwa [← Nat.add_assoc] at this, by have := hcell 6 _ rfl; rwa [← Nat.add_assoc] at this, by have := hcell 7 _ rfl; rwa [← Nat.add_assoc] at this, by have := hcell 8 _ rfl; rwa [← Nat.add_assoc] at this, by have := hcell 9 _ rfl; rwa [← Nat.add_assoc] at this, by have := hcell 10 _ rfl; rwa [← Nat.add_assoc] at this, by have := hcell 11 _ rfl; rwa [← Nat.add_assoc] at this, by have := hcell 12 _ rfl; rwa [← Nat.add_assoc] at this, by have := hcell 13 _ rfl; rwa [← Nat.add_assoc] at this⟩, gv0_0, gv0_1, gv0_2, gv0_3, gv0_4, gv0_5, gv0_6, trivial, ⟨gv0_8.le, gv0_8.max⟩, gv1_0, gv1_1, gv1_2, ⟨gv1_3.le, gv1_3.max⟩, ⟨gv0_10.le, gv0_10.max⟩⟩⟩
    · exact ⟨⟨0, 0, 0, 0, 0, 0, 0, false, none, 0, 0, 0, 0, 0, none, 0, 0, none, 0, 0⟩, fun h => absurd h hk⟩
  have hg := fun k => Classical.choose_spec (hex k)
  exact ⟨b, o, fun k => Classical.choose (hex k), h.le, h.max, h1, fun k hk => (hg k hk).1, fun k hk => (hg k hk).2⟩

theorem ans_once {ht hv hb : Int} {nb : Bool} {self k f t : Int} {A : Ans} (h0 : 0 ≤ ht) (hA : ansS ht hv hb true nb self k f t = A) (he : A.e = 0) :
    ht ≤ A.t ∧ 0 ≤ A.t ∧ (A.t = ht → hv ≠ 0 → A.v = hv) ∧ A.t2 = A.t ∧ (A.ok = true → A.v = f ∧ A.t = t) ∧ A.b = hb := by
  subst hA
  unfold ansS at he ⊢
  rw [if_neg (by simp)] at he ⊢
  by_cases hb2 : badAsk k self f t = true
  · rw [if_pos hb2] at he
    simp at he
  · rw [if_neg hb2] at he ⊢
    simp only
    obtain ⟨c, hc⟩ : ∃ c, c = (decide (ht ≤ t) && freeB (riseV ht hv t) f && nb) := ⟨_, rfl⟩
    rw [← hc]
    by_cases h1 : ht < t
    · have e1 : riseT ht t = t := by unfold riseT; rw [if_pos h1]
      rw [e1]
      exact ⟨by omega, by omega, fun h => by omega, trivial, fun h => ⟨by rw [if_pos h], rfl⟩, trivial⟩
    · have e1 : riseT ht t = ht := by unfold riseT; rw [if_neg h1]
      have e2 : riseV ht hv t = hv := by unfold riseV; rw [if_neg h1]
      rw [e1, e2]
      rw [e2] at hc
      refine ⟨by omega, by omega, fun _ hv0 => ?_, trivial, fun h => ⟨by rw [if_pos h], ?_⟩, trivial⟩
      · cases c
        · simp
        · unfold freeB at hc
          simp at hc ⊢
          omega
      · rw [h] at hc
        simp at hc
        omega
end Go.Proofs.Ytidheicmaodfgaa
