/-
  The law BucketStretch, walked.
-/
import Derived.Test.YtdmgmicnfoebmaaBkCap
import Derived.Test.YtdmgmicnfoebmaaDt
import Derived.Deep.DeepCutAuto
namespace Go.Proofs.Ytdmgmicnfoebmaa
open Go.RowKit

structure SI (rate burst : Int) (k : Nat) (b out ticks taken : Int) (c : Bool) : Prop where
  b0 : 0 ≤ b
  o0 : 0 ≤ out
  ob : out ≤ burst
  s : b + 1000 * out ≤ 1000 * burst
  t0 : 0 ≤ ticks
  tk : ticks ≤ k * 1073741824
  y0 : 0 ≤ taken
  yk : taken ≤ k * 1000000
  m : 1000 * taken + b ≤ 1000 * burst + rate * ticks
  n : c = false → ticks = 0 ∧ taken = 0

/-- what a round makes, up to the check -/
structure SR (rate burst : Int) (k : Nat) (b out ticks taken : Int) (c : Bool) (t : Int) : Prop where
  b0 : 0 ≤ creditS b rate burst out t
  b1 : creditS b rate burst out t + 1000 * out ≤ 1000 * burst
  b2 : creditS b rate burst out t ≤ b + rate * t
  rt : 0 ≤ rate * t
  rt2 : rate * t ≤ 1073741824000000
  q0 : 0 ≤ rate * ticks
  q1 : rate * ticks ≤ 107374182400000000
  q2 : rate * (ticks + t) = rate * ticks + rate * t

theorem SI.round {rate burst : Int} {k : Nat} {b out ticks taken : Int} {c : Bool} (h : SI rate burst k b out ticks taken c) (hk : k ≤ 99) (r0 : 0 ≤ rate) (r1 : rate ≤ 1000000) (u0 : 0 ≤ burst) (u1 : burst ≤ 1000000) {t : Int} (t0 : 0 ≤ t) (t1 : t ≤ 1073741824) : SR rate burst k b out ticks taken c t := by
  have hb := credit_bd b rate burst out t
  have hr : room burst out = 1000 * (burst - out) := by have := h.o0; have := h.ob; unfold room within; omega
  have hw : creditS b rate burst out t ≤ b + rate * t := by
    rw [creditS_eq]
    have ew : within rate 1000000 = rate := by unfold within; omega
    have et : within t 1099511627776 = t := by unfold within; omega
    have := h.b0
    have := Int.mul_nonneg r0 t0
    rw [ew, et]
    unfold within; omega
  have := h.tk
  exact ⟨hb.1, by omega, hw, Int.mul_nonneg r0 t0, Int.le_trans (Int.mul_le_mul r1 t1 t0 (by omega)) (by omega), Int.mul_nonneg r0 h.t0, Int.le_trans (Int.mul_le_mul r1 (show ticks ≤ 106300440576 by omega) h.t0 (by omega)) (by omega), Int.mul_add _ _ _⟩

theorem bcell {W w1 : World} (hb : Below W.heap.size W w1) : (∀ b o, b < W.heap.size → w1.cell? ⟨b, o, none⟩ = W.cell? ⟨b, o, none⟩) ∧ (∀ b o, b < W.heap.size → w1.frozen? ⟨b, o, none⟩ = W.frozen? ⟨b, o, none⟩) :=
  ⟨fun b o h => hb.cell (p := ⟨b, o, none⟩) h, fun b o h => hb.frozen (p := ⟨b, o, none⟩) h⟩

theorem moves_cells (W : World) {a : Option Addr} {len cap : Nat} {xs : List Dt} (h : SliceFits Try.prog W 74 a len cap xs) :
    ∃ (b o : Nat) (T S U : Nat → Int), (0 < len → a = some ⟨b, o, none⟩ ∧ b < W.heap.size) ∧ ∀ k, k < len →
      W.cell? ⟨b, o + k * 3, none⟩ = some (.int .i64 (T k)) ∧ W.cell? ⟨b, o + k * 3 + 1, none⟩ = some (.int .i64 (S k)) ∧ W.cell? ⟨b, o + k * 3 + 2, none⟩ = some (.int .i64 (U k)) := by
  have hc : Try.prog.cellsOf 74 = 3 := by kernel_rfl
  obtain ⟨b, o, h1, h2⟩ := h.spot (by rw [hc]; omega)
  have hex : ∀ k, ∃ q : Int × Int × Int, k < len → W.cell? ⟨b, o + k * 3, none⟩ = some (.int .i64 q.1) ∧ W.cell? ⟨b, o + k * 3 + 1, none⟩ = some (.int .i64 q.2.1) ∧ W.cell? ⟨b, o + k * 3 + 2, none⟩ = some (.int .i64 q.2.2) := fun k => by
    by_cases hk : k < len
    · have hl := h.length
      have hx := List.getElem?_eq_getElem (l := xs) (i := k) (by omega)
      obtain ⟨l, hl1, hl2, hl3⟩ := (h.each k _ hx).1.agg_inv Try.underlying74
      obtain ⟨y0, e0, f0⟩ := hl3 0 _ rfl
      obtain ⟨y1, e1, f1⟩ := hl3 1 _ rfl
      obtain ⟨y2, e2, f2⟩ := hl3 2 _ rfl
      obtain ⟨n0, rfl, _⟩ := f0.int_inv Try.underlying3
      obtain ⟨n1, rfl, _⟩ := f1.int_inv Try.underlying3
      obtain ⟨n2, rfl, _⟩ := f2.int_inv Try.underlying3
      match l, hl2 with
      | [z0, z1, z2], _ =>
        obtain rfl : z0 = _ := by simpa using e0
        obtain rfl : z1 = _ := by simpa using e1
        obtain rfl : z2 = _ := by simpa using e2
        have hcell := h2 k _ hx
        rw [hl1, hc] at hcell
        exact ⟨(n0, n1, n2), fun _ => ⟨hcell 0 _ rfl, by have := hcell 1 _ rfl; rwa [← Nat.add_assoc] at this, by have := hcell 2 _ rfl; rwa [← Nat.add_assoc] at this⟩⟩
    · exact ⟨(0, 0, 0), fun h => absurd h hk⟩
  have hg := fun k => Classical.choose_spec (hex k)
  exact ⟨b, o, fun k => (Classical.choose (hex k)).1, fun k => (Classical.choose (hex k)).2.1, fun k => (Classical.choose (hex k)).2.2, h1, hg⟩
end Go.Proofs.Ytdmgmicnfoebmaa
