/-
  A slice of bytes that came in.
-/
import Derived.Test.YtgbbbjddooiaeaaOne
import Derived.ProofKit
import Derived.OpenShut
import Derived.ChangeOld
import Derived.SizedLaws
namespace Go.Proofs.Ytgbbbjddooiaeaa
open Go.RowKit Go.ChangeShapes Go.WideShapes Go.ChangeAt

theorem lt_of_cell {w : World} {a : Addr} {v : Value} (h : w.cell? a = some v) : a.block < w.heap.size := by
  cases hb : w.heap[a.block]? with
  | none => simp [World.cell?, hb] at h
  | some o => exact lt_of_block hb

structure BytesIn (w : World) (a : Option Addr) (len cap : Nat) (bs : List UInt8) : Prop where
  size : bs.length = len
  le : len ≤ cap
  max : cap ≤ maxLen
  nil : a = none → cap = 0
  cell : ∀ x, a = some x → ∀ j, j < len → w.cell? (x.add j) = some (.int .u8 ((bs.getD j 0).toNat : Nat))

theorem BytesIn.below {w w' : World} {a : Option Addr} {len cap : Nat} {bs : List UInt8} (h : BytesIn w a len cap bs) (hB : Below w.heap.size w w') : BytesIn w' a len cap bs :=
  ⟨h.size, h.le, h.max, h.nil, fun x hx j hj => by
    have hc := h.cell x hx j hj
    have hl : (x.add j).block < w.heap.size := lt_of_cell hc
    exact (hB.cell hl).trans hc⟩

theorem BytesIn.spot {w : World} {a : Option Addr} {len cap : Nat} {bs : List UInt8} (h : BytesIn w a len cap bs) :
    ∃ b o, (0 < len → a = some ⟨b, o, none⟩ ∧ b < w.heap.size) ∧ ∀ j, j < len → w.cell? ⟨b, o + j, none⟩ = some (.int .u8 ((bs.getD j 0).toNat : Nat)) := by
  by_cases h0 : len = 0
  · exact ⟨0, 0, fun hp => by omega, fun j hj => by omega⟩
  · cases ha : a with
    | none => have := h.nil ha; have := h.le; omega
    | some x =>
      obtain ⟨b, o, spot⟩ := x
      have hc := h.cell _ ha 0 (by omega)
      have hsp : spot = none := by simpa [Addr.add] using World.cell?_spot hc
      subst hsp
      have hl : b < w.heap.size := by simpa [Addr.add] using lt_of_cell hc
      refine ⟨b, o, fun _ => ⟨rfl, hl⟩, fun j hj => ?_⟩
      have := h.cell _ ha j hj
      rw [addr_plain] at this
      exact this

theorem BytesIn.string {w : World} {a : Option Addr} {len cap : Nat} {bs : List UInt8} (h : BytesIn w a len cap bs) : (convert 35 9 (.slice a len cap)).run Try.prog w = .ok (.string ⟨bs.toArray⟩) w := by
  obtain ⟨h1, h2, _, h3, h4⟩ := h
  subst h1
  cases a with
  | none =>
    have : bs = [] := List.eq_nil_of_length_eq_zero (by have := h3 rfl; omega)
    subst this
    rw [run_convert_bytes_string w 35 9 5 none _ cap Try.underlying35 Try.underlying5 Try.underlying9]
    rfl
  | some x =>
    refine run_convert_bytes_back (P := Try.prog) w 35 9 5 x cap bs Try.underlying35 Try.underlying5 Try.underlying9 fun j hj => ?_
    rw [h4 x rfl j hj]
    simp [List.getD, List.getElem?_eq_getElem hj]

theorem u8_of {n : Int} (h : (Lit.int .u8 n).wf = true) : ((UInt8.ofNat n.toNat).toNat : Int) = n := by
  have : 0 ≤ n ∧ n < 256 := by
    have h' := (Bool.and_eq_true _ _).mp h
    have e1 : IntKind.u8.min = 0 := by decide
    have e2 : IntKind.u8.max = 255 := by decide
    have h1 := of_decide_eq_true h'.1
    have h2 := of_decide_eq_true h'.2
    omega
  simp
  omega

theorem open_bytes {H : Type} {enc : TypeId × Value → H} {W : World} {fuel : Nat} {a : Option Addr} {len cap : Nat} {d : DataW H} {p : List MemPlace}
    (hf : DataW.trod enc Try.prog W 0 (fun _ => true) true fuel 35 (Value.slice a len cap).cells.toList = some (d, p)) :
    ∃ bs, BytesIn W a len cap bs ∧ (cap = 0 ∨ ∃ e s, d = .slice e s ∧ e.length + s.length = cap) := by
  rcases open_ints Try.underlying35 Try.underlying5 (by kernel_rfl) hf with ⟨hcs, hx⟩ | ⟨x, len', cap', zs, hcs, _, hl, hm, hz, hx, hcell, hwz⟩
  · simp [Value.cells] at hcs
    obtain ⟨rfl, rfl, rfl⟩ := hcs
    exact ⟨[], ⟨rfl, Nat.le_refl _, Nat.zero_le _, fun _ => rfl, fun x hx => by cases hx⟩, .inl rfl⟩
  · simp [Value.cells] at hcs
    obtain ⟨rfl, rfl, rfl⟩ := hcs
    simp only [Prod.mk.injEq] at hx
    obtain ⟨rfl, rfl⟩ := hx
    simp only [if_true] at hz
    refine ⟨(zs.take len).map fun z => UInt8.ofNat z.toNat, ⟨by (simp; omega), hl, hm, fun h => (nomatch h), fun y hy j hj => ?_⟩, .inr ⟨_, _, rfl, by simp [lits]; omega⟩⟩
    obtain rfl := Option.some.inj hy
    rw [hcell j (by omega)]
    have hj' : j < zs.length := by omega
    have := u8_of (hwz zs[j] (List.getElem_mem hj'))
    simp only [List.getD, List.getElem?_map, List.getElem?_take, if_pos hj, List.getElem?_eq_getElem hj', Option.map_some, Option.getD_some]
    rw [this]

end Go.Proofs.Ytgbbbjddooiaeaa
