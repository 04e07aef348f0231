/-
  Bytes as strings.
-/
import Derived.Laws.StructEq
import Derived.Test.YtcadinoijclfnaaBy1
namespace Go.Proofs.Ytcadinoijclfnaa
open Go.RowKit
set_option linter.unusedSimpArgs false
set_option linter.unusedVariables false

theorem cell_congr {A B : World} {b : Nat} (h : B.heap[b]? = A.heap[b]?) (o : Nat) : B.cell? ⟨b, o, none⟩ = A.cell? ⟨b, o, none⟩ := by
  unfold World.cell?
  simp only [h]
theorem ByIn.ne {W : World} {a : Option Addr} {len cap b o : Nat} {X : Nat → Nat} (h : ByIn W a len cap b o X) (p : Addr) (hp : 0 < len → b ≠ p.block) (u : Value) : ByIn (W.setCell p u) a len cap b o X :=
  ⟨h.le, h.max, fun hk => ⟨(h.at_ hk).1, by have := (h.at_ hk).2; simpa using this⟩, fun k hk => (cell_congr (heap_setCell_ne _ _ _ _ (hp (by omega))) _).trans (h.cell k hk), h.bd⟩
def bytesOf (X : Nat → Nat) (n : Nat) : List UInt8 := (List.range n).map fun j => UInt8.ofNat (X j)
theorem bytesOf_len (X : Nat → Nat) (n : Nat) : (bytesOf X n).length = n := by simp [bytesOf]
theorem ByIn.string {W : World} {a : Option Addr} {n c b o : Nat} {X : Nat → Nat} (h : ByIn W a n c b o X) : (convert 45 9 (.slice a n c)).run Try.prog W = .ok (.string ⟨(bytesOf X n).toArray⟩) W := by
  by_cases h0 : n = 0
  · subst h0
    cases a with
    | none =>
      rw [run_convert_bytes_string W 45 9 5 none _ c Try.underlying45 Try.underlying5 Try.underlying9]
      rfl
    | some x => exact run_convert_bytes_back (P := Try.prog) W 45 9 5 x c [] Try.underlying45 Try.underlying5 Try.underlying9 fun j hj => by simp at hj
  · obtain ⟨e0, _⟩ := h.at_ (by omega)
    subst e0
    have hr := run_convert_bytes_back (P := Try.prog) W 45 9 5 ⟨b, o, none⟩ c (bytesOf X n) Try.underlying45 Try.underlying5 Try.underlying9 fun j hj => by
      rw [bytesOf_len] at hj
      rw [addr_add, h.cell j hj]
      have hb := h.bd j
      simp [bytesOf]
      omega
    rw [bytesOf_len] at hr
    exact hr
theorem bytesOf_eq (X Y : Nat → Nat) (hX : ∀ k, X k < 256) (hY : ∀ k, Y k < 256) (n m : Nat) : (bytesOf X n == bytesOf Y m) = (n == m && eqB X Y n) := by
  rw [Bool.eq_iff_iff]
  simp only [beq_iff_eq, Bool.and_eq_true, eqB_iff]
  constructor
  · intro h
    have hl : n = m := by have := congrArg List.length h; rwa [bytesOf_len, bytesOf_len] at this
    subst hl
    refine ⟨rfl, fun k hk => ?_⟩
    have h2 : (bytesOf X n)[k]? = (bytesOf Y n)[k]? := by rw [h]
    simp only [bytesOf, List.getElem?_map, List.getElem?_range hk, Option.map_some, Option.some.injEq] at h2
    have h3 := congrArg UInt8.toNat h2
    simp only [UInt8.toNat_ofNat'] at h3
    have := hX k
    have := hY k
    omega
  · rintro ⟨rfl, h⟩
    unfold bytesOf
    refine List.map_congr_left fun k hk => ?_
    rw [h k (List.mem_range.1 hk)]
theorem str_eql (w : World) (A B : List UInt8) : (binOp .eql 9 (.string ⟨A.toArray⟩) (.string ⟨B.toArray⟩)).run Try.prog w = .ok (.bool (A == B)) w := by
  have h : (binOp .eql 9 (.string ⟨A.toArray⟩) (.string ⟨B.toArray⟩)).run Try.prog w = .ok (.bool ((⟨A.toArray⟩ : ByteArray).toList == (⟨B.toArray⟩ : ByteArray).toList)) w := rfl
  rw [h, ByteArray.toList_eq, ByteArray.toList_eq]


end Go.Proofs.Ytcadinoijclfnaa
