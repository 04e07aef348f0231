/-
  A full air takes no twin.
-/
import Derived.Test.YtokhdpokcfkfpaaAih
namespace Go.Proofs.Ytokhdpokcfkfpaa
open Go.RowKit
set_option linter.unusedSimpArgs false
set_option linter.unusedVariables false

set_option maxRecDepth 100000 in
set_option maxHeartbeats 8000000 in
theorem double_full (g b : Nat) (ob : Option Nat) (v : Value) (L : List MsE) (M : Int × Int → Option Value) (k : Nat) (m : MsE) (w : World) (h : AirAt w g b ob v L M) (hn : L.length = 1024) (hk : L[k]? = some m) :
    Calls Try.prog 14 #[.pointer (some ⟨g, 0, none⟩), .int .i64 (k : Int)] w fun e w' => e = .returned (.int .i64 100) ∧ Below w.heap.size w w' := by
  have hkl : k < L.length := by have := (List.getElem?_eq_some_iff.1 hk).1; exact this
  have LK := Lib.hid (lacks_ok g b ob v L M k w h hkl)
  have PT := Lib.hid (put_full g b ob v L M m w h hn)
  obtain ⟨a, c, rfl, n1, n2, ha⟩ := h.n_le
  unfold maxLen at n2
  obtain ⟨r, er, hq1, hq2⟩ := h.row.cell (k * 14) (by omega)
  clear hq1 hq2
  have ec : ∀ j, j < 14 → w.cell? ⟨r, k * 14 + j, none⟩ = m.cells[j]? := fun j hj => by
    obtain ⟨r', er', q, _⟩ := h.row.cell (k * 14 + j) (by omega)
    rw [er] at er'
    obtain rfl := Option.some.inj er'
    rw [q]
    exact msL_at L k j m hk hj
  subst er
  obtain rfl : a = some ⟨r, 0, none⟩ := ha
  have c0 : w.cell? ⟨g, 0, none⟩ = some (.slice (some ⟨r, 0, none⟩) L.length c) := cell_at h.blk 0
  have x0 : w.cell? ⟨r, k * 14, none⟩ = some (.int .i8 m.kd) := ec 0 (by omega)
  have x1 : w.cell? ⟨r, k * 14 + 1, none⟩ = some (.int .i64 m.f) := ec 1 (by omega)
  have x2 : w.cell? ⟨r, k * 14 + 2, none⟩ = some (.int .i64 m.t) := ec 2 (by omega)
  have x3 : w.cell? ⟨r, k * 14 + 3, none⟩ = some (.int .i64 m.te) := ec 3 (by omega)
  have x4 : w.cell? ⟨r, k * 14 + 4, none⟩ = some (.int .i64 m.ix) := ec 4 (by omega)
  have x5 : w.cell? ⟨r, k * 14 + 5, none⟩ = some (.int .i64 m.la) := ec 5 (by omega)
  have x6 : w.cell? ⟨r, k * 14 + 6, none⟩ = some (.int .i64 m.co) := ec 6 (by omega)
  have x7 : w.cell? ⟨r, k * 14 + 7, none⟩ = some (.bool m.ok) := ec 7 (by omega)
  have x8 : w.cell? ⟨r, k * 14 + 8, none⟩ = some (.slice none 0 0) := ec 8 (by omega)
  have x9 : w.cell? ⟨r, k * 14 + 9, none⟩ = some (.int .i64 m.si) := ec 9 (by omega)
  have x10 : w.cell? ⟨r, k * 14 + 10, none⟩ = some (.int .i64 m.st) := ec 10 (by omega)
  have x11 : w.cell? ⟨r, k * 14 + 11, none⟩ = some (.int .u8 m.sc) := ec 11 (by omega)
  have x12 : w.cell? ⟨r, k * 14 + 12, none⟩ = some (.slice none 0 0) := ec 12 (by omega)
  have x13 : w.cell? ⟨r, k * 14 + 13, none⟩ = some (.slice none 0 0) := ec 13 (by omega)
  obtain ⟨n, hnn⟩ : ∃ n, n = L.length := ⟨_, rfl⟩
  rw [← hnn] at c0 n1 hkl
  clear h hnn ec
  go_enter Try.func14, Try.ntmps14
  go_wp2_with fail
  go_at_call 33
  refine Calls.mono LK.out ?_
  rintro e w' ⟨rfl, rfl⟩
  go_wp2_with fail
  go_at_call 32
  refine Calls.mono PT.out ?_
  rintro e W2 ⟨rfl, h2⟩
  have H2 := Lib.hid h2
  clear h2
  go_wp2_with fail
  go_ret
  exact ⟨rfl, H2.out⟩
end Go.Proofs.Ytokhdpokcfkfpaa
