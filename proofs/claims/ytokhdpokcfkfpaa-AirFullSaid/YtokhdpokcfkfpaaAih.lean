/-
  A full air; a message lost.
-/
import Derived.Test.YtokhdpokcfkfpaaAi6
namespace Go.Proofs.Ytokhdpokcfkfpaa
open Go.RowKit
set_option linter.unusedSimpArgs false
set_option linter.unusedVariables false

set_option maxRecDepth 100000 in
set_option maxHeartbeats 8000000 in
theorem put_full (g b : Nat) (ob : Option Nat) (v : Value) (L : List MsE) (M : Int × Int → Option Value) (m : MsE) (w : World) (h : AirAt w g b ob v L M) (hn : L.length = 1024) :
    Calls Try.prog 32 #[.pointer (some ⟨g, 0, none⟩), .agg #[.int .i8 m.kd, .int .i64 m.f, .int .i64 m.t, .int .i64 m.te, .int .i64 m.ix, .int .i64 m.la, .int .i64 m.co, .bool m.ok, .slice none 0 0, .int .i64 m.si, .int .i64 m.st, .int .u8 m.sc, .slice none 0 0, .slice none 0 0]] w fun e w' => e = .returned (.int .i64 100) ∧ Below w.heap.size w w' := by
  obtain ⟨a, c, rfl, n1, n2, _⟩ := h.n_le
  unfold maxLen at n2
  rw [hn] at n1
  obtain ⟨W1, hW1⟩ : ∃ W1, W1 = w.alloc (.cells #[.int .i8 m.kd, .int .i64 m.f, .int .i64 m.t, .int .i64 m.te, .int .i64 m.ix, .int .i64 m.la, .int .i64 m.co, .bool m.ok, .slice none 0 0, .int .i64 m.si, .int .i64 m.st, .int .u8 m.sc, .slice none 0 0, .slice none 0 0] 39) := ⟨_, rfl⟩
  have hB1 : Below w.heap.size w W1 := by rw [hW1]; exact (Below.refl _ _).alloc (Nat.le_refl _) _
  have c0 : W1.cell? ⟨g, 0, none⟩ = some (.slice a 1024 c) := by rw [← hn]; exact cell_at (h.below hB1).blk 0
  have HB1 := Lib.hid hB1
  clear h hB1 hn
  go_enter Try.func32, Try.ntmps32
  go_upto_region 1 with fail
  rw [← hW1]
  clear hW1
  go_wp2_with fail
  go_ret
  exact ⟨rfl, HB1.out⟩
set_option maxRecDepth 100000 in
set_option maxHeartbeats 8000000 in
theorem send_full (g b : Nat) (ob : Option Nat) (v : Value) (L : List MsE) (M : Int × Int → Option Value) (m : MsE) (w : World) (h : AirAt w g b ob v L M) (hn : L.length = 1024) (hw : wayB m.f m.t = true) :
    Calls Try.prog 13 #[.pointer (some ⟨g, 0, none⟩), .agg #[.int .i8 m.kd, .int .i64 m.f, .int .i64 m.t, .int .i64 m.te, .int .i64 m.ix, .int .i64 m.la, .int .i64 m.co, .bool m.ok, .slice none 0 0, .int .i64 m.si, .int .i64 m.st, .int .u8 m.sc, .slice none 0 0, .slice none 0 0]] w fun e w' => e = .returned (.int .i64 100) ∧ Below w.heap.size w w' := by
  obtain ⟨N, hN⟩ : ∃ N, N = w.heap.size := ⟨_, rfl⟩
  obtain ⟨W1, hW1⟩ : ∃ W1, W1 = w.alloc (.cells #[.int .i8 m.kd, .int .i64 m.f, .int .i64 m.t, .int .i64 m.te, .int .i64 m.ix, .int .i64 m.la, .int .i64 m.co, .bool m.ok, .slice none 0 0, .int .i64 m.si, .int .i64 m.st, .int .u8 m.sc, .slice none 0 0, .slice none 0 0] 39) := ⟨_, rfl⟩
  have hB1 : Below w.heap.size w W1 := by rw [hW1]; exact (Below.refl _ _).alloc (Nat.le_refl _) _
  have hk1 : Blk W1 N #[.int .i8 m.kd, .int .i64 m.f, .int .i64 m.t, .int .i64 m.te, .int .i64 m.ix, .int .i64 m.la, .int .i64 m.co, .bool m.ok, .slice none 0 0, .int .i64 m.si, .int .i64 m.st, .int .u8 m.sc, .slice none 0 0, .slice none 0 0] 39 := by rw [hW1, hN]; exact blk_new _ _ _
  have HK1 := Lib.hid hk1
  have m0 : W1.cell? ⟨N, 0, none⟩ = some (.int .i8 m.kd) := cell_at HK1.out 0
  have m1 : W1.cell? ⟨N, 1, none⟩ = some (.int .i64 m.f) := cell_at HK1.out 1
  have m2 : W1.cell? ⟨N, 2, none⟩ = some (.int .i64 m.t) := cell_at HK1.out 2
  have m3 : W1.cell? ⟨N, 3, none⟩ = some (.int .i64 m.te) := cell_at HK1.out 3
  have m4 : W1.cell? ⟨N, 4, none⟩ = some (.int .i64 m.ix) := cell_at HK1.out 4
  have m5 : W1.cell? ⟨N, 5, none⟩ = some (.int .i64 m.la) := cell_at HK1.out 5
  have m6 : W1.cell? ⟨N, 6, none⟩ = some (.int .i64 m.co) := cell_at HK1.out 6
  have m7 : W1.cell? ⟨N, 7, none⟩ = some (.bool m.ok) := cell_at HK1.out 7
  have m8 : W1.cell? ⟨N, 8, none⟩ = some (.slice none 0 0) := cell_at HK1.out 8
  have m9 : W1.cell? ⟨N, 9, none⟩ = some (.int .i64 m.si) := cell_at HK1.out 9
  have m10 : W1.cell? ⟨N, 10, none⟩ = some (.int .i64 m.st) := cell_at HK1.out 10
  have m11 : W1.cell? ⟨N, 11, none⟩ = some (.int .u8 m.sc) := cell_at HK1.out 11
  have m12 : W1.cell? ⟨N, 12, none⟩ = some (.slice none 0 0) := cell_at HK1.out 12
  have m13 : W1.cell? ⟨N, 13, none⟩ = some (.slice none 0 0) := cell_at HK1.out 13
  have hl1 := hk1.lt
  have IW := Lib.hid (isWay_any m.f m.t W1)
  rw [hw] at IW
  have PT := Lib.hid (put_full g b ob v L M m W1 (h.below hB1) hn)
  have HB1 := Lib.hid hB1
  clear h hB1 hk1 hw
  go_enter Try.func13, Try.ntmps13
  go_upto_region 1 with fail
  rw [← hN, ← hW1]
  clear hN hW1
  go_wp2_with fail
  go_at_call 31
  refine Calls.mono IW.out ?_
  rintro e w' ⟨rfl, rfl⟩
  go_wp2_with fail
  go_at_call 32
  refine Calls.mono PT.out ?_
  rintro e W2 ⟨rfl, h2⟩
  have HB2 := Lib.hid (HB1.out.trans (h2.mono HB1.out.size))
  clear h2
  go_wp2_with fail
  go_ret
  exact ⟨rfl, HB2.out⟩
set_option maxRecDepth 100000 in
set_option maxHeartbeats 8000000 in
theorem lose_ok (g b : Nat) (ob : Option Nat) (v : Value) (L : List MsE) (M : Int × Int → Option Value) (k : Nat) (m : MsE) (w : World) (h : AirAt w g b ob v L M) (hk : L[k]? = some m) :
    Calls Try.prog 15 #[.pointer (some ⟨g, 0, none⟩), .int .i64 (k : Int)] w fun e w' => e = .returned (.int .i64 0) ∧ ∃ v', AirAt w' g b ob v' (L.eraseIdx k) M ∧ Fr (g :: ob.toList) w w' := by
  have hkl : k < L.length := by have := (List.getElem?_eq_some_iff.1 hk).1; exact this
  have LK := Lib.hid (lacks_ok g b ob v L M k w h hkl)
  have TK := Lib.hid (take_ok g b ob v L M k m w h hk)
  clear h hk hkl
  go_enter Try.func15, Try.ntmps15
  go_wp2_with fail
  go_at_call 33
  refine Calls.mono LK.out ?_
  rintro e w' ⟨rfl, rfl⟩
  go_wp2_with fail
  go_at_call 34
  refine Calls.mono TK.out ?_
  rintro e W2 ⟨rfl, hA2⟩
  have HA2 := Lib.hid hA2
  clear hA2
  go_wp2_with fail
  go_ret
  exact ⟨rfl, HA2.out⟩
end Go.Proofs.Ytokhdpokcfkfpaa
