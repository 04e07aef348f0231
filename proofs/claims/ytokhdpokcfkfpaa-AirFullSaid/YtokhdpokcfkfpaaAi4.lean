/-
  Messages sent, doubled; ways cut and mended.
-/
import Derived.Test.YtokhdpokcfkfpaaAi3
namespace Go.Proofs.Ytokhdpokcfkfpaa
open Go.RowKit
set_option linter.unusedSimpArgs false
set_option linter.unusedVariables false

set_option maxRecDepth 100000 in
set_option maxHeartbeats 8000000 in
theorem send_ok (g b : Nat) (ob : Option Nat) (v : Value) (L : List MsE) (M : Int × Int → Option Value) (m : MsE) (w : World) (h : AirAt w g b ob v L M) (hn : L.length < 1024) (hw : wayB m.f m.t = true) :
    Calls Try.prog 13 #[.pointer (some ⟨g, 0, none⟩), .agg #[.int .i8 m.kd, .int .i64 m.f, .int .i64 m.t, .int .i64 m.te, .int .i64 m.ix, .int .i64 m.la, .int .i64 m.co, .bool m.ok, .slice none 0 0, .int .i64 m.si, .int .i64 m.st, .int .u8 m.sc, .slice none 0 0, .slice none 0 0]] w fun e w' => e = .returned (.int .i64 0) ∧ ∃ ob' v', AirAt w' g b (some ob') v' (L ++ [m]) M ∧ Fr (g :: ob.toList) w w' ∧ (ob = some ob' ∨ w.heap.size ≤ ob') := by
  obtain ⟨N, hN⟩ : ∃ N, N = w.heap.size := ⟨_, rfl⟩
  obtain ⟨W1, hW1⟩ : ∃ W1, W1 = w.alloc (.cells #[.int .i8 m.kd, .int .i64 m.f, .int .i64 m.t, .int .i64 m.te, .int .i64 m.ix, .int .i64 m.la, .int .i64 m.co, .bool m.ok, .slice none 0 0, .int .i64 m.si, .int .i64 m.st, .int .u8 m.sc, .slice none 0 0, .slice none 0 0] 39) := ⟨_, rfl⟩
  have hB1 : Below w.heap.size w W1 := by rw [hW1]; exact (Below.refl _ _).alloc (Nat.le_refl _) _
  have hk1 : Blk W1 N #[.int .i8 m.kd, .int .i64 m.f, .int .i64 m.t, .int .i64 m.te, .int .i64 m.ix, .int .i64 m.la, .int .i64 m.co, .bool m.ok, .slice none 0 0, .int .i64 m.si, .int .i64 m.st, .int .u8 m.sc, .slice none 0 0, .slice none 0 0] 39 := by rw [hW1, hN]; exact blk_new _ _ _
  have HK1 := Lib.hid hk1
  have m0 : W1.cell? ⟨N, 0, none⟩ = some (.int .i8 m.kd) := cell_at HK1.out 0
  have m1 : W1.cell? ⟨N, 1, none⟩ = some (.int .i64 m.f) := cell_at HK1.out 1
  have m2 : W1.cell? ⟨N, 2, none⟩ = some (.int .i64 m.t) := cell_at HK1.out 2
  have m3 : W1.cell? ⟨N, 3, none⟩ = some (.int .i64 m.te) := cell_at HK1.out 3
  have m4 : W1.cell? ⟨N, 4, none⟩ = some (.int .i64 m.ix) := cell_at HK1.out 4
  have m5 : W1.cell? ⟨N, 5, none⟩ = some (.int .i64 m.la) := cell_at HK1.out 5
  have m6 : W1.cell? ⟨N, 6, none⟩ = some (.int .i64 m.co) := cell_at HK1.out 6
  have m7 : W1.cell? ⟨N, 7, none⟩ = some (.bool m.ok) := cell_at HK1.out 7
  have m8 : W1.cell? ⟨N, 8, none⟩ = some (.slice none 0 0) := cell_at HK1.out 8
  have m9 : W1.cell? ⟨N, 9, none⟩ = some (.int .i64 m.si) := cell_at HK1.out 9
  have m10 : W1.cell? ⟨N, 10, none⟩ = some (.int .i64 m.st) := cell_at HK1.out 10
  have m11 : W1.cell? ⟨N, 11, none⟩ = some (.int .u8 m.sc) := cell_at HK1.out 11
  have m12 : W1.cell? ⟨N, 12, none⟩ = some (.slice none 0 0) := cell_at HK1.out 12
  have m13 : W1.cell? ⟨N, 13, none⟩ = some (.slice none 0 0) := cell_at HK1.out 13
  have hl1 := hk1.lt
  have IW := Lib.hid (isWay_any m.f m.t W1)
  rw [hw] at IW
  have PT := Lib.hid (put_ok g b ob v L M m W1 (h.below hB1) hn)
  have HB1 := Lib.hid hB1
  clear h hB1 hk1 hw
  go_enter Try.func13, Try.ntmps13
  go_upto_region 1 with fail
  rw [← hN, ← hW1]
  clear hN hW1
  go_wp2_with fail
  go_at_call 31
  refine Calls.mono IW.out ?_
  rintro e w' ⟨rfl, rfl⟩
  go_wp2_with fail
  go_at_call 32
  refine Calls.mono PT.out ?_
  rintro e W2 ⟨rfl, ob', v', h2, hf2, ho2⟩
  have H2 := Lib.hid h2
  have HF2 := Lib.hid hf2
  have HO2 := Lib.hid ho2
  clear h2 hf2 ho2
  go_wp2_with fail
  go_ret
  refine ⟨rfl, ob', v', H2.out, ((Fr.of_below HB1.out).mono (l' := g :: ob.toList) (by simp)).trans HF2.out (fun x hx => .inl hx), ?_⟩
  rcases HO2.out with e | e
  · exact .inl e
  · exact .inr (Nat.le_trans HB1.out.size e)

set_option maxRecDepth 100000 in
set_option maxHeartbeats 8000000 in
theorem double_ok (g b : Nat) (ob : Option Nat) (v : Value) (L : List MsE) (M : Int × Int → Option Value) (k : Nat) (m : MsE) (w : World) (h : AirAt w g b ob v L M) (hn : L.length < 1024) (hk : L[k]? = some m) :
    Calls Try.prog 14 #[.pointer (some ⟨g, 0, none⟩), .int .i64 (k : Int)] w fun e w' => e = .returned (.int .i64 0) ∧ ∃ ob' v', AirAt w' g b (some ob') v' (L ++ [m]) M ∧ Fr (g :: ob.toList) w w' ∧ (ob = some ob' ∨ w.heap.size ≤ ob') := by
  have hkl : k < L.length := by have := (List.getElem?_eq_some_iff.1 hk).1; exact this
  have LK := Lib.hid (lacks_ok g b ob v L M k w h hkl)
  have PT := Lib.hid (put_ok g b ob v L M m w h hn)
  obtain ⟨a, c, rfl, n1, n2, ha⟩ := h.n_le
  unfold maxLen at n2
  obtain ⟨r, er, hq1, hq2⟩ := h.row.cell (k * 14) (by omega)
  clear hq1 hq2
  have ec : ∀ j, j < 14 → w.cell? ⟨r, k * 14 + j, none⟩ = m.cells[j]? := fun j hj => by
    obtain ⟨r', er', q, _⟩ := h.row.cell (k * 14 + j) (by omega)
    rw [er] at er'
    obtain rfl := Option.some.inj er'
    rw [q]
    exact msL_at L k j m hk hj
  subst er
  obtain rfl : a = some ⟨r, 0, none⟩ := ha
  have c0 : w.cell? ⟨g, 0, none⟩ = some (.slice (some ⟨r, 0, none⟩) L.length c) := cell_at h.blk 0
  have x0 : w.cell? ⟨r, k * 14, none⟩ = some (.int .i8 m.kd) := ec 0 (by omega)
  have x1 : w.cell? ⟨r, k * 14 + 1, none⟩ = some (.int .i64 m.f) := ec 1 (by omega)
  have x2 : w.cell? ⟨r, k * 14 + 2, none⟩ = some (.int .i64 m.t) := ec 2 (by omega)
  have x3 : w.cell? ⟨r, k * 14 + 3, none⟩ = some (.int .i64 m.te) := ec 3 (by omega)
  have x4 : w.cell? ⟨r, k * 14 + 4, none⟩ = some (.int .i64 m.ix) := ec 4 (by omega)
  have x5 : w.cell? ⟨r, k * 14 + 5, none⟩ = some (.int .i64 m.la) := ec 5 (by omega)
  have x6 : w.cell? ⟨r, k * 14 + 6, none⟩ = some (.int .i64 m.co) := ec 6 (by omega)
  have x7 : w.cell? ⟨r, k * 14 + 7, none⟩ = some (.bool m.ok) := ec 7 (by omega)
  have x8 : w.cell? ⟨r, k * 14 + 8, none⟩ = some (.slice none 0 0) := ec 8 (by omega)
  have x9 : w.cell? ⟨r, k * 14 + 9, none⟩ = some (.int .i64 m.si) := ec 9 (by omega)
  have x10 : w.cell? ⟨r, k * 14 + 10, none⟩ = some (.int .i64 m.st) := ec 10 (by omega)
  have x11 : w.cell? ⟨r, k * 14 + 11, none⟩ = some (.int .u8 m.sc) := ec 11 (by omega)
  have x12 : w.cell? ⟨r, k * 14 + 12, none⟩ = some (.slice none 0 0) := ec 12 (by omega)
  have x13 : w.cell? ⟨r, k * 14 + 13, none⟩ = some (.slice none 0 0) := ec 13 (by omega)
  obtain ⟨n, hnn⟩ : ∃ n, n = L.length := ⟨_, rfl⟩
  rw [← hnn] at c0 n1 hkl
  clear h hnn ec
  go_enter Try.func14, Try.ntmps14
  go_wp2_with fail
  go_at_call 33
  refine Calls.mono LK.out ?_
  rintro e w' ⟨rfl, rfl⟩
  go_wp2_with fail
  go_at_call 32
  refine Calls.mono PT.out ?_
  rintro e W2 ⟨rfl, h2⟩
  have H2 := Lib.hid h2
  clear h2
  go_wp2_with fail
  go_ret
  exact ⟨rfl, H2.out⟩

set_option maxRecDepth 100000 in
set_option maxHeartbeats 2000000 in
theorem bars_any (g : Nat) (f t : Int) (w : World) : Calls Try.prog 36 #[.pointer (some ⟨g, 0, none⟩), .int .i64 f, .int .i64 t] w fun e w' => e = .returned (.int .i64 (if wayB f t then 0 else 2)) ∧ w = w' := by
  have IW := Lib.hid (isWay_any f t w)
  cases hw : wayB f t
  all_goals
    rw [hw] at IW
    clear hw
    go_enter Try.func36, Try.ntmps36
    go_wp2_with (go_at_call 31; refine Calls.mono IW.out ?_; rintro e w' ⟨rfl, rfl⟩)
    go_ret
    exact ⟨rfl, rfl⟩
theorem map_neq_nil (b : Nat) (w : World) : (binOp .eql 59 (.map (some b)) (.map none)).run Try.prog w = .ok (.bool false) w := by kernel_rfl

set_option maxRecDepth 100000 in
set_option maxHeartbeats 4000000 in
theorem cut_any (g b : Nat) (ob : Option Nat) (v : Value) (L : List MsE) (M : Int × Int → Option Value) (f t : Int) (w : World) (h : AirAt w g b ob v L M) :
    Calls Try.prog 19 #[.pointer (some ⟨g, 0, none⟩), .int .i64 f, .int .i64 t] w fun e w' => e = .returned (.int .i64 (if wayB f t then 0 else 2)) ∧ AirAt w' g b ob v L (if wayB f t then fun y => if y = (f, t) then some (.agg #[]) else M y else M) ∧ Fr [b] w w' := by
  have BR := Lib.hid (bars_any g f t w)
  have c1 : w.cell? ⟨g, 1, none⟩ = some (.map (some b)) := cell_at h.blk 1
  have hmn := map_neq_nil b
  obtain ⟨W2, hrun, hm2, hf2, hs2⟩ := h.map.put keyW Try.underlying59 (f, t) (.agg #[])
  change (Instr.mapUpdate 59 (.map (some b)) (.agg #[.int .i64 f, .int .i64 t]) (.agg #[])).run Try.prog w = .ok () W2 at hrun
  have h2 : AirAt W2 g b ob v L (fun y => if y = (f, t) then some (.agg #[]) else M y) :=
    ⟨(hf2.block g h.blk.lt (by simp; exact h.ne)).trans h.blk, h.row.congr fun x hx => hf2.block x (by have hr := h.row; subst hx; exact hr.lt) (by simp; exact fun e => h.nb (by rw [hx, e])), hm2, h.ne, h.no, h.nb⟩
  have H := Lib.hid h
  have H2 := Lib.hid h2
  have HF2 := Lib.hid hf2
  clear h h2 hm2 hf2 hs2
  cases hw : wayB f t
  · rw [hw] at BR
    clear hw
    go_enter Try.func19, Try.ntmps19
    go_wp2_with (go_at_call 36; refine Calls.mono BR.out ?_; rintro e w' ⟨rfl, rfl⟩)
    go_ret
    exact ⟨rfl, H.out, Fr.refl _ _⟩
  · rw [hw] at BR
    clear hw
    go_enter Try.func19, Try.ntmps19
    go_wp2_with (go_at_call 36; refine Calls.mono BR.out ?_; rintro e w' ⟨rfl, rfl⟩)
    go_ret
    exact ⟨rfl, H2.out, HF2.out⟩

set_option maxRecDepth 100000 in
set_option maxHeartbeats 4000000 in
theorem mend_ok (g b : Nat) (ob : Option Nat) (v : Value) (L : List MsE) (M : Int × Int → Option Value) (f t : Int) (w : World) (h : AirAt w g b ob v L M) (hw : wayB f t = true) :
    Calls Try.prog 20 #[.pointer (some ⟨g, 0, none⟩), .int .i64 f, .int .i64 t] w fun e w' => e = .returned (.int .i64 0) ∧ AirAt w' g b ob v L (fun y => if y = (f, t) then none else M y) ∧ Fr [b] w w' := by
  have BR := Lib.hid (bars_any g f t w)
  rw [hw] at BR
  have c1 : w.cell? ⟨g, 1, none⟩ = some (.map (some b)) := cell_at h.blk 1
  obtain ⟨W2, hrun, hm2, hf2, hs2⟩ := h.map.del keyW Try.underlying59 (f, t) 71 0
  have hrun2 : ∀ ty, (Builtin.delete_ #[59, 71] ty #[.map (some b), .agg #[.int .i64 f, .int .i64 t]]).run Try.prog w = .ok (.tuple #[]) W2 := fun ty => hrun
  have h2 : AirAt W2 g b ob v L (fun y => if y = (f, t) then none else M y) :=
    ⟨(hf2.block g h.blk.lt (by simp; exact h.ne)).trans h.blk, h.row.congr fun x hx => hf2.block x (by have hr := h.row; subst hx; exact hr.lt) (by simp; exact fun e => h.nb (by rw [hx, e])), hm2, h.ne, h.no, h.nb⟩
  have H2 := Lib.hid h2
  have HF2 := Lib.hid hf2
  clear h h2 hm2 hf2 hs2 hw hrun
  go_enter Try.func20, Try.ntmps20
  go_wp2_with (go_at_call 36; refine Calls.mono BR.out ?_; rintro e w' ⟨rfl, rfl⟩)
  go_ret
  exact ⟨rfl, H2.out, HF2.out⟩
end Go.Proofs.Ytokhdpokcfkfpaa
