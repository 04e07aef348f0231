/-
  Package stamp: a stamper, and the document's beside it.
-/
import Derived.Test.YtnaoajdbopminaaCk4
import Derived.Deep.RegionHeld3
import Derived.StillTailTactics
namespace Go.Proofs.Ytnaoajdbopminaa
open Go.RowKit
set_option linter.unusedSimpArgs false
set_option linter.unusedVariables false

/-- a stamper's block: since when, drift, last stamp -/
def StAt (w : World) (g : Nat) (began rho last : Int) : Prop := w.heap[g]? = some (.cells #[.int .i64 began, .int .i64 rho, .int .i64 last] 100 (0, 0))
/-- may a stamper begin? -/
def StOk (rho now : Int) : Prop := 0 ≤ rho ∧ rho ≤ 200 ∧ 0 ≤ now ∧ now ≤ 1125899906842624
def StBad (rho now : Int) : Prop := rho < 0 ∨ 200 < rho ∨ (0 ≤ rho ∧ rho ≤ 200 ∧ now < 0) ∨ (0 ≤ rho ∧ rho ≤ 200 ∧ 1125899906842624 < now)

set_option maxHeartbeats 400000 in
theorem snew_ok (rho now : Int) (h : StOk rho now) (w : World) : Calls Try.prog 24 #[.int .i64 rho, .int .i64 now] w fun e w' => e = .returned (.tuple #[.pointer (some ⟨w.heap.size, 0, none⟩), .int .i64 0]) ∧ w' = w.alloc (.cells #[.int .i64 now, .int .i64 rho, .int .i64 0] 100) := by
  obtain ⟨h0, h1, h2, h3⟩ := h
  go_enter Try.func24, Try.ntmps24
  go_wp2_with fail
  go_ret2
  exact ⟨rfl, rfl⟩
set_option maxHeartbeats 400000 in
theorem snew_bad (rho now : Int) (h : StBad rho now) (w : World) : Calls Try.prog 24 #[.int .i64 rho, .int .i64 now] w fun e w' => e = .returned (.tuple #[.pointer none, .int .i64 2]) ∧ w = w' := by
  rcases h with h | h | ⟨h1, h2, h⟩ | ⟨h1, h2, h⟩
  all_goals
    go_enter Try.func24, Try.ntmps24
    go_wp2_with fail
    go_ret2
    exact ⟨rfl, rfl⟩
set_option maxHeartbeats 400000 in
theorem at_nil (now : Int) (w : World) : Calls Try.prog 25 #[.pointer none, .int .i64 now] w fun e w' => e = .returned (.tuple #[.int .i64 0, .int .i64 1]) ∧ w = w' := by
  go_enter Try.func25, Try.ntmps25
  go_wp2_with fail
  go_ret2
  exact ⟨rfl, rfl⟩
set_option maxHeartbeats 400000 in
theorem last_nil (w : World) : Calls Try.prog 64 #[.pointer none] w fun e w' => e = .returned (.int .i64 0) ∧ w = w' := by
  go_enter Try.func64, Try.ntmps64
  go_wp2_with fail
  go_ret
  exact ⟨rfl, rfl⟩
set_option maxHeartbeats 400000 in
theorem slast_any (g : Nat) (began rho last : Int) (w : World) (h : StAt w g began rho last) : Calls Try.prog 64 #[.pointer (some ⟨g, 0, none⟩)] w fun e w' => e = .returned (.int .i64 last) ∧ w = w' := by
  have c2 : w.cell? ⟨g, 2, none⟩ = some (.int .i64 last) := cell_at h 2
  clear h
  go_enter Try.func64, Try.ntmps64
  go_wp2_with fail
  go_ret
  exact ⟨rfl, rfl⟩

set_option maxHeartbeats 400000 in
theorem keep_any (g : Nat) (began rho last n : Int) (w : World) (h : StAt w g began rho last) : Calls Try.prog 66 #[.pointer (some ⟨g, 0, none⟩), .int .i64 n] w fun e w' => e = .returned (.int .i64 (max last n)) ∧ Fr [g] w w' ∧ StAt w' g began rho (max last n) := by
  have c2 : w.cell? ⟨g, 2, none⟩ = some (.int .i64 last) := cell_at h 2
  have f2 : w.frozen? ⟨g, 2, none⟩ = false := free_at h 2
  have H := Lib.hid h
  clear h
  rcases (show (last < n ∧ max last n = n) ∨ (n ≤ last ∧ max last n = last) by omega) with ⟨h1, h2⟩ | ⟨h1, h2⟩
  all_goals
    rw [h2]
    clear h2
    go_enter Try.func66, Try.ntmps66
    go_wp2_with fail
    go_ret
    exact ⟨rfl, (Fr.refl [g] w).setCell ⟨g, 2, none⟩ (.inl (by simp)) _, heap_setCell_same H.out 2 _⟩

set_option maxHeartbeats 400000 in
theorem told_any (g : Nat) (began rho last n : Int) (w : World) (h : StAt w g began rho last) : Calls Try.prog 65 #[.int .i64 n, .func (.func 66) #[.pointer (some ⟨g, 0, none⟩)] #[]] w fun e w' => e = .returned (.int .i64 (max last n)) ∧ Fr [g] w w' ∧ StAt w' g began rho (max last n) := by
  have H := Lib.hid h
  clear h
  go_enter Try.func65, Try.ntmps65
  go_wp2_with (refine (keep_any g began rho last n _ H.out).mono ?_; rintro e w' ⟨rfl, hf, hk⟩)
  go_ret
  exact ⟨rfl, hf, hk⟩

/-- a reading that is refused -/
def AtBad (began now : Int) : Prop := now < began ∨ (began ≤ now ∧ 1125899906842624 < now)
/-- the stamp that is told -/
def atS (began rho last now : Int) : Int := max last (surelyS (now - began) rho)

set_option maxHeartbeats 400000 in
theorem at_bad (g : Nat) (began rho last now : Int) (w : World) (h : StAt w g began rho last) (hb : AtBad began now) : Calls Try.prog 25 #[.pointer (some ⟨g, 0, none⟩), .int .i64 now] w fun e w' => e = .returned (.tuple #[.int .i64 0, .int .i64 2]) ∧ w = w' := by
  have c0 : w.cell? ⟨g, 0, none⟩ = some (.int .i64 began) := cell_at h 0
  clear h
  rcases hb with hb | ⟨hb, hb2⟩
  all_goals
    go_enter Try.func25, Try.ntmps25
    go_wp2_with fail
    go_ret2
    exact ⟨rfl, rfl⟩

set_option maxRecDepth 100000 in
set_option maxHeartbeats 1000000 in
theorem at_good (g : Nat) (began rho last now : Int) (w : World) (h : StAt w g began rho last) (b0 : 0 ≤ began) (h0 : began ≤ now) (h1 : now ≤ 1125899906842624) : Calls Try.prog 25 #[.pointer (some ⟨g, 0, none⟩), .int .i64 now] w fun e w' => e = .returned (.tuple #[.int .i64 (atS began rho last now), .int .i64 0]) ∧ Fr [g] w w' ∧ StAt w' g began rho (atS began rho last now) := by
  have c0 : w.cell? ⟨g, 0, none⟩ = some (.int .i64 began) := cell_at h 0
  have c1 : w.cell? ⟨g, 1, none⟩ = some (.int .i64 rho) := cell_at h 1
  have hz := lt_of_block h
  have H := Lib.hid h
  have s1 : IntKind.i64.wrap (now - began) = now - began := IntWalk.i64_in _ (by omega)
  clear h
  unfold atS
  go_enter Try.func25, Try.ntmps25
  go_wp2_with fail
  go_region_held3 (fun W => W.cell? ⟨g, 0, none⟩ = some (.int .i64 began) ∧ W.cell? ⟨g, 1, none⟩ = some (.int .i64 rho)) (first | exact ⟨c0, c1⟩ | exact ⟨y0, y1⟩ | exact ⟨z0, z1⟩ | go_keep)
    (first
    | (go_at_call 61; refine (surely_any _ _ _).mono ?_; rintro e W1 ⟨rfl, hb1⟩; have k1 := (hb1.block g (by exact hz)).trans H.out; have y0 := cell_at k1 0; have y1 := cell_at k1 1)
    | (go_at_call 65; refine (told_any g began rho last _ _ k1).mono ?_; rintro e W2 ⟨rfl, hf2, k2⟩; have z0 := cell_at k2 0; have z1 := cell_at k2 1))
  all_goals
    go_wp2_with fail
    go_ret2
    exact ⟨rfl, (((Fr.refl [g] w).drew.trans ((Fr.of_below hb1).mono (l' := [g]) (by simp)) (by simp)).trans hf2 (by simp)), k2⟩

end Go.Proofs.Ytnaoajdbopminaa
