/-
  The law FollowAsks, walked.
-/
import Derived.Test.YtninhjeiialbjaaAs7
import Derived.Test.YtninhjeiialbjaaFx5
namespace Go.Proofs.Ytninhjeiialbjaa
open Go.RowKit
set_option linter.unusedSimpArgs false
set_option linter.unusedVariables false

theorem ent_dl {k s st : Int} {dl : Nat} (h : entB k s st dl = true) : dl ≤ 16384 := by
  rcases ent_cases k s st dl with ⟨_, h1⟩ | ⟨_, _, h1⟩ | ⟨_, _, h1⟩ | ⟨_, ⟨_, ⟨_, h1⟩ | ⟨_, h2, _⟩ | ⟨_, _, h1⟩⟩ | ⟨_, ⟨_, h1⟩ | ⟨_, h2, _⟩ | ⟨_, _, h1⟩⟩ | ⟨_, ⟨_, h1⟩ | ⟨_, h2, _⟩ | ⟨_, _, h1⟩⟩⟩
  all_goals first | omega | (rw [h] at h1; cases h1)
theorem chk_dl (E : Nat → Ent) : ∀ (n k : Nat) (t : Int), chk E n k t = true → ∀ i, i < n → (E (k + i)).dl ≤ 16384
  | 0, _, _, _, i, hi => by omega
  | n + 1, k, t, h, i, hi => by
    unfold chk at h
    simp only [Bool.and_eq_true] at h
    rcases Nat.eq_zero_or_pos i with rfl | hp
    · exact ent_dl h.1.2
    · have := chk_dl E n (k + 1) _ h.2 (i - 1) (by omega)
      rwa [show k + 1 + (i - 1) = k + i by omega] at this
theorem rowsB_dl {base term : Int} {len : Nat} {E : Nat → Ent} (h : rowsB base term len E = true) : ∀ k, k < len → (E k).dl ≤ 16384 := fun k hk => by
  unfold rowsB at h
  rw [Bool.and_eq_true] at h
  have := chk_dl E len 0 _ h.2 k hk
  rwa [Nat.zero_add] at this

set_option maxRecDepth 100000 in
set_option maxHeartbeats 1000000 in
theorem ents_data (W : World) {a : Option Addr} {len cap : Nat} {xs : List Dt} (h : SliceFits Try.prog W 95 a len cap xs) : ∃ (b o : Nat) (F : Nat → DE), EntsIn W a len cap b o (fun k => (F k).ent) ∧ DIn W a len cap b o F := by
  have hc : Try.prog.cellsOf 95 = 5 := by kernel_rfl
  obtain ⟨b, o, h1, h2⟩ := h.spot (by rw [hc]; omega)
  have hex : ∀ k, ∃ q : DE, k < len → ((W.cell? ⟨b, o + k * 5, none⟩ = some (.int .i64 q.t) ∧ W.cell? ⟨b, o + k * 5 + 1, none⟩ = some (.int .i8 q.k) ∧ W.cell? ⟨b, o + k * 5 + 2, none⟩ = some (.int .i64 q.s) ∧ W.cell? ⟨b, o + k * 5 + 3, none⟩ = some (.int .u8 q.st) ∧
      W.cell? ⟨b, o + k * 5 + 4, none⟩ = some (.slice q.da q.dl q.dc)) ∧ -9223372036854775808 ≤ q.t ∧ q.t ≤ 9223372036854775807 ∧ -128 ≤ q.k ∧ q.k ≤ 127 ∧ -9223372036854775808 ≤ q.s ∧ q.s ≤ 9223372036854775807 ∧ 0 ≤ q.st ∧ q.st ≤ 255 ∧ q.dl ≤ q.dc ∧ q.dc ≤ maxLen) ∧ q.by_ W := fun k => by
    by_cases hk : k < len
    · have hl := h.length
      have hx := List.getElem?_eq_getElem (l := xs) (i := k) (by omega)
      obtain ⟨l, hl1, hl2, hl3⟩ := (h.each k _ hx).1.agg_inv Try.underlying95
      obtain ⟨y0, e0, f0⟩ := hl3 0 _ rfl
      obtain ⟨y1, e1, f1⟩ := hl3 1 _ rfl
      obtain ⟨y2, e2, f2⟩ := hl3 2 _ rfl
      obtain ⟨y3, e3, f3⟩ := hl3 3 _ rfl
      obtain ⟨y4, e4, f4⟩ := hl3 4 _ rfl
      obtain ⟨n0, rfl, g0⟩ := f0.int_inv Try.underlying3
      obtain ⟨n1, rfl, g1⟩ := f1.int_inv Try.underlying93
      obtain ⟨n2, rfl, g2⟩ := f2.int_inv Try.underlying3
      obtain ⟨n3, rfl, g3⟩ := f3.int_inv Try.underlying5
      obtain ⟨da, dl, dc, ys, rfl, g4⟩ := f4.slice_inv Try.underlying55
      obtain ⟨db, od, X, hX⟩ := by_cells W g4
      match l, hl2 with
      | [z0, z1, z2, z3, z4], _ =>
        obtain rfl : z0 = _ := by simpa using e0
        obtain rfl : z1 = _ := by simpa using e1
        obtain rfl : z2 = _ := by simpa using e2
        obtain rfl : z3 = _ := by simpa using e3
        obtain rfl : z4 = _ := by simpa using e4
        have hcell := h2 k _ hx
        rw [hl1, hc] at hcell
        refine ⟨⟨n0, n1, n2, n3, da, dl, dc, db, od, X⟩, fun _ => ⟨⟨⟨hcell 0 _ rfl, by have := hcell 1 _ rfl; rwa [← Nat.add_assoc] at this, by have := hcell 2 _ rfl; rwa [← Nat.add_assoc] at this, by have := hcell 3 _ rfl; rwa [← Nat.add_assoc] at this, by have := hcell 4 _ rfl; rwa [← Nat.add_assoc] at this⟩, g0.1, g0.2, g1.1, g1.2, g2.1, g2.2, g3.1, g3.2, g4.le, g4.max⟩, hX⟩⟩
    · exact ⟨⟨0, 0, 0, 0, none, 0, 0, 0, 0, fun _ => 0⟩, fun h => absurd h hk⟩
  have hg := fun k => Classical.choose_spec (hex k)
  have hfew : len * 56 ≤ 140737488351232 := by
    have := h.short
    have e : Try.prog.bytesOf 95 = 56 := by kernel_rfl
    rw [e] at this
    omega
  have hle := h.le
  have hmax := h.max
  obtain ⟨F, hF⟩ : ∃ F : Nat → DE, F = fun k => Classical.choose (hex k) := ⟨_, rfl⟩
  have hg2 := hg
  have hq : ∀ k, k < len → ((W.cell? ⟨b, o + k * 5, none⟩ = some (.int .i64 (F k).t) ∧ W.cell? ⟨b, o + k * 5 + 1, none⟩ = some (.int .i8 (F k).k) ∧ W.cell? ⟨b, o + k * 5 + 2, none⟩ = some (.int .i64 (F k).s) ∧ W.cell? ⟨b, o + k * 5 + 3, none⟩ = some (.int .u8 (F k).st) ∧
      W.cell? ⟨b, o + k * 5 + 4, none⟩ = some (.slice (F k).da (F k).dl (F k).dc)) ∧ -9223372036854775808 ≤ (F k).t ∧ (F k).t ≤ 9223372036854775807 ∧ -128 ≤ (F k).k ∧ (F k).k ≤ 127 ∧ -9223372036854775808 ≤ (F k).s ∧ (F k).s ≤ 9223372036854775807 ∧ 0 ≤ (F k).st ∧ (F k).st ≤ 255 ∧ (F k).dl ≤ (F k).dc ∧ (F k).dc ≤ maxLen) ∧ (F k).by_ W := by rw [hF]; exact hg
  clear hg hg2 hF hex h h2
  refine ⟨b, o, F, EntsIn.mk hle hmax hfew h1 (fun k hk => (hq k hk).1.1) (fun k hk => (hq k hk).1.2), DIn.mk hle hmax h1 (fun k hk i hi => ?_) (fun k hk => (hq k hk).2)⟩
  obtain ⟨c0, c1, c2, c3, c4⟩ := (hq k hk).1.1
  match i, hi with
  | 0, _ => exact c0
  | 1, _ => exact c1
  | 2, _ => exact c2
  | 3, _ => exact c3
  | 4, _ => exact c4

set_option maxRecDepth 100000 in
set_option maxHeartbeats 8000000 in
theorem asks_any (base term most nd pm nx : Int) (a : Option Addr) (len cap g o : Nat) (F : Nat → DE) (w : World) (hs : EntsIn w a len cap g o (fun k => (F k).ent)) (hd : DIn w a len cap g o F) :
    Calls Try.prog 5 #[.agg #[.int .i64 base, .int .i64 term, .slice a len cap], .agg #[.int .i64 nd, .int .i64 pm, .int .i64 nx], .int .i64 most] w fun e w' => e = .returned (.bool true) ∧ Below w.heap.size w w' := by
  obtain ⟨N, hN⟩ : ∃ N, N = w.heap.size := ⟨_, rfl⟩
  obtain ⟨W1, hW1⟩ : ∃ W1, W1 = (w.alloc (.cells #[.int .i64 base, .int .i64 term, .slice a len cap] 24)).alloc (.cells #[.int .i64 nd, .int .i64 pm, .int .i64 nx] 26) := ⟨_, rfl⟩
  have CUR : Hid (A2 w N #[.int .i64 base, .int .i64 term, .slice a len cap] #[.int .i64 nd, .int .i64 pm, .int .i64 nx] W1) := Lib.hid (by rw [hW1]; exact A2.mk0 w _ _ N hN)
  have HG := Lib.hid (fun W (h : Below w.heap.size w W) => great_any base term a len cap g o _ W (hs.below h))
  obtain ⟨pv, pt, n, j, sn, er, hn, hA, hR⟩ := ask_both base term most nd pm nx a len cap g o F w hs hd (fun hk k h => by
    have h1 := rowsB_dl hk k h
    have h2 : (F k).dl ≤ 16384 := h1
    omega)
  have HA := Lib.hid hA
  have HR := Lib.hid hR
  unfold AskP at HA HR
  have HN := Lib.hid hn
  have eb : ∀ W, (binOp .eql 4 (.bool sn) (.bool sn)).run Try.prog W = .ok (.bool true) W := fun W => by cases sn <;> rfl
  clear hs hd hA hR hn
  have y0 : W1.cell? ⟨N, 0, none⟩ = some (.int .i64 base) := cell_at CUR.out.1 0
  have y1 : W1.cell? ⟨N, 1, none⟩ = some (.int .i64 term) := cell_at CUR.out.1 1
  have y2 : W1.cell? ⟨N, 2, none⟩ = some (.slice a len cap) := cell_at CUR.out.1 2
  go_enter Try.func5, Try.ntmps5
  go_upto_region 1 with fail
  rw [← hN, ← hW1]
  clear hN hW1
  go_wp2_with fail
  go_at_call 15
  refine (HG.out _ CUR.out.2.2).mono ?_
  rintro e W2 ⟨q, rfl, hB2⟩
  have C2 := Lib.hid (CUR.out.step hB2)
  clear hB2 y0 y1 y2
  cases q
  · have y0 : W2.cell? ⟨N, 0, none⟩ = some (.int .i64 base) := cell_at C2.out.1 0
    have y1 : W2.cell? ⟨N, 1, none⟩ = some (.int .i64 term) := cell_at C2.out.1 1
    have y2 : W2.cell? ⟨N, 2, none⟩ = some (.slice a len cap) := cell_at C2.out.1 2
    have z0 : W2.cell? ⟨N + 1, 0, none⟩ = some (.int .i64 nd) := cell_at C2.out.2.1 0
    have z1 : W2.cell? ⟨N + 1, 1, none⟩ = some (.int .i64 pm) := cell_at C2.out.2.1 1
    have z2 : W2.cell? ⟨N + 1, 2, none⟩ = some (.int .i64 nx) := cell_at C2.out.2.1 2
    go_wp2_with fail
    go_at_call 28
    refine (HA.out _ C2.out.2.2).mono ?_
    rintro e W3 ⟨a3, c3, g3, G3, rfl, hi3, hs3, hB3⟩
    have C3 := Lib.hid (C2.out.step hB3)
    have HI3 := Lib.hid hi3
    have HS3 := Lib.hid hs3
    clear hB3 hi3 hs3 y0 y1 y2 z0 z1 z2
    have y0 : W3.cell? ⟨N, 0, none⟩ = some (.int .i64 base) := cell_at C3.out.1 0
    have y1 : W3.cell? ⟨N, 1, none⟩ = some (.int .i64 term) := cell_at C3.out.1 1
    have y2 : W3.cell? ⟨N, 2, none⟩ = some (.slice a len cap) := cell_at C3.out.1 2
    have z0 : W3.cell? ⟨N + 1, 0, none⟩ = some (.int .i64 nd) := cell_at C3.out.2.1 0
    have z1 : W3.cell? ⟨N + 1, 1, none⟩ = some (.int .i64 pm) := cell_at C3.out.2.1 1
    have z2 : W3.cell? ⟨N + 1, 2, none⟩ = some (.int .i64 nx) := cell_at C3.out.2.1 2
    go_wp2_with fail
    go_at_call 29
    refine (HR.out _ C3.out.2.2).mono ?_
    rintro e W4 ⟨a4, c4, g4, G4, rfl, hi4, hs4, hB4⟩
    have C4 := Lib.hid (C3.out.step hB4)
    have HSE := Lib.hid (sameEntries_any a3 n c3 g3 0 G3 a4 c4 g4 0 G4 W4 (HI3.out.below hB4) hi4 (fun k hk => (HS3.out k hk).symm.trans (hs4 k hk)) (by have := HN.out; omega))
    clear hB4 hi4 hs4 y0 y1 y2 z0 z1 z2
    go_wp2_with fail
    go_at_call 30
    refine HSE.out.mono ?_
    rintro e W5 ⟨rfl, hB5⟩
    have HB5 := Lib.hid (C4.out.2.2.trans (hB5.mono C4.out.2.2.size))
    clear hB5
    go_wp2_with fail
    go_at_call 16
    refine (wwakes_any _).mono ?_
    rintro e WK ⟨rfl, hWK⟩
    have HK := Lib.hid (HB5.out.trans (hWK.mono HB5.out.size))
    clear hWK
    go_wp2_with fail
    go_ret
    exact ⟨rfl, HK.out⟩
  · go_wp2_with fail
    go_at_call 16
    refine (wwakes_any _).mono ?_
    rintro e WK ⟨rfl, hWK⟩
    have HK := Lib.hid (C2.out.2.2.trans (hWK.mono C2.out.2.2.size))
    clear hWK
    go_wp2_with fail
    go_ret
    exact ⟨rfl, HK.out⟩

theorem followAsks_dt (x : Dt) (y : Dt) (most : Int) (w : World) (hx : Fits Try.prog w 24 x) (hy : Fits Try.prog w 26 y) :
    Calls Try.prog 5 #[.agg x.cells.toArray, .agg y.cells.toArray, .int .i64 most] w fun e w' => e = .returned (.bool true) ∧ Below w.heap.size w w' := by
  obtain ⟨base, term, a, m, cc, es, e1, _, _, hS⟩ := rowsD_inv hx
  obtain ⟨b, o, F, hE, hD⟩ := ents_data w hS
  obtain ⟨v0, v1, v2, e2, g0, g1, g2⟩ := pg_inv hy
  rw [e1, e2]
  exact asks_any base term most v0 v1 v2 a m cc b o F w hE hD
end Go.Proofs.Ytninhjeiialbjaa
