/-
  Ask, on both sides.
-/
import Derived.Test.YtninhjeiialbjaaAs6
namespace Go.Proofs.Ytninhjeiialbjaa
open Go.RowKit
set_option linter.unusedSimpArgs false
set_option linter.unusedVariables false

def A2 (w : World) (N : Nat) (c0 c1 : Array Value) (X : World) : Prop := Blk X N c0 24 ∧ Blk X (N + 1) c1 26 ∧ Below w.heap.size w X
theorem A2.step {w A B : World} {N : Nat} {c0 c1 : Array Value} (h : A2 w N c0 c1 A) (hB : Below A.heap.size A B) : A2 w N c0 c1 B :=
  ⟨h.1.step hB, h.2.1.step hB, h.2.2.trans (hB.mono h.2.2.size)⟩
theorem A2.mk0 (w : World) (c0 c1 : Array Value) (N : Nat) (hN : N = w.heap.size) : A2 w N c0 c1 ((w.alloc (.cells c0 24)).alloc (.cells c1 26)) := by
  have bx : ∀ (A : World) (k : Nat) (hk : A.heap.size = k) (cs : Array Value) (t : TypeId), Blk (A.alloc (.cells cs t)) k cs t := fun A k hk cs t => by rw [← hk]; exact blk_new _ _ _
  exact ⟨(bx _ _ hN.symm _ _).alloc _, bx _ _ (by simp [hN]) _ _, ((Below.refl _ _).alloc (Nat.le_refl _) _).alloc (by simp) _⟩

set_option maxRecDepth 100000 in
set_option maxHeartbeats 4000000 in
theorem rterm_base (base term : Int) (a : Option Addr) (len cap b o : Nat) (E : Nat → Ent) (w : World) (hs : EntsIn w a len cap b o E) (hk : rowsB base term len E = true) :
    Calls Try.prog 33 #[.agg #[.int .i64 base, .int .i64 term, .slice a len cap], .int .i64 base] w fun e w' => e = .returned (.tuple #[.int .i64 term, .bool true]) ∧ Below w.heap.size w w' := by
  have hm := hs.max
  have hl := hs.le
  unfold maxLen at hm
  have HS := Lib.hid hs
  have CUR := Lib.hid (RBox.mk0 w base term (.slice a len cap))
  obtain ⟨b0, b1, h4, t0⟩ := rB_head hk
  have CL := Lib.hid (fun W (h : Below w.heap.size w W) => rlast_ok base term a len cap b o E W (hs.below h) hk)
  have CC := Lib.hid (fun W (h : Below w.heap.size w W) => rcheck_any base term a len cap b o E W (hs.below h))
  rw [rE_ok hk] at CC
  obtain ⟨lt, hlt⟩ : ∃ lt, lt = lastT term len E := ⟨_, rfl⟩
  rw [← hlt] at CL
  obtain ⟨la, hla⟩ : ∃ la, la = base + (len : Int) := ⟨_, rfl⟩
  rw [← hla] at CL
  have d1 : decide (base < base) = false := by simp
  have d2 : decide (la < base) = false := by simp; omega
  have d3 : (base == base) = true := by simp
  clear hs hk hlt hla
  go_enter Try.func33, Try.ntmps33
  go_wp2_with fail
  go_at_call 32
  refine (CL.out _ CUR.out.2.2).mono ?_
  rintro e W2 ⟨rfl, hW2⟩
  have C3 := Lib.hid (CUR.out.step hW2)
  clear hW2
  obtain ⟨⟨f0, f1, f2⟩, f3, _⟩ := id C3.out
  go_wp2_with fail
  go_at_call 31
  refine (CC.out _ C3.out.2.2).mono ?_
  rintro e W3 ⟨rfl, hW3⟩
  have C4 := Lib.hid (C3.out.step hW3)
  clear hW3 f0 f1 f2 f3
  obtain ⟨⟨f0, f1, f2⟩, f3, _⟩ := id C4.out
  go_wp2_with fail
  go_ret2
  exact ⟨rfl, C4.out.2.2⟩

theorem rterm_all (base term : Int) (j : Nat) (a : Option Addr) (len cap b o : Nat) (E : Nat → Ent) (w : World) (hs : EntsIn w a len cap b o E) (hk : rowsB base term len E = true) (hj : j ≤ len) :
    Calls Try.prog 33 #[.agg #[.int .i64 base, .int .i64 term, .slice a len cap], .int .i64 (base + (j : Int))] w fun e w' => e = .returned (.tuple #[.int .i64 (termI base term E (base + (j : Int))), .bool true]) ∧ Below w.heap.size w w' := by
  rcases Nat.eq_zero_or_pos j with rfl | h
  · have e1 : base + ((0 : Nat) : Int) = base := by omega
    rw [e1]
    have e2 : termI base term E base = term := by unfold termI; rw [if_pos rfl]
    rw [e2]
    exact rterm_base base term a len cap b o E w hs hk
  · obtain ⟨i, rfl⟩ : ∃ i, j = i + 1 := ⟨j - 1, by omega⟩
    rw [termI_at]
    exact rterm_ok base term i a len cap b o E w hs hk (by omega)

def AskP (w : World) (pv pt : Int) (n : Nat) (F : Nat → DE) (j : Nat) (sn : Bool) (er : Int) (e : Ending) (w' : World) : Prop := ∃ a' c' g' G, e = .returned (.tuple #[.int .i64 pv, .int .i64 pt, .slice a' n c', .bool sn, .int .i64 er]) ∧ DIn w' a' n c' g' 0 G ∧ (∀ k, k < n → (F (j + k)).sim (G k)) ∧ Below w.heap.size w w'
theorem nilD (W : World) : DIn W none 0 0 0 0 (fun _ => ⟨0, 0, 0, 0, none, 0, 0, 0, 0, fun _ => 0⟩) := ⟨Nat.le_refl _, by unfold maxLen; omega, fun h => by omega, fun k h => by omega, fun k h => by omega⟩

set_option maxRecDepth 100000 in
set_option maxHeartbeats 8000000 in
theorem ask_bad (base term most nd pm nx : Int) (a : Option Addr) (len cap g o : Nat) (F : Nat → DE) (w : World) (hs : EntsIn w a len cap g o (fun k => (F k).ent)) (hk : rowsB base term len (fun k => (F k).ent) = false) :
    Calls Try.prog 28 #[.agg #[.int .i64 base, .int .i64 term, .slice a len cap], .agg #[.int .i64 nd, .int .i64 pm, .int .i64 nx], .int .i64 most] w (AskP w 0 0 0 F 0 false 90) := by
  have hm := hs.max
  have hl := hs.le
  unfold maxLen at hm
  have HS := Lib.hid hs
  obtain ⟨N, hN⟩ : ∃ N, N = w.heap.size := ⟨_, rfl⟩
  obtain ⟨W1, hW1⟩ : ∃ W1, W1 = (w.alloc (.cells #[.int .i64 base, .int .i64 term, .slice a len cap] 24)).alloc (.cells #[.int .i64 nd, .int .i64 pm, .int .i64 nx] 26) := ⟨_, rfl⟩
  have CUR : Hid (A2 w N #[.int .i64 base, .int .i64 term, .slice a len cap] #[.int .i64 nd, .int .i64 pm, .int .i64 nx] W1) := Lib.hid (by rw [hW1]; exact A2.mk0 w _ _ N hN)
  have CC := Lib.hid (fun W (h : Below w.heap.size w W) => check_any base term a len cap g o (fun k => (F k).ent) W (hs.below h))
  rw [rE_bad hk] at CC
  have CL := Lib.hid (fun W (h : Below w.heap.size w W) => rowsLast_any base term a len cap g o (fun k => (F k).ent) W (hs.below h))
  rw [hk] at CL
  simp only [Bool.false_eq_true, if_false] at CL
  clear hs hk
  have y0 : W1.cell? ⟨N, 0, none⟩ = some (.int .i64 base) := cell_at CUR.out.1 0
  have y1 : W1.cell? ⟨N, 1, none⟩ = some (.int .i64 term) := cell_at CUR.out.1 1
  have y2 : W1.cell? ⟨N, 2, none⟩ = some (.slice a len cap) := cell_at CUR.out.1 2
  have z2 : W1.cell? ⟨N + 1, 2, none⟩ = some (.int .i64 nx) := cell_at CUR.out.2.1 2
  go_enter Try.func28, Try.ntmps28
  go_upto_region 1 with fail
  rw [← hN, ← hW1]
  clear hN hW1
  go_wp2_with fail
  go_at_call 61
  refine (CL.out _ CUR.out.2.2).mono ?_
  rintro e W2 ⟨rfl, hW⟩
  have C2 := Lib.hid (CUR.out.step hW)
  clear hW y0 y1 y2 z2
  have y0 : W2.cell? ⟨N, 0, none⟩ = some (.int .i64 base) := cell_at C2.out.1 0
  have y1 : W2.cell? ⟨N, 1, none⟩ = some (.int .i64 term) := cell_at C2.out.1 1
  have y2 : W2.cell? ⟨N, 2, none⟩ = some (.slice a len cap) := cell_at C2.out.1 2
  have z2 : W2.cell? ⟨N + 1, 2, none⟩ = some (.int .i64 nx) := cell_at C2.out.2.1 2
  go_wp2_with fail
  go_at_call 60
  refine (CC.out _ C2.out.2.2).mono ?_
  rintro e W3 ⟨rfl, hW⟩
  have C3 := Lib.hid (C2.out.step hW)
  clear hW y0 y1 y2 z2
  have y0 : W3.cell? ⟨N, 0, none⟩ = some (.int .i64 base) := cell_at C3.out.1 0
  have y1 : W3.cell? ⟨N, 1, none⟩ = some (.int .i64 term) := cell_at C3.out.1 1
  have y2 : W3.cell? ⟨N, 2, none⟩ = some (.slice a len cap) := cell_at C3.out.1 2
  have z2 : W3.cell? ⟨N + 1, 2, none⟩ = some (.int .i64 nx) := cell_at C3.out.2.1 2
  go_wp2_with fail
  exact bodyPost_ret (v := .tuple #[.int .i64 0, .int .i64 0, .slice none 0 0, .bool false, .int .i64 90]) (by simp [results, Try.results28, go_sem]) rfl ⟨none, 0, 0, _, rfl, nilD _, (fun k h => by omega), C3.out.2.2⟩

set_option maxRecDepth 100000 in
set_option maxHeartbeats 8000000 in
theorem ask_low (base term most nd pm nx : Int) (a : Option Addr) (len cap g o : Nat) (F : Nat → DE) (w : World) (hs : EntsIn w a len cap g o (fun k => (F k).ent)) (hk : rowsB base term len (fun k => (F k).ent) = true) (h1 : nx < 1) :
    Calls Try.prog 28 #[.agg #[.int .i64 base, .int .i64 term, .slice a len cap], .agg #[.int .i64 nd, .int .i64 pm, .int .i64 nx], .int .i64 most] w (AskP w 0 0 0 F 0 false 2) := by
  have hm := hs.max
  have hl := hs.le
  unfold maxLen at hm
  have HS := Lib.hid hs
  obtain ⟨N, hN⟩ : ∃ N, N = w.heap.size := ⟨_, rfl⟩
  obtain ⟨W1, hW1⟩ : ∃ W1, W1 = (w.alloc (.cells #[.int .i64 base, .int .i64 term, .slice a len cap] 24)).alloc (.cells #[.int .i64 nd, .int .i64 pm, .int .i64 nx] 26) := ⟨_, rfl⟩
  have CUR : Hid (A2 w N #[.int .i64 base, .int .i64 term, .slice a len cap] #[.int .i64 nd, .int .i64 pm, .int .i64 nx] W1) := Lib.hid (by rw [hW1]; exact A2.mk0 w _ _ N hN)
  have CC := Lib.hid (fun W (h : Below w.heap.size w W) => check_any base term a len cap g o (fun k => (F k).ent) W (hs.below h))
  rw [rE_ok hk] at CC
  obtain ⟨b0, b1, h4, t0⟩ := rB_head hk
  have CL := Lib.hid (fun W (h : Below w.heap.size w W) => rowsLast_any base term a len cap g o (fun k => (F k).ent) W (hs.below h))
  rw [hk] at CL
  simp only [if_true] at CL
  obtain ⟨lt, hlt⟩ : ∃ lt, lt = lastT term len (fun k => (F k).ent) := ⟨_, rfl⟩
  rw [← hlt] at CL
  obtain ⟨la, hla⟩ : ∃ la, la = base + (len : Int) := ⟨_, rfl⟩
  rw [← hla] at CL
  have s0 : IntKind.i64.wrap (la + 1) = la + 1 := IntWalk.i64_in _ (by omega)
  have d1 : decide (nx < 1) = true := by simpa using h1
  clear hs hk hlt hla h1
  have y0 : W1.cell? ⟨N, 0, none⟩ = some (.int .i64 base) := cell_at CUR.out.1 0
  have y1 : W1.cell? ⟨N, 1, none⟩ = some (.int .i64 term) := cell_at CUR.out.1 1
  have y2 : W1.cell? ⟨N, 2, none⟩ = some (.slice a len cap) := cell_at CUR.out.1 2
  have z2 : W1.cell? ⟨N + 1, 2, none⟩ = some (.int .i64 nx) := cell_at CUR.out.2.1 2
  go_enter Try.func28, Try.ntmps28
  go_upto_region 1 with fail
  rw [← hN, ← hW1]
  clear hN hW1
  go_wp2_with fail
  go_at_call 61
  refine (CL.out _ CUR.out.2.2).mono ?_
  rintro e W4 ⟨rfl, hW⟩
  have C4 := Lib.hid (CUR.out.step hW)
  clear hW y0 y1 y2 z2
  have y0 : W4.cell? ⟨N, 0, none⟩ = some (.int .i64 base) := cell_at C4.out.1 0
  have y1 : W4.cell? ⟨N, 1, none⟩ = some (.int .i64 term) := cell_at C4.out.1 1
  have y2 : W4.cell? ⟨N, 2, none⟩ = some (.slice a len cap) := cell_at C4.out.1 2
  have z2 : W4.cell? ⟨N + 1, 2, none⟩ = some (.int .i64 nx) := cell_at C4.out.2.1 2
  go_wp2_with fail
  go_at_call 60
  refine (CC.out _ C4.out.2.2).mono ?_
  rintro e W5 ⟨rfl, hW⟩
  have C5 := Lib.hid (C4.out.step hW)
  clear hW y0 y1 y2 z2
  have y0 : W5.cell? ⟨N, 0, none⟩ = some (.int .i64 base) := cell_at C5.out.1 0
  have y1 : W5.cell? ⟨N, 1, none⟩ = some (.int .i64 term) := cell_at C5.out.1 1
  have y2 : W5.cell? ⟨N, 2, none⟩ = some (.slice a len cap) := cell_at C5.out.1 2
  have z2 : W5.cell? ⟨N + 1, 2, none⟩ = some (.int .i64 nx) := cell_at C5.out.2.1 2
  go_wp2_with fail
  exact bodyPost_ret (v := .tuple #[.int .i64 0, .int .i64 0, .slice none 0 0, .bool false, .int .i64 2]) (by simp [results, Try.results28, go_sem]) rfl ⟨none, 0, 0, _, rfl, nilD _, (fun k h => by omega), C5.out.2.2⟩

set_option maxRecDepth 100000 in
set_option maxHeartbeats 8000000 in
theorem ask_high (base term most nd pm nx : Int) (a : Option Addr) (len cap g o : Nat) (F : Nat → DE) (w : World) (hs : EntsIn w a len cap g o (fun k => (F k).ent)) (hk : rowsB base term len (fun k => (F k).ent) = true) (h1 : 1 ≤ nx ∧ base + len + 1 < nx) :
    Calls Try.prog 28 #[.agg #[.int .i64 base, .int .i64 term, .slice a len cap], .agg #[.int .i64 nd, .int .i64 pm, .int .i64 nx], .int .i64 most] w (AskP w 0 0 0 F 0 false 2) := by
  have hm := hs.max
  have hl := hs.le
  unfold maxLen at hm
  have HS := Lib.hid hs
  obtain ⟨N, hN⟩ : ∃ N, N = w.heap.size := ⟨_, rfl⟩
  obtain ⟨W1, hW1⟩ : ∃ W1, W1 = (w.alloc (.cells #[.int .i64 base, .int .i64 term, .slice a len cap] 24)).alloc (.cells #[.int .i64 nd, .int .i64 pm, .int .i64 nx] 26) := ⟨_, rfl⟩
  have CUR : Hid (A2 w N #[.int .i64 base, .int .i64 term, .slice a len cap] #[.int .i64 nd, .int .i64 pm, .int .i64 nx] W1) := Lib.hid (by rw [hW1]; exact A2.mk0 w _ _ N hN)
  have CC := Lib.hid (fun W (h : Below w.heap.size w W) => check_any base term a len cap g o (fun k => (F k).ent) W (hs.below h))
  rw [rE_ok hk] at CC
  obtain ⟨b0, b1, h4, t0⟩ := rB_head hk
  have CL := Lib.hid (fun W (h : Below w.heap.size w W) => rowsLast_any base term a len cap g o (fun k => (F k).ent) W (hs.below h))
  rw [hk] at CL
  simp only [if_true] at CL
  obtain ⟨lt, hlt⟩ : ∃ lt, lt = lastT term len (fun k => (F k).ent) := ⟨_, rfl⟩
  rw [← hlt] at CL
  obtain ⟨la, hla⟩ : ∃ la, la = base + (len : Int) := ⟨_, rfl⟩
  rw [← hla] at CL
  have s0 : IntKind.i64.wrap (la + 1) = la + 1 := IntWalk.i64_in _ (by omega)
  have d1 : decide (nx < 1) = false := by simp; omega
  have d2 : decide (la + 1 < nx) = true := by simp; omega
  clear hs hk hlt hla h1
  have y0 : W1.cell? ⟨N, 0, none⟩ = some (.int .i64 base) := cell_at CUR.out.1 0
  have y1 : W1.cell? ⟨N, 1, none⟩ = some (.int .i64 term) := cell_at CUR.out.1 1
  have y2 : W1.cell? ⟨N, 2, none⟩ = some (.slice a len cap) := cell_at CUR.out.1 2
  have z2 : W1.cell? ⟨N + 1, 2, none⟩ = some (.int .i64 nx) := cell_at CUR.out.2.1 2
  go_enter Try.func28, Try.ntmps28
  go_upto_region 1 with fail
  rw [← hN, ← hW1]
  clear hN hW1
  go_wp2_with fail
  go_at_call 61
  refine (CL.out _ CUR.out.2.2).mono ?_
  rintro e W6 ⟨rfl, hW⟩
  have C6 := Lib.hid (CUR.out.step hW)
  clear hW y0 y1 y2 z2
  have y0 : W6.cell? ⟨N, 0, none⟩ = some (.int .i64 base) := cell_at C6.out.1 0
  have y1 : W6.cell? ⟨N, 1, none⟩ = some (.int .i64 term) := cell_at C6.out.1 1
  have y2 : W6.cell? ⟨N, 2, none⟩ = some (.slice a len cap) := cell_at C6.out.1 2
  have z2 : W6.cell? ⟨N + 1, 2, none⟩ = some (.int .i64 nx) := cell_at C6.out.2.1 2
  go_wp2_with fail
  go_at_call 60
  refine (CC.out _ C6.out.2.2).mono ?_
  rintro e W7 ⟨rfl, hW⟩
  have C7 := Lib.hid (C6.out.step hW)
  clear hW y0 y1 y2 z2
  have y0 : W7.cell? ⟨N, 0, none⟩ = some (.int .i64 base) := cell_at C7.out.1 0
  have y1 : W7.cell? ⟨N, 1, none⟩ = some (.int .i64 term) := cell_at C7.out.1 1
  have y2 : W7.cell? ⟨N, 2, none⟩ = some (.slice a len cap) := cell_at C7.out.1 2
  have z2 : W7.cell? ⟨N + 1, 2, none⟩ = some (.int .i64 nx) := cell_at C7.out.2.1 2
  go_wp2_with fail
  exact bodyPost_ret (v := .tuple #[.int .i64 0, .int .i64 0, .slice none 0 0, .bool false, .int .i64 2]) (by simp [results, Try.results28, go_sem]) rfl ⟨none, 0, 0, _, rfl, nilD _, (fun k h => by omega), C7.out.2.2⟩

set_option maxRecDepth 100000 in
set_option maxHeartbeats 8000000 in
theorem ask_snap (base term most nd pm nx : Int) (a : Option Addr) (len cap g o : Nat) (F : Nat → DE) (w : World) (hs : EntsIn w a len cap g o (fun k => (F k).ent)) (hk : rowsB base term len (fun k => (F k).ent) = true) (h1 : 1 ≤ nx ∧ nx ≤ base) :
    Calls Try.prog 28 #[.agg #[.int .i64 base, .int .i64 term, .slice a len cap], .agg #[.int .i64 nd, .int .i64 pm, .int .i64 nx], .int .i64 most] w (AskP w 0 0 0 F 0 true 0) := by
  have hm := hs.max
  have hl := hs.le
  unfold maxLen at hm
  have HS := Lib.hid hs
  obtain ⟨N, hN⟩ : ∃ N, N = w.heap.size := ⟨_, rfl⟩
  obtain ⟨W1, hW1⟩ : ∃ W1, W1 = (w.alloc (.cells #[.int .i64 base, .int .i64 term, .slice a len cap] 24)).alloc (.cells #[.int .i64 nd, .int .i64 pm, .int .i64 nx] 26) := ⟨_, rfl⟩
  have CUR : Hid (A2 w N #[.int .i64 base, .int .i64 term, .slice a len cap] #[.int .i64 nd, .int .i64 pm, .int .i64 nx] W1) := Lib.hid (by rw [hW1]; exact A2.mk0 w _ _ N hN)
  have CC := Lib.hid (fun W (h : Below w.heap.size w W) => check_any base term a len cap g o (fun k => (F k).ent) W (hs.below h))
  rw [rE_ok hk] at CC
  obtain ⟨b0, b1, h4, t0⟩ := rB_head hk
  have CL := Lib.hid (fun W (h : Below w.heap.size w W) => rowsLast_any base term a len cap g o (fun k => (F k).ent) W (hs.below h))
  rw [hk] at CL
  simp only [if_true] at CL
  obtain ⟨lt, hlt⟩ : ∃ lt, lt = lastT term len (fun k => (F k).ent) := ⟨_, rfl⟩
  rw [← hlt] at CL
  obtain ⟨la, hla⟩ : ∃ la, la = base + (len : Int) := ⟨_, rfl⟩
  rw [← hla] at CL
  have s0 : IntKind.i64.wrap (la + 1) = la + 1 := IntWalk.i64_in _ (by omega)
  have d1 : decide (nx < 1) = false := by simp; omega
  have d2 : decide (la + 1 < nx) = false := by simp; omega
  have s1 : IntKind.i64.wrap (nx - 1) = nx - 1 := IntWalk.i64_in _ (by omega)
  have d3 : decide (nx - 1 < base) = true := by simp; omega
  clear hs hk hlt hla h1
  have y0 : W1.cell? ⟨N, 0, none⟩ = some (.int .i64 base) := cell_at CUR.out.1 0
  have y1 : W1.cell? ⟨N, 1, none⟩ = some (.int .i64 term) := cell_at CUR.out.1 1
  have y2 : W1.cell? ⟨N, 2, none⟩ = some (.slice a len cap) := cell_at CUR.out.1 2
  have z2 : W1.cell? ⟨N + 1, 2, none⟩ = some (.int .i64 nx) := cell_at CUR.out.2.1 2
  go_enter Try.func28, Try.ntmps28
  go_upto_region 1 with fail
  rw [← hN, ← hW1]
  clear hN hW1
  go_wp2_with fail
  go_at_call 61
  refine (CL.out _ CUR.out.2.2).mono ?_
  rintro e W8 ⟨rfl, hW⟩
  have C8 := Lib.hid (CUR.out.step hW)
  clear hW y0 y1 y2 z2
  have y0 : W8.cell? ⟨N, 0, none⟩ = some (.int .i64 base) := cell_at C8.out.1 0
  have y1 : W8.cell? ⟨N, 1, none⟩ = some (.int .i64 term) := cell_at C8.out.1 1
  have y2 : W8.cell? ⟨N, 2, none⟩ = some (.slice a len cap) := cell_at C8.out.1 2
  have z2 : W8.cell? ⟨N + 1, 2, none⟩ = some (.int .i64 nx) := cell_at C8.out.2.1 2
  go_wp2_with fail
  go_at_call 60
  refine (CC.out _ C8.out.2.2).mono ?_
  rintro e W9 ⟨rfl, hW⟩
  have C9 := Lib.hid (C8.out.step hW)
  clear hW y0 y1 y2 z2
  have y0 : W9.cell? ⟨N, 0, none⟩ = some (.int .i64 base) := cell_at C9.out.1 0
  have y1 : W9.cell? ⟨N, 1, none⟩ = some (.int .i64 term) := cell_at C9.out.1 1
  have y2 : W9.cell? ⟨N, 2, none⟩ = some (.slice a len cap) := cell_at C9.out.1 2
  have z2 : W9.cell? ⟨N + 1, 2, none⟩ = some (.int .i64 nx) := cell_at C9.out.2.1 2
  go_wp2_with fail
  exact bodyPost_ret (v := .tuple #[.int .i64 0, .int .i64 0, .slice none 0 0, .bool true, .int .i64 0]) (by simp [results, Try.results28, go_sem]) rfl ⟨none, 0, 0, _, rfl, nilD _, (fun k h => by omega), C9.out.2.2⟩

set_option maxRecDepth 100000 in
set_option maxHeartbeats 8000000 in
theorem ask_ok (base term most nd pm nx : Int) (a : Option Addr) (len cap g o : Nat) (F : Nat → DE) (w : World) (hs : EntsIn w a len cap g o (fun k => (F k).ent)) (hd : DIn w a len cap g o F) (hk : rowsB base term len (fun k => (F k).ent) = true) (hf : ∀ k, k < len → (F k).dl ≤ 1000000) (j : Nat) (hj : j ≤ len) (hx : nx = base + ((j + 1 : Nat) : Int)) :
    Calls Try.prog 28 #[.agg #[.int .i64 base, .int .i64 term, .slice a len cap], .agg #[.int .i64 nd, .int .i64 pm, .int .i64 nx], .int .i64 most] w (AskP w (base + (j : Int)) (termI base term (fun k => (F k).ent) (base + (j : Int))) (min (min most.toNat 16) (len - j)) F j false 0) := by
  have hm := hs.max
  have hl := hs.le
  unfold maxLen at hm
  have HS := Lib.hid hs
  obtain ⟨N, hN⟩ : ∃ N, N = w.heap.size := ⟨_, rfl⟩
  obtain ⟨W1, hW1⟩ : ∃ W1, W1 = (w.alloc (.cells #[.int .i64 base, .int .i64 term, .slice a len cap] 24)).alloc (.cells #[.int .i64 nd, .int .i64 pm, .int .i64 nx] 26) := ⟨_, rfl⟩
  have CUR : Hid (A2 w N #[.int .i64 base, .int .i64 term, .slice a len cap] #[.int .i64 nd, .int .i64 pm, .int .i64 nx] W1) := Lib.hid (by rw [hW1]; exact A2.mk0 w _ _ N hN)
  have CC := Lib.hid (fun W (h : Below w.heap.size w W) => check_any base term a len cap g o (fun k => (F k).ent) W (hs.below h))
  rw [rE_ok hk] at CC
  obtain ⟨b0, b1, h4, t0⟩ := rB_head hk
  have CL := Lib.hid (fun W (h : Below w.heap.size w W) => rowsLast_any base term a len cap g o (fun k => (F k).ent) W (hs.below h))
  rw [hk] at CL
  simp only [if_true] at CL
  obtain ⟨lt, hlt⟩ : ∃ lt, lt = lastT term len (fun k => (F k).ent) := ⟨_, rfl⟩
  rw [← hlt] at CL
  obtain ⟨la, hla⟩ : ∃ la, la = base + (len : Int) := ⟨_, rfl⟩
  rw [← hla] at CL
  have s0 : IntKind.i64.wrap (la + 1) = la + 1 := IntWalk.i64_in _ (by omega)
  have CT := Lib.hid (fun W (h : Below w.heap.size w W) => rowsTerm_ok base term (base + (j : Int)) a len cap g o (fun k => (F k).ent) W (hs.below h) hk (by omega))
  have CF := Lib.hid (fun W (h : Below w.heap.size w W) => from_ok base term most a len cap g o j F W (hs.below h) (hd.below h) hk hf hj)
  rw [← hx] at CF
  obtain ⟨pt, hpt⟩ : ∃ pt, pt = termI base term (fun k => (F k).ent) (base + (j : Int)) := ⟨_, rfl⟩
  rw [← hpt] at CT ⊢
  obtain ⟨n, hn⟩ : ∃ n, n = min (min most.toNat 16) (len - j) := ⟨_, rfl⟩
  rw [← hn] at CF ⊢
  have d1 : decide (nx < 1) = false := by simp; omega
  have d2 : decide (la + 1 < nx) = false := by simp; omega
  obtain ⟨pv, hpv⟩ : ∃ pv, pv = base + (j : Int) := ⟨_, rfl⟩
  rw [← hpv] at CT ⊢
  have s1 : IntKind.i64.wrap (nx - 1) = pv := (IntWalk.i64_in _ (by omega)).trans (by omega)
  have d3 : decide (pv < base) = false := by simp; omega
  unfold FromP at CF
  clear hs hd hk hf hlt hla hx hpt hn hpv
  have y0 : W1.cell? ⟨N, 0, none⟩ = some (.int .i64 base) := cell_at CUR.out.1 0
  have y1 : W1.cell? ⟨N, 1, none⟩ = some (.int .i64 term) := cell_at CUR.out.1 1
  have y2 : W1.cell? ⟨N, 2, none⟩ = some (.slice a len cap) := cell_at CUR.out.1 2
  have z2 : W1.cell? ⟨N + 1, 2, none⟩ = some (.int .i64 nx) := cell_at CUR.out.2.1 2
  go_enter Try.func28, Try.ntmps28
  go_upto_region 1 with fail
  rw [← hN, ← hW1]
  clear hN hW1
  go_wp2_with fail
  go_at_call 61
  refine (CL.out _ CUR.out.2.2).mono ?_
  rintro e W10 ⟨rfl, hW⟩
  have C10 := Lib.hid (CUR.out.step hW)
  clear hW y0 y1 y2 z2
  have y0 : W10.cell? ⟨N, 0, none⟩ = some (.int .i64 base) := cell_at C10.out.1 0
  have y1 : W10.cell? ⟨N, 1, none⟩ = some (.int .i64 term) := cell_at C10.out.1 1
  have y2 : W10.cell? ⟨N, 2, none⟩ = some (.slice a len cap) := cell_at C10.out.1 2
  have z2 : W10.cell? ⟨N + 1, 2, none⟩ = some (.int .i64 nx) := cell_at C10.out.2.1 2
  go_wp2_with fail
  go_at_call 60
  refine (CC.out _ C10.out.2.2).mono ?_
  rintro e W11 ⟨rfl, hW⟩
  have C11 := Lib.hid (C10.out.step hW)
  clear hW y0 y1 y2 z2
  have y0 : W11.cell? ⟨N, 0, none⟩ = some (.int .i64 base) := cell_at C11.out.1 0
  have y1 : W11.cell? ⟨N, 1, none⟩ = some (.int .i64 term) := cell_at C11.out.1 1
  have y2 : W11.cell? ⟨N, 2, none⟩ = some (.slice a len cap) := cell_at C11.out.1 2
  have z2 : W11.cell? ⟨N + 1, 2, none⟩ = some (.int .i64 nx) := cell_at C11.out.2.1 2
  go_wp2_with fail
  go_at_call 68
  refine (CT.out _ C11.out.2.2).mono ?_
  rintro e W12 ⟨rfl, hW⟩
  have C12 := Lib.hid (C11.out.step hW)
  clear hW y0 y1 y2 z2
  have y0 : W12.cell? ⟨N, 0, none⟩ = some (.int .i64 base) := cell_at C12.out.1 0
  have y1 : W12.cell? ⟨N, 1, none⟩ = some (.int .i64 term) := cell_at C12.out.1 1
  have y2 : W12.cell? ⟨N, 2, none⟩ = some (.slice a len cap) := cell_at C12.out.1 2
  have z2 : W12.cell? ⟨N + 1, 2, none⟩ = some (.int .i64 nx) := cell_at C12.out.2.1 2
  go_wp2_with fail
  go_at_call 69
  refine (CF.out _ C12.out.2.2).mono ?_
  rintro e W13 ⟨a2, c2, g2, G, rfl, hin, hsim, hW⟩
  have C13 := Lib.hid (C12.out.step hW)
  have HIN := Lib.hid hin
  have HSIM := Lib.hid hsim
  clear hW y0 y1 y2 z2 hin hsim
  have y0 : W13.cell? ⟨N, 0, none⟩ = some (.int .i64 base) := cell_at C13.out.1 0
  have y1 : W13.cell? ⟨N, 1, none⟩ = some (.int .i64 term) := cell_at C13.out.1 1
  have y2 : W13.cell? ⟨N, 2, none⟩ = some (.slice a len cap) := cell_at C13.out.1 2
  have z2 : W13.cell? ⟨N + 1, 2, none⟩ = some (.int .i64 nx) := cell_at C13.out.2.1 2
  go_wp2_with fail
  exact bodyPost_ret (v := .tuple #[.int .i64 pv, .int .i64 pt, .slice a2 n c2, .bool false, .int .i64 0]) (by simp [results, Try.results28, go_sem]) rfl ⟨a2, c2, g2, G, rfl, HIN.out, HSIM.out, C13.out.2.2⟩

set_option maxRecDepth 100000 in
set_option maxHeartbeats 8000000 in
theorem rask_bad (base term most nd pm nx : Int) (a : Option Addr) (len cap g o : Nat) (F : Nat → DE) (w : World) (hs : EntsIn w a len cap g o (fun k => (F k).ent)) (hk : rowsB base term len (fun k => (F k).ent) = false) :
    Calls Try.prog 29 #[.agg #[.int .i64 base, .int .i64 term, .slice a len cap], .agg #[.int .i64 nd, .int .i64 pm, .int .i64 nx], .int .i64 most] w (AskP w 0 0 0 F 0 false 90) := by
  have hm := hs.max
  have hl := hs.le
  unfold maxLen at hm
  have HS := Lib.hid hs
  obtain ⟨N, hN⟩ : ∃ N, N = w.heap.size := ⟨_, rfl⟩
  obtain ⟨W1, hW1⟩ : ∃ W1, W1 = (w.alloc (.cells #[.int .i64 base, .int .i64 term, .slice a len cap] 24)).alloc (.cells #[.int .i64 nd, .int .i64 pm, .int .i64 nx] 26) := ⟨_, rfl⟩
  have CUR : Hid (A2 w N #[.int .i64 base, .int .i64 term, .slice a len cap] #[.int .i64 nd, .int .i64 pm, .int .i64 nx] W1) := Lib.hid (by rw [hW1]; exact A2.mk0 w _ _ N hN)
  have CC := Lib.hid (fun W (h : Below w.heap.size w W) => rcheck_any base term a len cap g o (fun k => (F k).ent) W (hs.below h))
  rw [rE_bad hk] at CC
  clear hs hk
  have y0 : W1.cell? ⟨N, 0, none⟩ = some (.int .i64 base) := cell_at CUR.out.1 0
  have y1 : W1.cell? ⟨N, 1, none⟩ = some (.int .i64 term) := cell_at CUR.out.1 1
  have y2 : W1.cell? ⟨N, 2, none⟩ = some (.slice a len cap) := cell_at CUR.out.1 2
  have z2 : W1.cell? ⟨N + 1, 2, none⟩ = some (.int .i64 nx) := cell_at CUR.out.2.1 2
  go_enter Try.func29, Try.ntmps29
  go_upto_region 1 with fail
  rw [← hN, ← hW1]
  clear hN hW1
  go_wp2_with fail
  go_at_call 31
  refine (CC.out _ CUR.out.2.2).mono ?_
  rintro e W14 ⟨rfl, hW⟩
  have C14 := Lib.hid (CUR.out.step hW)
  clear hW y0 y1 y2 z2
  have y0 : W14.cell? ⟨N, 0, none⟩ = some (.int .i64 base) := cell_at C14.out.1 0
  have y1 : W14.cell? ⟨N, 1, none⟩ = some (.int .i64 term) := cell_at C14.out.1 1
  have y2 : W14.cell? ⟨N, 2, none⟩ = some (.slice a len cap) := cell_at C14.out.1 2
  have z2 : W14.cell? ⟨N + 1, 2, none⟩ = some (.int .i64 nx) := cell_at C14.out.2.1 2
  go_wp2_with fail
  exact bodyPost_ret (v := .tuple #[.int .i64 0, .int .i64 0, .slice none 0 0, .bool false, .int .i64 90]) (by simp [results, Try.results29, go_sem]) rfl ⟨none, 0, 0, _, rfl, nilD _, (fun k h => by omega), C14.out.2.2⟩

set_option maxRecDepth 100000 in
set_option maxHeartbeats 8000000 in
theorem rask_low (base term most nd pm nx : Int) (a : Option Addr) (len cap g o : Nat) (F : Nat → DE) (w : World) (hs : EntsIn w a len cap g o (fun k => (F k).ent)) (hk : rowsB base term len (fun k => (F k).ent) = true) (h1 : nx < 1) :
    Calls Try.prog 29 #[.agg #[.int .i64 base, .int .i64 term, .slice a len cap], .agg #[.int .i64 nd, .int .i64 pm, .int .i64 nx], .int .i64 most] w (AskP w 0 0 0 F 0 false 2) := by
  have hm := hs.max
  have hl := hs.le
  unfold maxLen at hm
  have HS := Lib.hid hs
  obtain ⟨N, hN⟩ : ∃ N, N = w.heap.size := ⟨_, rfl⟩
  obtain ⟨W1, hW1⟩ : ∃ W1, W1 = (w.alloc (.cells #[.int .i64 base, .int .i64 term, .slice a len cap] 24)).alloc (.cells #[.int .i64 nd, .int .i64 pm, .int .i64 nx] 26) := ⟨_, rfl⟩
  have CUR : Hid (A2 w N #[.int .i64 base, .int .i64 term, .slice a len cap] #[.int .i64 nd, .int .i64 pm, .int .i64 nx] W1) := Lib.hid (by rw [hW1]; exact A2.mk0 w _ _ N hN)
  have CC := Lib.hid (fun W (h : Below w.heap.size w W) => rcheck_any base term a len cap g o (fun k => (F k).ent) W (hs.below h))
  rw [rE_ok hk] at CC
  obtain ⟨b0, b1, h4, t0⟩ := rB_head hk
  have CL := Lib.hid (fun W (h : Below w.heap.size w W) => rlast_ok base term a len cap g o (fun k => (F k).ent) W (hs.below h) hk)
  obtain ⟨lt, hlt⟩ : ∃ lt, lt = lastT term len (fun k => (F k).ent) := ⟨_, rfl⟩
  rw [← hlt] at CL
  obtain ⟨la, hla⟩ : ∃ la, la = base + (len : Int) := ⟨_, rfl⟩
  rw [← hla] at CL
  have s0 : IntKind.i64.wrap (la + 1) = la + 1 := IntWalk.i64_in _ (by omega)
  have d1 : decide (nx < 1) = true := by simpa using h1
  clear hs hk hlt hla h1
  have y0 : W1.cell? ⟨N, 0, none⟩ = some (.int .i64 base) := cell_at CUR.out.1 0
  have y1 : W1.cell? ⟨N, 1, none⟩ = some (.int .i64 term) := cell_at CUR.out.1 1
  have y2 : W1.cell? ⟨N, 2, none⟩ = some (.slice a len cap) := cell_at CUR.out.1 2
  have z2 : W1.cell? ⟨N + 1, 2, none⟩ = some (.int .i64 nx) := cell_at CUR.out.2.1 2
  go_enter Try.func29, Try.ntmps29
  go_upto_region 1 with fail
  rw [← hN, ← hW1]
  clear hN hW1
  go_wp2_with fail
  go_at_call 31
  refine (CC.out _ CUR.out.2.2).mono ?_
  rintro e W15 ⟨rfl, hW⟩
  have C15 := Lib.hid (CUR.out.step hW)
  clear hW y0 y1 y2 z2
  have y0 : W15.cell? ⟨N, 0, none⟩ = some (.int .i64 base) := cell_at C15.out.1 0
  have y1 : W15.cell? ⟨N, 1, none⟩ = some (.int .i64 term) := cell_at C15.out.1 1
  have y2 : W15.cell? ⟨N, 2, none⟩ = some (.slice a len cap) := cell_at C15.out.1 2
  have z2 : W15.cell? ⟨N + 1, 2, none⟩ = some (.int .i64 nx) := cell_at C15.out.2.1 2
  go_wp2_with fail
  go_at_call 32
  refine (CL.out _ C15.out.2.2).mono ?_
  rintro e W16 ⟨rfl, hW⟩
  have C16 := Lib.hid (C15.out.step hW)
  clear hW y0 y1 y2 z2
  have y0 : W16.cell? ⟨N, 0, none⟩ = some (.int .i64 base) := cell_at C16.out.1 0
  have y1 : W16.cell? ⟨N, 1, none⟩ = some (.int .i64 term) := cell_at C16.out.1 1
  have y2 : W16.cell? ⟨N, 2, none⟩ = some (.slice a len cap) := cell_at C16.out.1 2
  have z2 : W16.cell? ⟨N + 1, 2, none⟩ = some (.int .i64 nx) := cell_at C16.out.2.1 2
  go_wp2_with fail
  exact bodyPost_ret (v := .tuple #[.int .i64 0, .int .i64 0, .slice none 0 0, .bool false, .int .i64 2]) (by simp [results, Try.results29, go_sem]) rfl ⟨none, 0, 0, _, rfl, nilD _, (fun k h => by omega), C16.out.2.2⟩

set_option maxRecDepth 100000 in
set_option maxHeartbeats 8000000 in
theorem rask_high (base term most nd pm nx : Int) (a : Option Addr) (len cap g o : Nat) (F : Nat → DE) (w : World) (hs : EntsIn w a len cap g o (fun k => (F k).ent)) (hk : rowsB base term len (fun k => (F k).ent) = true) (h1 : 1 ≤ nx ∧ base + len + 1 < nx) :
    Calls Try.prog 29 #[.agg #[.int .i64 base, .int .i64 term, .slice a len cap], .agg #[.int .i64 nd, .int .i64 pm, .int .i64 nx], .int .i64 most] w (AskP w 0 0 0 F 0 false 2) := by
  have hm := hs.max
  have hl := hs.le
  unfold maxLen at hm
  have HS := Lib.hid hs
  obtain ⟨N, hN⟩ : ∃ N, N = w.heap.size := ⟨_, rfl⟩
  obtain ⟨W1, hW1⟩ : ∃ W1, W1 = (w.alloc (.cells #[.int .i64 base, .int .i64 term, .slice a len cap] 24)).alloc (.cells #[.int .i64 nd, .int .i64 pm, .int .i64 nx] 26) := ⟨_, rfl⟩
  have CUR : Hid (A2 w N #[.int .i64 base, .int .i64 term, .slice a len cap] #[.int .i64 nd, .int .i64 pm, .int .i64 nx] W1) := Lib.hid (by rw [hW1]; exact A2.mk0 w _ _ N hN)
  have CC := Lib.hid (fun W (h : Below w.heap.size w W) => rcheck_any base term a len cap g o (fun k => (F k).ent) W (hs.below h))
  rw [rE_ok hk] at CC
  obtain ⟨b0, b1, h4, t0⟩ := rB_head hk
  have CL := Lib.hid (fun W (h : Below w.heap.size w W) => rlast_ok base term a len cap g o (fun k => (F k).ent) W (hs.below h) hk)
  obtain ⟨lt, hlt⟩ : ∃ lt, lt = lastT term len (fun k => (F k).ent) := ⟨_, rfl⟩
  rw [← hlt] at CL
  obtain ⟨la, hla⟩ : ∃ la, la = base + (len : Int) := ⟨_, rfl⟩
  rw [← hla] at CL
  have s0 : IntKind.i64.wrap (la + 1) = la + 1 := IntWalk.i64_in _ (by omega)
  have d1 : decide (nx < 1) = false := by simp; omega
  have d2 : decide (la + 1 < nx) = true := by simp; omega
  clear hs hk hlt hla h1
  have y0 : W1.cell? ⟨N, 0, none⟩ = some (.int .i64 base) := cell_at CUR.out.1 0
  have y1 : W1.cell? ⟨N, 1, none⟩ = some (.int .i64 term) := cell_at CUR.out.1 1
  have y2 : W1.cell? ⟨N, 2, none⟩ = some (.slice a len cap) := cell_at CUR.out.1 2
  have z2 : W1.cell? ⟨N + 1, 2, none⟩ = some (.int .i64 nx) := cell_at CUR.out.2.1 2
  go_enter Try.func29, Try.ntmps29
  go_upto_region 1 with fail
  rw [← hN, ← hW1]
  clear hN hW1
  go_wp2_with fail
  go_at_call 31
  refine (CC.out _ CUR.out.2.2).mono ?_
  rintro e W17 ⟨rfl, hW⟩
  have C17 := Lib.hid (CUR.out.step hW)
  clear hW y0 y1 y2 z2
  have y0 : W17.cell? ⟨N, 0, none⟩ = some (.int .i64 base) := cell_at C17.out.1 0
  have y1 : W17.cell? ⟨N, 1, none⟩ = some (.int .i64 term) := cell_at C17.out.1 1
  have y2 : W17.cell? ⟨N, 2, none⟩ = some (.slice a len cap) := cell_at C17.out.1 2
  have z2 : W17.cell? ⟨N + 1, 2, none⟩ = some (.int .i64 nx) := cell_at C17.out.2.1 2
  go_wp2_with fail
  go_at_call 32
  refine (CL.out _ C17.out.2.2).mono ?_
  rintro e W18 ⟨rfl, hW⟩
  have C18 := Lib.hid (C17.out.step hW)
  clear hW y0 y1 y2 z2
  have y0 : W18.cell? ⟨N, 0, none⟩ = some (.int .i64 base) := cell_at C18.out.1 0
  have y1 : W18.cell? ⟨N, 1, none⟩ = some (.int .i64 term) := cell_at C18.out.1 1
  have y2 : W18.cell? ⟨N, 2, none⟩ = some (.slice a len cap) := cell_at C18.out.1 2
  have z2 : W18.cell? ⟨N + 1, 2, none⟩ = some (.int .i64 nx) := cell_at C18.out.2.1 2
  go_wp2_with fail
  exact bodyPost_ret (v := .tuple #[.int .i64 0, .int .i64 0, .slice none 0 0, .bool false, .int .i64 2]) (by simp [results, Try.results29, go_sem]) rfl ⟨none, 0, 0, _, rfl, nilD _, (fun k h => by omega), C18.out.2.2⟩

set_option maxRecDepth 100000 in
set_option maxHeartbeats 8000000 in
theorem rask_snap (base term most nd pm nx : Int) (a : Option Addr) (len cap g o : Nat) (F : Nat → DE) (w : World) (hs : EntsIn w a len cap g o (fun k => (F k).ent)) (hk : rowsB base term len (fun k => (F k).ent) = true) (h1 : 1 ≤ nx ∧ nx ≤ base) :
    Calls Try.prog 29 #[.agg #[.int .i64 base, .int .i64 term, .slice a len cap], .agg #[.int .i64 nd, .int .i64 pm, .int .i64 nx], .int .i64 most] w (AskP w 0 0 0 F 0 true 0) := by
  have hm := hs.max
  have hl := hs.le
  unfold maxLen at hm
  have HS := Lib.hid hs
  obtain ⟨N, hN⟩ : ∃ N, N = w.heap.size := ⟨_, rfl⟩
  obtain ⟨W1, hW1⟩ : ∃ W1, W1 = (w.alloc (.cells #[.int .i64 base, .int .i64 term, .slice a len cap] 24)).alloc (.cells #[.int .i64 nd, .int .i64 pm, .int .i64 nx] 26) := ⟨_, rfl⟩
  have CUR : Hid (A2 w N #[.int .i64 base, .int .i64 term, .slice a len cap] #[.int .i64 nd, .int .i64 pm, .int .i64 nx] W1) := Lib.hid (by rw [hW1]; exact A2.mk0 w _ _ N hN)
  have CC := Lib.hid (fun W (h : Below w.heap.size w W) => rcheck_any base term a len cap g o (fun k => (F k).ent) W (hs.below h))
  rw [rE_ok hk] at CC
  obtain ⟨b0, b1, h4, t0⟩ := rB_head hk
  have CL := Lib.hid (fun W (h : Below w.heap.size w W) => rlast_ok base term a len cap g o (fun k => (F k).ent) W (hs.below h) hk)
  obtain ⟨lt, hlt⟩ : ∃ lt, lt = lastT term len (fun k => (F k).ent) := ⟨_, rfl⟩
  rw [← hlt] at CL
  obtain ⟨la, hla⟩ : ∃ la, la = base + (len : Int) := ⟨_, rfl⟩
  rw [← hla] at CL
  have s0 : IntKind.i64.wrap (la + 1) = la + 1 := IntWalk.i64_in _ (by omega)
  have d1 : decide (nx < 1) = false := by simp; omega
  have d2 : decide (la + 1 < nx) = false := by simp; omega
  have s1 : IntKind.i64.wrap (nx - 1) = nx - 1 := IntWalk.i64_in _ (by omega)
  have d3 : decide (nx - 1 < base) = true := by simp; omega
  clear hs hk hlt hla h1
  have y0 : W1.cell? ⟨N, 0, none⟩ = some (.int .i64 base) := cell_at CUR.out.1 0
  have y1 : W1.cell? ⟨N, 1, none⟩ = some (.int .i64 term) := cell_at CUR.out.1 1
  have y2 : W1.cell? ⟨N, 2, none⟩ = some (.slice a len cap) := cell_at CUR.out.1 2
  have z2 : W1.cell? ⟨N + 1, 2, none⟩ = some (.int .i64 nx) := cell_at CUR.out.2.1 2
  go_enter Try.func29, Try.ntmps29
  go_upto_region 1 with fail
  rw [← hN, ← hW1]
  clear hN hW1
  go_wp2_with fail
  go_at_call 31
  refine (CC.out _ CUR.out.2.2).mono ?_
  rintro e W19 ⟨rfl, hW⟩
  have C19 := Lib.hid (CUR.out.step hW)
  clear hW y0 y1 y2 z2
  have y0 : W19.cell? ⟨N, 0, none⟩ = some (.int .i64 base) := cell_at C19.out.1 0
  have y1 : W19.cell? ⟨N, 1, none⟩ = some (.int .i64 term) := cell_at C19.out.1 1
  have y2 : W19.cell? ⟨N, 2, none⟩ = some (.slice a len cap) := cell_at C19.out.1 2
  have z2 : W19.cell? ⟨N + 1, 2, none⟩ = some (.int .i64 nx) := cell_at C19.out.2.1 2
  go_wp2_with fail
  go_at_call 32
  refine (CL.out _ C19.out.2.2).mono ?_
  rintro e W20 ⟨rfl, hW⟩
  have C20 := Lib.hid (C19.out.step hW)
  clear hW y0 y1 y2 z2
  have y0 : W20.cell? ⟨N, 0, none⟩ = some (.int .i64 base) := cell_at C20.out.1 0
  have y1 : W20.cell? ⟨N, 1, none⟩ = some (.int .i64 term) := cell_at C20.out.1 1
  have y2 : W20.cell? ⟨N, 2, none⟩ = some (.slice a len cap) := cell_at C20.out.1 2
  have z2 : W20.cell? ⟨N + 1, 2, none⟩ = some (.int .i64 nx) := cell_at C20.out.2.1 2
  go_wp2_with fail
  exact bodyPost_ret (v := .tuple #[.int .i64 0, .int .i64 0, .slice none 0 0, .bool true, .int .i64 0]) (by simp [results, Try.results29, go_sem]) rfl ⟨none, 0, 0, _, rfl, nilD _, (fun k h => by omega), C20.out.2.2⟩

set_option maxRecDepth 100000 in
set_option maxHeartbeats 8000000 in
theorem rask_ok (base term most nd pm nx : Int) (a : Option Addr) (len cap g o : Nat) (F : Nat → DE) (w : World) (hs : EntsIn w a len cap g o (fun k => (F k).ent)) (hd : DIn w a len cap g o F) (hk : rowsB base term len (fun k => (F k).ent) = true) (hf : ∀ k, k < len → (F k).dl ≤ 1000000) (j : Nat) (hj : j ≤ len) (hx : nx = base + ((j + 1 : Nat) : Int)) :
    Calls Try.prog 29 #[.agg #[.int .i64 base, .int .i64 term, .slice a len cap], .agg #[.int .i64 nd, .int .i64 pm, .int .i64 nx], .int .i64 most] w (AskP w (base + (j : Int)) (termI base term (fun k => (F k).ent) (base + (j : Int))) (min (min most.toNat 16) (len - j)) F j false 0) := by
  have hm := hs.max
  have hl := hs.le
  unfold maxLen at hm
  have HS := Lib.hid hs
  obtain ⟨N, hN⟩ : ∃ N, N = w.heap.size := ⟨_, rfl⟩
  obtain ⟨W1, hW1⟩ : ∃ W1, W1 = (w.alloc (.cells #[.int .i64 base, .int .i64 term, .slice a len cap] 24)).alloc (.cells #[.int .i64 nd, .int .i64 pm, .int .i64 nx] 26) := ⟨_, rfl⟩
  have CUR : Hid (A2 w N #[.int .i64 base, .int .i64 term, .slice a len cap] #[.int .i64 nd, .int .i64 pm, .int .i64 nx] W1) := Lib.hid (by rw [hW1]; exact A2.mk0 w _ _ N hN)
  have CC := Lib.hid (fun W (h : Below w.heap.size w W) => rcheck_any base term a len cap g o (fun k => (F k).ent) W (hs.below h))
  rw [rE_ok hk] at CC
  obtain ⟨b0, b1, h4, t0⟩ := rB_head hk
  have CL := Lib.hid (fun W (h : Below w.heap.size w W) => rlast_ok base term a len cap g o (fun k => (F k).ent) W (hs.below h) hk)
  obtain ⟨lt, hlt⟩ : ∃ lt, lt = lastT term len (fun k => (F k).ent) := ⟨_, rfl⟩
  rw [← hlt] at CL
  obtain ⟨la, hla⟩ : ∃ la, la = base + (len : Int) := ⟨_, rfl⟩
  rw [← hla] at CL
  have s0 : IntKind.i64.wrap (la + 1) = la + 1 := IntWalk.i64_in _ (by omega)
  have CT := Lib.hid (fun W (h : Below w.heap.size w W) => rterm_all base term j a len cap g o (fun k => (F k).ent) W (hs.below h) hk hj)
  have CF := Lib.hid (fun W (h : Below w.heap.size w W) => rfrom_ok base term most a len cap g o j F W (hs.below h) (hd.below h) hk hf hj)
  rw [← hx] at CF
  obtain ⟨pt, hpt⟩ : ∃ pt, pt = termI base term (fun k => (F k).ent) (base + (j : Int)) := ⟨_, rfl⟩
  rw [← hpt] at CT ⊢
  obtain ⟨n, hn⟩ : ∃ n, n = min (min most.toNat 16) (len - j) := ⟨_, rfl⟩
  rw [← hn] at CF ⊢
  have d1 : decide (nx < 1) = false := by simp; omega
  have d2 : decide (la + 1 < nx) = false := by simp; omega
  obtain ⟨pv, hpv⟩ : ∃ pv, pv = base + (j : Int) := ⟨_, rfl⟩
  rw [← hpv] at CT ⊢
  have s1 : IntKind.i64.wrap (nx - 1) = pv := (IntWalk.i64_in _ (by omega)).trans (by omega)
  have d3 : decide (pv < base) = false := by simp; omega
  unfold FromP at CF
  clear hs hd hk hf hlt hla hx hpt hn hpv
  have y0 : W1.cell? ⟨N, 0, none⟩ = some (.int .i64 base) := cell_at CUR.out.1 0
  have y1 : W1.cell? ⟨N, 1, none⟩ = some (.int .i64 term) := cell_at CUR.out.1 1
  have y2 : W1.cell? ⟨N, 2, none⟩ = some (.slice a len cap) := cell_at CUR.out.1 2
  have z2 : W1.cell? ⟨N + 1, 2, none⟩ = some (.int .i64 nx) := cell_at CUR.out.2.1 2
  go_enter Try.func29, Try.ntmps29
  go_upto_region 1 with fail
  rw [← hN, ← hW1]
  clear hN hW1
  go_wp2_with fail
  go_at_call 31
  refine (CC.out _ CUR.out.2.2).mono ?_
  rintro e W21 ⟨rfl, hW⟩
  have C21 := Lib.hid (CUR.out.step hW)
  clear hW y0 y1 y2 z2
  have y0 : W21.cell? ⟨N, 0, none⟩ = some (.int .i64 base) := cell_at C21.out.1 0
  have y1 : W21.cell? ⟨N, 1, none⟩ = some (.int .i64 term) := cell_at C21.out.1 1
  have y2 : W21.cell? ⟨N, 2, none⟩ = some (.slice a len cap) := cell_at C21.out.1 2
  have z2 : W21.cell? ⟨N + 1, 2, none⟩ = some (.int .i64 nx) := cell_at C21.out.2.1 2
  go_wp2_with fail
  go_at_call 32
  refine (CL.out _ C21.out.2.2).mono ?_
  rintro e W22 ⟨rfl, hW⟩
  have C22 := Lib.hid (C21.out.step hW)
  clear hW y0 y1 y2 z2
  have y0 : W22.cell? ⟨N, 0, none⟩ = some (.int .i64 base) := cell_at C22.out.1 0
  have y1 : W22.cell? ⟨N, 1, none⟩ = some (.int .i64 term) := cell_at C22.out.1 1
  have y2 : W22.cell? ⟨N, 2, none⟩ = some (.slice a len cap) := cell_at C22.out.1 2
  have z2 : W22.cell? ⟨N + 1, 2, none⟩ = some (.int .i64 nx) := cell_at C22.out.2.1 2
  go_wp2_with fail
  go_at_call 33
  refine (CT.out _ C22.out.2.2).mono ?_
  rintro e W23 ⟨rfl, hW⟩
  have C23 := Lib.hid (C22.out.step hW)
  clear hW y0 y1 y2 z2
  have y0 : W23.cell? ⟨N, 0, none⟩ = some (.int .i64 base) := cell_at C23.out.1 0
  have y1 : W23.cell? ⟨N, 1, none⟩ = some (.int .i64 term) := cell_at C23.out.1 1
  have y2 : W23.cell? ⟨N, 2, none⟩ = some (.slice a len cap) := cell_at C23.out.1 2
  have z2 : W23.cell? ⟨N + 1, 2, none⟩ = some (.int .i64 nx) := cell_at C23.out.2.1 2
  go_wp2_with fail
  go_at_call 70
  refine (CF.out _ C23.out.2.2).mono ?_
  rintro e W24 ⟨a2, c2, g2, G, rfl, hin, hsim, hW⟩
  have C24 := Lib.hid (C23.out.step hW)
  have HIN := Lib.hid hin
  have HSIM := Lib.hid hsim
  clear hW y0 y1 y2 z2 hin hsim
  have y0 : W24.cell? ⟨N, 0, none⟩ = some (.int .i64 base) := cell_at C24.out.1 0
  have y1 : W24.cell? ⟨N, 1, none⟩ = some (.int .i64 term) := cell_at C24.out.1 1
  have y2 : W24.cell? ⟨N, 2, none⟩ = some (.slice a len cap) := cell_at C24.out.1 2
  have z2 : W24.cell? ⟨N + 1, 2, none⟩ = some (.int .i64 nx) := cell_at C24.out.2.1 2
  go_wp2_with fail
  exact bodyPost_ret (v := .tuple #[.int .i64 pv, .int .i64 pt, .slice a2 n c2, .bool false, .int .i64 0]) (by simp [results, Try.results29, go_sem]) rfl ⟨a2, c2, g2, G, rfl, HIN.out, HSIM.out, C24.out.2.2⟩

theorem ask_both (base term most nd pm nx : Int) (a : Option Addr) (len cap g o : Nat) (F : Nat → DE) (w : World) (hs : EntsIn w a len cap g o (fun k => (F k).ent)) (hd : DIn w a len cap g o F) (hf : rowsB base term len (fun k => (F k).ent) = true → ∀ k, k < len → (F k).dl ≤ 1000000) :
    ∃ pv pt n j sn er, n ≤ 16 ∧ (∀ W, Below w.heap.size w W → Calls Try.prog 28 #[.agg #[.int .i64 base, .int .i64 term, .slice a len cap], .agg #[.int .i64 nd, .int .i64 pm, .int .i64 nx], .int .i64 most] W (AskP W pv pt n F j sn er)) ∧ (∀ W, Below w.heap.size w W → Calls Try.prog 29 #[.agg #[.int .i64 base, .int .i64 term, .slice a len cap], .agg #[.int .i64 nd, .int .i64 pm, .int .i64 nx], .int .i64 most] W (AskP W pv pt n F j sn er)) := by
  cases hk : rowsB base term len (fun k => (F k).ent) with
  | false => exact ⟨0, 0, 0, 0, false, 90, by omega, fun W h => ask_bad base term most nd pm nx a len cap g o F W (hs.below h) hk, fun W h => rask_bad base term most nd pm nx a len cap g o F W (hs.below h) hk⟩
  | true =>
    by_cases h1 : nx < 1
    · exact ⟨0, 0, 0, 0, false, 2, by omega, fun W h => ask_low base term most nd pm nx a len cap g o F W (hs.below h) hk h1, fun W h => rask_low base term most nd pm nx a len cap g o F W (hs.below h) hk h1⟩
    · by_cases h2 : base + len + 1 < nx
      · exact ⟨0, 0, 0, 0, false, 2, by omega, fun W h => ask_high base term most nd pm nx a len cap g o F W (hs.below h) hk ⟨by omega, h2⟩, fun W h => rask_high base term most nd pm nx a len cap g o F W (hs.below h) hk ⟨by omega, h2⟩⟩
      · by_cases h3 : nx ≤ base
        · exact ⟨0, 0, 0, 0, true, 0, by omega, fun W h => ask_snap base term most nd pm nx a len cap g o F W (hs.below h) hk ⟨by omega, h3⟩, fun W h => rask_snap base term most nd pm nx a len cap g o F W (hs.below h) hk ⟨by omega, h3⟩⟩
        · obtain ⟨j, hj⟩ : ∃ j : Nat, j = (nx - base - 1).toNat := ⟨_, rfl⟩
          exact ⟨_, _, min (min most.toNat 16) (len - j), j, false, 0, by omega, fun W h => ask_ok base term most nd pm nx a len cap g o F W (hs.below h) (hd.below h) hk (hf hk) j (by omega) (by omega), fun W h => rask_ok base term most nd pm nx a len cap g o F W (hs.below h) (hd.below h) hk (hf hk) j (by omega) (by omega)⟩
end Go.Proofs.Ytninhjeiialbjaa
