/-
  What a form finds in bytes: an answer.
-/
import Derived.Test.YtiednacpmlilbaaDoorWr1
import Derived.Defers
import Derived.Recover
import Derived.Laws.Pointers
namespace Go.Proofs.YtiednacpmlilbaaDoor
open Go.RowKit
set_option linter.unusedSimpArgs false
set_option linter.unusedVariables false

def FB (lo : Nat) (W W' : World) : Prop := Below lo W W' ∧ ∀ q cs ty, q < W.heap.size → Blk W q cs ty → Blk W' q cs ty
theorem FB.of {y lo X n : Nat} {bs : List Nat} {T : TypeId} {W W4 W5 : World} (hF : FrA (eyeS y lo bs) (cellN T X 0 n) W4 W5) (hB : Below W.heap.size W W4) (hlo : lo ≤ W.heap.size) (hX : W.heap.size ≤ X) (hy : W.heap.size ≤ y) : FB lo W W5 := by
  refine ⟨(hB.mono hlo).trans hF.below, fun q cs ty hq hb => ?_⟩
  have h4 : Blk W4 q cs ty := hb.step hB
  by_cases hl : q < lo
  · exact (hF.old q hl).trans h4
  · exact blk_keep h4 (show q ≠ y ∧ lo ≤ q by omega) hF (fun j h => by have := h.2.1; omega)
theorem FB.thenB {lo : Nat} {W W5 W9 : World} (h : FB lo W W5) (k : Below W.heap.size W5 W9) (hlo : lo ≤ W.heap.size) : FB lo W W9 :=
  ⟨h.1.trans (k.mono hlo), fun q cs ty hq hb => (k.block q hq).trans (h.2 q cs ty hq hb)⟩
/-- the same memory -/
structure EqW (W W' : World) : Prop where
  os : W'.os = W.os
  tape : W'.tape = W.tape
  output : W'.output = W.output
  size : W'.heap.size = W.heap.size
  heap : ∀ q : Nat, W'.heap[q]? = W.heap[q]?
theorem EqW.refl (W : World) : EqW W W := ⟨rfl, rfl, rfl, rfl, fun _ => rfl⟩
theorem EqW.set {W W' : World} (h : EqW W W') {g j : Nat} {v : Value} (hc : W.cell? ⟨g, j, none⟩ = some v) : EqW W (W'.setCell ⟨g, j, none⟩ v) := by
  have hc' : W'.cell? ⟨g, j, none⟩ = some v := by
    unfold World.cell? at hc ⊢
    rw [h.heap]
    exact hc
  have := (Fr.refl [g] W').setCell ⟨g, j, none⟩ (.inl (by simp)) v
  exact ⟨this.os.trans h.os, this.tape.trans h.tape, this.output.trans h.output, (by rw [World.size_setCell]; exact h.size), fun q => (setCell_same W' g j v hc' q).trans (h.heap q)⟩
theorem EqW.frA {S : Type} {H : HS S} {W W' : World} (h : EqW W W') : FrA H (fun _ _ _ => False) W W' := ⟨h.os, h.tape, h.output, Nat.le_of_eq h.size.symm, fun q _ => h.heap q, fun q cs ty hb _ => ⟨cs, (h.heap q).trans hb, rfl, fun _ _ => rfl⟩⟩
set_option maxRecDepth 100000 in
set_option maxHeartbeats 8000000 in
theorem read_Answer {α : Type} (W : World) (lo : Nat) (hlo : lo ≤ W.heap.size) (v : Value) (bs : List Nat) (K : FuncId) (R : Except Nat (Nat × α)) (KP : World → Nat → Nat → α → Prop) (hK : EntK K) (hv : BL lo W v bs) (hlen : bs.length ≤ 1048576)
    (hcall : ∀ (W2 : World) (X y : Nat), Below W.heap.size W W2 → X ≠ y → W.heap.size ≤ X → Blk W2 X #[.int .i64 0, .int .i64 0, .int .i64 0, .int .i64 0, .int .i64 0] 48 → (eyeS y lo bs).In W2 0 → Calls Tryd.prog K #[(eyeS y lo bs).hv, .pointer (some ⟨X, 0, none⟩)] W2 (EndS (eyeS y lo bs) (cellN 48 X 0 5) W2 R fun x W' => (eyeS y lo bs).In W' x.1 ∧ KP W' X y x.2))
    (hKP : ∀ W1 W2 X y x, W.heap.size ≤ W1.heap.size → FrA (eyeS y lo bs) (fun _ _ _ => False) W1 W2 → KP W1 X y x → KP W2 X y x)
    (hone : ∀ W' X y x cs, KP W' X y x → Blk W' X cs 48 → ∀ (i : Nat) u, i < 5 → cs[i]? = some u → u.oneCell' = true) :
    Calls Tryd.prog 63 #[v, .func (.func K) #[] #[]] W fun e W' => FB lo W W' ∧ match R with
      | .error a => e = .returned (.tuple #[.agg #[.int .i64 0, .int .i64 0, .int .i64 0, .int .i64 0, .int .i64 0], .int .i64 (a : Nat), .int .i64 50])
      | .ok (s, x) => (s < bs.length → e = .returned (.tuple #[.agg #[.int .i64 0, .int .i64 0, .int .i64 0, .int .i64 0, .int .i64 0], .int .i64 (s : Nat), .int .i64 50])) ∧ (¬ s < bs.length → ∃ X y cs, e = .returned (.tuple #[.agg cs, .int .i64 0, .int .i64 0]) ∧ KP W' X y x ∧ Blk W' X cs 48 ∧ cs.size = 5 ∧ W.heap.size ≤ X ∧ X ≠ y) := by
  have hv0 := hv
  obtain ⟨a, b, o, c, rfl, hby, hbl⟩ := hv
  obtain ⟨ln, hln⟩ : ∃ ln, ln = bs.length := ⟨_, rfl⟩
  obtain ⟨X, hX⟩ : ∃ X, X = W.heap.size := ⟨_, rfl⟩
  obtain ⟨A, hA⟩ : ∃ A, A = X + 1 := ⟨_, rfl⟩
  obtain ⟨E, hE⟩ : ∃ E, E = A + 1 := ⟨_, rfl⟩
  obtain ⟨y, hy⟩ : ∃ y, y = E + 1 := ⟨_, rfl⟩
  obtain ⟨W1, hW1⟩ : ∃ Y, Y = W.alloc (.cells #[.int .i64 0, .int .i64 0, .int .i64 0, .int .i64 0, .int .i64 0] 48) := ⟨_, rfl⟩
  obtain ⟨W2, hW2⟩ : ∃ Y, Y = W1.alloc (.cells #[.int .i64 0] 3) := ⟨_, rfl⟩
  obtain ⟨W3, hW3⟩ : ∃ Y, Y = W2.alloc (.cells #[.int .i64 0] 27) := ⟨_, rfl⟩
  obtain ⟨W4, hW4⟩ : ∃ Y, Y = W3.alloc (.cells #[.slice a ln c, .int .i64 0] 148) := ⟨_, rfl⟩
  have b1 : Below W.heap.size W W1 := by rw [hW1]; exact alloc_b _ _
  have b2 : Below W1.heap.size W1 W2 := by rw [hW2]; exact alloc_b _ _
  have b3 : Below W2.heap.size W2 W3 := by rw [hW3]; exact alloc_b _ _
  have b4 : Below W3.heap.size W3 W4 := by rw [hW4]; exact alloc_b _ _
  have s1 : W1.heap.size = A := by rw [hW1, hA, hX]; simp
  have s2 : W2.heap.size = E := by rw [hW2, hE, ← s1]; simp
  have s3 : W3.heap.size = y := by rw [hW3, hy, ← s2]; simp
  have B4 : Below W.heap.size W W4 := b1.trans ((b2.mono b1.size).trans ((b3.mono (Nat.le_trans b1.size b2.size)).trans (b4.mono (Nat.le_trans b1.size (Nat.le_trans b2.size b3.size)))))
  have kx1 : Blk W1 X #[.int .i64 0, .int .i64 0, .int .i64 0, .int .i64 0, .int .i64 0] 48 := by rw [hW1, hX]; exact blk_new _ _ _
  have ka2 : Blk W2 A #[.int .i64 0] 3 := by rw [hW2, ← s1]; exact blk_new _ _ _
  have ke3 : Blk W3 E #[.int .i64 0] 27 := by rw [hW3, ← s2]; exact blk_new _ _ _
  have ky4 : Blk W4 y #[.slice a ln c, .int .i64 ((0 : Nat) : Int)] 148 := by rw [hW4, ← s3]; exact blk_new _ _ _
  have kx4 := ((kx1.step b2).step b3).step b4
  have ka4 := (ka2.step b3).step b4
  have ke4 := ke3.step b4
  have hI : (eyeS y lo bs).In W4 0 := ⟨_, ky4, BL.fr (W := W) ⟨a, b, o, c, by rw [hln], hby, hbl⟩ (fun q hq => B4.block q (by omega)) B4.size, Nat.zero_le _, by omega, hlen⟩
  have hc := hcall W4 X y B4 (by omega) (by omega) kx4 hI
  unfold HS.hv fv at hc
  have HC := Lib.hid (show Calls Tryd.prog K #[.agg #[.func (.func 80) #[.pointer (some ⟨y, 0, none⟩)] #[], .func (.func 81) #[.pointer (some ⟨y, 0, none⟩)] #[], .func (.func 82) #[.pointer (some ⟨y, 0, none⟩)] #[], .func (.func 83) #[.pointer (some ⟨y, 0, none⟩)] #[], .func (.func 84) #[.pointer (some ⟨y, 0, none⟩)] #[], .func (.func 85) #[.pointer (some ⟨y, 0, none⟩)] #[]], .pointer (some ⟨X, 0, none⟩)] W4 (EndS (eyeS y lo bs) (cellN 48 X 0 5) W4 R fun x W' => (eyeS y lo bs).In W' x.1 ∧ KP W' X y x.2) from hc)
  have hk2 := hK
  unfold EntK at hk2
  have HKP := Lib.hid hKP
  have HONE := Lib.hid hone
  have HKX := Lib.hid kx4
  have HKA := Lib.hid ka4
  have HKE := Lib.hid ke4
  have HB4 := Lib.hid B4
  have HS := Lib.hid (And.intro s1 (And.intro s2 s3))
  have HXX := Lib.hid (And.intro hX (And.intro hA (And.intro hE hy)))
  have HLN := Lib.hid hln
  have hmf : ∀ (fn : Fn) (first cap : Array Value) (w : World), (Instr.makeFunc fn first cap).run Tryd.prog w = .ok (.func fn first cap) w := fun _ _ _ _ => rfl
  have t0 : ((1048576 : Int) < (ln : Int)) = False := eq_false (by omega)
  have t1 : (1048576 < ln) = False := eq_false (by omega)
  rw [← hln]
  have HDD := Lib.hid (show X ≠ A ∧ X ≠ E ∧ A ≠ E by omega)
  have HYY := Lib.hid (show X ≠ y ∧ A ≠ y ∧ E ≠ y by omega)
  have HLO := Lib.hid hlo
  clear hcall hKP hone hlo hbl b1 b2 b3 b4 s1 s2 s3 B4 kx1 ka2 ke3 ky4 kx4 ka4 ke4 hI hc hv0 hby hA hE hy hlen hln hX
  rcases hR : R with ae | ⟨s, x⟩
  · have HC1 := Lib.hid (endS_err HC.out hR)
    clear hR HC
    go_enter_defers Tryd.func63, Tryd.ntmps63
    go_upto_region 1 with fail
    rw [← HXX.out.1, ← hW1, ← HXX.out.2.1, ← HXX.out.2.2.1, ← hW2, ← hW3]
    clear hW1 hW2 hW3
    go_upto_region 5 with fail
    rw [HS.out.2.2, ← hW4]
    clear hW4
    go_wp2_with (refine Calls.mono HC1.out ?_; rintro e W5 ⟨hF, rfl⟩)
    have hx5 : ∃ cx, Blk W5 X cx 48 ∧ cx.size = 5 := by
      obtain ⟨c1, h1, h2, _⟩ := hF.blk X _ _ HKX.out (⟨HYY.out.1, by have := HXX.out.1; have := HLO.out; show lo ≤ X; omega⟩ : X ≠ y ∧ lo ≤ X)
      exact ⟨c1, h1, h2⟩
    obtain ⟨cx, hx5, hcn⟩ := hx5
    have ha5 := blk_keep HKA.out (⟨HYY.out.2.1, by have := HXX.out.1; have := HXX.out.2.1; have := HLO.out; omega⟩ : (eyeS y lo bs).Pr A 3) hF (fun j h => HDD.out.1 h.2.1.symm)
    have he5 := blk_keep HKE.out (⟨HYY.out.2.2, by have := HXX.out.1; have := HXX.out.2.1; have := HXX.out.2.2.1; have := HLO.out; omega⟩ : (eyeS y lo bs).Pr E 27) hF (fun j h => HDD.out.2.1 h.2.1.symm)
    have hb5 : FB lo W W5 := FB.of hF HB4.out HLO.out (by have := HXX.out.1; omega) (by have := HXX.out.1; have := HXX.out.2.1; have := HXX.out.2.2.1; have := HXX.out.2.2.2; omega)
    refine leaves_cons (f := 99) (args := #[.pointer (some ⟨X, 0, none⟩), .pointer (some ⟨A, 0, none⟩), .pointer (some ⟨E, 0, none⟩)]) (by simp) (by simp [go_sem]) ?_
    refine (catch_Answer W5 X A E cx 0 0 ae hx5 ha5 he5 hcn HDD.out).mono ?_
    rintro e u' W9 ⟨rfl, rfl, hx9, ha9, he9, hf9⟩
    have HB9 := Lib.hid (FB.thenB hb5 (hf9.below (Nat.le_trans HB4.out.size hF.size) (by have := HXX.out.1; have := HXX.out.2.1; have := HXX.out.2.2.1; simp; omega)) HLO.out)
    have z0 : W9.cell? ⟨X, 0, none⟩ = some (.int .i64 0) := cell_at hx9 0
    have z1 : W9.cell? ⟨X, 1, none⟩ = some (.int .i64 0) := cell_at hx9 1
    have z2 : W9.cell? ⟨X, 2, none⟩ = some (.int .i64 0) := cell_at hx9 2
    have z3 : W9.cell? ⟨X, 3, none⟩ = some (.int .i64 0) := cell_at hx9 3
    have z4 : W9.cell? ⟨X, 4, none⟩ = some (.int .i64 0) := cell_at hx9 4
    have za : W9.cell? ⟨A, 0, none⟩ = some (.int .i64 (ae : Nat)) := cell_at ha9 0
    have ze : W9.cell? ⟨E, 0, none⟩ = some (.int .i64 50) := cell_at he9 0
    clear hx9 ha9 he9 hf9 hb5
    exact ⟨.tuple #[.agg #[.int .i64 0, .int .i64 0, .int .i64 0, .int .i64 0, .int .i64 0], .int .i64 (ae : Nat), .int .i64 50], by simp [results, Tryd.results63, go_sem, z0, z1, z2, z3, z4, za, ze], HB9.out, rfl⟩
  · have HC1 := Lib.hid (endS_ok HC.out hR)
    clear hR HC
    show Calls Tryd.prog _ _ W fun e W' => FB lo W W' ∧ (s < ln → e = .returned (.tuple #[.agg #[.int .i64 0, .int .i64 0, .int .i64 0, .int .i64 0, .int .i64 0], .int .i64 (s : Nat), .int .i64 50])) ∧ (¬ s < ln → ∃ X y cs, e = .returned (.tuple #[.agg cs, .int .i64 0, .int .i64 0]) ∧ KP W' X y x ∧ Blk W' X cs 48 ∧ cs.size = 5 ∧ W.heap.size ≤ X ∧ X ≠ y)
    by_cases hsl : s < ln
    · skip
      have b0 : ((s : Int) < (ln : Int)) = True := eq_true (by omega)
      have b1 : (s < ln) = True := eq_true hsl
      go_enter_defers Tryd.func63, Tryd.ntmps63
      go_upto_region 1 with fail
      rw [← HXX.out.1, ← hW1, ← HXX.out.2.1, ← HXX.out.2.2.1, ← hW2, ← hW3]
      clear hW1 hW2 hW3
      go_upto_region 5 with fail
      rw [HS.out.2.2, ← hW4]
      clear hW4
      go_wp2_with (refine Calls.mono HC1.out ?_; rintro e W5 ⟨hF, rfl, ⟨v5, hy5, -, -, -⟩, -⟩; have q1 : W5.cell? ⟨y, 1, none⟩ = some (.int .i64 (s : Nat)) := cell_at hy5 1)
      clear hy5 q1
      have hx5 : ∃ cx, Blk W5 X cx 48 ∧ cx.size = 5 := by
        obtain ⟨c1, h1, h2, _⟩ := hF.blk X _ _ HKX.out (⟨HYY.out.1, by have := HXX.out.1; have := HLO.out; show lo ≤ X; omega⟩ : X ≠ y ∧ lo ≤ X)
        exact ⟨c1, h1, h2⟩
      obtain ⟨cx, hx5, hcn⟩ := hx5
      have ha5 := blk_keep HKA.out (⟨HYY.out.2.1, by have := HXX.out.1; have := HXX.out.2.1; have := HLO.out; omega⟩ : (eyeS y lo bs).Pr A 3) hF (fun j h => HDD.out.1 h.2.1.symm)
      have he5 := blk_keep HKE.out (⟨HYY.out.2.2, by have := HXX.out.1; have := HXX.out.2.1; have := HXX.out.2.2.1; have := HLO.out; omega⟩ : (eyeS y lo bs).Pr E 27) hF (fun j h => HDD.out.2.1 h.2.1.symm)
      have hb5 : FB lo W W5 := FB.of hF HB4.out HLO.out (by have := HXX.out.1; omega) (by have := HXX.out.1; have := HXX.out.2.1; have := HXX.out.2.2.1; have := HXX.out.2.2.2; omega)
      refine leaves_cons (f := 99) (args := #[.pointer (some ⟨X, 0, none⟩), .pointer (some ⟨A, 0, none⟩), .pointer (some ⟨E, 0, none⟩)]) (by simp) (by simp [go_sem]) ?_
      refine (catch_Answer W5 X A E cx 0 0 s hx5 ha5 he5 hcn HDD.out).mono ?_
      rintro e u' W9 ⟨rfl, rfl, hx9, ha9, he9, hf9⟩
      have HB9 := Lib.hid (FB.thenB hb5 (hf9.below (Nat.le_trans HB4.out.size hF.size) (by have := HXX.out.1; have := HXX.out.2.1; have := HXX.out.2.2.1; simp; omega)) HLO.out)
      have z0 : W9.cell? ⟨X, 0, none⟩ = some (.int .i64 0) := cell_at hx9 0
      have z1 : W9.cell? ⟨X, 1, none⟩ = some (.int .i64 0) := cell_at hx9 1
      have z2 : W9.cell? ⟨X, 2, none⟩ = some (.int .i64 0) := cell_at hx9 2
      have z3 : W9.cell? ⟨X, 3, none⟩ = some (.int .i64 0) := cell_at hx9 3
      have z4 : W9.cell? ⟨X, 4, none⟩ = some (.int .i64 0) := cell_at hx9 4
      have za : W9.cell? ⟨A, 0, none⟩ = some (.int .i64 (s : Nat)) := cell_at ha9 0
      have ze : W9.cell? ⟨E, 0, none⟩ = some (.int .i64 50) := cell_at he9 0
      clear hx9 ha9 he9 hf9 hb5
      exact ⟨.tuple #[.agg #[.int .i64 0, .int .i64 0, .int .i64 0, .int .i64 0, .int .i64 0], .int .i64 (s : Nat), .int .i64 50], by simp [results, Tryd.results63, go_sem, z0, z1, z2, z3, z4, za, ze], HB9.out, fun _ => rfl, fun h => absurd hsl h⟩
    · skip
      have b0 : ((s : Int) < (ln : Int)) = False := eq_false (by omega)
      have b1 : (s < ln) = False := eq_false hsl
      go_enter_defers Tryd.func63, Tryd.ntmps63
      go_upto_region 1 with fail
      rw [← HXX.out.1, ← hW1, ← HXX.out.2.1, ← HXX.out.2.2.1, ← hW2, ← hW3]
      clear hW1 hW2 hW3
      go_upto_region 5 with fail
      rw [HS.out.2.2, ← hW4]
      clear hW4
      go_wp2_with (refine Calls.mono HC1.out ?_; rintro e W5 ⟨hF, rfl, ⟨v5, hy5, -, -, -⟩, hkp⟩; have q1 : W5.cell? ⟨y, 1, none⟩ = some (.int .i64 (s : Nat)) := cell_at hy5 1; obtain ⟨cx, hx5, hcn, -⟩ := hF.blk X _ _ HKX.out (show X ≠ y ∧ lo ≤ X from ⟨HYY.out.1, by have := HXX.out.1; have := HLO.out; omega⟩); have hcn : cx.size = 5 := hcn; obtain ⟨c0, c1, c2, c3, c4, hcx⟩ := len5 (show cx.toList.length = 5 by simpa using hcn); obtain rfl : cx = #[c0, c1, c2, c3, c4] := (by apply Array.ext'; rw [hcx]); clear hcx hcn; have ha5 := blk_keep HKA.out (show A ≠ y ∧ lo ≤ A from ⟨HYY.out.2.1, by have := HLO.out; have := HXX.out.1; have := HXX.out.2.1; omega⟩) hF (fun j h => HDD.out.1 h.2.1.symm); have he5 := blk_keep HKE.out (show E ≠ y ∧ lo ≤ E from ⟨HYY.out.2.2, by have := HLO.out; have := HXX.out.1; have := HXX.out.2.1; have := HXX.out.2.2.1; omega⟩) hF (fun j h => HDD.out.2.1 h.2.1.symm); have x0 : W5.cell? ⟨X, 0, none⟩ = some c0 := cell_at hx5 0; have x1 : W5.cell? ⟨X, 1, none⟩ = some c1 := cell_at hx5 1; have x2 : W5.cell? ⟨X, 2, none⟩ = some c2 := cell_at hx5 2; have x3 : W5.cell? ⟨X, 3, none⟩ = some c3 := cell_at hx5 3; have x4 : W5.cell? ⟨X, 4, none⟩ = some c4 := cell_at hx5 4; have st0 : ∀ p m w, (store p c0 m).run Tryd.prog w = stored Tryd.prog w p c0 m := (fun p m w => run_store Tryd.prog w p c0 m (HONE.out W5 X y x _ hkp hx5 0 c0 (by decide) rfl)); have st1 : ∀ p m w, (store p c1 m).run Tryd.prog w = stored Tryd.prog w p c1 m := (fun p m w => run_store Tryd.prog w p c1 m (HONE.out W5 X y x _ hkp hx5 1 c1 (by decide) rfl)); have st2 : ∀ p m w, (store p c2 m).run Tryd.prog w = stored Tryd.prog w p c2 m := (fun p m w => run_store Tryd.prog w p c2 m (HONE.out W5 X y x _ hkp hx5 2 c2 (by decide) rfl)); have st3 : ∀ p m w, (store p c3 m).run Tryd.prog w = stored Tryd.prog w p c3 m := (fun p m w => run_store Tryd.prog w p c3 m (HONE.out W5 X y x _ hkp hx5 3 c3 (by decide) rfl)); have st4 : ∀ p m w, (store p c4 m).run Tryd.prog w = stored Tryd.prog w p c4 m := (fun p m w => run_store Tryd.prog w p c4 m (HONE.out W5 X y x _ hkp hx5 4 c4 (by decide) rfl)); have xf : ∀ j, W5.frozen? ⟨X, j, none⟩ = false := (fun j => free_at hx5 j); have xl : X < W5.heap.size := hx5.lt; have al : A < W5.heap.size := ha5.lt; have el : E < W5.heap.size := he5.lt; have af : W5.frozen? ⟨A, 0, none⟩ = false := free_at ha5 0; have ef : W5.frozen? ⟨E, 0, none⟩ = false := free_at he5 0; have a0 : W5.cell? ⟨A, 0, none⟩ = some (.int .i64 0) := cell_at ha5 0; have e0 : W5.cell? ⟨E, 0, none⟩ = some (.int .i64 0) := cell_at he5 0; have HF := Lib.hid hF; have HKP5 := Lib.hid hkp; have HX5 := Lib.hid hx5; have HA5 := Lib.hid ha5; have HE5 := Lib.hid he5; have nxa : X ≠ A := HDD.out.1; have nxe : X ≠ E := HDD.out.2.1; have nae : A ≠ E := HDD.out.2.2; clear hF hkp hx5 ha5 he5 hy5)
      obtain ⟨W6, hW6⟩ : ∃ Y, Y = ((((((W5.setCell ⟨X, 0, none⟩ c0).setCell ⟨X, 1, none⟩ c1).setCell ⟨X, 2, none⟩ c2).setCell ⟨X, 3, none⟩ c3).setCell ⟨X, 4, none⟩ c4).setCell ⟨A, 0, none⟩ (.int .i64 0)).setCell ⟨E, 0, none⟩ (.int .i64 0) := ⟨_, rfl⟩
      have hq : EqW W5 W6 := by rw [hW6]; exact ((((((((EqW.refl W5).set x0).set x1).set x2).set x3).set x4).set a0).set e0)
      rw [← hW6]
      have hx6 : Blk W6 X #[c0, c1, c2, c3, c4] 48 := (hq.heap X).trans HX5.out
      have ha6 : Blk W6 A #[.int .i64 0] 3 := (hq.heap A).trans HA5.out
      have he6 : Blk W6 E #[.int .i64 0] 27 := (hq.heap E).trans HE5.out
      have hs6 : W.heap.size ≤ W6.heap.size := Nat.le_trans HB4.out.size (Nat.le_trans HF.out.size (Nat.le_of_eq hq.size.symm))
      have hb6 : FB lo W W6 := (FB.of HF.out HB4.out HLO.out (by have := HXX.out.1; omega) (by have := HXX.out.1; have := HXX.out.2.1; have := HXX.out.2.2.1; have := HXX.out.2.2.2; omega)).thenB ⟨hq.os, hq.tape, hq.output, Nat.le_of_eq hq.size.symm, fun q _ => hq.heap q⟩ HLO.out
      have hk6 := HKP.out W5 W6 X y x (Nat.le_trans HB4.out.size HF.out.size) hq.frA HKP5.out
      have HR6 := Lib.hid (And.intro hx6 (And.intro ha6 (And.intro he6 (And.intro hb6 (And.intro hk6 hs6)))))
      clear hq hx6 ha6 he6 hb6 hk6 hs6 hW6 x0 st0 x1 st1 x2 st2 x3 st3 x4 st4 xf xl al el af ef a0 e0 q1 nxa nxe nae
      refine leaves_cons (f := 99) (args := #[.pointer (some ⟨X, 0, none⟩), .pointer (some ⟨A, 0, none⟩), .pointer (some ⟨E, 0, none⟩)]) (by simp) (by simp [go_sem]) ?_
      refine (idle_Answer W6 X A E).mono ?_
      rintro e u' W9 ⟨rfl, rfl, hB9⟩
      obtain ⟨hx6, ha6, he6, hb6, hk6, hs6⟩ := HR6.out
      have z0 : W9.cell? ⟨X, 0, none⟩ = some c0 := cell_at (hx6.step hB9) 0
      have z1 : W9.cell? ⟨X, 1, none⟩ = some c1 := cell_at (hx6.step hB9) 1
      have z2 : W9.cell? ⟨X, 2, none⟩ = some c2 := cell_at (hx6.step hB9) 2
      have z3 : W9.cell? ⟨X, 3, none⟩ = some c3 := cell_at (hx6.step hB9) 3
      have z4 : W9.cell? ⟨X, 4, none⟩ = some c4 := cell_at (hx6.step hB9) 4
      have za : W9.cell? ⟨A, 0, none⟩ = some (.int .i64 0) := cell_at (ha6.step hB9) 0
      have ze : W9.cell? ⟨E, 0, none⟩ = some (.int .i64 0) := cell_at (he6.step hB9) 0
      have hk9 := HKP.out W6 W9 X y x hs6 (below_frA hB9 (show lo ≤ _ from Nat.le_trans HLO.out hs6) (fun _ _ _ => False)) hk6
      have HEND := Lib.hid (And.intro (hb6.thenB (hB9.mono hs6) HLO.out) (And.intro hk9 (hx6.step hB9)))
      clear hx6 ha6 he6 hb6 hk6 hs6 hB9 hk9
      exact ⟨.tuple #[.agg #[c0, c1, c2, c3, c4], .int .i64 0, .int .i64 0], by simp [results, Tryd.results63, go_sem, z0, z1, z2, z3, z4, za, ze], HEND.out.1, fun h => absurd h hsl, fun _ => ⟨X, y, _, rfl, HEND.out.2.1, HEND.out.2.2, rfl, by have := HXX.out.1; omega, HYY.out.1⟩⟩
end Go.Proofs.YtiednacpmlilbaaDoor
