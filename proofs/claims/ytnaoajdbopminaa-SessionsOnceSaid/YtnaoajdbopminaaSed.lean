/-
  Rows of numbers; keys of two numbers; the last bits of a number.
-/
import Derived.ChangeKeysEq
import Derived.Test.YtnaoajdbopminaaSec
namespace Go.Proofs.Ytnaoajdbopminaa
open Go.RowKit
set_option linter.unusedSimpArgs false
set_option linter.unusedVariables false

/-- Numbers that came in. -/
structure IntsIn (W : World) (a : Option Addr) (len cap : Nat) (b o : Nat) (T : Nat → Int) : Prop where
  le : len ≤ cap
  max : cap ≤ maxLen
  at_ : 0 < len → a = some ⟨b, o, none⟩ ∧ b < W.heap.size
  cell : ∀ k, k < len → W.cell? ⟨b, o + k, none⟩ = some (.int .i64 (T k))
  bd : ∀ k, k < len → -9223372036854775808 ≤ T k ∧ T k ≤ 9223372036854775807

theorem ints_cells (W : World) {a : Option Addr} {len cap : Nat} {xs : List Dt} (h : SliceFits Try.prog W 3 a len cap xs) : ∃ (b o : Nat) (T : Nat → Int), IntsIn W a len cap b o T := by
  have hc : Try.prog.cellsOf 3 = 1 := by kernel_rfl
  obtain ⟨b, o, h1, h2⟩ := h.spot (by rw [hc]; omega)
  have hex : ∀ k, ∃ q : Int, k < len → W.cell? ⟨b, o + k, none⟩ = some (.int .i64 q) ∧ -9223372036854775808 ≤ q ∧ q ≤ 9223372036854775807 := fun k => by
    by_cases hk : k < len
    · have hl := h.length
      have hx := List.getElem?_eq_getElem (l := xs) (i := k) (by omega)
      obtain ⟨n0, e0, g0⟩ := (h.each k _ hx).1.int_inv Try.underlying3
      have hcell := h2 k _ hx
      rw [e0, hc] at hcell
      exact ⟨n0, fun _ => ⟨by have := hcell 0 _ rfl; rwa [Nat.mul_one] at this, g0.1, g0.2⟩⟩
    · exact ⟨0, fun h => absurd h hk⟩
  have hg := fun k => Classical.choose_spec (hex k)
  exact ⟨b, o, fun k => Classical.choose (hex k), h.le, h.max, h1, fun k hk => (hg k hk).1, fun k hk => (hg k hk).2⟩

theorem IntsIn.below {W W' : World} {a : Option Addr} {len cap b o : Nat} {T : Nat → Int} (h : IntsIn W a len cap b o T) (hB : Below W.heap.size W W') : IntsIn W' a len cap b o T :=
  ⟨h.le, h.max, fun hk => ⟨(h.at_ hk).1, by have := (h.at_ hk).2; have := hB.size; omega⟩, fun k hk => (hB.cell (p := ⟨b, _, none⟩) (h.at_ (by omega)).2).trans (h.cell k hk), h.bd⟩

theorem and_low (v : Int) (m : Nat) (hm : m < 9) : 0 ≤ bits .and .i64 v m ∧ bits .and .i64 v m ≤ m := by
  have h : bits .and .i64 v m = IntKind.i64.wrap (((BitVec.ofInt 64 v).toNat &&& m : Nat) : Int) := by
    show IntKind.i64.wrap ((BitVec.ofInt 64 v &&& BitVec.ofInt 64 (m : Int)).toNat : Int) = _
    rw [BitVec.toNat_and]
    have : (BitVec.ofInt 64 (m : Int)).toNat = m := by rw [BitVec.ofInt_natCast, BitVec.toNat_ofNat]; omega
    rw [this]
  have h2 : (BitVec.ofInt 64 v).toNat &&& m ≤ m := Nat.and_le_right
  rw [h, IntKind.wrap_i64]
  omega

theorem key_pair : KeyK Try.prog 86 (.array 2 3) fun p : Int × Int => Value.agg #[.int .i64 p.1, .int .i64 p.2] where
  under := by kernel_rfl
  check em x w := by
    show (Instr.checkKey em (9998 + 1 + 1) _ _).run _ w = _
    have hu : Try.prog.underlying 86 = some (.array 2 3) := by kernel_rfl
    have hi : Try.prog.underlying 3 = some (.int .i64) := by kernel_rfl
    obtain ⟨i0, hi0⟩ : ∃ i, Try.prog.info? 3 = some i := by
      cases h : Try.prog.info? 3 with
      | none => have : (Try.prog.info? 3).isSome = true := by kernel_rfl
                rw [h] at this; cases this
      | some i => exact ⟨i, rfl⟩
    have hc : Try.prog.cellsOf 3 = 1 := by kernel_rfl
    have h1 : ∀ (a : Int) w, (Instr.checkKey em (9998 + 1) 3 (.int .i64 a)).run Try.prog w = .ok () w := fun a w => by
      unfold Instr.checkKey
      simp [Sem.run_bind, run_underlying hi, Result.andThen]
    have h2 : ∀ w, (part 3 #[.int .i64 x.1, .int .i64 x.2] 0).run Try.prog w = .ok (.int .i64 x.1) w := fun w => by simp [part, go_sem]
    have h3 : ∀ w, (part 3 #[.int .i64 x.1, .int .i64 x.2] 1).run Try.prog w = .ok (.int .i64 x.2) w := fun w => by simp [part, go_sem]
    unfold Instr.checkKey
    simp only [Sem.run_bind, run_underlying hu, Result.andThen_ok]
    simp only [Std.Legacy.Range.forIn_eq_forIn_range', Std.Legacy.Range.size, Nat.sub_zero, Nat.add_one_sub_one, Nat.div_one]
    simp [List.range', h1, h2, h3, run_sizeOf w hi0, hc, Result.andThen]
  eq x y w := by
    show (Op.equalIn (9998 + 1 + 1) _ _ _).run _ w = _
    obtain ⟨i0, hi0⟩ : ∃ i, Try.prog.info? 3 = some i := by
      cases h : Try.prog.info? 3 with
      | none => have : (Try.prog.info? 3).isSome = true := by kernel_rfl
                rw [h] at this; cases this
      | some i => exact ⟨i, rfl⟩
    have hc : Try.prog.cellsOf 3 = 1 := by kernel_rfl
    rw [run_equalIn_array (n := 2) w (9998 + 1) _ _ (by kernel_rfl) hi0, hc]
    have e1 : ∀ a b : Int, (Op.equalIn 9999 3 (.int .i64 a) (.int .i64 b)).run Try.prog w = .ok (a == b) w := fun a b => run_equalIn_int w 9998 _ .i64 .i64 a b (by kernel_rfl)
    obtain ⟨a, b⟩ := x
    obtain ⟨c, d⟩ := y
    cases h1 : a == c <;> cases h2 : b == d <;> (simp at h1 h2; simp [List.range, List.range.loop, Op.eqItems, part, e1, h1, h2, go_sem])
  now := .inr fun _ _ => rfl
  bits x := by
    show Instr.sameBits (9998 + 1 + 1) _ _ = true
    simp [Instr.sameBits]
end Go.Proofs.Ytnaoajdbopminaa
