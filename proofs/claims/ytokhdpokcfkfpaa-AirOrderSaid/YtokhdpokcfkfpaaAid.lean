/-
  Rows of ints that grow.
-/
import Derived.Test.YtokhdpokcfkfpaaAi4
namespace Go.Proofs.Ytokhdpokcfkfpaa
open Go.RowKit
set_option linter.unusedSimpArgs false
set_option linter.unusedVariables false

section
variable {P : Program} (w : World)
theorem run_append_row_zero (t ty e : TypeId) (i : TypeInfo) (size : Nat) (ht : P.underlying t = some (.slice e)) (hi : P.info? e = some i) (v : Value) (ob : Option Nat) (n : Nat) (xs : List Value) (hrow : Row w v ob e size n xs) (ad : Option Addr) (c : Nat) :
    (Builtin.append_ #[t, t] ty #[v, .slice ad 0 c]).run P w = .ok v w := by
  cases ad with
  | none =>
    rcases hrow.cases with ⟨rfl, rfl, rfl, rfl⟩ | ⟨g, cap, cur, rfl, rfl, hg, hnc, hcm, hcs, htake⟩
    · simp [Builtin.append_, run_underlying ht, sizeOf, typeInfo, hi, Builtin.lenOf, Builtin.firstCells]
    · simp [Builtin.append_, run_underlying ht, sizeOf, typeInfo, hi, Builtin.lenOf, Builtin.firstCells, hnc, storeCells]
  | some a =>
    rcases hrow.cases with ⟨rfl, rfl, rfl, rfl⟩ | ⟨g, cap, cur, rfl, rfl, hg, hnc, hcm, hcs, htake⟩
    · simp [Builtin.append_, run_underlying ht, sizeOf, typeInfo, hi, Builtin.lenOf, Builtin.firstCells, loadCells, loadCellsFrom]
    · simp [Builtin.append_, run_underlying ht, sizeOf, typeInfo, hi, Builtin.lenOf, Builtin.firstCells, hnc, storeCells, loadCells, loadCellsFrom]
theorem wpList_append_row_zero {ops : Array Oper} {rest : List Oper} {o : Oper} {a : Act} {Q : Exit → Act → World → Prop} (hgd : o.guard = none) (s x : Operand) (t : TypeId)
    (ho : o.op = .call { callee := .builtin .append, args := #[s, x], argTypes := #[t, t] }) (e : TypeId) (i : TypeInfo) (size : Nat) (ht : P.underlying t = some (.slice e)) (hi : P.info? e = some i)
    (v : Value) (ob : Option Nat) (n : Nat) (xs : List Value) (hs : a.eval s = v) (hrow : Row w v ob e size n xs) (ad : Option Addr) (c : Nat) (hx : a.eval x = .slice ad 0 c)
    (h : wpList P ops Q rest (a.put o.dst v) w) : wpList P ops Q (o :: rest) a w := by
  refine wpList_plain hgd fun K hK => ?_
  have hrun := run_append_row_zero (P := P) w t o.type e i size ht hi v ob n xs hrow ad c
  unfold Oper.wp execOp
  simp only [ho, resolve, invoke, builtin, Sem.run_bind, Sem.run_pure, Result.andThen_ok, List.map_toArray, List.map_cons, List.map_nil, hs, hx, hrun]
  exact hK _ _ h
end

def iL (X : List Int) : List Value := X.map (.int .i64)
theorem iL_len (X : List Int) : (iL X).length = X.length := by simp [iL]
theorem iL_append (X Y : List Int) : iL (X ++ Y) = iL X ++ iL Y := by simp [iL]
theorem iL_one (X : List Int) : ∀ u ∈ iL X, u.oneCell' = true := by
  intro u hu
  simp only [iL, List.mem_map] at hu
  obtain ⟨j, _, rfl⟩ := hu
  rfl
theorem iL_at (X : List Int) (j : Nat) (u : Value) (h : (iL X)[j]? = some u) : ∃ y, X[j]? = some y ∧ u = .int .i64 y := by
  simp only [iL, List.getElem?_map, Option.map_eq_some_iff] at h
  obtain ⟨y, h1, h2⟩ := h
  exact ⟨y, h1, h2.symm⟩
def RowI (W : World) (v : Value) (ob : Option Nat) (X : List Int) : Prop := Row W v ob 3 1 X.length (iL X)
theorem RowI.nil (W : World) : RowI W (.slice none 0 0) none [] := Row.nil _ _ _
theorem RowI.congr {W W' : World} {v : Value} {ob : Option Nat} {X : List Int} (h : RowI W v ob X) (hh : ∀ x, ob = some x → W'.heap[x]? = W.heap[x]?) : RowI W' v ob X := Row.congr h hh
theorem RowI.shape {W : World} {v : Value} {ob : Option Nat} {X : List Int} (h : RowI W v ob X) : ∃ c, v = .slice (ob.map (fun g => ⟨g, 0, none⟩)) X.length c ∧ X.length ≤ c ∧ c ≤ maxLen := by
  obtain ⟨a, c, rfl, h1, h2, rfl⟩ := Row.shape h
  exact ⟨c, rfl, h1, h2⟩
theorem RowI.cell {W : World} {v : Value} {ob : Option Nat} {X : List Int} (h : RowI W v ob X) (j : Nat) (y : Int) (hj : X[j]? = some y) : ∃ g, ob = some g ∧ W.cell? ⟨g, j, none⟩ = some (.int .i64 y) := by
  have hl := (List.getElem?_eq_some_iff.1 hj).1
  obtain ⟨g, e, q, _⟩ := Row.cell h j (by omega)
  exact ⟨g, e, by rw [q]; simp [iL, hj]⟩
theorem RowI.lt {W : World} {v : Value} {X : List Int} {g : Nat} (h : RowI W v (some g) X) : g < W.heap.size := Row.lt h
theorem infoI : (Try.prog.info? 3).map (fun i => (i.zero, i.size, i.bytes)) = some (some (.int .i64 0), 1, 8) := by kernel_rfl

theorem wpList_append_ints {ops : Array Oper} {rest : List Oper} {o : Oper} {a : Act} {Q : Exit → Act → World → Prop} (w : World) (hgd : o.guard = none) (s x : Operand)
    (ho : o.op = .call { callee := .builtin .append, args := #[s, x], argTypes := #[49, 49] }) (v : Value) (ob : Option Nat) (X1 X2 : List Int) (hs : a.eval s = v) (h1 : RowI w v ob X1)
    (xa : Option Addr) (n2 c r og : Nat) (hn2 : n2 = X2.length) (hx : a.eval x = .slice xa n2 c) (ha : 0 < X2.length → xa = some ⟨r, og, none⟩) (hc : ∀ j y, X2[j]? = some y → w.cell? ⟨r, og + j, none⟩ = some (.int .i64 y)) (hn : X1.length + X2.length ≤ 1000)
    (h : ∀ v' ob' W', RowI W' v' ob' (X1 ++ X2) → Fr ob.toList w W' → (∀ y, ob' = some y → ob = some y ∨ w.heap.size ≤ y) → wpList Try.prog ops Q rest (a.put o.dst v') W') : wpList Try.prog ops Q (o :: rest) a w := by
  subst hn2
  obtain ⟨i0, hi, hz0, hz1, hz2⟩ := info_parts infoI
  by_cases h0 : X2.length = 0
  · obtain rfl : X2 = [] := List.eq_nil_of_length_eq_zero h0
    refine wpList_append_row_zero _ hgd s x 49 ho 3 i0 1 Try.underlying49 hi _ ob X1.length (iL X1) hs h1 xa c hx ?_
    exact h v ob w (by rw [List.append_nil]; exact h1) (Fr.refl _ _) (fun y e => .inl e)
  · obtain rfl := ha (by omega)
    refine wpList_append_row _ hgd s x 49 ho 3 i0 _ 1 8 Try.underlying49 hi hz0 hz1 hz2 rfl (by decide) _ ob X1.length (iL X1) hs h1 ⟨r, og, none⟩ X2.length c (iL X2) hx (by omega) (by rw [iL_len, Nat.mul_one]) ?c1 (iL_one X2) ?c3 ?c4 ?_
    case c1 =>
      intro j u hu
      obtain ⟨y, hy, rfl⟩ := iL_at X2 j u hu
      have e : (⟨r, og, none⟩ : Addr).add j = ⟨r, og + j, none⟩ := by unfold Addr.add; split <;> simp_all
      rw [e]
      exact hc j y hy
    case c3 => unfold maxLen; omega
    case c4 => omega
    intro v' ob' W3 hrow3 hg3 hob3
    refine h v' (some ob') W3 ?_ ?_ ?_
    · unfold RowI
      rw [iL_append, List.length_append]
      exact hrow3
    · exact (Fr.refl _ _).grown hg3 (fun k e => .inl (by simp [e]))
    · intro y e
      obtain rfl := Option.some.inj e
      rcases hob3 with q | q
      · exact .inl q
      · exact .inr (Nat.le_of_eq q.symm)
end Go.Proofs.Ytokhdpokcfkfpaa
