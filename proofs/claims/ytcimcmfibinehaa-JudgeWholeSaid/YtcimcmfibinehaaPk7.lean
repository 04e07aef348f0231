/-
  Rows of bytes that grow; slices.Clone of bytes.
-/
import Derived.Laws.OwnMore
import Derived.Test.YtcimcmfibinehaaPk6
namespace Go.Proofs.Ytcimcmfibinehaa
open Go.RowKit
set_option linter.unusedSimpArgs false
set_option linter.unusedVariables false

section
variable {P : Program} (w : World)
theorem run_append_row_zero (t ty e : TypeId) (i : TypeInfo) (size : Nat) (ht : P.underlying t = some (.slice e)) (hi : P.info? e = some i) (v : Value) (ob : Option Nat) (n : Nat) (xs : List Value) (hrow : Row w v ob e size n xs) (ad : Option Addr) (c : Nat) :
    (Builtin.append_ #[t, t] ty #[v, .slice ad 0 c]).run P w = .ok v w := by
  cases ad with
  | none =>
    rcases hrow.cases with ⟨rfl, rfl, rfl, rfl⟩ | ⟨g, cap, cur, rfl, rfl, hg, hnc, hcm, hcs, htake⟩
    · simp [Builtin.append_, run_underlying ht, sizeOf, typeInfo, hi, Builtin.lenOf, Builtin.firstCells]
    · simp [Builtin.append_, run_underlying ht, sizeOf, typeInfo, hi, Builtin.lenOf, Builtin.firstCells, hnc, storeCells]
  | some a =>
    rcases hrow.cases with ⟨rfl, rfl, rfl, rfl⟩ | ⟨g, cap, cur, rfl, rfl, hg, hnc, hcm, hcs, htake⟩
    · simp [Builtin.append_, run_underlying ht, sizeOf, typeInfo, hi, Builtin.lenOf, Builtin.firstCells, loadCells, loadCellsFrom]
    · simp [Builtin.append_, run_underlying ht, sizeOf, typeInfo, hi, Builtin.lenOf, Builtin.firstCells, hnc, storeCells, loadCells, loadCellsFrom]
theorem wpList_append_row_zero {ops : Array Oper} {rest : List Oper} {o : Oper} {a : Act} {Q : Exit → Act → World → Prop} (hgd : o.guard = none) (s x : Operand) (t : TypeId)
    (ho : o.op = .call { callee := .builtin .append, args := #[s, x], argTypes := #[t, t] }) (e : TypeId) (i : TypeInfo) (size : Nat) (ht : P.underlying t = some (.slice e)) (hi : P.info? e = some i)
    (v : Value) (ob : Option Nat) (n : Nat) (xs : List Value) (hs : a.eval s = v) (hrow : Row w v ob e size n xs) (ad : Option Addr) (c : Nat) (hx : a.eval x = .slice ad 0 c)
    (h : wpList P ops Q rest (a.put o.dst v) w) : wpList P ops Q (o :: rest) a w := by
  refine wpList_plain hgd fun K hK => ?_
  have hrun := run_append_row_zero (P := P) w t o.type e i size ht hi v ob n xs hrow ad c
  unfold Oper.wp execOp
  simp only [ho, resolve, invoke, builtin, Sem.run_bind, Sem.run_pure, Result.andThen_ok, List.map_toArray, List.map_cons, List.map_nil, hs, hx, hrun]
  exact hK _ _ h
end

/-- some bytes, and more of them -/
def putB (Y : Nat → Nat) (n : Nat) (X : Nat → Nat) (j : Nat) : Nat := if j < n then Y j else X (j - n)
def rowV (Y : Nat → Nat) (n : Nat) : List Value := (List.range n).map fun j => .int .u8 (Y j : Nat)
theorem rowV_len (Y : Nat → Nat) (n : Nat) : (rowV Y n).length = n := by simp [rowV]
theorem rowV_at (Y : Nat → Nat) (n j : Nat) (h : j < n) : (rowV Y n)[j]? = some (.int .u8 (Y j : Nat)) := by simp [rowV, h]
theorem rowV_put (Y X : Nat → Nat) (n m : Nat) : rowV (putB Y n X) (n + m) = rowV Y n ++ rowV X m := by
  refine List.ext_getElem? fun j => ?_
  rw [List.getElem?_append, rowV_len]
  by_cases h : j < n
  · rw [if_pos h, rowV_at _ _ _ (by omega), rowV_at _ _ _ h, putB, if_pos h]
  · rw [if_neg h]
    by_cases h2 : j < n + m
    · rw [rowV_at _ _ _ h2, rowV_at _ _ _ (by omega), putB, if_neg h]
    · rw [List.getElem?_eq_none (by rw [rowV_len]; omega), List.getElem?_eq_none (by rw [rowV_len]; omega)]
theorem infoU8' : (Try.prog.info? 5).map (fun i => (i.zero, i.size, i.bytes)) = some (some (.int .u8 0), 1, 1) := by kernel_rfl
theorem rowV_one (Y : Nat → Nat) (n : Nat) : ∀ u ∈ rowV Y n, u.oneCell' = true := by
  intro u hu
  simp only [rowV, List.mem_map] at hu
  obtain ⟨j, _, rfl⟩ := hu
  rfl
theorem addr_add (b o j : Nat) : (⟨b, o, none⟩ : Addr).add j = ⟨b, o + j, none⟩ := by
  unfold Addr.add
  split <;> simp_all
theorem row_by {W : World} {v : Value} {ob : Option Nat} {n : Nat} {Y : Nat → Nat} (h : Row W v ob 5 1 n (rowV Y n)) (hY : ∀ j, Y j < 256) : ∃ a cap, v = .slice a n cap ∧ ByIn W a n cap (ob.getD 0) 0 Y := by
  obtain ⟨a, cap, rfl, h1, h2, h3⟩ := h.shape
  refine ⟨a, cap, rfl, h1, h2, fun hn => ?_, fun k hk => ?_, hY⟩
  · obtain ⟨g, hg, hc, _⟩ := h.cell 0 (by omega)
    subst hg
    exact ⟨h3, h.lt⟩
  · obtain ⟨g, hg, hc, _⟩ := h.cell k (by omega)
    subst hg
    rw [Nat.zero_add, Option.getD_some, hc, rowV_at Y n k hk]


set_option maxRecDepth 100000 in
set_option maxHeartbeats 4000000 in
theorem clone_any (a : Option Addr) (n c b o : Nat) (X : Nat → Nat) (w : World) (h1 : ByIn w a n c b o X) (hn5 : n ≤ 5000) :
    Calls Try.prog 26 #[.slice a n c] w fun e w' => ∃ a' c' b', e = .returned (.slice a' n c') ∧ ByIn w' a' n c' b' 0 X ∧ (0 < n → w.heap.size ≤ b') ∧ Below w.heap.size w w' := by
  obtain ⟨i0, hi, hz0, hz1, hz2⟩ := info_parts infoU8'
  have HI := Lib.hid hi
  have HZ0 := Lib.hid hz0
  have HZ1 := Lib.hid hz1
  have HZ2 := Lib.hid hz2
  have hm := h1.max
  have hl := h1.le
  unfold maxLen at hm
  have HA := Lib.hid h1
  clear h1 hi hz0 hz1 hz2
  cases a with
  | none =>
    obtain rfl : n = 0 := by
      rcases Nat.eq_zero_or_pos n with h | h
      · exact h
      · exact absurd (HA.out.at_ h).1 (by simp)
    have hnil : ∀ W, (binOp .eql 26 (.slice none 0 c) (.slice none 0 0)).run Try.prog W = .ok (.bool true) W := fun _ => rfl
    go_enter Try.func26, Try.ntmps26
    go_wp2_with fail
    go_ret
    exact ⟨none, 0, 0, rfl, ⟨Nat.le_refl _, by unfold maxLen; omega, fun h => by omega, fun k hk => by omega, HA.out.bd⟩, (fun h => by omega), Below.refl _ _⟩
  | some p =>
    have hnil : ∀ W, (binOp .eql 26 (.slice (some p) n c) (.slice none 0 0)).run Try.prog W = .ok (.bool false) W := fun _ => rfl
    go_enter Try.func26, Try.ntmps26
    have HR0 : Hid (Row (w.alloc (.cells #[] 5)) (.slice (some ⟨w.heap.size, 0, none⟩) 0 0) (some w.heap.size) 5 1 0 (rowV X 0)) := Lib.hid (Row.mk (heap_alloc_new w _) (Nat.le_refl _) (by unfold maxLen; omega) rfl rfl)
    have HB0 : Hid (Below w.heap.size w (w.alloc (.cells #[] 5))) := Lib.hid ((Below.refl _ _).alloc (Nat.le_refl _) _)
    have hbd := HA.out.bd
    by_cases h0 : n = 0
    · subst h0
      go_wp2_with (at_builtin; refine wpList_append_row_zero _ rfl (.tmp 5) (.tmp 6) 26 rfl 5 i0 1 Try.underlying26 HI.out _ _ 0 _ rfl HR0.out (some p) c rfl ?_)
      go_wp2_with fail
      go_ret
      exact ⟨_, _, 0, rfl, ⟨Nat.le_refl _, by unfold maxLen; omega, fun h => by omega, fun k hk => by omega, HA.out.bd⟩, (fun h => by omega), HB0.out⟩
    · obtain ⟨e0, e1⟩ := HA.out.at_ (by omega)
      obtain rfl : p = ⟨b, o, none⟩ := Option.some.inj e0
      have hb8 : (0 + (n : Int)) * 1 ≤ 140737488355328 := by omega
      go_wp2_with (at_builtin; refine wpList_append_row _ rfl (.tmp 5) (.tmp 6) 26 rfl 5 i0 _ 1 1 Try.underlying26 HI.out HZ0.out HZ1.out HZ2.out rfl (by decide) _ _ 0 (rowV X 0) rfl HR0.out ⟨b, o, none⟩ n c (rowV X n) rfl (by omega) (by rw [rowV_len, Nat.mul_one]) ?c1 (rowV_one X n) ?c3 ?c4 ?_)
      case c1 =>
        intro j u hu
        have hj : j < n := by have := (List.getElem?_eq_some_iff.1 hu).1; rwa [rowV_len] at this
        rw [rowV_at X n j hj] at hu
        obtain rfl := Option.some.inj hu
        exact HA.out.cell j hj
      case c3 => unfold maxLen; omega
      case c4 => omega
      intro v' ob' W3 hrow3 hg3 hob3
      have hB3 : Below w.heap.size w W3 := HB0.out.grown hg3 (by simp) (fun g e => by obtain rfl := Option.some.inj e; exact Nat.le_refl _)
      have hrow4 : Row W3 v' (some ob') 5 1 n (rowV X n) := by
        first | exact hrow3 | (rw [Nat.zero_add] at hrow3; exact hrow3)
      obtain ⟨a', c', rfl, hby⟩ := row_by hrow4 hbd
      have HBY := Lib.hid hby
      have HB3 := Lib.hid hB3
      have HOB : Hid (w.heap.size ≤ ob') := Lib.hid (by
        rcases hob3 with h | h
        · exact Nat.le_of_eq (by first | exact h | exact Option.some.inj h)
        · rw [h]; simp)
      clear hrow3 hg3 hob3 hrow4 hby hB3
      go_wp2_with fail
      go_ret
      exact ⟨a', c', _, rfl, HBY.out, (fun _ => HOB.out), HB3.out⟩
end Go.Proofs.Ytcimcmfibinehaa
