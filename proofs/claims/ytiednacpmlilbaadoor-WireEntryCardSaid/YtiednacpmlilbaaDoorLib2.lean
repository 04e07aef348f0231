/-
  append to a row of the call's own, inside a region that draws its order; and what the row's frame says of other blocks. Nothing here speaks of one program.
-/
import Derived.Test.YtiednacpmlilbaaDoorLib
import Derived.Deep.RegionLaw
namespace Go.Proofs.YtiednacpmlilbaaDoor
open Go.RowKit
set_option linter.unusedSimpArgs false
set_option linter.unusedVariables false

theorem step_append_row {P : Program} {ops : Array Oper} {o : Oper} {a : Act} {w : World} {K : Act → World → Prop} {Q : Exit → Act → World → Prop} {X : Prop} (hgd : o.guard = none) (s x : Operand) (t : TypeId)
    (ho : o.op = .call { callee := .builtin .append, args := #[s, x], argTypes := #[t, t] })
    (e : TypeId) (i : TypeInfo) (z : Value) (size bytes : Nat) (ht : P.underlying t = some (.slice e)) (hi : P.info? e = some i) (hz : i.zero = some z)
    (hsize : i.size = size) (hby : i.bytes = bytes) (hzs : z.cells.size = size) (hsz : 0 < size)
    (v : Value) (ob : Option Nat) (n : Nat) (xs : List Value) (hs : a.eval s = v) (hrow : Row w v ob e size n xs)
    (ad : Addr) (m c : Nat) (news : List Value) (hx : a.eval x = .slice (some ad) m c) (hm : 0 < m) (hl : news.length = m * size) (hnews : ∀ j u, news[j]? = some u → w.cell? (ad.add j) = some u) (h1 : ∀ u ∈ news, u.oneCell' = true)
    (h63 : n + m ≤ maxLen) (hbytes : (n + m) * bytes ≤ 140737488355328)
    (hK : ∀ v' ob' w', Row w' v' (some ob') e size (n + m) (xs ++ news) → w.grownBy w' ob → (ob = some ob' ∨ ob' = w.heap.size) → K (a.put o.dst v') w') :
    if Region.wanted o (yielded ops a.tmps) = true then Oper.wp P o a w K Q else X := by
  have hw : Region.wanted o (yielded ops a.tmps) = true := by simp [Region.wanted, hgd]
  rw [if_pos hw]
  obtain ⟨v', ob', w', hr, h2, h3, h4⟩ := run_append_row (P := P) w t o.type e i z size bytes ht hi hz hsize hby hzs hsz v ob n xs hrow ad m c news hm hl hnews h1 h63 hbytes
  unfold Oper.wp execOp
  simp only [ho, resolve, invoke, builtin, Sem.run_bind, Sem.run_pure, Result.andThen_ok, List.map_toArray, List.map_cons, List.map_nil, hs, hx, hr]
  exact hK _ _ _ h2 h3 h4

/-- what a growth of one row leaves of other blocks -/
theorem grown_other {w w' : World} {ob : Option Nat} {k : Nat} {o : Obj} (h : w.grownBy w' ob) (hk : w.heap[k]? = some o) (hn : ob ≠ some k) : w'.heap[k]? = some o :=
  (h.block k (by have := (Array.getElem?_eq_some_iff.1 hk).1; exact this) (fun e => hn e.symm)).trans hk

theorem bcell {W w1 : World} (hb : Below W.heap.size W w1) : (∀ b o, b < W.heap.size → w1.cell? ⟨b, o, none⟩ = W.cell? ⟨b, o, none⟩) ∧ (∀ b o, b < W.heap.size → w1.frozen? ⟨b, o, none⟩ = W.frozen? ⟨b, o, none⟩) ∧
    (∀ b, b < W.heap.size → (b = w1.heap.size) = False) ∧ (∀ b, b < W.heap.size → (w1.heap.size = b) = False) ∧ (∀ b, b < W.heap.size → (b < w1.heap.size) = True) :=
  ⟨fun b o h => hb.cell (p := ⟨b, o, none⟩) h, fun b o h => hb.frozen (p := ⟨b, o, none⟩) h, fun b h => eq_false (by have := hb.size; omega), fun b h => eq_false (by have := hb.size; omega), fun b h => eq_true (by have := hb.size; omega)⟩

theorem below_undrew {w X : World} (h : Below w.drew.heap.size w.drew X) : Below w.heap.size w X := ⟨h.os, h.tape, h.output, h.size, h.block⟩

/-- what lies in one new block, in each of two, of three, behind a call that leaves them -/
def Holds (X : World) (n : Nat) (c : Array Value) : Prop := (∀ j, X.cell? ⟨n, j, none⟩ = c[j]?) ∧ (∀ j, X.frozen? ⟨n, j, none⟩ = false) ∧ n < X.heap.size
theorem holds_of {Y X : World} {n : Nat} {c : Array Value} {t : TypeId} (h : Below Y.heap.size Y X) (hY : Y.heap[n]? = some (.cells c t (0, 0))) : Holds X n c := by
  have hlt : n < Y.heap.size := (Array.getElem?_eq_some_iff.1 hY).1
  have hX := (h.block n hlt).trans hY
  exact ⟨fun j => cell_at hX j, fun j => free_at hX j, by have := h.size; omega⟩
theorem tw1 {A X : World} {n : Nat} {c1 : Array Value} {t1 : TypeId} (h : Below (A.alloc (.cells c1 t1)).heap.size (A.alloc (.cells c1 t1)) X) (hn : A.heap.size = n) : Holds X n c1 :=
  holds_of h (by rw [← hn]; exact heap_alloc_new A _)
theorem tw2 {A X : World} {n : Nat} {c1 c2 : Array Value} {t1 t2 : TypeId} (h : Below ((A.alloc (.cells c1 t1)).alloc (.cells c2 t2)).heap.size ((A.alloc (.cells c1 t1)).alloc (.cells c2 t2)) X) (hn : A.heap.size = n) : Holds X n c1 ∧ Holds X (n + 1) c2 :=
  ⟨holds_of h (by rw [← hn, Below.heap_alloc _ _ _ (by simp)]; exact heap_alloc_new A _), holds_of h (by rw [← hn, ← World.size_alloc A (.cells c1 t1)]; exact heap_alloc_new _ _)⟩
theorem tw3 {A X : World} {n : Nat} {c1 c2 c3 : Array Value} {t1 t2 t3 : TypeId} (h : Below (((A.alloc (.cells c1 t1)).alloc (.cells c2 t2)).alloc (.cells c3 t3)).heap.size (((A.alloc (.cells c1 t1)).alloc (.cells c2 t2)).alloc (.cells c3 t3)) X) (hn : A.heap.size = n) : Holds X n c1 ∧ Holds X (n + 1) c2 ∧ Holds X (n + 1 + 1) c3 :=
  ⟨holds_of h (by rw [← hn, Below.heap_alloc _ _ _ (by simp; omega), Below.heap_alloc _ _ _ (by simp)]; exact heap_alloc_new A _), holds_of h (by rw [← hn, Below.heap_alloc _ _ _ (by simp), ← World.size_alloc A (.cells c1 t1)]; exact heap_alloc_new _ _),
    holds_of h (by rw [← hn, ← World.size_alloc A (.cells c1 t1), ← World.size_alloc _ (.cells c2 t2)]; exact heap_alloc_new _ _)⟩
end Go.Proofs.YtiednacpmlilbaaDoor
