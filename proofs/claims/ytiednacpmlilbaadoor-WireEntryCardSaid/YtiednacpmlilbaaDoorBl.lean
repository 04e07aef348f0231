/-
  A block of one call's own. Nothing here speaks of one program.
-/
import Derived.Deep.QuietTactic
import Derived.BigRegion
import Derived.BigQuiet
import Derived.RegionTactic
import Derived.Lib.Small
import Derived.Lib.Hide
import Derived.Test.YtiednacpmlilbaaDoorLib
namespace Go.Proofs.YtiednacpmlilbaaDoor
open Go.RowKit
set_option linter.unusedSimpArgs false
set_option linter.unusedVariables false

def Blk (W : World) (B : Nat) (cs : Array Value) (t : TypeId) : Prop := W.heap[B]? = some (.cells cs t (0, 0))
theorem Blk.lt {W : World} {B : Nat} {cs : Array Value} {t : TypeId} (h : Blk W B cs t) : B < W.heap.size := (Array.getElem?_eq_some_iff.1 h).1
theorem Blk.step {A B : World} {n : Nat} {c : Array Value} {t : TypeId} (h : Blk A n c t) (hB : Below A.heap.size A B) : Blk B n c t := (hB.block n h.lt).trans h
theorem Blk.ne {A : World} {n : Nat} {c : Array Value} {t : TypeId} (h : Blk A n c t) (p : Addr) (hp : n ≠ p.block) (u : Value) : Blk (A.setCell p u) n c t := (heap_setCell_ne _ _ _ _ hp).trans h
theorem Blk.set {A : World} {n : Nat} {c : Array Value} {t : TypeId} (h : Blk A n c t) (j : Nat) (u : Value) : Blk (A.setCell ⟨n, j, none⟩ u) n (c.setIfInBounds j u) t := heap_setCell_same h j u
theorem blk_new (A : World) (c : Array Value) (t : TypeId) : Blk (A.alloc (.cells c t)) A.heap.size c t := heap_alloc_new A _
theorem Blk.alloc {A : World} {n : Nat} {c : Array Value} {t : TypeId} (h : Blk A n c t) (o : Obj) : Blk (A.alloc o) n c t := (Below.heap_alloc _ _ _ h.lt).trans h
end Go.Proofs.YtiednacpmlilbaaDoor
