/-
  Rows of ints of the call's own: sorted, turned round; the library's two by their contracts.
-/
import Derived.Test.YtninhjeiialbjaaFw2
import Derived.Test.YtninhjeiialbjaaRg
import Derived.Test.YtninhjeiialbjaaShelf
import Derived.OwnWalkIn
import Derived.TacticsInMore
import Derived.LoopNIn
import Derived.LoopIn
import Derived.Maps.AppendAt
namespace Go.Proofs.Ytninhjeiialbjaa
open Go.RowKit
set_option linter.unusedSimpArgs false
set_option linter.unusedVariables false
open Go.Sort hiding Below Holds

def valsI (l : List Int) : List Value := l.map fun x => .int .i64 x

/-- what putting values into a row's block makes of the world -/
theorem put_row {w w' : World} {g q : Nat} {cur : Array Value} {d : Array Int} {os : Array Obj} (h : w.heap[g]? = some (.cells cur 3 (0, 0))) (hw : w' = grow (putRow (Value.int .i64) (Go.Sort.ahead w q) g 0 d) os) :
    w'.heap[g]? = some (.cells (putCells (Value.int .i64) 0 d cur) 3 (0, 0)) ∧ Fr [g] w w' := by
  subst hw
  have hlt := lt_of_block h
  have hm : ∀ k, (mapBlock (Go.Sort.ahead w q) g (putCells (Value.int .i64) 0 d)).heap[k]? = if g = k then (w.heap[k]?).map (onCells (putCells (Value.int .i64) 0 d)) else w.heap[k]? := fun k => by
    simp only [mapBlock, Go.Sort.ahead, Array.getElem?_modify]
  have hsz : (mapBlock (Go.Sort.ahead w q) g (putCells (Value.int .i64) 0 d)).heap.size = w.heap.size := by simp [mapBlock, Go.Sort.ahead]
  have hg : ∀ k, k < w.heap.size → (grow (putRow (Value.int .i64) (Go.Sort.ahead w q) g 0 d) os).heap[k]? = (mapBlock (Go.Sort.ahead w q) g (putCells (Value.int .i64) 0 d)).heap[k]? := fun k hk => by
    show ((mapBlock (Go.Sort.ahead w q) g (putCells (Value.int .i64) 0 d)).heap ++ os)[k]? = _
    rw [Array.getElem?_append_left (by rw [hsz]; exact hk)]
  refine ⟨?_, rfl, rfl, rfl, ?_, fun k hk hn => ?_⟩
  · rw [hg g hlt, hm, if_pos rfl, h]; rfl
  · show w.heap.size ≤ ((mapBlock (Go.Sort.ahead w q) g (putCells (Value.int .i64) 0 d)).heap ++ os).size
    rw [Array.size_append, hsz]; omega
  · rw [hg k hk, hm, if_neg (by simpa using fun e => hn (by simp [e]))]

theorem put_take (d : Array Int) (cur : Array Value) (h : d.size ≤ cur.size) : (putCells (Value.int .i64) 0 d cur).toList.take d.size = d.toList.map (Value.int .i64) := by
  apply List.ext_getElem?
  intro j
  rw [List.getElem?_take, List.getElem?_map, Array.getElem?_toList, Array.getElem?_toList]
  by_cases hj : j < d.size
  · rw [if_pos hj, putCells, Array.getElem?_mapIdx, Array.getElem?_eq_getElem (show j < cur.size by omega), Option.map_some, if_pos ⟨by omega, by omega⟩, Array.getElem?_eq_getElem hj]
    simp [getElem!_pos d j hj]
  · rw [if_neg hj, Array.getElem?_eq_none (by omega)]; rfl
theorem put_size (d : Array Int) (cur : Array Value) : (putCells (Value.int .i64) 0 d cur).size = cur.size := by simp [putCells]

/-- a row of ints holds them, in the library's words -/
theorem row_holds {w : World} {v : Value} {g n : Nat} {l : List Int} (h : Row w v (some g) 3 1 n (valsI l)) : Go.Sort.Holds (Value.int .i64) w g 0 l.toArray := by
  intro j hj
  have hl := h.len
  simp only [valsI, List.length_map] at hl
  simp only [List.size_toArray] at hj
  obtain ⟨g', e, hc, hf⟩ := h.cell j (by omega)
  obtain rfl := Option.some.inj e
  rw [Nat.zero_add]
  refine ⟨?_, hf⟩
  rw [hc]
  simp [valsI, List.getElem?_eq_getElem hj]

theorem put_back {w w' : World} {g cap : Nat} {l d : List Int} {q : Nat} {os : Array Obj} (h : Row w (.slice (some ⟨g, 0, none⟩) l.length cap) (some g) 3 1 l.length (valsI l)) (hd : d.length = l.length) (hw : w' = grow (putRow (Value.int .i64) (Go.Sort.ahead w q) g 0 d.toArray) os) :
    Row w' (.slice (some ⟨g, 0, none⟩) l.length cap) (some g) 3 1 l.length (valsI d) ∧ Fr [g] w w' := by
  rcases h.cases with ⟨e, _⟩ | ⟨g', cap', cur, e, e2, h3, h4, h5, h6, h7⟩
  · cases e
  · obtain rfl := Option.some.inj e
    injection e2 with _ _ e3
    subst e3
    obtain ⟨p1, p2⟩ := put_row h3 hw
    refine ⟨Row.mk p1 h4 h5 (by rw [put_size]; exact h6) ?_, p2⟩
    have := put_take d.toArray cur (by simp; omega)
    simp only [List.size_toArray] at this
    rw [← hd, Nat.mul_one, this]
    rfl

def sortedI (l : List Int) : List Int := l.mergeSort fun x y => decide (x ≤ y)

theorem sort_row {w : World} {g cap : Nat} {l : List Int} (h : Row w (.slice (some ⟨g, 0, none⟩) l.length cap) (some g) 3 1 l.length (valsI l)) (hl : l.length ≤ 4096) :
    Calls Try.prog 118 #[.slice (some ⟨g, 0, none⟩) l.length cap] w fun e w' => e = .returned (.tuple #[]) ∧ Row w' (.slice (some ⟨g, 0, none⟩) l.length cap) (some g) 3 1 l.length (valsI (sortedI l)) ∧ Fr [g] w w' := by
  refine (Try.slices_Sort_int g 0 cap l w (row_holds h) h.lt (by omega)).mono ?_
  rintro e w' ⟨rfl, n, os, hw⟩
  exact ⟨rfl, put_back h (List.length_mergeSort _) hw⟩
theorem reverse_row {w : World} {g cap : Nat} {l : List Int} (h : Row w (.slice (some ⟨g, 0, none⟩) l.length cap) (some g) 3 1 l.length (valsI l)) (hl : l.length ≤ 4096) :
    Calls Try.prog 113 #[.slice (some ⟨g, 0, none⟩) l.length cap] w fun e w' => e = .returned (.tuple #[]) ∧ Row w' (.slice (some ⟨g, 0, none⟩) l.length cap) (some g) 3 1 l.length (valsI l.reverse) ∧ Fr [g] w w' := by
  refine (Try.slices_Reverse_int g 0 cap l w (row_holds h) (by omega)).mono ?_
  rintro e w' ⟨rfl, n, hw⟩
  exact ⟨rfl, put_back (os := #[]) h (List.length_reverse) (by rw [grow_empty]; exact hw)⟩
end Go.Proofs.Ytninhjeiialbjaa
