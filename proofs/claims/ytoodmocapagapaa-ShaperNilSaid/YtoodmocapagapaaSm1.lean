/-
  Texts of this claim, put together: Lib, Lib2, Dt, Jd1, Bl, Jd2, Pk1, Lz, Pk2, Pk3, Pk4, Pk5, Pk6, Pk7, Ff1, Pk8, Pk9, Pka, Vu, Vu2, Vu3, Vup, Vu4, Vu5, Vu6, Vu7, Pkb, Ff2, Ff3, Ff4.
-/
import Derived.WalkKit
import Derived.WalkSpells
import Derived.WalkLawsBesides
import Derived.Deep.RegionLaw
import Derived.Test.YtoodmocapagapaaRows
import Derived.Below
import Derived.Deep.Slices
import Derived.ChangeSame
import Derived.Deep.Fields
import Derived.SizedLaws
import Derived.Deep.QuietTactic
import Derived.BigRegion
import Derived.BigQuiet
import Derived.RegionTactic
import Derived.Lib.Small
import Derived.Lib.Hide
import Derived.Laws.OwnMore
import Derived.RangeFuncNested
import Derived.RangeFuncBound
import Derived.RangeFuncCalls
import Derived.RangeFuncLeaves
import Derived.RangeFuncBox
import Derived.Shelf.Abstract
import Derived.Shelf.RegionOpen
import Derived.OwnWalkIn
import Derived.TacticsInMore
import Derived.LoopNIn
import Derived.LoopIn
import Derived.Maps.AppendAt
import Derived.Outline
import Derived.IntWalk
import Derived.Lib.Slices
import Derived.Lib.Walk
import Derived.OpenShut
import Derived.Lib.BitFns
import Derived.Laws.BitsLemmas
import Derived.Deep.DeepCutAuto
import Derived.WalkMore
import Derived.Lib.AppendZeros
import Derived.Deep.RegionWith
import Derived.Deep.RegionHeld3
import Derived.Laws.MakeOwn
import Derived.Laws.IdiomStrings
import Derived.StillTailTactics
namespace Go.Proofs.Ytoodmocapagapaa
open Go.RowKit
set_option linter.unusedSimpArgs false
set_option linter.unusedVariables false

theorem heap_setCell_same {w : World} {g : Nat} {cur : Array Value} {e : TypeId} {fr : Nat × Nat} (h : w.heap[g]? = some (.cells cur e fr)) (j : Nat) (u : Value) :
    (w.setCell ⟨g, j, none⟩ u).heap[g]? = some (.cells (cur.setIfInBounds j u) e fr) := by
  have hlt := lt_of_block h
  have h' : w.heap[g] = .cells cur e fr := by simpa [Array.getElem?_eq_getElem hlt] using h
  show (w.heap.modify g _)[g]? = _
  rw [Array.getElem?_eq_getElem (by simpa using hlt), Array.getElem_modify_self, h']
  rfl

theorem heap_setCell_ne (w : World) (a : Addr) (u : Value) (k : Nat) (h : k ≠ a.block) : (w.setCell a u).heap[k]? = w.heap[k]? := Below.heap_setCell w a u k h

theorem cell_at {w : World} {g : Nat} {cur : Array Value} {e : TypeId} (h : w.heap[g]? = some (.cells cur e (0, 0))) (j : Nat) : w.cell? ⟨g, j, none⟩ = cur[j]? := cell_of_row w g j cur e (0, 0) h
theorem free_at {w : World} {g : Nat} {cur : Array Value} {e : TypeId} (h : w.heap[g]? = some (.cells cur e (0, 0))) (j : Nat) : w.frozen? ⟨g, j, none⟩ = false := by simp [World.frozen?, h]

/-- Of what was there only the blocks of l may have turned. -/
structure Fr (l : List Nat) (w w' : World) : Prop where
  os : w'.os = w.os
  tape : w'.tape = w.tape
  output : w'.output = w.output
  size : w.heap.size ≤ w'.heap.size
  block : ∀ k, k < w.heap.size → k ∉ l → w'.heap[k]? = w.heap[k]?

theorem Fr.refl (l : List Nat) (w : World) : Fr l w w := ⟨rfl, rfl, rfl, Nat.le_refl _, fun _ _ _ => rfl⟩
theorem Fr.trans {l l' : List Nat} {a b c : World} (h : Fr l a b) (k : Fr l' b c) (hl : ∀ x ∈ l', x ∈ l ∨ a.heap.size ≤ x) : Fr l a c :=
  ⟨k.os.trans h.os, k.tape.trans h.tape, k.output.trans h.output, Nat.le_trans h.size k.size,
    fun i hi hn => (k.block i (Nat.lt_of_lt_of_le hi h.size) (fun hm => by rcases hl i hm with h1 | h1; exact hn h1; omega)).trans (h.block i hi hn)⟩
theorem Fr.mono {l l' : List Nat} {a b : World} (h : Fr l a b) (hl : ∀ x ∈ l, x ∈ l' ∨ a.heap.size ≤ x) : Fr l' a b :=
  ⟨h.os, h.tape, h.output, h.size, fun i hi hn => h.block i hi fun hm => by rcases hl i hm with h1 | h1; exact hn h1; omega⟩
theorem Fr.of_below {w w' : World} (h : Below w.heap.size w w') : Fr [] w w' := ⟨h.os, h.tape, h.output, h.size, fun k hk _ => h.block k hk⟩
theorem Fr.below {l : List Nat} {w w' : World} (h : Fr l w w') {B : Nat} (hB : B ≤ w.heap.size) (hl : ∀ x ∈ l, B ≤ x) : Below B w w' :=
  ⟨h.os, h.tape, h.output, h.size, fun k hk => h.block k (by omega) fun hm => by have := hl k hm; omega⟩
theorem Fr.below0 {w w' : World} (h : Fr [] w w') : Below w.heap.size w w' := h.below (Nat.le_refl _) (by simp)
theorem Fr.alloc {l : List Nat} {a w : World} (h : Fr l a w) (o : Obj) : Fr l a (w.alloc o) :=
  ⟨h.os, h.tape, h.output, by have := h.size; simp; omega, fun k hk hn => (Below.heap_alloc w o k (by have := h.size; omega)).trans (h.block k hk hn)⟩
theorem Fr.setCell {l : List Nat} {a w : World} (h : Fr l a w) (p : Addr) (hp : p.block ∈ l ∨ a.heap.size ≤ p.block) (u : Value) : Fr l a (w.setCell p u) :=
  ⟨h.os, h.tape, h.output, by have := h.size; simpa using this, fun k hk hn => (heap_setCell_ne w p u k (by rintro rfl; rcases hp with h1 | h1; exact hn h1; omega)).trans (h.block k hk hn)⟩
theorem Fr.drew {l : List Nat} {a w : World} (h : Fr l a w) : Fr l a w.drew := ⟨h.os, h.tape, h.output, h.size, h.block⟩
theorem Fr.drewN {l : List Nat} {a w : World} (h : Fr l a w) (n : Nat) : Fr l a (w.drewN n) := ⟨h.os, h.tape, h.output, h.size, h.block⟩
theorem Fr.grown {l : List Nat} {a w w' : World} {row : Option Nat} (h : Fr l a w) (hg : w.grownBy w' row) (hr : ∀ k, row = some k → k ∈ l ∨ a.heap.size ≤ k) : Fr l a w' :=
  ⟨hg.os.trans h.os, hg.tape.trans h.tape, hg.output.trans h.output, Nat.le_trans h.size hg.size,
    fun k hk hn => (hg.block k (by have := h.size; omega) (fun e => by rcases hr k e.symm with h1 | h1; exact hn h1; omega)).trans (h.block k hk hn)⟩

/-- A row of the call's own, its block known: none where it is nil. -/
def Row (w : World) (v : Value) (ob : Option Nat) (e : TypeId) (size n : Nat) (xs : List Value) : Prop := w.ownsRow 0 e size v n xs ∧ v.ownBlock = ob

theorem Row.nil (w : World) (e : TypeId) (size : Nat) : Row w (.slice none 0 0) none e size 0 [] := ⟨World.ownsRow_nil _ _ _ _, rfl⟩
theorem Row.len {w : World} {v : Value} {ob : Option Nat} {e : TypeId} {size n : Nat} {xs : List Value} (h : Row w v ob e size n xs) : xs.length = n * size := h.1.1
theorem Row.lt {w : World} {v : Value} {g : Nat} {e : TypeId} {size n : Nat} {xs : List Value} (h : Row w v (some g) e size n xs) : g < w.heap.size := (h.1.lt g h.2).2
theorem Row.cases {w : World} {v : Value} {ob : Option Nat} {e : TypeId} {size n : Nat} {xs : List Value} (h : Row w v ob e size n xs) :
    (ob = none ∧ v = .slice none 0 0 ∧ n = 0 ∧ xs = []) ∨ ∃ g cap cur, ob = some g ∧ v = .slice (some ⟨g, 0, none⟩) n cap ∧ w.heap[g]? = some (.cells cur e (0, 0)) ∧ n ≤ cap ∧ cap ≤ maxLen ∧ cur.size = cap * size ∧ cur.toList.take (n * size) = xs := by
  obtain ⟨⟨hl, h1⟩, h2⟩ := h
  rcases h1 with ⟨rfl, rfl⟩ | ⟨g, cap, cur, rfl, _, h3, h4, h5, h6, h7⟩
  · exact .inl ⟨by rw [← h2]; rfl, rfl, rfl, List.eq_nil_of_length_eq_zero (by simpa using hl)⟩
  · exact .inr ⟨g, cap, cur, by rw [← h2]; rfl, rfl, h3, h4, h5, h6, h7⟩
theorem Row.mk {w : World} {g cap n : Nat} {e : TypeId} {size : Nat} {cur : Array Value} (h3 : w.heap[g]? = some (.cells cur e (0, 0))) (h4 : n ≤ cap) (h5 : cap ≤ maxLen) (h6 : cur.size = cap * size) {xs : List Value} (h7 : cur.toList.take (n * size) = xs) :
    Row w (.slice (some ⟨g, 0, none⟩) n cap) (some g) e size n xs :=
  ⟨⟨by rw [← h7, List.length_take, Array.length_toList, h6, Nat.min_eq_left (Nat.mul_le_mul_right _ h4)], .inr ⟨g, cap, cur, rfl, Nat.zero_le _, h3, h4, h5, h6, h7⟩⟩, rfl⟩
theorem Row.congr {w w' : World} {v : Value} {ob : Option Nat} {e : TypeId} {size n : Nat} {xs : List Value} (h : Row w v ob e size n xs) (hb : ∀ g, ob = some g → w'.heap[g]? = w.heap[g]?) : Row w' v ob e size n xs := by
  rcases h.cases with ⟨rfl, rfl, rfl, rfl⟩ | ⟨g, cap, cur, rfl, rfl, h3, h4, h5, h6, h7⟩
  · exact Row.nil _ _ _
  · exact Row.mk (by rw [hb g rfl]; exact h3) h4 h5 h6 h7
theorem Row.alloc {w : World} {v : Value} {ob : Option Nat} {e : TypeId} {size n : Nat} {xs : List Value} (h : Row w v ob e size n xs) (o : Obj) : Row (w.alloc o) v ob e size n xs :=
  h.congr fun g hg => by subst hg; exact Below.heap_alloc w o g h.lt
theorem Row.shape {w : World} {v : Value} {ob : Option Nat} {e : TypeId} {size n : Nat} {xs : List Value} (h : Row w v ob e size n xs) : ∃ a cap, v = .slice a n cap ∧ n ≤ cap ∧ cap ≤ maxLen ∧ a = ob.map (fun g => ⟨g, 0, none⟩) := by
  rcases h.cases with ⟨rfl, rfl, rfl, rfl⟩ | ⟨g, cap, cur, rfl, rfl, h3, h4, h5, h6, h7⟩
  · exact ⟨_, _, rfl, Nat.le_refl _, Nat.zero_le _, rfl⟩
  · exact ⟨_, _, rfl, h4, h5, rfl⟩
theorem Row.cell {w : World} {v : Value} {ob : Option Nat} {e : TypeId} {size n : Nat} {xs : List Value} (h : Row w v ob e size n xs) (j : Nat) (hj : j < n * size) : ∃ g, ob = some g ∧ w.cell? ⟨g, j, none⟩ = xs[j]? ∧ w.frozen? ⟨g, j, none⟩ = false := by
  rcases h.cases with ⟨rfl, rfl, rfl, rfl⟩ | ⟨g, cap, cur, rfl, rfl, h3, h4, h5, h6, rfl⟩
  · simp at hj
  · refine ⟨g, rfl, ?_, free_at h3 j⟩
    rw [cell_at h3, List.getElem?_take, if_pos hj, Array.getElem?_toList]

section
variable {P : Program} (w : World)
/-- append to a row of the call's own: the row's block stays, or it is the next new one. -/
theorem run_append_row (t ty e : TypeId) (i : TypeInfo) (z : Value) (size bytes : Nat) (ht : P.underlying t = some (.slice e)) (hi : P.info? e = some i) (hz : i.zero = some z)
    (hsize : i.size = size) (hby : i.bytes = bytes) (hzs : z.cells.size = size) (hsz : 0 < size)
    (v : Value) (ob : Option Nat) (n : Nat) (xs : List Value) (hrow : Row w v ob e size n xs)
    (a : Addr) (m c : Nat) (news : List Value) (hm : 0 < m) (hl : news.length = m * size) (hnews : ∀ j u, news[j]? = some u → w.cell? (a.add j) = some u) (h1 : ∀ u ∈ news, u.oneCell' = true)
    (h63 : n + m ≤ maxLen) (hbytes : (n + m) * bytes ≤ 140737488355328) :
    ∃ v' ob' w', (Builtin.append_ #[t, t] ty #[v, .slice (some a) m c]).run P w = .ok v' w' ∧ Row w' v' (some ob') e size (n + m) (xs ++ news) ∧ w.grownBy w' ob ∧ (ob = some ob' ∨ ob' = w.heap.size) := by
  subst hsize
  subst hby
  have hsmall : n + m ≤ 9223372036854775807 := by simp only [maxLen] at h63; omega
  have hlen : (xs ++ news).length = (n + m) * i.size := by rw [List.length_append, hrow.len, hl, Nat.add_mul]
  have made : ∀ (old : Nat), old < n + m →
      Row (w.drew.alloc (.cells (xs.toArray ++ news.toArray ++ Builtin.zeroCells z.cells (grownCap w (n + m) old e - (n + m))) e))
        (.slice (some ⟨w.heap.size, 0, none⟩) (n + m) (grownCap w (n + m) old e)) (some w.heap.size) e i.size (n + m) (xs ++ news) ∧
      w.grownBy (w.drew.alloc (.cells (xs.toArray ++ news.toArray ++ Builtin.zeroCells z.cells (grownCap w (n + m) old e - (n + m))) e)) ob := by
    intro old ho
    have hge := grownCap_ge w (n + m) old e
    refine ⟨Row.mk (heap_alloc_new w.drew _) hge (grownCap_le_maxLen w (n + m) old e h63) ?_ ?_, ⟨rfl, rfl, rfl, by simp, fun k hk _ => Below.heap_alloc w.drew _ k hk⟩⟩
    · simp only [Array.size_append, List.size_toArray, size_zeroCells, hzs, hrow.len, hl, ← Nat.add_mul]
      congr 1
      omega
    · simp only [Array.toList_append, List.append_assoc]
      rw [← List.append_assoc, ← hlen]
      exact List.take_left
  rcases hrow.cases with ⟨rfl, rfl, rfl, rfl⟩ | ⟨g, cap, cur, rfl, rfl, hg, hnc, hcm, hcs, htake⟩
  · have hr := run_append_nil (P := P) w t ty e i z ht hi hz a m c news hl hnews hm (by omega) (by have hb := hbytes; simp only [Nat.zero_add] at hb; omega)
    have hgr := made 0 (by omega)
    simp only [Nat.zero_add, List.nil_append, Array.empty_append] at hgr ⊢
    exact ⟨_, _, _, hr, hgr.1, hgr.2, .inr rfl⟩
  · by_cases hroom : n + m ≤ cap
    · have hfit : n * i.size + news.length ≤ cur.size := by rw [hl, hcs, ← Nat.add_mul]; exact Nat.mul_le_mul_right _ hroom
      have hr := run_append_room (P := P) w t ty e i ht hi g n cap cur hg a m c news hl hnews h1 hroom hfit
      refine ⟨_, _, _, hr, Row.mk (setRow_heap w g cur _ e _ hg) hroom hcm ?_ ?_, ⟨rfl, rfl, rfl, by simp, fun k _ hk => setRow_other w g k _ (fun e => hk (by simp [e]))⟩, .inl rfl⟩
      · simp only [List.size_toArray, List.length_append, List.length_take, List.length_drop, Array.length_toList]
        omega
      · simp only
        rw [htake, ← hlen]
        exact List.take_left
    · have holds : ∀ j u, xs[j]? = some u → w.cell? ((⟨g, 0, none⟩ : Addr).add j) = some u := hrow.1.cells (g := g) rfl
      have hr := run_append_grow (P := P) w t ty e i z ht hi hz ⟨g, 0, none⟩ n cap xs hrow.len holds a m c news hl hnews (by omega) (by omega) (growslice_fits (by omega) hbytes)
      have hgr := made cap (by omega)
      exact ⟨_, _, _, hr, hgr.1, hgr.2, .inr rfl⟩

theorem wpList_append_row {ops : Array Oper} {rest : List Oper} {o : Oper} {a : Act} {Q : Exit → Act → World → Prop} (hgd : o.guard = none) (s x : Operand) (t : TypeId)
    (ho : o.op = .call { callee := .builtin .append, args := #[s, x], argTypes := #[t, t] })
    (e : TypeId) (i : TypeInfo) (z : Value) (size bytes : Nat) (ht : P.underlying t = some (.slice e)) (hi : P.info? e = some i) (hz : i.zero = some z)
    (hsize : i.size = size) (hby : i.bytes = bytes) (hzs : z.cells.size = size) (hsz : 0 < size)
    (v : Value) (ob : Option Nat) (n : Nat) (xs : List Value) (hs : a.eval s = v) (hrow : Row w v ob e size n xs)
    (ad : Addr) (m c : Nat) (news : List Value) (hx : a.eval x = .slice (some ad) m c) (hm : 0 < m) (hl : news.length = m * size) (hnews : ∀ j u, news[j]? = some u → w.cell? (ad.add j) = some u) (h1 : ∀ u ∈ news, u.oneCell' = true)
    (h63 : n + m ≤ maxLen) (hbytes : (n + m) * bytes ≤ 140737488355328)
    (h : ∀ v' ob' w', Row w' v' (some ob') e size (n + m) (xs ++ news) → w.grownBy w' ob → (ob = some ob' ∨ ob' = w.heap.size) → wpList P ops Q rest (a.put o.dst v') w') : wpList P ops Q (o :: rest) a w := by
  refine wpList_plain hgd fun K hK => ?_
  obtain ⟨v', ob', w', hr, h2, h3, h4⟩ := run_append_row (P := P) w t o.type e i z size bytes ht hi hz hsize hby hzs hsz v ob n xs hrow ad m c news hm hl hnews h1 h63 hbytes
  unfold Oper.wp execOp
  simp only [ho, resolve, invoke, builtin, Sem.run_bind, Sem.run_pure, Result.andThen_ok, List.map_toArray, List.map_cons, List.map_nil, hs, hx, hr]
  exact hK _ _ (h v' ob' w' h2 h3 h4)
end
end Go.Proofs.Ytoodmocapagapaa
namespace Go.Proofs.Ytoodmocapagapaa
open Go.RowKit
set_option linter.unusedSimpArgs false
set_option linter.unusedVariables false

theorem step_append_row {P : Program} {ops : Array Oper} {o : Oper} {a : Act} {w : World} {K : Act → World → Prop} {Q : Exit → Act → World → Prop} {X : Prop} (hgd : o.guard = none) (s x : Operand) (t : TypeId)
    (ho : o.op = .call { callee := .builtin .append, args := #[s, x], argTypes := #[t, t] })
    (e : TypeId) (i : TypeInfo) (z : Value) (size bytes : Nat) (ht : P.underlying t = some (.slice e)) (hi : P.info? e = some i) (hz : i.zero = some z)
    (hsize : i.size = size) (hby : i.bytes = bytes) (hzs : z.cells.size = size) (hsz : 0 < size)
    (v : Value) (ob : Option Nat) (n : Nat) (xs : List Value) (hs : a.eval s = v) (hrow : Row w v ob e size n xs)
    (ad : Addr) (m c : Nat) (news : List Value) (hx : a.eval x = .slice (some ad) m c) (hm : 0 < m) (hl : news.length = m * size) (hnews : ∀ j u, news[j]? = some u → w.cell? (ad.add j) = some u) (h1 : ∀ u ∈ news, u.oneCell' = true)
    (h63 : n + m ≤ maxLen) (hbytes : (n + m) * bytes ≤ 140737488355328)
    (hK : ∀ v' ob' w', Row w' v' (some ob') e size (n + m) (xs ++ news) → w.grownBy w' ob → (ob = some ob' ∨ ob' = w.heap.size) → K (a.put o.dst v') w') :
    if Region.wanted o (yielded ops a.tmps) = true then Oper.wp P o a w K Q else X := by
  have hw : Region.wanted o (yielded ops a.tmps) = true := by simp [Region.wanted, hgd]
  rw [if_pos hw]
  obtain ⟨v', ob', w', hr, h2, h3, h4⟩ := run_append_row (P := P) w t o.type e i z size bytes ht hi hz hsize hby hzs hsz v ob n xs hrow ad m c news hm hl hnews h1 h63 hbytes
  unfold Oper.wp execOp
  simp only [ho, resolve, invoke, builtin, Sem.run_bind, Sem.run_pure, Result.andThen_ok, List.map_toArray, List.map_cons, List.map_nil, hs, hx, hr]
  exact hK _ _ _ h2 h3 h4

/-- what a growth of one row leaves of other blocks -/
theorem grown_other {w w' : World} {ob : Option Nat} {k : Nat} {o : Obj} (h : w.grownBy w' ob) (hk : w.heap[k]? = some o) (hn : ob ≠ some k) : w'.heap[k]? = some o :=
  (h.block k (by have := (Array.getElem?_eq_some_iff.1 hk).1; exact this) (fun e => hn e.symm)).trans hk

theorem bcell {W w1 : World} (hb : Below W.heap.size W w1) : (∀ b o, b < W.heap.size → w1.cell? ⟨b, o, none⟩ = W.cell? ⟨b, o, none⟩) ∧ (∀ b o, b < W.heap.size → w1.frozen? ⟨b, o, none⟩ = W.frozen? ⟨b, o, none⟩) ∧
    (∀ b, b < W.heap.size → (b = w1.heap.size) = False) ∧ (∀ b, b < W.heap.size → (w1.heap.size = b) = False) ∧ (∀ b, b < W.heap.size → (b < w1.heap.size) = True) :=
  ⟨fun b o h => hb.cell (p := ⟨b, o, none⟩) h, fun b o h => hb.frozen (p := ⟨b, o, none⟩) h, fun b h => eq_false (by have := hb.size; omega), fun b h => eq_false (by have := hb.size; omega), fun b h => eq_true (by have := hb.size; omega)⟩

theorem below_undrew {w X : World} (h : Below w.drew.heap.size w.drew X) : Below w.heap.size w X := ⟨h.os, h.tape, h.output, h.size, h.block⟩

/-- what lies in one new block, in each of two, of three, behind a call that leaves them -/
def Holds (X : World) (n : Nat) (c : Array Value) : Prop := (∀ j, X.cell? ⟨n, j, none⟩ = c[j]?) ∧ (∀ j, X.frozen? ⟨n, j, none⟩ = false) ∧ n < X.heap.size
theorem holds_of {Y X : World} {n : Nat} {c : Array Value} {t : TypeId} (h : Below Y.heap.size Y X) (hY : Y.heap[n]? = some (.cells c t (0, 0))) : Holds X n c := by
  have hlt : n < Y.heap.size := (Array.getElem?_eq_some_iff.1 hY).1
  have hX := (h.block n hlt).trans hY
  exact ⟨fun j => cell_at hX j, fun j => free_at hX j, by have := h.size; omega⟩
theorem tw1 {A X : World} {n : Nat} {c1 : Array Value} {t1 : TypeId} (h : Below (A.alloc (.cells c1 t1)).heap.size (A.alloc (.cells c1 t1)) X) (hn : A.heap.size = n) : Holds X n c1 :=
  holds_of h (by rw [← hn]; exact heap_alloc_new A _)
theorem tw2 {A X : World} {n : Nat} {c1 c2 : Array Value} {t1 t2 : TypeId} (h : Below ((A.alloc (.cells c1 t1)).alloc (.cells c2 t2)).heap.size ((A.alloc (.cells c1 t1)).alloc (.cells c2 t2)) X) (hn : A.heap.size = n) : Holds X n c1 ∧ Holds X (n + 1) c2 :=
  ⟨holds_of h (by rw [← hn, Below.heap_alloc _ _ _ (by simp)]; exact heap_alloc_new A _), holds_of h (by rw [← hn, ← World.size_alloc A (.cells c1 t1)]; exact heap_alloc_new _ _)⟩
theorem tw3 {A X : World} {n : Nat} {c1 c2 c3 : Array Value} {t1 t2 t3 : TypeId} (h : Below (((A.alloc (.cells c1 t1)).alloc (.cells c2 t2)).alloc (.cells c3 t3)).heap.size (((A.alloc (.cells c1 t1)).alloc (.cells c2 t2)).alloc (.cells c3 t3)) X) (hn : A.heap.size = n) : Holds X n c1 ∧ Holds X (n + 1) c2 ∧ Holds X (n + 1 + 1) c3 :=
  ⟨holds_of h (by rw [← hn, Below.heap_alloc _ _ _ (by simp; omega), Below.heap_alloc _ _ _ (by simp)]; exact heap_alloc_new A _), holds_of h (by rw [← hn, Below.heap_alloc _ _ _ (by simp), ← World.size_alloc A (.cells c1 t1)]; exact heap_alloc_new _ _),
    holds_of h (by rw [← hn, ← World.size_alloc A (.cells c1 t1), ← World.size_alloc _ (.cells c2 t2)]; exact heap_alloc_new _ _)⟩
end Go.Proofs.Ytoodmocapagapaa
namespace Go.Proofs.Ytoodmocapagapaa
open Go.RowKit Go.ChangeShapes Go.WideShapes Go.Deep
set_option linter.unusedSimpArgs false
set_option linter.unusedVariables false

inductive Dt where
  | int (k : IntKind) (n : Int)
  | bool (b : Bool)
  | str (s : ByteArray)
  | agg (l : List Dt)
  | slice (a : Option Addr) (len cap : Nat) (xs : List Dt)

mutual
def Dt.cells : Dt → List Value
  | .int k n => [.int k n]
  | .bool b => [.bool b]
  | .str s => [.string s]
  | .agg l => Dt.cellsL l
  | .slice a len cap _ => [.slice a len cap]
def Dt.cellsL : List Dt → List Value
  | [] => []
  | x :: l => x.cells ++ Dt.cellsL l
end

inductive Fits (P : Program) (w : World) : TypeId → Dt → Prop
  | int {t : TypeId} {k : IntKind} {n : Int} (ht : P.underlying t = some (.int k)) (h : (Lit.int k n).wf = true) : Fits P w t (.int k n)
  | bool {t : TypeId} {b : Bool} (ht : P.underlying t = some .bool) : Fits P w t (.bool b)
  | str {t : TypeId} {s : ByteArray} (ht : P.underlying t = some .string) (h : s.size ≤ maxLen) (h2 : s.size ≤ 140737488351232) : Fits P w t (.str s)
  | agg {t : TypeId} {fs : Array Field} {l : List Dt} (ht : P.underlying t = some (.struct fs)) (hl : l.length = fs.size)
      (h : ∀ (i : Nat) (f : Field) (x : Dt), fs[i]? = some f → l[i]? = some x → Fits P w f.type x) : Fits P w t (.agg l)
  | slice {t e : TypeId} {a : Option Addr} {len cap : Nat} {xs : List Dt} (ht : P.underlying t = some (.slice e)) (hl : xs.length = len) (hc : len ≤ cap) (hm : cap ≤ maxLen) (hn : a = none → cap = 0)
      (hb : len * P.bytesOf e ≤ 140737488351232)
      (hcell : ∀ ad, a = some ad → ∀ (i : Nat) (x : Dt), xs[i]? = some x → ∀ (j : Nat) (v : Value), x.cells[j]? = some v → w.cell? (ad.add (i * P.cellsOf e + j)) = some v)
      (hlen : ∀ (i : Nat) (x : Dt), xs[i]? = some x → x.cells.length = P.cellsOf e)
      (h : ∀ (i : Nat) (x : Dt), xs[i]? = some x → Fits P w e x) : Fits P w t (.slice a len cap xs)

/-! ### What a type of plain data is -/
def packed (P : Program) : Nat → List Field → Nat → Bool
  | k, [], tot => k == tot
  | k, f :: fs, tot => f.offset == k && packed P (k + P.cellsOf f.type) fs tot

def okTy (P : Program) : Nat → TypeId → Bool
  | 0, _ => false
  | n + 1, t => match P.underlying t with
    | some (.int _) => P.cellsOf t == 1
    | some .bool => P.cellsOf t == 1
    | some .string => P.cellsOf t == 1
    | some (.slice e) => P.cellsOf t == 1 && okTy P n e
    | some (.struct fs) => packed P 0 fs.toList (P.cellsOf t) && fs.toList.all fun f => okTy P n f.type
    | _ => false

theorem dt_all_mem {H : Type} {P : Program} {e : TypeId} : ∀ {l : List (DataW H)} {d : DataW H}, d ∈ l → ∀ n ∈ d.weights P e, n ∈ DataW.weightsAll P e l
  | d0 :: l, d, hd, n, hn => by
    rw [DataW.weightsAll, List.mem_append]
    rcases List.mem_cons.1 hd with rfl | h
    · exact .inl hn
    · exact .inr (dt_all_mem h n hn)

theorem packed_cells (P : Program) (w : World) (cs : List Value) (tot : Nat) (htot : cs.length = tot) : ∀ (fs : List Field) (k : Nat), packed P k fs tot = true →
    (∀ (i : Nat) (f : Field), fs[i]? = some f → ∃ x : Dt, (cs.drop f.offset).take (P.cellsOf f.type) = x.cells ∧ Fits P w f.type x ∧ x.cells.length = P.cellsOf f.type) →
    ∃ l : List Dt, l.length = fs.length ∧ (∀ (i : Nat) (f : Field) (x : Dt), fs[i]? = some f → l[i]? = some x → Fits P w f.type x) ∧ cs.drop k = Dt.cellsL l
  | [], k, hp, _ => by
    refine ⟨[], rfl, fun i f x hi => by simp at hi, ?_⟩
    have : k = tot := by simpa [packed] using hp
    subst this
    rw [List.drop_of_length_le (by omega)]
    rfl
  | f :: fs, k, hp, h => by
    simp only [packed, Bool.and_eq_true, beq_iff_eq] at hp
    obtain ⟨ho, hp⟩ := hp
    obtain ⟨x, hx, hxf, hxl⟩ := h 0 f rfl
    obtain ⟨l, hl, hlf, hlc⟩ := packed_cells P w cs tot htot fs (k + P.cellsOf f.type) hp fun i g hi => h (i + 1) g (by simpa using hi)
    refine ⟨x :: l, by simp [hl], fun i g y hi hy => ?_, ?_⟩
    · cases i with
      | zero =>
        obtain rfl : f = g := by simpa using hi
        obtain rfl : x = y := by simpa using hy
        exact hxf
      | succ i => exact hlf i g y (by simpa using hi) (by simpa using hy)
    · rw [Dt.cellsL, ← hx, ho, ← hlc, ← List.drop_drop]
      exact (List.take_append_drop _ _).symm

section
variable {H : Type} {enc : TypeId × Value → H} {P : Program} {w : World}

theorem fits_of : ∀ (n : Nat) (t : TypeId), okTy P n t = true → ∀ {fuel : Nat} {cs : List Value} {d : DataW H} {p : List MemPlace}, DataW.trod enc P w 0 (fun _ => true) true fuel t cs = some (d, p) →
    (∀ m ∈ d.weights P t, m ≤ reachBytes) → ∃ x : Dt, cs = x.cells ∧ Fits P w t x ∧ x.cells.length = P.cellsOf t
  | 0, _, h0, _, _, _, _, _, _ => by simp [okTy] at h0
  | n + 1, t, h0, fuel, cs, d, p, hf, hw => by
    unfold okTy at h0
    split at h0
    · rename_i k ht
      obtain ⟨z, rfl, _, hz⟩ := DataW.trod_int ht hf
      exact ⟨.int k z, rfl, .int ht hz, (by simpa using h0 : P.cellsOf t = 1).symm⟩
    · rename_i ht
      obtain ⟨b, rfl, _⟩ := DataW.trod_bool ht hf
      exact ⟨.bool b, rfl, .bool ht, (by simpa using h0 : P.cellsOf t = 1).symm⟩
    · rename_i ht
      obtain ⟨s, rfl, hd, hs⟩ := DataW.trod_string ht hf
      have h1 := hw s.size (by rw [(Prod.mk.inj hd).1]; simp only [DataW.weights, List.mem_singleton, Array.length_toList]; rfl)
      simp only [reachBytes] at h1
      exact ⟨.str s, rfl, .str ht hs h1, (by simpa using h0 : P.cellsOf t = 1).symm⟩
    · rename_i e ht
      obtain ⟨hc1, he⟩ : P.cellsOf t = 1 ∧ okTy P n e = true := by simpa using h0
      rcases open_slice ht hf with ⟨rfl, _⟩ | ⟨a, len, cap, m, k, D, Pl, rfl, _, hl, hm, hmm, hx, hi⟩
      · exact ⟨.slice none 0 0 [], rfl, .slice ht rfl (Nat.le_refl _) (Nat.zero_le _) (fun _ => rfl) (by omega) (fun _ h => (nomatch h)) (fun i x hi => by simp at hi) (fun i x hi => by simp at hi), hc1.symm⟩
      · simp only [if_true] at hmm
        have hd : d = .slice ((List.range len).map D) ((List.range (m - len)).map fun j => D (len + j)) := (Prod.mk.inj hx).1
        have hex : ∀ i, ∃ q : Dt, i < len → (∀ (j : Nat) (v : Value), q.cells[j]? = some v → w.cell? (a.add (i * P.cellsOf e + j)) = some v) ∧ Fits P w e q ∧ q.cells.length = P.cellsOf e := fun i => by
          by_cases hil : i < len
          · obtain ⟨cs', hc, ht'⟩ := hi i (by omega)
            obtain ⟨_, hcl, hat⟩ := World.cells?_some hc
            obtain ⟨q, rfl, hq, hql⟩ := fits_of n e he ht' (fun k hk => hw k (by
              rw [hd]
              simp only [DataW.weights, ht, List.mem_cons, List.mem_append]
              exact .inr (.inl (dt_all_mem (List.mem_map.2 ⟨i, List.mem_range.2 hil, rfl⟩) k hk))))
            refine ⟨q, fun _ => ⟨fun j v hv => ?_, hq, hql⟩⟩
            have hj : j < P.cellsOf e := by
              have := (List.getElem?_eq_some_iff.1 hv).1
              omega
            have := hat j hj
            rw [add_add] at this
            rw [this, hv]
          · exact ⟨.bool true, fun h => absurd h hil⟩
        have hg := fun i => Classical.choose_spec (hex i)
        obtain ⟨F, hF⟩ : ∃ F : Nat → Dt, F = fun i => Classical.choose (hex i) := ⟨_, rfl⟩
        have hg : ∀ i, i < len → (∀ (j : Nat) (v : Value), (F i).cells[j]? = some v → w.cell? (a.add (i * P.cellsOf e + j)) = some v) ∧ Fits P w e (F i) ∧ (F i).cells.length = P.cellsOf e := fun i hil => by rw [hF]; exact hg i hil
        have hat : ∀ (i : Nat) (x : Dt), ((List.range len).map F)[i]? = some x → i < len ∧ F i = x := fun i x hx => by
          obtain ⟨hlt, hx⟩ := List.getElem?_eq_some_iff.1 hx
          exact ⟨by simpa using hlt, by simpa using hx⟩
        have hb : len * P.bytesOf e ≤ 140737488351232 := by
          have := hw ((len + (m - len)) * P.bytesOf e) (by rw [hd]; simp [DataW.weights, ht])
          simp only [reachBytes] at this
          exact Nat.le_trans (Nat.mul_le_mul_right _ (by omega)) this
        refine ⟨.slice (some a) len cap ((List.range len).map F), rfl, .slice ht (by simp) hl hm (fun h => (nomatch h)) hb (fun ad ha i x hx => ?_) (fun i x hx => ?_) (fun i x hx => ?_), hc1.symm⟩
        · obtain rfl := Option.some.inj ha
          obtain ⟨hlt, rfl⟩ := hat i x hx
          exact (hg i hlt).1
        · obtain ⟨hlt, rfl⟩ := hat i x hx
          exact (hg i hlt).2.2
        · obtain ⟨hlt, rfl⟩ := hat i x hx
          exact (hg i hlt).2.1
    · rename_i fs ht
      obtain ⟨hp, hall⟩ := Bool.and_eq_true_iff.1 h0
      have hall := List.all_eq_true.1 hall
      obtain ⟨ys, n', _, hx, hcl, hyl, hf'⟩ := DataW.trod_struct ht hf
      have hd : d = .agg (ys.map (·.1)) := (Prod.mk.inj hx).1
      obtain ⟨l, hll, hlf, hlc⟩ := packed_cells P w cs (P.cellsOf t) hcl fs.toList 0 hp fun i f hi => by
        have hi' : fs[i]? = some f := by simpa using hi
        have hlt : i < fs.size := (Array.getElem?_eq_some_iff.1 hi').1
        have h1 := hf' i f hi'
        obtain ⟨y, hy⟩ : ∃ y, ys[i]? = some y := ⟨ys[i]'(by omega), List.getElem?_eq_getElem (by omega)⟩
        rw [hy] at h1
        obtain ⟨q, e1, e2, e3⟩ := fits_of n f.type (hall f (List.mem_of_getElem? hi)) (d := y.1) (p := y.2) h1 fun k hk => hw k (by
          rw [hd]
          have := DataW.weights_mem_each (ts := fs.toList.map (·.type)) (ds := ys.map (·.1)) (j := i) (t := f.type) (d := y.1) (P := P) (by simp [hi']) (by simp [hy]) k hk
          simp only [DataW.weights, ht]
          exact this)
        exact ⟨q, e1, e2, e3⟩
      exact ⟨.agg l, by simpa [Dt.cells] using hlc, .agg ht (by simpa using hll) (fun i f x hi => hlf i f x (by simpa using hi)), by
        have : cs = Dt.cellsL l := by simpa using hlc
        rw [Dt.cells, ← this, hcl]⟩
    · cases h0


theorem Fits.int_inv {t : TypeId} {k : IntKind} {x : Dt} (h : Fits P w t x) (ht : P.underlying t = some (.int k)) : ∃ n, x = .int k n ∧ k.min ≤ n ∧ n ≤ k.max := by
  cases h with
  | int h1 h2 => rw [ht] at h1; injection h1 with h1; injection h1 with h1; subst h1; exact ⟨_, rfl, by simpa [Lit.wf] using h2⟩
  | bool h1 => rw [ht] at h1; cases h1
  | str h1 _ _ => rw [ht] at h1; cases h1
  | agg h1 _ _ => rw [ht] at h1; cases h1
  | slice h1 => rw [ht] at h1; cases h1
theorem Fits.bool_inv {t : TypeId} {x : Dt} (h : Fits P w t x) (ht : P.underlying t = some .bool) : ∃ b, x = .bool b := by
  cases h with
  | int h1 h2 => rw [ht] at h1; cases h1
  | bool h1 => exact ⟨_, rfl⟩
  | str h1 _ _ => rw [ht] at h1; cases h1
  | agg h1 _ _ => rw [ht] at h1; cases h1
  | slice h1 => rw [ht] at h1; cases h1
theorem Fits.str_inv {t : TypeId} {x : Dt} (h : Fits P w t x) (ht : P.underlying t = some .string) : ∃ s : ByteArray, x = .str s ∧ s.size ≤ maxLen ∧ s.size ≤ 140737488351232 := by
  cases h with
  | int h1 h2 => rw [ht] at h1; cases h1
  | bool h1 => rw [ht] at h1; cases h1
  | str h1 h2 h3 => exact ⟨_, rfl, h2, h3⟩
  | agg h1 _ _ => rw [ht] at h1; cases h1
  | slice h1 => rw [ht] at h1; cases h1
theorem Fits.agg_inv {t : TypeId} {fs : Array Field} {x : Dt} (h : Fits P w t x) (ht : P.underlying t = some (.struct fs)) :
    ∃ l, x = .agg l ∧ l.length = fs.size ∧ ∀ (i : Nat) (f : Field), fs[i]? = some f → ∃ y, l[i]? = some y ∧ Fits P w f.type y := by
  cases h with
  | int h1 h2 => rw [ht] at h1; cases h1
  | bool h1 => rw [ht] at h1; cases h1
  | str h1 _ _ => rw [ht] at h1; cases h1
  | agg h1 h2 h3 =>
    rw [ht] at h1
    injection h1 with h1
    injection h1 with h1
    subst h1
    refine ⟨_, rfl, h2, fun i f hi => ?_⟩
    have hlt : i < fs.size := (Array.getElem?_eq_some_iff.1 hi).1
    exact ⟨_, List.getElem?_eq_getElem (by omega), h3 i f _ hi (List.getElem?_eq_getElem (by omega))⟩
  | slice h1 => rw [ht] at h1; cases h1

/-- What a slice that fits is good for. -/
structure SliceFits (P : Program) (w : World) (e : TypeId) (a : Option Addr) (len cap : Nat) (xs : List Dt) : Prop where
  length : xs.length = len
  le : len ≤ cap
  max : cap ≤ maxLen
  nil : a = none → cap = 0
  short : len * P.bytesOf e ≤ 140737488351232
  cell : ∀ ad, a = some ad → ∀ (i : Nat) (x : Dt), xs[i]? = some x → ∀ (j : Nat) (v : Value), x.cells[j]? = some v → w.cell? (ad.add (i * P.cellsOf e + j)) = some v
  each : ∀ (i : Nat) (x : Dt), xs[i]? = some x → Fits P w e x ∧ x.cells.length = P.cellsOf e

theorem Fits.slice_inv {t e : TypeId} {x : Dt} (h : Fits P w t x) (ht : P.underlying t = some (.slice e)) : ∃ a len cap xs, x = .slice a len cap xs ∧ SliceFits P w e a len cap xs := by
  cases h with
  | int h1 h2 => rw [ht] at h1; cases h1
  | bool h1 => rw [ht] at h1; cases h1
  | str h1 _ _ => rw [ht] at h1; cases h1
  | agg h1 _ _ => rw [ht] at h1; cases h1
  | slice h1 h2 h3 h4 h5 h6 h7 h8 h9 =>
    rw [ht] at h1
    injection h1 with h1
    injection h1 with h1
    subst h1
    exact ⟨_, _, _, _, rfl, h2, h3, h4, h5, h6, h7, fun i x hx => ⟨h9 i x hx, h8 i x hx⟩⟩

theorem SliceFits.spot {e : TypeId} {a : Option Addr} {len cap : Nat} {xs : List Dt} (h : SliceFits P w e a len cap xs) (hp : 0 < P.cellsOf e) :
    ∃ b o, (0 < len → a = some ⟨b, o, none⟩ ∧ b < w.heap.size) ∧ ∀ (i : Nat) (x : Dt), xs[i]? = some x → ∀ (j : Nat) (v : Value), x.cells[j]? = some v → w.cell? ⟨b, o + (i * P.cellsOf e + j), none⟩ = some v := by
  by_cases h0 : len = 0
  · refine ⟨0, 0, fun hl => by omega, fun i x hx => ?_⟩
    have := (List.getElem?_eq_some_iff.1 hx).1
    have := h.length
    omega
  · cases ha : a with
    | none => have := h.nil ha; have := h.le; omega
    | some y =>
      obtain ⟨b, o, spot⟩ := y
      have hl := h.length
      obtain ⟨hx, hc⟩ := h.each 0 xs[0] (List.getElem?_eq_getElem (by omega))
      have h1 := h.cell _ ha 0 xs[0] (List.getElem?_eq_getElem (by omega)) 0 xs[0].cells[0] (List.getElem?_eq_getElem (by omega))
      have hsp : spot = none := by simpa [Addr.add] using World.cell?_spot h1
      subst hsp
      have hlt : b < w.heap.size := by
        unfold World.cell? at h1
        rcases Nat.lt_or_ge b w.heap.size with hlt | hge
        · exact hlt
        · simp [Addr.add, Array.getElem?_eq_none hge] at h1
      refine ⟨b, o, fun _ => ⟨rfl, hlt⟩, fun i x hx j v hv => ?_⟩
      have h2 := h.cell _ ha i x hx j v hv
      have e1 : (⟨b, o, none⟩ : Addr).add (i * P.cellsOf e + j) = ⟨b, o + (i * P.cellsOf e + j), none⟩ := by
        unfold Addr.add
        split
        · rename_i hz; simp at hz; simp
        · rfl
      rw [e1] at h2
      exact h2

theorem open_slice_dt (n : Nat) {t e : TypeId} {v : Value} {d : DataW H} {p : List MemPlace} (ht : P.underlying t = some (.slice e)) (hok : okTy P n t = true) {b0 : Nat} (hv : Value.okWide P w .any b0 t v)
    (h : DataW.Trod enc P w 0 (fun _ => true) true t v d p) (hw : ∀ m ∈ d.weights P t, m ≤ reachBytes) : ∃ a len cap xs, v = .slice a len cap ∧ SliceFits P w e a len cap xs := by
  obtain ⟨a, len, cap, rfl⟩ := okWide_slice ht hv
  obtain ⟨fuel, hf⟩ := h
  obtain ⟨x, hx, hfit, _⟩ := fits_of n t hok hf hw
  obtain ⟨a', len', cap', xs, rfl, hs⟩ := hfit.slice_inv ht
  have : (.slice a len cap : Value) = .slice a' len' cap' := by simpa [Value.cells, Dt.cells] using hx
  injection this with e1 e2 e3
  subst e1 e2 e3
  exact ⟨_, _, _, xs, rfl, hs⟩
theorem open_struct_dt (n : Nat) {t : TypeId} {fs : Array Field} {v : Value} {d : DataW H} {p : List MemPlace} (ht : P.underlying t = some (.struct fs)) (hok : okTy P n t = true) {b0 : Nat} (hv : Value.okWide P w .any b0 t v)
    (h : DataW.Trod enc P w 0 (fun _ => true) true t v d p) (hw : ∀ m ∈ d.weights P t, m ≤ reachBytes) : ∃ x, v = .agg x.cells.toArray ∧ Fits P w t x := by
  obtain ⟨cs, rfl, _⟩ := okWide_struct ht hv
  obtain ⟨fuel, hf⟩ := h
  obtain ⟨x, hx, hfit, _⟩ := fits_of n t hok hf hw
  refine ⟨x, ?_, hfit⟩
  have : cs.toList = x.cells := by simpa [Value.cells] using hx
  rw [← this]
end
end Go.Proofs.Ytoodmocapagapaa
namespace Go.Proofs.Ytoodmocapagapaa
open Go.RowKit
set_option linter.unusedSimpArgs false
set_option linter.unusedVariables false

structure SentE where
  t : Int
  sh : Int
  ten : Int
  fl : Int
  sz : Int
  pk : Int
def SentE.cells (e : SentE) : List Value := [.int .i64 e.t, .int .i64 e.sh, .int .i64 e.ten, .int .i64 e.fl, .int .i64 e.sz, .int .i64 e.pk]
def SentE.ok (e : SentE) : Prop := (-9223372036854775808 ≤ e.t ∧ e.t ≤ 9223372036854775807) ∧ (-9223372036854775808 ≤ e.sh ∧ e.sh ≤ 9223372036854775807) ∧ (-9223372036854775808 ≤ e.ten ∧ e.ten ≤ 9223372036854775807) ∧ (-9223372036854775808 ≤ e.fl ∧ e.fl ≤ 9223372036854775807) ∧ (-9223372036854775808 ≤ e.sz ∧ e.sz ≤ 9223372036854775807) ∧ (-9223372036854775808 ≤ e.pk ∧ e.pk ≤ 9223372036854775807)
structure SentIn (W : World) (a : Option Addr) (len cap b o : Nat) (E : Nat → SentE) : Prop where
  le : len ≤ cap
  max : cap ≤ maxLen
  at_ : 0 < len → a = some ⟨b, o, none⟩ ∧ b < W.heap.size
  cell : ∀ k, k < len → W.cell? ⟨b, o + k * 6, none⟩ = some (.int .i64 (E k).t) ∧ W.cell? ⟨b, o + k * 6 + 1, none⟩ = some (.int .i64 (E k).sh) ∧ W.cell? ⟨b, o + k * 6 + 2, none⟩ = some (.int .i64 (E k).ten) ∧ W.cell? ⟨b, o + k * 6 + 3, none⟩ = some (.int .i64 (E k).fl) ∧ W.cell? ⟨b, o + k * 6 + 4, none⟩ = some (.int .i64 (E k).sz) ∧ W.cell? ⟨b, o + k * 6 + 5, none⟩ = some (.int .i64 (E k).pk)
  bd : ∀ k, k < len → (E k).ok
theorem SentIn.below {W W' : World} {a : Option Addr} {len cap b o : Nat} {E : Nat → SentE} (h : SentIn W a len cap b o E) (hB : Below W.heap.size W W') : SentIn W' a len cap b o E :=
  ⟨h.le, h.max, fun hk => ⟨(h.at_ hk).1, by have := (h.at_ hk).2; have := hB.size; omega⟩, fun k hk => by
    have hb := (h.at_ (by omega)).2
    obtain ⟨c0, c1, c2, c3, c4, c5⟩ := h.cell k hk
    exact ⟨(hB.cell (p := ⟨b, _, none⟩) hb).trans c0, (hB.cell (p := ⟨b, _, none⟩) hb).trans c1, (hB.cell (p := ⟨b, _, none⟩) hb).trans c2, (hB.cell (p := ⟨b, _, none⟩) hb).trans c3, (hB.cell (p := ⟨b, _, none⟩) hb).trans c4, (hB.cell (p := ⟨b, _, none⟩) hb).trans c5⟩, h.bd⟩
theorem sent_cells (W : World) {a : Option Addr} {len cap : Nat} {xs : List Dt} (h : SliceFits Try.prog W 46 a len cap xs) : ∃ (b o : Nat) (E : Nat → SentE), SentIn W a len cap b o E := by
  have hc : Try.prog.cellsOf 46 = 6 := by kernel_rfl
  obtain ⟨b, o, h1, h2⟩ := h.spot (by rw [hc]; omega)
  have hex : ∀ k, ∃ q : SentE, k < len → (W.cell? ⟨b, o + k * 6, none⟩ = some (.int .i64 q.t) ∧ W.cell? ⟨b, o + k * 6 + 1, none⟩ = some (.int .i64 q.sh) ∧ W.cell? ⟨b, o + k * 6 + 2, none⟩ = some (.int .i64 q.ten) ∧ W.cell? ⟨b, o + k * 6 + 3, none⟩ = some (.int .i64 q.fl) ∧ W.cell? ⟨b, o + k * 6 + 4, none⟩ = some (.int .i64 q.sz) ∧ W.cell? ⟨b, o + k * 6 + 5, none⟩ = some (.int .i64 q.pk)) ∧ q.ok := fun k => by
    by_cases hk : k < len
    · have hl := h.length
      have hx := List.getElem?_eq_getElem (l := xs) (i := k) (by omega)
      obtain ⟨l0, hxe, hl0, hf0⟩ := (h.each k _ hx).1.agg_inv Try.underlying46
      obtain ⟨y0_0, e0_0, f0_0⟩ := hf0 0 _ rfl
      obtain ⟨y0_1, e0_1, f0_1⟩ := hf0 1 _ rfl
      obtain ⟨y0_2, e0_2, f0_2⟩ := hf0 2 _ rfl
      obtain ⟨y0_3, e0_3, f0_3⟩ := hf0 3 _ rfl
      obtain ⟨y0_4, e0_4, f0_4⟩ := hf0 4 _ rfl
      obtain ⟨y0_5, e0_5, f0_5⟩ := hf0 5 _ rfl
      obtain ⟨v0_0, rfl, gv0_0⟩ := f0_0.int_inv Try.underlying3
      obtain ⟨v0_1, rfl, gv0_1⟩ := f0_1.int_inv Try.underlying3
      obtain ⟨v0_2, rfl, gv0_2⟩ := f0_2.int_inv Try.underlying3
      obtain ⟨v0_3, rfl, gv0_3⟩ := f0_3.int_inv Try.underlying3
      obtain ⟨v0_4, rfl, gv0_4⟩ := f0_4.int_inv Try.underlying3
      obtain ⟨v0_5, rfl, gv0_5⟩ := f0_5.int_inv Try.underlying3
      match l0, hl0 with
      | [z0_0, z0_1, z0_2, z0_3, z0_4, z0_5], _ =>
        obtain rfl : z0_0 = _ := by simpa using e0_0
        obtain rfl : z0_1 = _ := by simpa using e0_1
        obtain rfl : z0_2 = _ := by simpa using e0_2
        obtain rfl : z0_3 = _ := by simpa using e0_3
        obtain rfl : z0_4 = _ := by simpa using e0_4
        obtain rfl : z0_5 = _ := by simpa using e0_5
        have hcell := h2 k _ hx
        rw [hxe, hc] at hcell
        exact ⟨⟨v0_0, v0_1, v0_2, v0_3, v0_4, v0_5⟩, fun _ => ⟨⟨hcell 0 _ rfl, by have := hcell 1 _ rfl; rwa [← Nat.add_assoc] at this, by have := hcell 2 _ rfl; rwa [← Nat.add_assoc] at this, by have := hcell 3 _ rfl; rwa [← Nat.add_assoc] at this, by have := hcell 4 _ rfl; rwa [← Nat.add_assoc] at this, by have := hcell 5 _ rfl; rwa [← Nat.add_assoc] at this⟩, gv0_0, gv0_1, gv0_2, gv0_3, gv0_4, gv0_5⟩⟩
    · exact ⟨⟨0, 0, 0, 0, 0, 0⟩, fun h => absurd h hk⟩
  have hg := fun k => Classical.choose_spec (hex k)
  exact ⟨b, o, fun k => Classical.choose (hex k), h.le, h.max, h1, fun k hk => (hg k hk).1, fun k hk => (hg k hk).2⟩
def sentL (E : Nat → SentE) (n : Nat) : List Value := (List.range n).flatMap fun k => (E k).cells
theorem sentL_succ (E : Nat → SentE) (n : Nat) : sentL E (n + 1) = sentL E n ++ (E n).cells := by simp [sentL, List.range_succ, List.flatMap_append]
theorem sentL_len (E : Nat → SentE) : ∀ n : Nat, (sentL E n).length = n * 6
  | 0 => by simp [sentL]
  | n + 1 => by rw [sentL_succ, List.length_append, sentL_len E n]; simp [SentE.cells]; omega
theorem sentL_congr {E E' : Nat → SentE} : ∀ {n : Nat}, (∀ k, k < n → E k = E' k) → sentL E n = sentL E' n
  | 0, _ => rfl
  | n + 1, h => by rw [sentL_succ, sentL_succ, sentL_congr (fun k hk => h k (by omega)), h n (by omega)]
theorem sentL_at (E : Nat → SentE) : ∀ (n k j : Nat), k < n → j < 6 → (sentL E n)[k * 6 + j]? = (E k).cells[j]?
  | 0, _, _, h, _ => by omega
  | n + 1, k, j, h, hj => by
    have hl := sentL_len E n
    rw [sentL_succ]
    by_cases hk : k < n
    · rw [List.getElem?_append_left (by omega)]
      exact sentL_at E n k j hk hj
    · obtain rfl : k = n := by omega
      rw [List.getElem?_append_right (by omega), hl]
      congr 1
      omega
theorem sent_row {w : World} {v : Value} {ob : Option Nat} {E : Nat → SentE} {n : Nat} (h : Row w v ob 46 6 n (sentL E n)) (hE : ∀ k, k < n → (E k).ok) :
    ∃ a cap, v = .slice a n cap ∧ SentIn w a n cap (ob.getD 0) 0 E := by
  obtain ⟨a, cap, rfl, h1, h2, h3⟩ := h.shape
  refine ⟨a, cap, rfl, h1, h2, fun hk => ?_, fun k hk => ?_, hE⟩
  · obtain ⟨g, hg, _⟩ := h.cell 0 (by omega)
    subst hg
    exact ⟨h3, h.lt⟩
  · have hh : ∀ j, j < 6 → w.cell? ⟨ob.getD 0, 0 + k * 6 + j, none⟩ = (E k).cells[j]? := fun j hj => by
      obtain ⟨g, hg, hc, _⟩ := h.cell (k * 6 + j) (by omega)
      subst hg
      rw [Option.getD_some, Nat.zero_add, hc, sentL_at E n k j hk hj]
    exact ⟨hh 0 (by omega), hh 1 (by omega), hh 2 (by omega), hh 3 (by omega), hh 4 (by omega), hh 5 (by omega)⟩
structure ForceE where
  t : Int
  ten : Int
  r : Int
  b : Int
def ForceE.cells (e : ForceE) : List Value := [.int .i64 e.t, .int .i64 e.ten, .int .i64 e.r, .int .i64 e.b]
def ForceE.ok (e : ForceE) : Prop := (-9223372036854775808 ≤ e.t ∧ e.t ≤ 9223372036854775807) ∧ (-9223372036854775808 ≤ e.ten ∧ e.ten ≤ 9223372036854775807) ∧ (-9223372036854775808 ≤ e.r ∧ e.r ≤ 9223372036854775807) ∧ (-9223372036854775808 ≤ e.b ∧ e.b ≤ 9223372036854775807)
structure ForceIn (W : World) (a : Option Addr) (len cap b o : Nat) (E : Nat → ForceE) : Prop where
  le : len ≤ cap
  max : cap ≤ maxLen
  at_ : 0 < len → a = some ⟨b, o, none⟩ ∧ b < W.heap.size
  cell : ∀ k, k < len → W.cell? ⟨b, o + k * 4, none⟩ = some (.int .i64 (E k).t) ∧ W.cell? ⟨b, o + k * 4 + 1, none⟩ = some (.int .i64 (E k).ten) ∧ W.cell? ⟨b, o + k * 4 + 2, none⟩ = some (.int .i64 (E k).r) ∧ W.cell? ⟨b, o + k * 4 + 3, none⟩ = some (.int .i64 (E k).b)
  bd : ∀ k, k < len → (E k).ok
theorem ForceIn.below {W W' : World} {a : Option Addr} {len cap b o : Nat} {E : Nat → ForceE} (h : ForceIn W a len cap b o E) (hB : Below W.heap.size W W') : ForceIn W' a len cap b o E :=
  ⟨h.le, h.max, fun hk => ⟨(h.at_ hk).1, by have := (h.at_ hk).2; have := hB.size; omega⟩, fun k hk => by
    have hb := (h.at_ (by omega)).2
    obtain ⟨c0, c1, c2, c3⟩ := h.cell k hk
    exact ⟨(hB.cell (p := ⟨b, _, none⟩) hb).trans c0, (hB.cell (p := ⟨b, _, none⟩) hb).trans c1, (hB.cell (p := ⟨b, _, none⟩) hb).trans c2, (hB.cell (p := ⟨b, _, none⟩) hb).trans c3⟩, h.bd⟩
def forceL (E : Nat → ForceE) (n : Nat) : List Value := (List.range n).flatMap fun k => (E k).cells
theorem forceL_succ (E : Nat → ForceE) (n : Nat) : forceL E (n + 1) = forceL E n ++ (E n).cells := by simp [forceL, List.range_succ, List.flatMap_append]
theorem forceL_len (E : Nat → ForceE) : ∀ n : Nat, (forceL E n).length = n * 4
  | 0 => by simp [forceL]
  | n + 1 => by rw [forceL_succ, List.length_append, forceL_len E n]; simp [ForceE.cells]; omega
theorem forceL_congr {E E' : Nat → ForceE} : ∀ {n : Nat}, (∀ k, k < n → E k = E' k) → forceL E n = forceL E' n
  | 0, _ => rfl
  | n + 1, h => by rw [forceL_succ, forceL_succ, forceL_congr (fun k hk => h k (by omega)), h n (by omega)]
theorem forceL_at (E : Nat → ForceE) : ∀ (n k j : Nat), k < n → j < 4 → (forceL E n)[k * 4 + j]? = (E k).cells[j]?
  | 0, _, _, h, _ => by omega
  | n + 1, k, j, h, hj => by
    have hl := forceL_len E n
    rw [forceL_succ]
    by_cases hk : k < n
    · rw [List.getElem?_append_left (by omega)]
      exact forceL_at E n k j hk hj
    · obtain rfl : k = n := by omega
      rw [List.getElem?_append_right (by omega), hl]
      congr 1
      omega
structure SumE where
  t : Int
  sz : Int
def SumE.cells (e : SumE) : List Value := [.int .i64 e.t, .int .i64 e.sz]
def SumE.ok (e : SumE) : Prop := (-9223372036854775808 ≤ e.t ∧ e.t ≤ 9223372036854775807) ∧ (-9223372036854775808 ≤ e.sz ∧ e.sz ≤ 9223372036854775807)
structure SumIn (W : World) (a : Option Addr) (len cap b o : Nat) (E : Nat → SumE) : Prop where
  le : len ≤ cap
  max : cap ≤ maxLen
  at_ : 0 < len → a = some ⟨b, o, none⟩ ∧ b < W.heap.size
  cell : ∀ k, k < len → W.cell? ⟨b, o + k * 2, none⟩ = some (.int .i64 (E k).t) ∧ W.cell? ⟨b, o + k * 2 + 1, none⟩ = some (.int .i64 (E k).sz)
  bd : ∀ k, k < len → (E k).ok
theorem SumIn.below {W W' : World} {a : Option Addr} {len cap b o : Nat} {E : Nat → SumE} (h : SumIn W a len cap b o E) (hB : Below W.heap.size W W') : SumIn W' a len cap b o E :=
  ⟨h.le, h.max, fun hk => ⟨(h.at_ hk).1, by have := (h.at_ hk).2; have := hB.size; omega⟩, fun k hk => by
    have hb := (h.at_ (by omega)).2
    obtain ⟨c0, c1⟩ := h.cell k hk
    exact ⟨(hB.cell (p := ⟨b, _, none⟩) hb).trans c0, (hB.cell (p := ⟨b, _, none⟩) hb).trans c1⟩, h.bd⟩
def sumL (E : Nat → SumE) (n : Nat) : List Value := (List.range n).flatMap fun k => (E k).cells
theorem sumL_succ (E : Nat → SumE) (n : Nat) : sumL E (n + 1) = sumL E n ++ (E n).cells := by simp [sumL, List.range_succ, List.flatMap_append]
theorem sumL_len (E : Nat → SumE) : ∀ n : Nat, (sumL E n).length = n * 2
  | 0 => by simp [sumL]
  | n + 1 => by rw [sumL_succ, List.length_append, sumL_len E n]; simp [SumE.cells]; omega
theorem sumL_congr {E E' : Nat → SumE} : ∀ {n : Nat}, (∀ k, k < n → E k = E' k) → sumL E n = sumL E' n
  | 0, _ => rfl
  | n + 1, h => by rw [sumL_succ, sumL_succ, sumL_congr (fun k hk => h k (by omega)), h n (by omega)]
theorem sumL_at (E : Nat → SumE) : ∀ (n k j : Nat), k < n → j < 2 → (sumL E n)[k * 2 + j]? = (E k).cells[j]?
  | 0, _, _, h, _ => by omega
  | n + 1, k, j, h, hj => by
    have hl := sumL_len E n
    rw [sumL_succ]
    by_cases hk : k < n
    · rw [List.getElem?_append_left (by omega)]
      exact sumL_at E n k j hk hj
    · obtain rfl : k = n := by omega
      rw [List.getElem?_append_right (by omega), hl]
      congr 1
      omega
structure SpanE where
  b : Int
  e : Int
  r : Int
  u : Int
def SpanE.cells (e : SpanE) : List Value := [.int .i64 e.b, .int .i64 e.e, .int .i64 e.r, .int .i64 e.u]
def SpanE.ok (e : SpanE) : Prop := (-9223372036854775808 ≤ e.b ∧ e.b ≤ 9223372036854775807) ∧ (-9223372036854775808 ≤ e.e ∧ e.e ≤ 9223372036854775807) ∧ (-9223372036854775808 ≤ e.r ∧ e.r ≤ 9223372036854775807) ∧ (-9223372036854775808 ≤ e.u ∧ e.u ≤ 9223372036854775807)
structure SpanIn (W : World) (a : Option Addr) (len cap b o : Nat) (E : Nat → SpanE) : Prop where
  le : len ≤ cap
  max : cap ≤ maxLen
  at_ : 0 < len → a = some ⟨b, o, none⟩ ∧ b < W.heap.size
  cell : ∀ k, k < len → W.cell? ⟨b, o + k * 4, none⟩ = some (.int .i64 (E k).b) ∧ W.cell? ⟨b, o + k * 4 + 1, none⟩ = some (.int .i64 (E k).e) ∧ W.cell? ⟨b, o + k * 4 + 2, none⟩ = some (.int .i64 (E k).r) ∧ W.cell? ⟨b, o + k * 4 + 3, none⟩ = some (.int .i64 (E k).u)
  bd : ∀ k, k < len → (E k).ok
theorem SpanIn.below {W W' : World} {a : Option Addr} {len cap b o : Nat} {E : Nat → SpanE} (h : SpanIn W a len cap b o E) (hB : Below W.heap.size W W') : SpanIn W' a len cap b o E :=
  ⟨h.le, h.max, fun hk => ⟨(h.at_ hk).1, by have := (h.at_ hk).2; have := hB.size; omega⟩, fun k hk => by
    have hb := (h.at_ (by omega)).2
    obtain ⟨c0, c1, c2, c3⟩ := h.cell k hk
    exact ⟨(hB.cell (p := ⟨b, _, none⟩) hb).trans c0, (hB.cell (p := ⟨b, _, none⟩) hb).trans c1, (hB.cell (p := ⟨b, _, none⟩) hb).trans c2, (hB.cell (p := ⟨b, _, none⟩) hb).trans c3⟩, h.bd⟩
def spanL (E : Nat → SpanE) (n : Nat) : List Value := (List.range n).flatMap fun k => (E k).cells
theorem spanL_succ (E : Nat → SpanE) (n : Nat) : spanL E (n + 1) = spanL E n ++ (E n).cells := by simp [spanL, List.range_succ, List.flatMap_append]
theorem spanL_len (E : Nat → SpanE) : ∀ n : Nat, (spanL E n).length = n * 4
  | 0 => by simp [spanL]
  | n + 1 => by rw [spanL_succ, List.length_append, spanL_len E n]; simp [SpanE.cells]; omega
theorem spanL_congr {E E' : Nat → SpanE} : ∀ {n : Nat}, (∀ k, k < n → E k = E' k) → spanL E n = spanL E' n
  | 0, _ => rfl
  | n + 1, h => by rw [spanL_succ, spanL_succ, spanL_congr (fun k hk => h k (by omega)), h n (by omega)]
theorem spanL_at (E : Nat → SpanE) : ∀ (n k j : Nat), k < n → j < 4 → (spanL E n)[k * 4 + j]? = (E k).cells[j]?
  | 0, _, _, h, _ => by omega
  | n + 1, k, j, h, hj => by
    have hl := spanL_len E n
    rw [spanL_succ]
    by_cases hk : k < n
    · rw [List.getElem?_append_left (by omega)]
      exact spanL_at E n k j hk hj
    · obtain rfl : k = n := by omega
      rw [List.getElem?_append_right (by omega), hl]
      congr 1
      omega
end Go.Proofs.Ytoodmocapagapaa
namespace Go.Proofs.Ytoodmocapagapaa
open Go.RowKit
set_option linter.unusedSimpArgs false
set_option linter.unusedVariables false

def Blk (W : World) (B : Nat) (cs : Array Value) (t : TypeId) : Prop := W.heap[B]? = some (.cells cs t (0, 0))
theorem Blk.lt {W : World} {B : Nat} {cs : Array Value} {t : TypeId} (h : Blk W B cs t) : B < W.heap.size := (Array.getElem?_eq_some_iff.1 h).1
theorem Blk.step {A B : World} {n : Nat} {c : Array Value} {t : TypeId} (h : Blk A n c t) (hB : Below A.heap.size A B) : Blk B n c t := (hB.block n h.lt).trans h
theorem Blk.ne {A : World} {n : Nat} {c : Array Value} {t : TypeId} (h : Blk A n c t) (p : Addr) (hp : n ≠ p.block) (u : Value) : Blk (A.setCell p u) n c t := (heap_setCell_ne _ _ _ _ hp).trans h
theorem Blk.set {A : World} {n : Nat} {c : Array Value} {t : TypeId} (h : Blk A n c t) (j : Nat) (u : Value) : Blk (A.setCell ⟨n, j, none⟩ u) n (c.setIfInBounds j u) t := heap_setCell_same h j u
theorem blk_new (A : World) (c : Array Value) (t : TypeId) : Blk (A.alloc (.cells c t)) A.heap.size c t := heap_alloc_new A _
theorem Blk.alloc {A : World} {n : Nat} {c : Array Value} {t : TypeId} (h : Blk A n c t) (o : Obj) : Blk (A.alloc o) n c t := (Below.heap_alloc _ _ _ h.lt).trans h
end Go.Proofs.Ytoodmocapagapaa
namespace Go.Proofs.Ytoodmocapagapaa
open Go.RowKit
set_option linter.unusedSimpArgs false
set_option linter.unusedVariables false

def isT (n : Int) : Bool := decide (1 ≤ n ∧ n ≤ 16)
def mayB (r u : Int) : Bool := decide (0 ≤ r ∧ r ≤ 1000000 ∧ 0 ≤ u ∧ u ≤ 1000000)
/-! ### May a record be? -/
def sentOk (last : Int) (x : SentE) : Bool := decide (last ≤ x.t ∧ x.t ≤ 1099511627776 ∧ 1 ≤ x.sz ∧ x.sz ≤ 1500) && isT x.ten
def forceOk (last : Int) (x : ForceE) : Bool := decide (last ≤ x.t ∧ x.t ≤ 1099511627776) && (isT x.ten && mayB x.r x.b)
def lastS (L : Nat → SentE) (k : Nat) : Int := if k = 0 then 1 else (L (k - 1)).t
def lastF (F : Nat → ForceE) (k : Nat) : Int := if k = 0 then 0 else (F (k - 1)).t
theorem lastS_succ (L : Nat → SentE) (k : Nat) : lastS L (k + 1) = (L k).t := by simp [lastS]
theorem lastF_succ (F : Nat → ForceE) (k : Nat) : lastF F (k + 1) = (F k).t := by simp [lastF]
def chkS (L : Nat → SentE) : Nat → Bool
  | 0 => true
  | n + 1 => chkS L n && sentOk (lastS L n) (L n)
def chkF (F : Nat → ForceE) : Nat → Bool
  | 0 => true
  | n + 1 => chkF F n && forceOk (lastF F n) (F n)
theorem chkS_false {L : Nat → SentE} {k : Nat} (h : sentOk (lastS L k) (L k) = false) : ∀ n, k < n → chkS L n = false
  | 0, hk => by omega
  | n + 1, hk => by
    unfold chkS
    by_cases e : k = n
    · subst e; rw [h, Bool.and_false]
    · rw [chkS_false h n (by omega), Bool.false_and]
theorem chkF_false {F : Nat → ForceE} {k : Nat} (h : forceOk (lastF F k) (F k) = false) : ∀ n, k < n → chkF F n = false
  | 0, hk => by omega
  | n + 1, hk => by
    unfold chkF
    by_cases e : k = n
    · subst e; rw [h, Bool.and_false]
    · rw [chkF_false h n (by omega), Bool.false_and]
theorem sentOk_no {l : Int} {x : SentE} (h : sentOk l x = false) : x.t < l ∨ (l ≤ x.t ∧ 1099511627776 < x.t) ∨ (l ≤ x.t ∧ x.t ≤ 1099511627776 ∧ x.sz < 1) ∨ (l ≤ x.t ∧ x.t ≤ 1099511627776 ∧ 1 ≤ x.sz ∧ 1500 < x.sz) ∨ (l ≤ x.t ∧ x.t ≤ 1099511627776 ∧ 1 ≤ x.sz ∧ x.sz ≤ 1500 ∧ isT x.ten = false) := by
  unfold sentOk at h
  cases hT : isT x.ten
  · simp only [and_true]
    omega
  · rw [hT] at h
    simp at h
    omega
theorem sentOk_yes {l : Int} {x : SentE} (h : sentOk l x = true) : l ≤ x.t ∧ x.t ≤ 1099511627776 ∧ 1 ≤ x.sz ∧ x.sz ≤ 1500 ∧ isT x.ten = true := by
  unfold sentOk at h
  simp only [Bool.and_eq_true, decide_eq_true_eq] at h
  exact ⟨h.1.1, h.1.2.1, h.1.2.2.1, h.1.2.2.2, h.2⟩
theorem forceOk_no {l : Int} {x : ForceE} (h : forceOk l x = false) : x.t < l ∨ (l ≤ x.t ∧ 1099511627776 < x.t) ∨ (l ≤ x.t ∧ x.t ≤ 1099511627776 ∧ isT x.ten = false) ∨ (l ≤ x.t ∧ x.t ≤ 1099511627776 ∧ isT x.ten = true ∧ mayB x.r x.b = false) := by
  unfold forceOk at h
  cases hT : isT x.ten <;> cases hM : mayB x.r x.b <;> rw [hT, hM] at h <;> simp at h <;> first | omega | (simp; omega)
theorem forceOk_yes {l : Int} {x : ForceE} (h : forceOk l x = true) : l ≤ x.t ∧ x.t ≤ 1099511627776 ∧ isT x.ten = true ∧ mayB x.r x.b = true := by
  unfold forceOk at h
  simp only [Bool.and_eq_true, decide_eq_true_eq] at h
  exact ⟨h.1.1, h.1.2, h.2.1, h.2.2⟩
end Go.Proofs.Ytoodmocapagapaa
namespace Go.Proofs.Ytoodmocapagapaa
open Go.RowKit
set_option linter.unusedSimpArgs false
set_option linter.unusedVariables false

structure FlowE where
  t : Int
  w : Int
  r : Int
def FlowE.cells (e : FlowE) : List Value := [.int .i64 e.t, .int .i64 e.w, .int .i64 e.r]
def FlowE.ok (e : FlowE) : Prop := (-9223372036854775808 ≤ e.t ∧ e.t ≤ 9223372036854775807) ∧ (-9223372036854775808 ≤ e.w ∧ e.w ≤ 9223372036854775807) ∧ (-9223372036854775808 ≤ e.r ∧ e.r ≤ 9223372036854775807)
structure FlowIn (W : World) (a : Option Addr) (len cap b o : Nat) (E : Nat → FlowE) : Prop where
  le : len ≤ cap
  max : cap ≤ maxLen
  at_ : 0 < len → a = some ⟨b, o, none⟩ ∧ b < W.heap.size
  cell : ∀ k, k < len → W.cell? ⟨b, o + k * 3, none⟩ = some (.int .i64 (E k).t) ∧ W.cell? ⟨b, o + k * 3 + 1, none⟩ = some (.int .i64 (E k).w) ∧ W.cell? ⟨b, o + k * 3 + 2, none⟩ = some (.int .i64 (E k).r)
  bd : ∀ k, k < len → (E k).ok
theorem FlowIn.below {W W' : World} {a : Option Addr} {len cap b o : Nat} {E : Nat → FlowE} (h : FlowIn W a len cap b o E) (hB : Below W.heap.size W W') : FlowIn W' a len cap b o E :=
  ⟨h.le, h.max, fun hk => ⟨(h.at_ hk).1, by have := (h.at_ hk).2; have := hB.size; omega⟩, fun k hk => by
    have hb := (h.at_ (by omega)).2
    obtain ⟨c0, c1, c2⟩ := h.cell k hk
    exact ⟨(hB.cell (p := ⟨b, _, none⟩) hb).trans c0, (hB.cell (p := ⟨b, _, none⟩) hb).trans c1, (hB.cell (p := ⟨b, _, none⟩) hb).trans c2⟩, h.bd⟩
theorem flow_cells (W : World) {a : Option Addr} {len cap : Nat} {xs : List Dt} (h : SliceFits Try.prog W 51 a len cap xs) : ∃ (b o : Nat) (E : Nat → FlowE), FlowIn W a len cap b o E := by
  have hc : Try.prog.cellsOf 51 = 3 := by kernel_rfl
  obtain ⟨b, o, h1, h2⟩ := h.spot (by rw [hc]; omega)
  have hex : ∀ k, ∃ q : FlowE, k < len → (W.cell? ⟨b, o + k * 3, none⟩ = some (.int .i64 q.t) ∧ W.cell? ⟨b, o + k * 3 + 1, none⟩ = some (.int .i64 q.w) ∧ W.cell? ⟨b, o + k * 3 + 2, none⟩ = some (.int .i64 q.r)) ∧ q.ok := fun k => by
    by_cases hk : k < len
    · have hl := h.length
      have hx := List.getElem?_eq_getElem (l := xs) (i := k) (by omega)
      obtain ⟨l0, hxe, hl0, hf0⟩ := (h.each k _ hx).1.agg_inv Try.underlying51
      obtain ⟨y0_0, e0_0, f0_0⟩ := hf0 0 _ rfl
      obtain ⟨y0_1, e0_1, f0_1⟩ := hf0 1 _ rfl
      obtain ⟨y0_2, e0_2, f0_2⟩ := hf0 2 _ rfl
      obtain ⟨v0_0, rfl, gv0_0⟩ := f0_0.int_inv Try.underlying3
      obtain ⟨v0_1, rfl, gv0_1⟩ := f0_1.int_inv Try.underlying3
      obtain ⟨v0_2, rfl, gv0_2⟩ := f0_2.int_inv Try.underlying3
      match l0, hl0 with
      | [z0_0, z0_1, z0_2], _ =>
        obtain rfl : z0_0 = _ := by simpa using e0_0
        obtain rfl : z0_1 = _ := by simpa using e0_1
        obtain rfl : z0_2 = _ := by simpa using e0_2
        have hcell := h2 k _ hx
        rw [hxe, hc] at hcell
        exact ⟨⟨v0_0, v0_1, v0_2⟩, fun _ => ⟨⟨hcell 0 _ rfl, by have := hcell 1 _ rfl; rwa [← Nat.add_assoc] at this, by have := hcell 2 _ rfl; rwa [← Nat.add_assoc] at this⟩, gv0_0, gv0_1, gv0_2⟩⟩
    · exact ⟨⟨0, 0, 0⟩, fun h => absurd h hk⟩
  have hg := fun k => Classical.choose_spec (hex k)
  exact ⟨b, o, fun k => Classical.choose (hex k), h.le, h.max, h1, fun k hk => (hg k hk).1, fun k hk => (hg k hk).2⟩
def flowL (E : Nat → FlowE) (n : Nat) : List Value := (List.range n).flatMap fun k => (E k).cells
theorem flowL_succ (E : Nat → FlowE) (n : Nat) : flowL E (n + 1) = flowL E n ++ (E n).cells := by simp [flowL, List.range_succ, List.flatMap_append]
theorem flowL_len (E : Nat → FlowE) : ∀ n : Nat, (flowL E n).length = n * 3
  | 0 => by simp [flowL]
  | n + 1 => by rw [flowL_succ, List.length_append, flowL_len E n]; simp [FlowE.cells]; omega
theorem flowL_congr {E E' : Nat → FlowE} : ∀ {n : Nat}, (∀ k, k < n → E k = E' k) → flowL E n = flowL E' n
  | 0, _ => rfl
  | n + 1, h => by rw [flowL_succ, flowL_succ, flowL_congr (fun k hk => h k (by omega)), h n (by omega)]
theorem flowL_at (E : Nat → FlowE) : ∀ (n k j : Nat), k < n → j < 3 → (flowL E n)[k * 3 + j]? = (E k).cells[j]?
  | 0, _, _, h, _ => by omega
  | n + 1, k, j, h, hj => by
    have hl := flowL_len E n
    rw [flowL_succ]
    by_cases hk : k < n
    · rw [List.getElem?_append_left (by omega)]
      exact flowL_at E n k j hk hj
    · obtain rfl : k = n := by omega
      rw [List.getElem?_append_right (by omega), hl]
      congr 1
      omega
theorem flow_row {w : World} {v : Value} {ob : Option Nat} {E : Nat → FlowE} {n : Nat} (h : Row w v ob 51 3 n (flowL E n)) (hE : ∀ k, k < n → (E k).ok) :
    ∃ a cap, v = .slice a n cap ∧ FlowIn w a n cap (ob.getD 0) 0 E := by
  obtain ⟨a, cap, rfl, h1, h2, h3⟩ := h.shape
  refine ⟨a, cap, rfl, h1, h2, fun hk => ?_, fun k hk => ?_, hE⟩
  · obtain ⟨g, hg, _⟩ := h.cell 0 (by omega)
    subst hg
    exact ⟨h3, h.lt⟩
  · have hh : ∀ j, j < 3 → w.cell? ⟨ob.getD 0, 0 + k * 3 + j, none⟩ = (E k).cells[j]? := fun j hj => by
      obtain ⟨g, hg, hc, _⟩ := h.cell (k * 3 + j) (by omega)
      subst hg
      rw [Option.getD_some, Nat.zero_add, hc, flowL_at E n k j hk hj]
    exact ⟨hh 0 (by omega), hh 1 (by omega), hh 2 (by omega)⟩
end Go.Proofs.Ytoodmocapagapaa
namespace Go.Proofs.Ytoodmocapagapaa
open Go.RowKit
set_option linter.unusedSimpArgs false
set_option linter.unusedVariables false

section
variable {P : Program} (w : World)
theorem run_append_row_zero (t ty e : TypeId) (i : TypeInfo) (size : Nat) (ht : P.underlying t = some (.slice e)) (hi : P.info? e = some i) (v : Value) (ob : Option Nat) (n : Nat) (xs : List Value) (hrow : Row w v ob e size n xs) (ad : Option Addr) (c : Nat) :
    (Builtin.append_ #[t, t] ty #[v, .slice ad 0 c]).run P w = .ok v w := by
  cases ad with
  | none =>
    rcases hrow.cases with ⟨rfl, rfl, rfl, rfl⟩ | ⟨g, cap, cur, rfl, rfl, hg, hnc, hcm, hcs, htake⟩
    · simp [Builtin.append_, run_underlying ht, sizeOf, typeInfo, hi, Builtin.lenOf, Builtin.firstCells]
    · simp [Builtin.append_, run_underlying ht, sizeOf, typeInfo, hi, Builtin.lenOf, Builtin.firstCells, hnc, storeCells]
  | some a =>
    rcases hrow.cases with ⟨rfl, rfl, rfl, rfl⟩ | ⟨g, cap, cur, rfl, rfl, hg, hnc, hcm, hcs, htake⟩
    · simp [Builtin.append_, run_underlying ht, sizeOf, typeInfo, hi, Builtin.lenOf, Builtin.firstCells, loadCells, loadCellsFrom]
    · simp [Builtin.append_, run_underlying ht, sizeOf, typeInfo, hi, Builtin.lenOf, Builtin.firstCells, hnc, storeCells, loadCells, loadCellsFrom]
theorem wpList_append_row_zero {ops : Array Oper} {rest : List Oper} {o : Oper} {a : Act} {Q : Exit → Act → World → Prop} (hgd : o.guard = none) (s x : Operand) (t : TypeId)
    (ho : o.op = .call { callee := .builtin .append, args := #[s, x], argTypes := #[t, t] }) (e : TypeId) (i : TypeInfo) (size : Nat) (ht : P.underlying t = some (.slice e)) (hi : P.info? e = some i)
    (v : Value) (ob : Option Nat) (n : Nat) (xs : List Value) (hs : a.eval s = v) (hrow : Row w v ob e size n xs) (ad : Option Addr) (c : Nat) (hx : a.eval x = .slice ad 0 c)
    (h : wpList P ops Q rest (a.put o.dst v) w) : wpList P ops Q (o :: rest) a w := by
  refine wpList_plain hgd fun K hK => ?_
  have hrun := run_append_row_zero (P := P) w t o.type e i size ht hi v ob n xs hrow ad c
  unfold Oper.wp execOp
  simp only [ho, resolve, invoke, builtin, Sem.run_bind, Sem.run_pure, Result.andThen_ok, List.map_toArray, List.map_cons, List.map_nil, hs, hx, hrun]
  exact hK _ _ h
end

theorem addr_add (b o j : Nat) : (⟨b, o, none⟩ : Addr).add j = ⟨b, o + j, none⟩ := by
  unfold Addr.add
  split <;> simp_all
end Go.Proofs.Ytoodmocapagapaa
namespace Go.Proofs.Ytoodmocapagapaa
open Go.RowKit Go.Shelf
set_option linter.unusedSimpArgs false
set_option linter.unusedVariables false

attribute [local go_sem] Oper.semAt_some

/-- What a round keeps: what lay below n₀, and the iterator's own boxes. -/
def KpP (n₀ B1 B2 : Nat) (W W' : World) : Prop := Below n₀ W W' ∧ W'.heap[B1]? = W.heap[B1]? ∧ W'.heap[B2]? = W.heap[B2]?
def encP (x : Nat) : Array Value := #[.int .i64 (x : Nat)]
/-- The places of a tenant's flows among the first k. -/
def plcs (t : Int) (E : Nat → FlowE) : Nat → List Nat
  | 0 => []
  | k + 1 => plcs t E k ++ if (E k).t == t then [k] else []
theorem plcs_len (t : Int) (E : Nat → FlowE) : ∀ k : Nat, (plcs t E k).length ≤ k
  | 0 => by simp [plcs]
  | k + 1 => by have := plcs_len t E k; simp only [plcs, List.length_append]; split <;> simp <;> omega

set_option maxRecDepth 100000 in
set_option maxHeartbeats 4000000 in
theorem places1_in (nn : Nat) (hnn : 1 ≤ nn) (l B1 B2 n₀ : Nat) (t : Int) (a : Option Addr) (len cap b o : Nat) (E : Nat → FlowE) (w₀ : World) (hn₀ : n₀ = w₀.heap.size) (hs : FlowIn w₀ a len cap b o E) (J Jx : List Nat → World → Prop)
    (hY : ∀ pre x W, J pre W → pre.length < len → YieldAt Fence.wide (nn - 1) Try.prog l (encP x) W fun e W' =>
      (e = .returned (.bool true) ∧ J (pre ++ [x]) W' ∧ KpP n₀ B1 B2 W W') ∨ (e = .returned (.bool false) ∧ Jx (pre ++ [x]) W'))
    (W : World) (hJa : ∀ pre W1 X, J pre W1 → Below W1.heap.size W1 X → J pre X) (hW : Below n₀ w₀ W) (hB1 : B1 < W.heap.size) (hB2 : B2 < W.heap.size) (h1 : W.cell? ⟨B1, 0, none⟩ = some (.slice a len cap)) (h2 : W.cell? ⟨B2, 0, none⟩ = some (.int .i64 t)) (hJ0 : J [] W) :
    CallsIn Fence.wide nn Try.prog 61 #[.func (.yield l) #[] #[], .pointer (some ⟨B1, 0, none⟩), .pointer (some ⟨B2, 0, none⟩)] W fun e W' => (∃ v, e = .returned v) ∧
      ((∃ ys, ys = plcs t E len ∧ J ys W') ∨ (∃ pre, (∃ k, k ≤ len ∧ pre = plcs t E k ∧ pre ≠ []) ∧ Jx pre W')) := by
  have hm := hs.max
  have hl := hs.le
  unfold maxLen at hm
  have HS := Lib.hid hs
  have HN := Lib.hid hn₀
  have HW := Lib.hid hW
  have HY := Lib.hid hY
  have HJA := Lib.hid hJa
  have hW0 : w₀.heap.size ≤ W.heap.size := by have := hW.size; omega
  have HJ0 : Hid (J (plcs t E 0) W) := Lib.hid hJ0
  have HKB : Hid (KpP n₀ B1 B2 W W) := Lib.hid ⟨Below.refl _ _, rfl, rfl⟩
  clear hs hn₀ hW hY hJa hJ0
  refine callsIn_of_wp Try.func61 rfl trivial ?_ rfl
  simp only [Try.ntmps61, List.size_toArray, List.length_cons, List.length_nil, Nat.reduceAdd, Nat.reduceSub, Array.replicate_succ, Array.replicate_zero, List.push_toArray, List.append_toArray, List.nil_append, List.cons_append]
  gi_wp2_with fail
  gi_loopw [8] (fun i wr => ∃ k : Nat, k ≤ len ∧ i = .int .i64 k ∧ J (plcs t E k) wr ∧ KpP n₀ B1 B2 W wr) (fun i _ => len - (intOf i).toNat)
  case atStart => exact ⟨0, Nat.zero_le _, rfl, HJ0.out, HKB.out⟩
  case round =>
    obtain ⟨k, hk, rfl, hJs, hnx, hn1, hn2⟩ := hrel
    have c2 : wr.cell? ⟨B2, 0, none⟩ = some (.int .i64 t) := (World.cell?_of_block (a := ⟨B2, 0, none⟩) hn2).trans h2
    have hB1r : B1 < wr.heap.size := Nat.lt_of_lt_of_le hB1 hnx.size
    have hB2r : B2 < wr.heap.size := Nat.lt_of_lt_of_le hB2 hnx.size
    have HJs := Lib.hid hJs
    have HNX := Lib.hid hnx
    have HN1 := Lib.hid hn1
    have HN2 := Lib.hid hn2
    by_cases hlt : k < len
    · obtain ⟨e0, e1⟩ := HS.out.at_ (by omega)
      subst e0
      have HSr := Lib.hid (HS.out.below (by rw [← HN.out]; exact HW.out.trans hnx))
      obtain ⟨k0, k1, k2⟩ := HSr.out.cell k hlt
      obtain ⟨en, hen⟩ : ∃ en, en = E k := ⟨_, rfl⟩
      obtain ⟨q, hq⟩ : ∃ q, q = (en.t == t) := ⟨_, rfl⟩
      have HT : Hid (plcs t E (k + 1) = plcs t E k ++ if q then [k] else []) := Lib.hid (by rw [hq, hen]; rfl)
      rw [← hen] at k0 k1 k2
      obtain ⟨et, ew, er⟩ := en
      simp only at k0 k1 k2 hq
      have hq2 := hq.symm
      have hBx : Below wr.heap.size wr (wr.alloc (.cells #[.int .i64 et, .int .i64 ew, .int .i64 er] 51)) := (Below.refl _ _).alloc (Nat.le_refl _) _
      have hY1 := HY.out (plcs t E k) k _ (HJA.out _ _ _ hJs hBx) (by have := plcs_len t E k; omega)
      have hE : encP k = #[.int .i64 (k : Nat)] := rfl
      rw [hE] at hY1
      have HBX := Lib.hid hBx
      clear hE hen hJs hnx hn1 hn2 hBx hq
      have hBX1 : Below n₀ W (wr.alloc (.cells #[.int .i64 et, .int .i64 ew, .int .i64 er] 51)) := HNX.out.trans (HBX.out.mono (by rw [HN.out]; exact Nat.le_trans hW0 HNX.out.size))
      have HBX1 := Lib.hid hBX1
      clear hBX1
      cases q
      · clear hY1
        gi_wp2_with fail
        refine ⟨(by intro f hf; cases hf), ?_⟩
        gi_wp2_with fail
        go_roundw
        case rel => exact ⟨k + 1, by omega, by go_num, by rw [HT.out]; simpa using HJA.out _ _ _ HJs.out HBX.out, HBX1.out, (HBX.out.block B1 hB1r).trans HN1.out, (HBX.out.block B2 hB2r).trans HN2.out⟩
        case measure => first | (simp [intOf]; done) | (simp [intOf]; omega)
      · obtain ⟨fn, tmps, assign, body, hy, hR⟩ := hY1
        gi_wp2_with fail
        refine hR.mono ?_
        rintro e W3 (⟨rfl, hJ3, hB3, hK3, hL3⟩ | ⟨rfl, hX3⟩)
        · have HJ4 : Hid (J (plcs t E (k + 1)) W3) := Lib.hid (by rw [HT.out]; exact hJ3)
          have HB4 : Hid (Below n₀ W W3) := Lib.hid (HBX1.out.trans hB3)
          have HK4 : Hid (W3.heap[B1]? = W.heap[B1]?) := Lib.hid (hK3.trans ((HBX.out.block B1 hB1r).trans HN1.out))
          have HL4 : Hid (W3.heap[B2]? = W.heap[B2]?) := Lib.hid (hL3.trans ((HBX.out.block B2 hB2r).trans HN2.out))
          clear hJ3 hB3 hK3 hL3 hR
          gi_wp2_with fail
          go_roundw
          case rel => exact ⟨k + 1, by omega, by go_num, HJ4.out, HB4.out, HK4.out, HL4.out⟩
          case measure => first | (simp [intOf]; done) | (simp [intOf]; omega)
        · gi_wp2_with fail
          refine bodyPost_ret (results_none rfl _ _ _) rfl ?_
          exact ⟨⟨_, rfl⟩, .inr ⟨_, ⟨k + 1, by omega, (by rw [HT.out]; rfl), by simp⟩, hX3⟩⟩
    · obtain rfl : k = len := by omega
      clear HY
      gi_wp2
      go_end0
      exact ⟨⟨_, rfl⟩, .inl ⟨_, rfl, HJs.out⟩⟩

theorem places_any (a : Option Addr) (n c : Nat) (t : Int) (w : World) : Calls Try.prog 41 #[.slice a n c, .int .i64 t] w fun e w' => e = .returned (.func (.func 61) #[] #[.pointer (some ⟨w.heap.size, 0, none⟩), .pointer (some ⟨w.heap.size + 1, 0, none⟩)]) ∧ (w.alloc (.cells #[.slice a n c] 36)).alloc (.cells #[.int .i64 t] 3) = w' := by
  have hmf : ∀ (fn : Fn) (first cap : Array Value) (w : World), (Instr.makeFunc fn first cap).run Try.prog w = .ok (.func fn first cap) w := fun _ _ _ _ => rfl
  go_enter Try.func41, Try.ntmps41
  go_wp2
  go_ret
  exact ⟨rfl, rfl⟩
theorem places_stops (nn : Nat) (hnn : 1 ≤ nn) {w₀ w : World} {t : Int} {a : Option Addr} {len cap b o : Nat} {E : Nat → FlowE} (hs : FlowIn w₀ a len cap b o E) (hw : Below w₀.heap.size w₀ w) (B1 B2 : Nat) (hB1 : B1 < w.heap.size) (hB2 : B2 < w.heap.size)
    (h1 : w.cell? ⟨B1, 0, none⟩ = some (.slice a len cap)) (h2 : w.cell? ⟨B2, 0, none⟩ = some (.int .i64 t)) :
    SeqStopsK Fence.wide nn Try.prog 61 #[.pointer (some ⟨B1, 0, none⟩), .pointer (some ⟨B2, 0, none⟩)] encP (KpP w₀.heap.size B1 B2) (fun ys => ys = plcs t E len) (fun pre => ∃ k, k ≤ len ∧ pre = plcs t E k ∧ pre ≠ []) len w := by
  intro l J Jx W hW hJ hJx hY hJ0
  exact places1_in nn hnn l B1 B2 _ t a len cap b o E w₀ rfl hs J Jx hY W (fun pre W1 X hj hB => hJ pre W1 X none hj ⟨hB.os, hB.tape, hB.output, hB.size, fun k hk _ => hB.block k hk⟩ (fun _ e => by cases e)) (hw.trans (hW.mono hw.size)) (Nat.lt_of_lt_of_le hB1 hW.size) (Nat.lt_of_lt_of_le hB2 hW.size)
    ((hW.cell (p := ⟨B1, 0, none⟩) hB1).trans h1) ((hW.cell (p := ⟨B2, 0, none⟩) hB2).trans h2) hJ0
end Go.Proofs.Ytoodmocapagapaa
namespace Go.Proofs.Ytoodmocapagapaa
open Go.RowKit Go.Shelf
set_option linter.unusedSimpArgs false
set_option linter.unusedVariables false

attribute [local go_sem] Oper.semAt_some

theorem blk_own {β : Type} (B : Nat) (cs : Array Value) (t : TypeId) : Own (fun (_ : β) W => Blk W B cs t) := fun _ X Y row hs hg hrow =>
  (hg.block B hs.lt (fun e => by
    obtain ⟨o, ho, hc⟩ := hrow B e.symm
    rw [show X.heap[B]? = _ from hs] at ho
    cases ho
    cases hc)).trans hs

theorem at_own {β : Type} {B D : Nat} {o : Obj} (h : D < B) : OwnFrom (β := β) B (fun _ W => W.heap[D]? = some o) := fun _ _ _ _ hs hg hr =>
  (hg.block D (Array.getElem?_eq_some_iff.1 hs).1 (fun e => by have := (hr D e.symm).1; omega)).trans hs
theorem plcs_pre (t : Int) (E : Nat → FlowE) (k : Nat) : ∀ n, k ≤ n → ∃ tl, plcs t E n = plcs t E k ++ tl
  | 0, h => ⟨[], by obtain rfl : k = 0 := by omega
                    simp⟩
  | n + 1, h => by
    by_cases e : k = n + 1
    · exact ⟨[], by rw [e, List.append_nil]⟩
    · obtain ⟨tl, htl⟩ := plcs_pre t E k n (by omega)
      exact ⟨tl ++ if (E n).t == t then [n] else [], by rw [plcs, htl, List.append_assoc]⟩
def lastP (l : List Nat) : Nat := l.getLast?.getD 0
theorem lastP_snoc (l : List Nat) (x : Nat) : lastP (l ++ [x]) = x := by simp [lastP]
theorem last_at (l tl : List Nat) (R : Nat) (h : l.length = R + 1) : (l ++ tl).getD R 0 = lastP l := by
  unfold lastP
  rw [List.getLast?_eq_getElem?, h, List.getD_eq_getElem?_getD, List.getElem?_append_left (by omega)]
  rfl

/-- what Flow answers -/
def flowK (t c : Int) (E : Nat → FlowE) (n : Nat) : Int := if (plcs t E n).length = 0 then 0 else if c < 0 then 0 else (((plcs t E n).getD (c % ((plcs t E n).length : Int)).toNat 0 : Nat) : Int)
def flowE (t c : Int) (E : Nat → FlowE) (n : Nat) : Int := if (plcs t E n).length = 0 then 161 else if c < 0 then 2 else 0

set_option maxRecDepth 100000 in
set_option maxHeartbeats 4000000 in
theorem flow_any (num t c : Int) (la : Option Addr) (ln lc : Nat) (a : Option Addr) (len cap b o : Nat) (E : Nat → FlowE) (w : World) (hs : FlowIn w a len cap b o E) :
    Calls Try.prog 23 #[.slice a len cap, .agg #[.int .i64 num, .int .i64 t, .int .i64 c, .slice la ln lc]] w fun e w' => e = .returned (.tuple #[.int .i64 (flowK t c E len), .int .i64 (flowE t c E len)]) ∧ Below w.heap.size w w' := by
  refine (callsIn_wide (n := 9)).1 ?_
  refine callsIn_of_wp_marks Try.func23 rfl trivial ?_ rfl
  simp only [Try.ntmps23, List.size_toArray, List.length_cons, List.length_nil, Nat.reduceAdd, Nat.reduceSub, Array.replicate_succ, Array.replicate_zero, List.push_toArray, List.append_toArray, List.nil_append, List.cons_append]
  have HS := Lib.hid hs
  have HKF : Hid (flowK t c E len = if (plcs t E len).length = 0 then 0 else if c < 0 then 0 else (((plcs t E len).getD (c % ((plcs t E len).length : Int)).toNat 0 : Nat) : Int)) := Lib.hid rfl
  have HEF : Hid (flowE t c E len = if (plcs t E len).length = 0 then 161 else if c < 0 then 2 else 0) := Lib.hid rfl
  obtain ⟨kf, hkf⟩ : ∃ kf, kf = flowK t c E len := ⟨_, rfl⟩
  obtain ⟨ef, hef⟩ : ∃ ef, ef = flowE t c E len := ⟨_, rfl⟩
  rw [← hkf] at HKF ⊢
  rw [← hef] at HEF ⊢
  clear hs hkf hef
  gi_wp2_with (first
    | (refine ⟨trivial, ?_⟩; gi_at_call 41; refine (callsIn_wide.2 (places_any _ _ _ _ _)).mono ?_; rintro e w2 ⟨rfl, rfl⟩)
    | fail)
  obtain ⟨N, hN⟩ : ∃ N, N = w.heap.size := ⟨_, rfl⟩
  obtain ⟨PB, hPB⟩ : ∃ PB, PB = Obj.cells #[.int .i64 num, .int .i64 t, .int .i64 c, .slice la ln lc] 53 (0, 0) := ⟨_, rfl⟩
  obtain ⟨W0, hW0⟩ : ∃ W0, W0 = ((((((w.alloc PB).alloc (.cells #[.int .i64 0] 3)).alloc (.cells #[.int .i64 0] 23)).alloc (.cells #[.int .i64 0] 3)).alloc (.cells #[.slice a len cap] 36)).alloc (.cells #[.int .i64 t] 3)) := ⟨_, rfl⟩
  have hs0 : W0.heap.size = N + 6 := by rw [hW0, hN]; simp
  have bP : Blk W0 N #[.int .i64 num, .int .i64 t, .int .i64 c, .slice la ln lc] 53 := by
    rw [hW0, hN, hPB]
    show _ = _
    rw [Below.heap_alloc _ _ _ (by simp; try omega), Below.heap_alloc _ _ _ (by simp; try omega), Below.heap_alloc _ _ _ (by simp; try omega), Below.heap_alloc _ _ _ (by simp; try omega), Below.heap_alloc _ _ _ (by simp; try omega)]
    exact heap_alloc_new w _
  have bR : Boxed W0 (N + 1) 3 (.int .i64 0) := by
    rw [hW0, hN]
    show _ = _
    rw [Below.heap_alloc _ _ _ (by simp; try omega), Below.heap_alloc _ _ _ (by simp; try omega), Below.heap_alloc _ _ _ (by simp; try omega), Below.heap_alloc _ _ _ (by simp; try omega), ← World.size_alloc w PB]
    exact heap_alloc_new _ _
  have bE : Boxed W0 (N + 2) 23 (.int .i64 0) := by
    rw [hW0, hN]
    show _ = _
    rw [Below.heap_alloc _ _ _ (by simp; try omega), Below.heap_alloc _ _ _ (by simp; try omega), Below.heap_alloc _ _ _ (by simp; try omega), show w.heap.size + 2 = ((w.alloc PB).alloc (.cells #[.int .i64 0] 3)).heap.size by simp]
    exact heap_alloc_new _ _
  have bF : Boxed W0 (N + 3) 3 (.int .i64 0) := by
    rw [hW0, hN]
    show _ = _
    rw [Below.heap_alloc _ _ _ (by simp; try omega), Below.heap_alloc _ _ _ (by simp; try omega), show w.heap.size + 3 = (((w.alloc PB).alloc (.cells #[.int .i64 0] 3)).alloc (.cells #[.int .i64 0] 23)).heap.size by simp]
    exact heap_alloc_new _ _
  have bA : Boxed W0 (N + 4) 36 (.slice a len cap) := by
    rw [hW0, hN]
    show _ = _
    rw [Below.heap_alloc _ _ _ (by simp; try omega), show w.heap.size + 4 = ((((w.alloc PB).alloc (.cells #[.int .i64 0] 3)).alloc (.cells #[.int .i64 0] 23)).alloc (.cells #[.int .i64 0] 3)).heap.size by simp]
    exact heap_alloc_new _ _
  have bT : Boxed W0 (N + 5) 3 (.int .i64 t) := by
    rw [hW0, hN]
    show _ = _
    rw [show w.heap.size + 5 = (((((w.alloc PB).alloc (.cells #[.int .i64 0] 3)).alloc (.cells #[.int .i64 0] 23)).alloc (.cells #[.int .i64 0] 3)).alloc (.cells #[.slice a len cap] 36)).heap.size by simp]
    exact heap_alloc_new _ _
  have hB0 : Below N w W0 := by rw [hW0, hN]; exact ((((((Below.refl _ _).alloc (Nat.le_refl _) _).alloc (by simp) _).alloc (by simp; omega) _).alloc (by simp; omega) _).alloc (by simp; omega) _).alloc (by simp; omega) _
  subst hPB
  rw [← hN, ← hW0]
  have HN := Lib.hid hN
  have hNw : N ≤ w.heap.size := by omega
  have hm := HS.out.max
  have hl := HS.out.le
  unfold maxLen at hm
  have hpl := plcs_len t E len
  clear hN hW0
  refine wpIn_rangeFunc_ownF rfl (by omega) (gf := 61) (lb := #[.pointer (some ⟨N + 4, 0, none⟩), .pointer (some ⟨N + 5, 0, none⟩)]) rfl trivial (enters_of Try.func61 (by kernel_rfl) rfl)
    (encs := encP) (places_stops 8 (by omega) (w₀ := w) (w := W0) HS.out (by rw [← HN.out]; exact hB0) (N + 4) (N + 5) (by omega) (by omega) bA.cell bT.cell)
    (fun h k => ⟨h.1.trans k.1, k.2.1.trans h.2.1, k.2.2.trans h.2.2⟩) (fun W l o o' hl ho hc hw => ⟨belowK_b (w := W0) (by rw [← HN.out]; omega) W l o o' hl ho hc hw, World.putObj_heap_other (by omega), World.putObj_heap_other (by omega)⟩) (Below.refl _ _) (fun _ => rfl)
    (fun pre W => Blk W N #[.int .i64 num, .int .i64 t, .int .i64 c, .slice la ln lc] 53 ∧ (Boxed W (N + 1) 3 (.int .i64 0) ∧ (Boxed W (N + 2) 23 (.int .i64 0) ∧ (Boxed W (N + 3) 3 (.int .i64 (pre.length : Nat)) ∧ Below N w W))))
    (fun _ _ _ => False)
    (OwnFrom.and (Own.from (blk_own _ _ _) _) (OwnFrom.and (Own.from (boxed_own _ _ _) _) (OwnFrom.and (Own.from (boxed_own _ _ _) _) (OwnFrom.and (Own.from (boxed_own _ _ _) _) (ownFrom_below hNw (by omega))))))
    (fun _ _ _ _ _ hs _ _ => hs)
    ⟨bP, bR, bE, bF, hB0⟩
    (fun x => { tmps := #[.slice a len cap, .agg #[.int .i64 num, .int .i64 t, .int .i64 c, .slice la ln lc], undef, .pointer (some ⟨N, 0, none⟩), .pointer (some ⟨N + 1, 0, none⟩), .pointer (some ⟨N + 2, 0, none⟩), .pointer (some ⟨N + 3, 0, none⟩), undef, undef, .slice a len cap, .pointer (some ⟨N, 1, none⟩), .int .i64 t, .func (.func 61) #[] #[.pointer (some ⟨N + 4, 0, none⟩), .pointer (some ⟨N + 5, 0, none⟩)], .int .i64 (x : Nat), undef, undef, undef, undef, undef, undef, undef, undef, undef, undef, undef, undef, undef, undef, undef, undef, undef, undef, undef, undef, undef, undef, undef], defers := [] }) ?assign ?body ?done ?stop
  case assign =>
    intro l x W K hK
    dsimp only [encP]
    gi_wp2
    exact hK
  case body =>
    rintro l pre x W ⟨b0, b1, b2, b3, hBW⟩ hlt
    have HX : Hid (((pre ++ [x]).length : Nat) = pre.length + 1) := Lib.hid (by simp)
    obtain ⟨m, hm2⟩ : ∃ m, m = pre.length := ⟨_, rfl⟩
    rw [← hm2] at b3 hlt HX
    have c3 := b3.cell
    have hf : W.frozen? ⟨N + 3, 0, none⟩ = false := free_at b3 0
    clear hm2
    gi_wp2
    have h1 : Boxed (W.setCell ⟨N + 3, 0, none⟩ (.int .i64 ((m : Int) + 1))) (N + 3) 3 (.int .i64 ((m : Int) + 1)) := b3.set _
    have hne : ∀ k, k ≠ N + 3 → (W.setCell ⟨N + 3, 0, none⟩ (.int .i64 ((m : Int) + 1))).heap[k]? = W.heap[k]? := fun k hk => heap_setCell_ne _ _ _ _ (by simpa using hk)
    refine ⟨KeepsOthers.setCell _ _ _, ⟨by rw [← HN.out]; exact (Below.refl N W).setCell (p := ⟨N + 3, 0, none⟩) (by simp) _, hne _ (by omega), hne _ (by omega)⟩, (hne _ (by omega)).trans b0, (hne _ (by omega)).trans b1, (hne _ (by omega)).trans b2, ?_, hBW.setCell (p := ⟨N + 3, 0, none⟩) (by simp) _⟩
    rw [HX.out]
    exact h1
  case done =>
    rintro D ys W hD hys ⟨b0, b1, b2, b3, hBW⟩ hK
    have HL : Hid (ys.length = (plcs t E len).length) := Lib.hid (by rw [hys])
    rw [HL.out] at b3
    obtain ⟨L, hL⟩ : ∃ L, L = plcs t E len := ⟨_, rfl⟩
    rw [← hL] at HKF HEF
    rw [← hL] at b3 hpl
    obtain ⟨f, hf⟩ : ∃ f, f = L.length := ⟨_, rfl⟩
    rw [← hf] at b3 HKF HEF hpl
    have HLL := Lib.hid hL
    have HFF := Lib.hid hf
    clear hys HL hf hL
    have c3 := b3.cell
    have c02 : W.cell? ⟨N, 2, none⟩ = some (.int .i64 c) := cell_at b0 2
    have c01 : W.cell? ⟨N, 1, none⟩ = some (.int .i64 t) := cell_at b0 1
    have c1 := b1.cell
    have c2 := b2.cell
    have lN := b0.lt
    have f1 : W.frozen? ⟨N + 1, 0, none⟩ = false := free_at b1 0
    have f2 : W.frozen? ⟨N + 2, 0, none⟩ = false := free_at b2 0
    by_cases hz : f = 0
    · have hz2 : ((f : Int) == 0) = true := by simp [hz]
      gi_wp2_with fail
      obtain ⟨WX, hWX⟩ : ∃ WX, WX = (W.setCell ⟨N + 1, 0, none⟩ (.int .i64 0)).setCell ⟨N + 1 + 1, 0, none⟩ (.int .i64 161) := ⟨_, rfl⟩
      have hne : ∀ k, k ≠ N + 1 → k ≠ N + 2 → WX.heap[k]? = W.heap[k]? := fun k h1 h2 => by rw [hWX]; exact (heap_setCell_ne _ _ _ _ (by simpa using h2)).trans (heap_setCell_ne _ _ _ _ (by simpa using h1))
      have g1 : Boxed WX (N + 1) 3 (.int .i64 0) := by
        rw [hWX]
        exact (heap_setCell_ne _ _ _ _ (by simp)).trans (b1.set _)
      have g2 : Boxed WX (N + 2) 23 (.int .i64 161) := by
        rw [hWX]
        have k2 : Boxed (W.setCell ⟨N + 1, 0, none⟩ (.int .i64 0)) (N + 2) 23 (.int .i64 0) := (heap_setCell_ne _ _ _ _ (by simp)).trans b2
        exact k2.set _
      have hBX : Below N w WX := by
        rw [hWX]
        exact (hBW.setCell (p := ⟨N + 1, 0, none⟩) (by simp) _).setCell (p := ⟨N + 1 + 1, 0, none⟩) (by simp; try omega) _
      rw [← hWX]
      clear hWX
      refine ⟨by simp, .inl ⟨_, _, rfl, run_takeDeferred ((hne D (by omega) (by omega)).trans hK), ?_⟩⟩
      have hr1 : Boxed (WX.putObj D (Obj.deferred none)) (N + 1) 3 (.int .i64 0) := (World.putObj_heap_other (by omega)).trans g1
      have hr2 : Boxed (WX.putObj D (Obj.deferred none)) (N + 2) 23 (.int .i64 161) := (World.putObj_heap_other (by omega)).trans g2
      have q1 : (WX.putObj D (Obj.deferred none)).cell? ⟨N + 1, 0, none⟩ = some (.int .i64 0) := hr1.cell
      have q2 : (WX.putObj D (Obj.deferred none)).cell? ⟨N + 1 + 1, 0, none⟩ = some (.int .i64 161) := hr2.cell
      refine ⟨_, (by simp [results, Try.results23, go_sem, q1, q2]; rfl), by rw [HKF.out, HEF.out]; simp [hz], ?_⟩
      rw [← HN.out]
      exact hBX.trans (belowK_b (w := W0) (by omega) WX D _ _ hD ((hne D (by omega) (by omega)).trans hK) rfl rfl)
    · have hz2 : ((f : Int) == 0) = false := by simpa using hz
      by_cases hc0 : c < 0
      · have d0 : decide (c < 0) = true := by simpa using hc0
        gi_wp2_with fail
        obtain ⟨WX, hWX⟩ : ∃ WX, WX = (W.setCell ⟨N + 1, 0, none⟩ (.int .i64 0)).setCell ⟨N + 1 + 1, 0, none⟩ (.int .i64 2) := ⟨_, rfl⟩
        have hne : ∀ k, k ≠ N + 1 → k ≠ N + 2 → WX.heap[k]? = W.heap[k]? := fun k h1 h2 => by rw [hWX]; exact (heap_setCell_ne _ _ _ _ (by simpa using h2)).trans (heap_setCell_ne _ _ _ _ (by simpa using h1))
        have g1 : Boxed WX (N + 1) 3 (.int .i64 0) := by
          rw [hWX]
          exact (heap_setCell_ne _ _ _ _ (by simp)).trans (b1.set _)
        have g2 : Boxed WX (N + 2) 23 (.int .i64 2) := by
          rw [hWX]
          have k2 : Boxed (W.setCell ⟨N + 1, 0, none⟩ (.int .i64 0)) (N + 2) 23 (.int .i64 0) := (heap_setCell_ne _ _ _ _ (by simp)).trans b2
          exact k2.set _
        have hBX : Below N w WX := by
          rw [hWX]
          exact (hBW.setCell (p := ⟨N + 1, 0, none⟩) (by simp) _).setCell (p := ⟨N + 1 + 1, 0, none⟩) (by simp; try omega) _
        rw [← hWX]
        clear hWX
        refine ⟨by simp, .inl ⟨_, _, rfl, run_takeDeferred ((hne D (by omega) (by omega)).trans hK), ?_⟩⟩
        have hr1 : Boxed (WX.putObj D (Obj.deferred none)) (N + 1) 3 (.int .i64 0) := (World.putObj_heap_other (by omega)).trans g1
        have hr2 : Boxed (WX.putObj D (Obj.deferred none)) (N + 2) 23 (.int .i64 2) := (World.putObj_heap_other (by omega)).trans g2
        have q1 : (WX.putObj D (Obj.deferred none)).cell? ⟨N + 1, 0, none⟩ = some (.int .i64 0) := hr1.cell
        have q2 : (WX.putObj D (Obj.deferred none)).cell? ⟨N + 1 + 1, 0, none⟩ = some (.int .i64 2) := hr2.cell
        refine ⟨_, (by simp [results, Try.results23, go_sem, q1, q2]; rfl), by rw [HKF.out, HEF.out]; simp [hz, hc0], ?_⟩
        rw [← HN.out]
        exact hBX.trans (belowK_b (w := W0) (by omega) WX D _ _ hD ((hne D (by omega) (by omega)).trans hK) rfl rfl)
      · have d0 : decide (c < 0) = false := by simpa using hc0
        gi_wp2_with (first
          | (refine ⟨trivial, ?_⟩; gi_at_call 41; refine (callsIn_wide.2 (places_any _ _ _ _ _)).mono ?_; rintro e w2 ⟨rfl, rfl⟩)
          | fail)
        obtain ⟨R, hR⟩ : ∃ R : Nat, c % (f : Int) = (R : Nat) := ⟨(c % (f : Int)).toNat, by have := Int.emod_nonneg c (b := (f : Int)) (by omega); omega⟩
        have hRf : R < f := by have := Int.emod_lt_of_pos c (b := (f : Int)) (by omega); omega
        rw [hR]
        rw [hR] at HKF
        have HKK : Hid (kf = (L.getD R 0 : Nat)) := Lib.hid (by rw [HKF.out, if_neg hz, if_neg (by omega)]; simp)
        have HEE : Hid (ef = 0) := Lib.hid (by rw [HEF.out, if_neg hz, if_neg (by omega)])
        clear HKF HEF
        have hDW : D < W.heap.size := (Array.getElem?_eq_some_iff.1 hK).1
        obtain ⟨M, hM⟩ : ∃ M, M = W.heap.size := ⟨_, rfl⟩
        obtain ⟨W2, hW2⟩ : ∃ W2, W2 = ((W.alloc (.cells #[.int .i64 (R : Nat)] 3)).alloc (.cells #[.slice a len cap] 36)).alloc (.cells #[.int .i64 t] 3) := ⟨_, rfl⟩
        have hs2 : W2.heap.size = M + 3 := by rw [hW2, hM]; simp
        have bn : Boxed W2 M 3 (.int .i64 (R : Nat)) := by
          rw [hW2, hM]
          show _ = _
          rw [Below.heap_alloc _ _ _ (by simp; try omega), Below.heap_alloc _ _ _ (by simp; try omega)]
          exact heap_alloc_new W _
        have ba : Boxed W2 (M + 1) 36 (.slice a len cap) := by
          rw [hW2, hM]
          show _ = _
          rw [Below.heap_alloc _ _ _ (by simp; try omega), ← World.size_alloc W (.cells #[.int .i64 (R : Nat)] 3)]
          exact heap_alloc_new _ _
        have bt : Boxed W2 (M + 2) 3 (.int .i64 t) := by
          rw [hW2, hM]
          show _ = _
          rw [show W.heap.size + 2 = ((W.alloc (.cells #[.int .i64 (R : Nat)] 3)).alloc (.cells #[.slice a len cap] 36)).heap.size by simp]
          exact heap_alloc_new _ _
        have hold : ∀ k, k < M → W2.heap[k]? = W.heap[k]? := fun k hk => by
          rw [hW2, Below.heap_alloc _ _ _ (by simp; try omega), Below.heap_alloc _ _ _ (by simp; try omega), Below.heap_alloc _ _ _ (by omega)]
        have hB2 : Below M W W2 := by rw [hW2, hM]; exact (((Below.refl _ _).alloc (Nat.le_refl _) _).alloc (by simp) _).alloc (by simp; omega) _
        rw [← hM, ← hW2]
        have hNM : N + 6 ≤ M := by omega
        have hDM : D < M := by omega
        have bE1 : Boxed W2 (N + 1) 3 (.int .i64 0) := (hold _ (by omega)).trans b1
        have bE2 : Boxed W2 (N + 2) 23 (.int .i64 0) := (hold _ (by omega)).trans b2
        have bED : W2.heap[D]? = some (.deferred (some [])) := (hold _ (by omega)).trans hK
        have hBB : Below N w W2 := hBW.trans (hB2.mono (by omega))
        have HM := Lib.hid hM
        clear hM hW2 hold hB2 b0 b1 b2 b3 hBW hK c3 c02 c01 c1 c2 lN f1 f2
        refine wpIn_rangeFunc_ownF rfl (by omega) (gf := 61) (lb := #[.pointer (some ⟨M + 1, 0, none⟩), .pointer (some ⟨M + 2, 0, none⟩)]) rfl trivial (enters_of Try.func61 (by kernel_rfl) rfl)
          (encs := encP) (places_stops 8 (by omega) (w₀ := w) (w := W2) HS.out (by rw [← HN.out]; exact hBB) (M + 1) (M + 2) (by omega) (by omega) ba.cell bt.cell)
          (fun h k => ⟨h.1.trans k.1, k.2.1.trans h.2.1, k.2.2.trans h.2.2⟩) (fun W l o o' hl ho hc hw => ⟨belowK_b (w := W2) (by rw [← HN.out]; omega) W l o o' hl ho hc hw, World.putObj_heap_other (by omega), World.putObj_heap_other (by omega)⟩) (Below.refl _ _) (fun _ => rfl)
          (fun pre W => Boxed W (N + 1) 3 (.int .i64 0) ∧ (Boxed W (N + 2) 23 (.int .i64 0) ∧ (Boxed W M 3 (.int .i64 ((R : Int) - (pre.length : Nat))) ∧ (W.heap[D]? = some (.deferred (some [])) ∧ (Below N w W ∧ pre.length ≤ R)))))
          (fun k pre W => Boxed W (N + 1) 3 (.int .i64 (lastP pre : Nat)) ∧ (Boxed W (N + 2) 23 (.int .i64 0) ∧ (W.heap[D]? = some (.deferred (some [])) ∧ (Below N w W ∧ (pre.length = R + 1 ∧ k = .ret)))))
          (OwnFrom.and (Own.from (boxed_own _ _ _) _) (OwnFrom.and (Own.from (boxed_own _ _ _) _) (OwnFrom.and (Own.from (boxed_own _ _ _) _) (OwnFrom.and (at_own (by omega)) (OwnFrom.and (ownFrom_below hNw (by omega)) (fun _ _ _ _ hs _ _ => hs))))))
          (fun k => OwnFrom.and (Own.from (boxed_own _ _ _) _) (OwnFrom.and (Own.from (boxed_own _ _ _) _) (OwnFrom.and (at_own (by omega)) (OwnFrom.and (ownFrom_below hNw (by omega)) (fun _ _ _ _ hs _ _ => hs)))))
          ⟨bE1, bE2, by simpa using bn, bED, hBB, by simp⟩
          (fun x => { tmps := #[.slice a len cap, .agg #[.int .i64 num, .int .i64 t, .int .i64 c, .slice la ln lc], undef, .pointer (some ⟨N, 0, none⟩), .pointer (some ⟨N + 1, 0, none⟩), .pointer (some ⟨N + 2, 0, none⟩), .pointer (some ⟨N + 3, 0, none⟩), .pointer (some ⟨M, 0, none⟩), .int .i64 (x : Nat), .slice a len cap, .pointer (some ⟨N, 1, none⟩), .int .i64 t, .func (.func 61) #[] #[.pointer (some ⟨N + 4, 0, none⟩), .pointer (some ⟨N + 5, 0, none⟩)], undef, undef, undef, .bool false, .int .i64 (f : Nat), .bool false, .bool false, .pointer (some ⟨N, 2, none⟩), .int .i64 c, .bool false, .pointer (some ⟨N, 2, none⟩), .int .i64 c, .int .i64 (f : Nat), .int .i64 (R : Nat), .slice a len cap, .pointer (some ⟨N, 1, none⟩), .int .i64 t, .func (.func 61) #[] #[.pointer (some ⟨M + 1, 0, none⟩), .pointer (some ⟨M + 2, 0, none⟩)], .int .i64 (x : Nat), undef, undef, undef, undef, undef], defers := [] }) ?assign2 ?body2 ?done2 ?stop2
        case assign2 =>
          intro l x W K hK
          dsimp only [encP]
          gi_wp2
          exact hK
        case body2 =>
          rintro l pre x W ⟨b1, b2, b3, bD, hBW, hpR⟩ hlt
          have HX : Hid (((pre ++ [x]).length : Nat) = pre.length + 1) := Lib.hid (by simp)
          have HLP := Lib.hid (lastP_snoc pre x)
          obtain ⟨m, hm2⟩ : ∃ m, m = pre.length := ⟨_, rfl⟩
          rw [← hm2] at b3 hlt HX hpR
          have c3 := b3.cell
          have c1 := b1.cell
          have c2 := b2.cell
          have hf3 : W.frozen? ⟨M, 0, none⟩ = false := free_at b3 0
          have hf1 : W.frozen? ⟨N + 1, 0, none⟩ = false := free_at b1 0
          have hf2 : W.frozen? ⟨N + 2, 0, none⟩ = false := free_at b2 0
          clear hm2
          by_cases hz3 : (R : Int) - m = 0
          · have hz4 : ((R : Int) - m == 0) = true := by simpa using hz3
            have HRM : Hid (m = R) := Lib.hid (by omega)
            gi_wp2
            obtain ⟨WX, hWX⟩ : ∃ WX, WX = (W.setCell ⟨N + 1, 0, none⟩ (.int .i64 (x : Nat))).setCell ⟨N + 1 + 1, 0, none⟩ (.int .i64 0) := ⟨_, rfl⟩
            have hne : ∀ k, k ≠ N + 1 → k ≠ N + 2 → WX.heap[k]? = W.heap[k]? := fun k h1 h2 => by rw [hWX]; exact (heap_setCell_ne _ _ _ _ (by simpa using h2)).trans (heap_setCell_ne _ _ _ _ (by simpa using h1))
            have g1 : Boxed WX (N + 1) 3 (.int .i64 (lastP (pre ++ [x]) : Nat)) := by
              rw [hWX, HLP.out]
              exact (heap_setCell_ne _ _ _ _ (by simp)).trans (b1.set _)
            have g2 : Boxed WX (N + 2) 23 (.int .i64 0) := by
              rw [hWX]
              have k2 : Boxed (W.setCell ⟨N + 1, 0, none⟩ (.int .i64 (x : Nat))) (N + 2) 23 (.int .i64 0) := (heap_setCell_ne _ _ _ _ (by simp)).trans b2
              exact k2.set _
            have hBX : Below N w WX := by
              rw [hWX]
              exact (hBW.setCell (p := ⟨N + 1, 0, none⟩) (by simp) _).setCell (p := ⟨N + 1 + 1, 0, none⟩) (by simp; try omega) _
            have hKX : KeepsOthers W WX := by
              rw [hWX]
              exact KeepsOthers.trans (KeepsOthers.setCell _ _ _) (KeepsOthers.setCell _ _ _)
            rw [← hWX]
            exact ⟨hKX, g1, g2, (hne D (by omega) (by omega)).trans bD, hBX, by rw [HX.out, HRM.out], rfl⟩
          · have hz4 : ((R : Int) - m == 0) = false := by simpa using hz3
            gi_wp2
            have e9 : (R : Int) - ((m + 1 : Nat) : Int) = (R : Int) - m - 1 := by omega
            have hne : ∀ k, k ≠ M → (W.setCell ⟨M, 0, none⟩ (.int .i64 ((R : Int) - m - 1))).heap[k]? = W.heap[k]? := fun k hk => heap_setCell_ne _ _ _ _ (by simpa using hk)
            refine ⟨KeepsOthers.setCell _ _ _, ⟨by rw [← HN.out]; exact (Below.refl N W).setCell (p := ⟨M, 0, none⟩) (by simp; omega) _, hne _ (by omega), hne _ (by omega)⟩, (hne _ (by omega)).trans b1, (hne _ (by omega)).trans b2, ?_, (hne _ (by omega)).trans bD, hBW.setCell (p := ⟨M, 0, none⟩) (by simp; omega) _, by rw [HX.out]; omega⟩
            rw [HX.out, e9]
            exact b3.set _
        case done2 =>
          rintro D2 ys W hD2 hys ⟨_, _, _, _, _, hle⟩ _
          exfalso
          rw [hys, ← HLL.out, ← HFF.out] at hle
          omega
        case stop2 =>
          rintro D2 k pre W hD2 ⟨j, hj, hpj, _⟩ ⟨b1, b2, bD, hBW, hpre, rfl⟩ hK2
          have HF : Hid (L.getD R 0 = lastP pre) := Lib.hid (by
            obtain ⟨tl, htl⟩ := plcs_pre t E j len hj
            rw [HLL.out, htl, ← hpj]
            exact last_at pre tl R hpre)
          clear hpj
          gi_wp2
          have hKD : (W.putObj D2 (Obj.deferred none)).heap[D]? = some (.deferred (some [])) := (World.putObj_heap_other (by omega)).trans bD
          refine ⟨by simp, .inl ⟨_, _, rfl, run_takeDeferred hK2, by simp, .inl ⟨_, _, rfl, run_takeDeferred hKD, ?_⟩⟩⟩
          have hr1 : Boxed ((W.putObj D2 (Obj.deferred none)).putObj D (Obj.deferred none)) (N + 1) 3 (.int .i64 (lastP pre : Nat)) := (World.putObj_heap_other (by omega)).trans ((World.putObj_heap_other (by omega)).trans b1)
          have hr2 : Boxed ((W.putObj D2 (Obj.deferred none)).putObj D (Obj.deferred none)) (N + 2) 23 (.int .i64 0) := (World.putObj_heap_other (by omega)).trans ((World.putObj_heap_other (by omega)).trans b2)
          have q1 : ((W.putObj D2 (Obj.deferred none)).putObj D (Obj.deferred none)).cell? ⟨N + 1, 0, none⟩ = some (.int .i64 (lastP pre : Nat)) := hr1.cell
          have q2 : ((W.putObj D2 (Obj.deferred none)).putObj D (Obj.deferred none)).cell? ⟨N + 1 + 1, 0, none⟩ = some (.int .i64 0) := hr2.cell
          refine ⟨_, (by simp [results, Try.results23, go_sem, q1, q2]; rfl), by rw [HKK.out, HEE.out, HF.out], ?_⟩
          rw [← HN.out]
          exact (hBW.trans (belowK_b (w := W2) (by omega) W D2 _ _ hD2 hK2 rfl rfl)).trans (belowK_b (w := W0) (by omega) _ D _ _ hD hKD rfl rfl)
  case stop =>
    rintro D c pre W _ _ h _
    exact h.elim
end Go.Proofs.Ytoodmocapagapaa
namespace Go.Proofs.Ytoodmocapagapaa
open Go.RowKit
set_option linter.unusedSimpArgs false
set_option linter.unusedVariables false

theorem p_one_at (W : World) (x : Value) (e : TypeId) : ∀ (j : Nat) (u : Value), [x][j]? = some u → (W.alloc (.cells #[x] e)).cell? ((⟨W.heap.size, 0, none⟩ : Addr).add j) = some u := by
  intro j u h
  match j with
  | 0 =>
    simp only [List.getElem?_cons_zero] at h
    rw [show ((⟨W.heap.size, 0, none⟩ : Addr).add 0) = ⟨W.heap.size, 0, none⟩ by rfl, cell_at (heap_alloc_new W _) 0]
    simpa using h
  | j + 1 => simp at h
def ownV (l : List Nat) : List Value := l.map fun x => .int .i64 (x : Nat)
theorem infoI64 : (Try.prog.info? 3).map (fun i => (i.zero, i.size, i.bytes)) = some (some (.int .i64 0), 1, 8) := by kernel_rfl

set_option maxRecDepth 100000 in
set_option maxHeartbeats 8000000 in
theorem rflow_any (num t c : Int) (la : Option Addr) (ln lc : Nat) (a : Option Addr) (len cap b o : Nat) (E : Nat → FlowE) (w : World) (hs : FlowIn w a len cap b o E) (h60 : len ≤ 60) :
    Calls Try.prog 37 #[.slice a len cap, .agg #[.int .i64 num, .int .i64 t, .int .i64 c, .slice la ln lc]] w fun e w' => e = .returned (.tuple #[.int .i64 (flowK t c E len), .int .i64 (flowE t c E len)]) ∧ Below w.heap.size w w' := by
  obtain ⟨i0, hi, hz0, hz1, hz2⟩ := info_parts infoI64
  have HI := Lib.hid hi
  have HZ0 := Lib.hid hz0
  have HZ1 := Lib.hid hz1
  have HZ2 := Lib.hid hz2
  have hm := hs.max
  have hl := hs.le
  unfold maxLen at hm
  have HS := Lib.hid hs
  have HKF : Hid (flowK t c E len = if (plcs t E len).length = 0 then 0 else if c < 0 then 0 else (((plcs t E len).getD (c % ((plcs t E len).length : Int)).toNat 0 : Nat) : Int)) := Lib.hid rfl
  have HEF : Hid (flowE t c E len = if (plcs t E len).length = 0 then 161 else if c < 0 then 2 else 0) := Lib.hid rfl
  obtain ⟨kf, hkf⟩ : ∃ kf, kf = flowK t c E len := ⟨_, rfl⟩
  obtain ⟨ef, hef⟩ : ∃ ef, ef = flowE t c E len := ⟨_, rfl⟩
  rw [← hkf] at HKF ⊢
  rw [← hef] at HEF ⊢
  clear hs hi hz0 hz1 hz2 hkf hef
  obtain ⟨PB, hPB⟩ : ∃ PB, PB = Obj.cells #[.int .i64 num, .int .i64 t, .int .i64 c, .slice la ln lc] 53 (0, 0) := ⟨_, rfl⟩
  have HP0 : Hid (Blk (w.alloc PB) w.heap.size #[.int .i64 num, .int .i64 t, .int .i64 c, .slice la ln lc] 53) := Lib.hid (by rw [hPB]; exact heap_alloc_new w _)
  have HB0 : Hid (Below w.heap.size w (w.alloc PB)) := Lib.hid ((Below.refl _ _).alloc (Nat.le_refl _) _)
  subst hPB
  go_enter Try.func37, Try.ntmps37
  go_wp2_with fail
  go_loopw [6, 7] (fun v i wr => ∃ (k : Nat) (ob : Option Nat), k ≤ len ∧ i = .int .i64 k ∧ Row wr v ob 3 1 (plcs t E k).length (ownV (plcs t E k)) ∧ (∀ g, ob = some g → w.heap.size < g) ∧ Blk wr w.heap.size #[.int .i64 num, .int .i64 t, .int .i64 c, .slice la ln lc] 53 ∧ Below w.heap.size w wr) (fun _ i _ => len - (intOf i).toNat)
  case atStart => exact ⟨0, none, Nat.zero_le _, rfl, Row.nil _ _ _, (fun _ h => by cases h), HP0.out, HB0.out⟩
  case round =>
    obtain ⟨k, ob, hk, rfl, hr, hob, hP, hB⟩ := hrel
    have p1 : wr.cell? ⟨w.heap.size, 1, none⟩ = some (.int .i64 t) := cell_at hP 1
    have p2 : wr.cell? ⟨w.heap.size, 2, none⟩ = some (.int .i64 c) := cell_at hP 2
    have hPl := hP.lt
    have hpl := plcs_len t E k
    have HR := Lib.hid hr
    have HG := Lib.hid hob
    have HP := Lib.hid hP
    have HB := Lib.hid hB
    clear hr hob hP hB
    by_cases hlt : k < len
    · obtain ⟨e0, e1⟩ := HS.out.at_ (by omega)
      subst e0
      have HSr := Lib.hid (HS.out.below HB.out)
      obtain ⟨k0, _, _⟩ := HSr.out.cell k hlt
      obtain ⟨et, het⟩ : ∃ et, et = (E k).t := ⟨_, rfl⟩
      rw [← het] at k0
      obtain ⟨q, hq⟩ : ∃ q, q = (et == t) := ⟨_, rfl⟩
      have HT : Hid (plcs t E (k + 1) = plcs t E k ++ if q then [k] else []) := Lib.hid (by rw [hq, het]; rfl)
      have hq2 := hq.symm
      obtain ⟨L, hL⟩ : ∃ L, L = plcs t E k := ⟨_, rfl⟩
      rw [← hL] at HR HT hpl
      obtain ⟨f, hf⟩ : ∃ f, f = L.length := ⟨_, rfl⟩
      rw [← hf] at HR hpl
      have HF := Lib.hid hf
      clear hL hf het hq
      obtain ⟨av, cv, hv, hcv1, hcv2, hav⟩ := HR.out.shape
      subst hv
      unfold maxLen at hcv2
      clear hav
      cases q
      · go_wp2_with fail
        go_quiet (fail)
        obtain ⟨wq, hwq⟩ : ∃ wq, wq = wr.drewN nq := ⟨_, rfl⟩
        have HRq : Hid (Row wq (.slice av f cv) ob 3 1 f (ownV L)) := Lib.hid (by rw [hwq]; exact HR.out.congr fun _ _ => rfl)
        have HBq : Hid (Below w.heap.size w wq) := Lib.hid (by rw [hwq]; exact below_drewN HB.out _)
        have HPq : Hid (Blk wq w.heap.size #[.int .i64 num, .int .i64 t, .int .i64 c, .slice la ln lc] 53) := Lib.hid (by rw [hwq]; exact HP.out)
        have hPlq := HPq.out.lt
        try rw [← hwq]
        clear hwq p1 p2 k0 hPl
        go_wp2_with fail
        go_roundw
        case rel => exact ⟨k + 1, ob, by omega, by go_num, by rw [HT.out]; simpa [← HF.out] using HRq.out, HG.out, HPq.out, HBq.out⟩
        case measure => first | (simp [intOf]; done) | (simp [intOf]; omega)
      · have hb8 : ((f : Int) + 1) * 8 ≤ 140737488355328 := by omega
        go_wp2_with fail
        go_quiet (fail)
        obtain ⟨wq, hwq⟩ : ∃ wq, wq = wr.drewN nq := ⟨_, rfl⟩
        have HRq : Hid (Row wq (.slice av f cv) ob 3 1 f (ownV L)) := Lib.hid (by rw [hwq]; exact HR.out.congr fun _ _ => rfl)
        have HBq : Hid (Below w.heap.size w wq) := Lib.hid (by rw [hwq]; exact below_drewN HB.out _)
        have HPq : Hid (Blk wq w.heap.size #[.int .i64 num, .int .i64 t, .int .i64 c, .slice la ln lc] 53) := Lib.hid (by rw [hwq]; exact HP.out)
        have hPlq := HPq.out.lt
        try rw [← hwq]
        clear hwq p1 p2 k0 hPl
        go_wp2_with (at_builtin; refine wpList_append_row _ rfl (.tmp 22) (.tmp 24) 76 rfl 3 i0 _ 1 8 Try.underlying76 HI.out HZ0.out HZ1.out HZ2.out rfl (by decide) _ ob f (ownV L) rfl (HRq.out.alloc _) ⟨wq.heap.size, 0, none⟩ 1 1 [.int .i64 (k : Nat)] rfl (by decide) rfl ?c1 ?c2 ?c3 ?c4 ?_)
        case c1 => exact p_one_at wq _ _
        case c2 => intro u hu; exact (List.all_eq_true (p := fun u : Value => u.oneCell')).1 rfl u hu
        case c3 => unfold maxLen; omega
        case c4 => omega
        intro v1' ob1' W3 hrow3 hg3 hob3
        have hzA : (wq.alloc (.cells #[.int .i64 (k : Nat)] 3)).heap.size = wq.heap.size + 1 := by simp
        have hob1 : w.heap.size < ob1' := by
          rcases hob3 with h | h
          · exact HG.out _ h
          · omega
        have HP3 : Hid (Blk W3 w.heap.size #[.int .i64 num, .int .i64 t, .int .i64 c, .slice la ln lc] 53) := Lib.hid ((hg3.block _ (by omega) (fun e => by have := HG.out _ e.symm; omega)).trans ((Below.heap_alloc _ _ _ hPlq).trans HPq.out))
        have HB3 : Hid (Below w.heap.size w W3) := Lib.hid ((HBq.out.alloc HBq.out.size _).grown hg3 (by omega) (fun g e => by have := HG.out _ e; omega))
        have HR3 := Lib.hid hrow3
        have HO3 := Lib.hid hob1
        clear hg3 hob3 hrow3 hob1
        go_wp2_with fail
        go_roundw
        case rel => exact ⟨k + 1, some ob1', by omega, by go_num, by rw [HT.out]; simp only [if_true, List.length_append, ← HF.out, ownV, List.map_append]; exact HR3.out, (fun g e => by obtain rfl := Option.some.inj e; exact HO3.out), HP3.out, HB3.out⟩
        case measure => first | (simp [intOf]; done) | (simp [intOf]; omega)
    · obtain rfl : k = len := by omega
      obtain ⟨L, hL⟩ : ∃ L, L = plcs t E k := ⟨_, rfl⟩
      rw [← hL] at HR hpl HKF HEF
      obtain ⟨f, hf⟩ : ∃ f, f = L.length := ⟨_, rfl⟩
      rw [← hf] at HR hpl HKF HEF
      have HF := Lib.hid hf
      clear hL hf
      obtain ⟨av, cv, hv, hcv1, hcv2, hav⟩ := HR.out.shape
      subst hv
      unfold maxLen at hcv2
      by_cases hz : f = 0
      · subst hz
        go_wp2_with fail
        go_ret2
        exact ⟨by rw [HKF.out, HEF.out]; simp, HB.out⟩
      · have hz2 : ((f : Int) == 0) = false := by simpa using hz
        by_cases hc0 : c < 0
        · have d0 : decide (c < 0) = true := by simpa using hc0
          go_wp2_with fail
          go_ret2
          exact ⟨by rw [HKF.out, HEF.out]; simp [hz, hc0], HB.out⟩
        · have d0 : decide (c < 0) = false := by simpa using hc0
          obtain ⟨R, hR⟩ : ∃ R : Nat, c % (f : Int) = (R : Nat) := ⟨(c % (f : Int)).toNat, by have := Int.emod_nonneg c (b := (f : Int)) (by omega); omega⟩
          have hRf : R < f := by have := Int.emod_lt_of_pos c (b := (f : Int)) (by omega); omega
          rw [hR] at HKF
          have HKK : Hid (kf = (L.getD R 0 : Nat)) := Lib.hid (by rw [HKF.out, if_neg hz, if_neg (by omega)]; simp)
          have HEE : Hid (ef = 0) := Lib.hid (by rw [HEF.out, if_neg hz, if_neg (by omega)])
          obtain ⟨g, hg, hgc, _⟩ := HR.out.cell R (by omega)
          have hgc2 : wr.cell? ⟨g, R, none⟩ = some (.int .i64 (L.getD R 0 : Nat)) := by
            rw [hgc, ownV, List.getElem?_map, List.getD_eq_getElem?_getD, List.getElem?_eq_getElem (by rw [← HF.out]; exact hRf)]
            rfl
          obtain ⟨y, hy⟩ : ∃ y, y = L.getD R 0 := ⟨_, rfl⟩
          rw [← hy] at hgc2
          rw [hg] at hav
          simp only [Option.map_some] at hav
          subst hav
          have HY := Lib.hid hy
          clear hgc hg hy
          go_wp2_with fail
          go_ret2
          exact ⟨by rw [HKK.out, HEE.out, ← HY.out]; rfl, HB.out⟩
end Go.Proofs.Ytoodmocapagapaa
namespace Go.Proofs.Ytoodmocapagapaa
open Go.RowKit
set_option linter.unusedSimpArgs false
set_option linter.unusedVariables false

/-- A row of bytes. -/
structure ByIn (W : World) (a : Option Addr) (len cap : Nat) (b o : Nat) (X : Nat → Nat) : Prop where
  le : len ≤ cap
  max : cap ≤ maxLen
  at_ : 0 < len → a = some ⟨b, o, none⟩ ∧ b < W.heap.size
  cell : ∀ k, k < len → W.cell? ⟨b, o + k, none⟩ = some (.int .u8 (X k : Nat))
  bd : ∀ k, X k < 256
theorem by_cells (W : World) {a : Option Addr} {len cap : Nat} {xs : List Dt} (h : SliceFits Try.prog W 5 a len cap xs) : ∃ (b o : Nat) (X : Nat → Nat), ByIn W a len cap b o X := by
  have hc : Try.prog.cellsOf 5 = 1 := by kernel_rfl
  obtain ⟨b, o, h1, h2⟩ := h.spot (by rw [hc]; omega)
  have hex : ∀ k, ∃ q : Nat, (k < len → W.cell? ⟨b, o + k, none⟩ = some (.int .u8 (q : Nat))) ∧ q < 256 := fun k => by
    by_cases hk : k < len
    · have hl := h.length
      have hx := List.getElem?_eq_getElem (l := xs) (i := k) (by omega)
      obtain ⟨n0, e0, g0⟩ := (h.each k _ hx).1.int_inv Try.underlying5
      have hcell := h2 k _ hx
      rw [e0, hc] at hcell
      have g1 : 0 ≤ n0 ∧ n0 ≤ 255 := g0
      obtain ⟨q, rfl⟩ := Int.eq_ofNat_of_zero_le g1.1
      exact ⟨q, fun _ => by have := hcell 0 _ rfl; rwa [Nat.mul_one] at this, by omega⟩
    · exact ⟨0, fun h => absurd h hk, by omega⟩
  have hg := fun k => Classical.choose_spec (hex k)
  exact ⟨b, o, fun k => Classical.choose (hex k), h.le, h.max, h1, fun k hk => (hg k).1 hk, fun k => (hg k).2⟩
theorem ByIn.below {W W' : World} {a : Option Addr} {len cap b o : Nat} {X : Nat → Nat} (h : ByIn W a len cap b o X) (hB : Below W.heap.size W W') : ByIn W' a len cap b o X :=
  ⟨h.le, h.max, fun hk => ⟨(h.at_ hk).1, by have := (h.at_ hk).2; have := hB.size; omega⟩, fun k hk => (hB.cell (p := ⟨b, _, none⟩) (h.at_ (by omega)).2).trans (h.cell k hk), h.bd⟩


/-- what goes beyond 16 bits, brought round -/
def carN (s : Nat) : Nat := if 65535 < s then s - 65535 else s
theorem carN_le {s : Nat} (h : s ≤ 131070) : carN s ≤ 65535 := by unfold carN; split <;> omega
theorem p_wraps_u32 (n : Int) (h0 : 0 ≤ n) (h1 : n < 4294967296) : IntKind.u32.wrap n = n := by rw [IntKind.wrap_u32]; omega
theorem and_low16 (s : Nat) (h : s ≤ 131070) : bits .and .u32 s 65535 = ((s % 65536 : Nat) : Int) := by
  have h1 := bits_mask .u32 32 (by decide) (fun n h0 h1 => p_wraps_u32 n h0 (by omega)) 16 (by omega) (s : Int) (by omega) (by omega)
  simp only [Int.reducePow, Int.reduceSub] at h1
  rw [h1]; omega
theorem carry_any (s : Nat) (h : s ≤ 131070) (w : World) : Calls Try.prog 74 #[.int .u32 (s : Nat)] w fun e w' => e = .returned (.int .u32 (carN s : Nat)) ∧ w = w' := by
  have h1 := and_low16 s h
  have HC : Hid (((carN s : Nat) : Int) = (s : Int) % 65536 + (s : Int) / 65536) := Lib.hid (by unfold carN; split <;> omega)
  go_enter Try.func74, Try.ntmps74
  go_wp2_with fail
  go_ret
  exact ⟨by rw [HC.out]; rfl, rfl⟩

theorem carry_anyI (v : Int) (s : Nat) (hv : v = (s : Nat)) (h : s ≤ 131070) (w : World) : Calls Try.prog 74 #[.int .u32 v] w fun e w' => e = .returned (.int .u32 (carN s : Nat)) ∧ w = w' := by
  subst hv
  exact carry_any s h w
theorem p_quietQ {P : Program} {f : FuncId} {args : Array Value} {w : World} {n : Nat} {v : Value}
    (h : Calls P f args (w.drewN n) fun e w' => e = .returned v ∧ w.drewN n = w') : Calls P f args (w.drewN n) fun e w'' => e = .returned v ∧ ∃ m, w'' = w.drewN m :=
  h.mono fun _ _ ⟨he, hm⟩ => ⟨he, n, hm.symm⟩
theorem not_u16 (s : Nat) (h : s ≤ 65535) : bits .xor .u16 IntKind.u16.max (s : Int) = 65535 - (s : Int) := by
  have e1 : BitVec.ofInt 16 (s : Int) = BitVec.ofNat 16 s := by simp [BitVec.ofInt_natCast]
  have e2 : BitVec.ofInt 16 IntKind.u16.max = BitVec.allOnes 16 := by decide
  show IntKind.u16.wrap ((BitVec.ofInt 16 IntKind.u16.max ^^^ BitVec.ofInt 16 (s : Int)).toNat : Int) = _
  rw [e1, e2, BitVec.allOnes_xor, BitVec.toNat_not, BitVec.toNat_ofNat, Nat.mod_eq_of_lt (by omega)]
  have : IntKind.u16.wrap ((2 ^ 16 - 1 - s : Nat) : Int) = ((2 ^ 16 - 1 - s : Nat) : Int) := by rw [IntKind.wrap_u16]; omega
  rw [this]
  omega

/-- the sum behind j words -/
def psumW (X : Nat → Nat) : Nat → Nat
  | 0 => 0
  | j + 1 => carN (psumW X j + X (2 * j) * 256 + X (2 * j + 1))
theorem sumW_le (X : Nat → Nat) (hX : ∀ k, X k < 256) : ∀ j, psumW X j ≤ 65535
  | 0 => by simp [psumW]
  | j + 1 => by
    have := sumW_le X hX j
    have h1 := hX (2 * j)
    have h2 := hX (2 * j + 1)
    exact carN_le (by omega)
/-- the sum of n bytes -/
def sumN16 (X : Nat → Nat) (n : Nat) : Nat := if n % 2 = 0 then psumW X (n / 2) else carN (psumW X (n / 2) + X (n - 1) * 256)
theorem sumN16_le (X : Nat → Nat) (hX : ∀ k, X k < 256) (n : Nat) : sumN16 X n ≤ 65535 := by
  unfold sumN16
  have := sumW_le X hX (n / 2)
  have h1 := hX (n - 1)
  split
  · exact this
  · exact carN_le (by omega)

set_option maxRecDepth 100000 in
set_option maxHeartbeats 4000000 in
theorem pcheck_any (a : Option Addr) (len cap b o : Nat) (X : Nat → Nat) (w : World) (hb : ByIn w a len cap b o X) :
    Calls Try.prog 58 #[.slice a len cap] w fun e w' => e = .returned (.int .u16 ((65535 : Int) - (sumN16 X len : Nat))) ∧ Below w.heap.size w w' := by
  have hm := hb.max
  have hl := hb.le
  unfold maxLen at hm
  have HB := Lib.hid hb
  clear hb
  obtain ⟨S, hS⟩ : ∃ S, S = sumN16 X len := ⟨_, rfl⟩
  have hS9 : S ≤ 65535 := by rw [hS]; exact sumN16_le X HB.out.bd len
  have HSN := Lib.hid hS
  rw [← hS]
  clear hS
  go_enter Try.func58, Try.ntmps58
  go_wp2_with fail
  go_step3
  go_wp2_with fail
  go_step3
  go_wp2_with fail
  go_loopw [3, 4] (fun s i wr => ∃ j : Nat, 2 * j ≤ len ∧ i = .int .i64 ((2 * j : Nat) : Int) ∧ s = .int .u32 (psumW X j : Nat) ∧ Below w.heap.size w wr) (fun _ i _ => len - (intOf i).toNat)
  case atStart => exact ⟨0, by omega, rfl, rfl, Below.refl _ _⟩
  case round =>
    obtain ⟨j, hj, rfl, rfl, hB⟩ := hrel
    have hsl := sumW_le X HB.out.bd j
    obtain ⟨s, hs⟩ : ∃ s, s = psumW X j := ⟨_, rfl⟩
    rw [← hs] at hsl ⊢
    have HSJ := Lib.hid hs
    have HBB := Lib.hid hB
    clear hs hB
    by_cases h0 : len = 2 * j
    · have d0 : ((len : Int) - ((2 * j : Nat) : Int) == 0) = true := by simp; omega
      have hn := not_u16 s hsl
      have HS2 : Hid (S = s) := Lib.hid (by rw [HSN.out, HSJ.out, sumN16, if_pos (by omega), h0]; simp)
      go_wp2_with fail
      go_ret
      exact ⟨by rw [HS2.out]; rfl, HBB.out⟩
    · have d0 : ((len : Int) - ((2 * j : Nat) : Int) == 0) = false := by simp; omega
      obtain ⟨e0, e1⟩ := HB.out.at_ (by omega)
      subst e0
      have HBr := Lib.hid (HB.out.below HBB.out)
      have k0 := HBr.out.cell (2 * j) (by omega)
      have x0 := HB.out.bd (2 * j)
      obtain ⟨x, hx⟩ : ∃ x, x = X (2 * j) := ⟨_, rfl⟩
      rw [← hx] at k0 x0
      have HX := Lib.hid hx
      clear hx
      by_cases h1 : len = 2 * j + 1
      · have d1 : ((len : Int) - ((2 * j : Nat) : Int) == 1) = true := by simp; omega
        have hcl : carN (s + x * 256) ≤ 65535 := carN_le (by omega)
        have HS2 : Hid (S = carN (s + x * 256)) := Lib.hid (by rw [HSN.out, HSJ.out, sumN16, if_neg (by omega), HX.out, h1, show (2 * j + 1) / 2 = j by omega, show 2 * j + 1 - 1 = 2 * j by omega])
        have HC : Hid (∀ v W, v = ((s + x * 256 : Nat) : Int) → Calls Try.prog 74 #[.int .u32 v] W fun e w' => e = .returned (.int .u32 (carN (s + x * 256) : Nat)) ∧ W = w') := Lib.hid (fun v W hv => carry_anyI v _ hv (by omega) W)
        obtain ⟨c, hc⟩ : ∃ c, c = carN (s + x * 256) := ⟨_, rfl⟩
        rw [← hc] at hcl HS2 HC
        clear hc
        have hn := not_u16 c hcl
        go_wp2_with (go_at_call 74; refine (HC.out _ _ (by omega)).mono ?_; rintro e w1 ⟨rfl, rfl⟩)
        go_ret
        exact ⟨by rw [HS2.out]; rfl, HBB.out⟩
      · have d1 : ((len : Int) - ((2 * j : Nat) : Int) == 1) = false := by simp; omega
        have k1 := HBr.out.cell (2 * j + 1) (by omega)
        have y0 := HB.out.bd (2 * j + 1)
        obtain ⟨y, hy⟩ : ∃ y, y = X (2 * j + 1) := ⟨_, rfl⟩
        rw [← hy] at k1 y0
        have HY := Lib.hid hy
        clear hy
        have HC : Hid (∀ v W, v = ((s + x * 256 + y : Nat) : Int) → Calls Try.prog 74 #[.int .u32 v] W fun e w' => e = .returned (.int .u32 (carN (s + x * 256 + y) : Nat)) ∧ W = w') := Lib.hid (fun v W hv => carry_anyI v _ hv (by omega) W)
        have HN : Hid (psumW X (j + 1) = carN (s + x * 256 + y)) := Lib.hid (by rw [psumW, HSJ.out, HX.out, HY.out])
        obtain ⟨c, hc⟩ : ∃ c, c = carN (s + x * 256 + y) := ⟨_, rfl⟩
        rw [← hc] at HN HC
        clear hc
        go_wp2_with fail
        go_quiet ((go_at_call 74; exact p_quietQ (HC.out _ _ (by omega))))
        go_wp2_with fail
        go_roundw
        case rel => exact ⟨j + 1, by omega, by go_num, by rw [HN.out], below_drewN HBB.out _⟩
        case measure => first | (simp [intOf]; done) | (simp [intOf]; omega)
end Go.Proofs.Ytoodmocapagapaa
namespace Go.Proofs.Ytoodmocapagapaa
open Go.RowKit
set_option linter.unusedSimpArgs false
set_option linter.unusedVariables false

def eqB (X Y : Nat → Nat) : Nat → Bool
  | 0 => true
  | k + 1 => eqB X Y k && X k == Y k
theorem eqB_false (X Y : Nat → Nat) (k : Nat) (h : (X k == Y k) = false) : ∀ n, k < n → eqB X Y n = false
  | 0, hk => by omega
  | n + 1, hk => by
    unfold eqB
    by_cases e : k = n
    · subst e; rw [h, Bool.and_false]
    · rw [eqB_false X Y k h n (by omega), Bool.false_and]
theorem eqB_iff (X Y : Nat → Nat) : ∀ n, eqB X Y n = true ↔ ∀ k, k < n → X k = Y k
  | 0 => by simp [eqB]
  | n + 1 => by
    unfold eqB
    rw [Bool.and_eq_true, eqB_iff X Y n, beq_iff_eq]
    refine ⟨fun h k hk => ?_, fun h => ⟨fun k hk => h k (by omega), h n (by omega)⟩⟩
    by_cases e : k = n
    · subst e; exact h.2
    · exact h.1 k (by omega)

set_option maxRecDepth 100000 in
set_option maxHeartbeats 4000000 in
theorem equal_any (a : Option Addr) (n c b o : Nat) (X : Nat → Nat) (a' : Option Addr) (n' c' b' o' : Nat) (Y : Nat → Nat) (w : World) (h1 : ByIn w a n c b o X) (h2 : ByIn w a' n' c' b' o' Y) :
    Calls Try.prog 40 #[.slice a n c, .slice a' n' c'] w fun e w' => e = .returned (.bool ((n == n') && eqB X Y n)) ∧ Below w.heap.size w w' := by
  have hm := h1.max
  have hl := h1.le
  have hm' := h2.max
  have hl' := h2.le
  unfold maxLen at hm hm'
  have HA := Lib.hid h1
  have HB := Lib.hid h2
  clear h1 h2
  obtain ⟨q, hq⟩ : ∃ q, q = ((n == n') && eqB X Y n) := ⟨_, rfl⟩
  have HQ := Lib.hid hq
  rw [← hq]
  clear hq
  by_cases hn : n = n'
  · subst hn
    have HQ2 : Hid (q = eqB X Y n) := Lib.hid (by rw [HQ.out]; simp)
    clear HQ
    go_enter Try.func40, Try.ntmps40
    go_wp2_with fail
    go_loopw [13] (fun i wr => ∃ k : Nat, k ≤ n ∧ i = .int .i64 k ∧ eqB X Y k = true ∧ Below w.heap.size w wr) (fun i _ => n - (intOf i).toNat)
    case atStart => exact ⟨0, Nat.zero_le _, rfl, rfl, Below.refl _ _⟩
    case round =>
      obtain ⟨k, hk, rfl, he, hB⟩ := hrel
      have HBB := Lib.hid hB
      have HE := Lib.hid he
      clear hB he
      by_cases hlt : k < n
      · obtain ⟨e0, e1⟩ := HA.out.at_ (by omega)
        obtain ⟨e2, e3⟩ := HB.out.at_ (by omega)
        subst e0 e2
        have k0 := (HA.out.below HBB.out).cell k hlt
        have k1 := (HB.out.below HBB.out).cell k hlt
        have x0 := HA.out.bd k
        have y0 := HB.out.bd k
        have HF : Hid ((X k == Y k) = false → eqB X Y n = false) := Lib.hid (fun h => eqB_false X Y k h n hlt)
        have HT : Hid ((X k == Y k) = true → eqB X Y (k + 1) = true) := Lib.hid (fun h => by unfold eqB; rw [HE.out, h]; rfl)
        obtain ⟨x, hx⟩ : ∃ x, x = X k := ⟨_, rfl⟩
        obtain ⟨y, hy⟩ : ∃ y, y = Y k := ⟨_, rfl⟩
        rw [← hx] at k0 x0 HF HT
        rw [← hy] at k1 y0 HF HT
        clear hx hy
        by_cases hxy : x = y
        · subst hxy
          have HT2 : Hid (eqB X Y (k + 1) = true) := Lib.hid (HT.out (by simp))
          go_wp2_with fail
          go_quiet (fail)
          go_wp2_with fail
          go_roundw
          case rel => exact ⟨k + 1, by omega, by go_num, HT2.out, below_drewN HBB.out _⟩
          case measure => first | (simp [intOf]; done) | (simp [intOf]; omega)
        · have HF2 : Hid (q = false) := Lib.hid (by rw [HQ2.out]; exact HF.out (by simpa using hxy))
          have d0 : ((x : Int) == (y : Int)) = false := by simp; omega
          go_wp2_with fail
          go_quiet (fail)
          go_wp2_with fail
          go_ret
          exact ⟨by rw [HF2.out]; rfl, below_drewN HBB.out _⟩
      · obtain rfl : k = n := by omega
        have HT2 : Hid (q = true) := Lib.hid (by rw [HQ2.out, HE.out])
        go_wp2_with fail
        go_ret
        exact ⟨by rw [HT2.out]; rfl, HBB.out⟩
  · have HF2 : Hid (q = false) := Lib.hid (by rw [HQ.out]; simp [hn])
    have d0 : ((n : Int) == (n' : Int)) = false := by simp; omega
    go_enter Try.func40, Try.ntmps40
    go_wp2_with fail
    go_ret
    exact ⟨by rw [HF2.out]; rfl, Below.refl _ _⟩
end Go.Proofs.Ytoodmocapagapaa
namespace Go.Proofs.Ytoodmocapagapaa
open Go.RowKit
set_option linter.unusedSimpArgs false
set_option linter.unusedVariables false

section
variable {P : Program} (w : World)
end

/-- some bytes, and more of them -/
def putB (Y : Nat → Nat) (n : Nat) (X : Nat → Nat) (j : Nat) : Nat := if j < n then Y j else X (j - n)
def rowV (Y : Nat → Nat) (n : Nat) : List Value := (List.range n).map fun j => .int .u8 (Y j : Nat)
theorem rowV_len (Y : Nat → Nat) (n : Nat) : (rowV Y n).length = n := by simp [rowV]
theorem rowV_at (Y : Nat → Nat) (n j : Nat) (h : j < n) : (rowV Y n)[j]? = some (.int .u8 (Y j : Nat)) := by simp [rowV, h]
theorem rowV_put (Y X : Nat → Nat) (n m : Nat) : rowV (putB Y n X) (n + m) = rowV Y n ++ rowV X m := by
  refine List.ext_getElem? fun j => ?_
  rw [List.getElem?_append, rowV_len]
  by_cases h : j < n
  · rw [if_pos h, rowV_at _ _ _ (by omega), rowV_at _ _ _ h, putB, if_pos h]
  · rw [if_neg h]
    by_cases h2 : j < n + m
    · rw [rowV_at _ _ _ h2, rowV_at _ _ _ (by omega), putB, if_neg h]
    · rw [List.getElem?_eq_none (by rw [rowV_len]; omega), List.getElem?_eq_none (by rw [rowV_len]; omega)]
theorem infoU8' : (Try.prog.info? 5).map (fun i => (i.zero, i.size, i.bytes)) = some (some (.int .u8 0), 1, 1) := by kernel_rfl
theorem rowV_one (Y : Nat → Nat) (n : Nat) : ∀ u ∈ rowV Y n, u.oneCell' = true := by
  intro u hu
  simp only [rowV, List.mem_map] at hu
  obtain ⟨j, _, rfl⟩ := hu
  rfl
theorem row_by {W : World} {v : Value} {ob : Option Nat} {n : Nat} {Y : Nat → Nat} (h : Row W v ob 5 1 n (rowV Y n)) (hY : ∀ j, Y j < 256) : ∃ a cap, v = .slice a n cap ∧ ByIn W a n cap (ob.getD 0) 0 Y := by
  obtain ⟨a, cap, rfl, h1, h2, h3⟩ := h.shape
  refine ⟨a, cap, rfl, h1, h2, fun hn => ?_, fun k hk => ?_, hY⟩
  · obtain ⟨g, hg, hc, _⟩ := h.cell 0 (by omega)
    subst hg
    exact ⟨h3, h.lt⟩
  · obtain ⟨g, hg, hc, _⟩ := h.cell k (by omega)
    subst hg
    rw [Nat.zero_add, Option.getD_some, hc, rowV_at Y n k hk]


set_option maxRecDepth 100000 in
set_option maxHeartbeats 4000000 in
theorem pclone_any (a : Option Addr) (n c b o : Nat) (X : Nat → Nat) (w : World) (h1 : ByIn w a n c b o X) (hn5 : n ≤ 5000) :
    Calls Try.prog 39 #[.slice a n c] w fun e w' => ∃ a' c' b', e = .returned (.slice a' n c') ∧ ByIn w' a' n c' b' 0 X ∧ (0 < n → w.heap.size ≤ b') ∧ Below w.heap.size w w' := by
  obtain ⟨i0, hi, hz0, hz1, hz2⟩ := info_parts infoU8'
  have HI := Lib.hid hi
  have HZ0 := Lib.hid hz0
  have HZ1 := Lib.hid hz1
  have HZ2 := Lib.hid hz2
  have hm := h1.max
  have hl := h1.le
  unfold maxLen at hm
  have HA := Lib.hid h1
  clear h1 hi hz0 hz1 hz2
  cases a with
  | none =>
    obtain rfl : n = 0 := by
      rcases Nat.eq_zero_or_pos n with h | h
      · exact h
      · exact absurd (HA.out.at_ h).1 (by simp)
    have hnil : ∀ W, (binOp .eql 42 (.slice none 0 c) (.slice none 0 0)).run Try.prog W = .ok (.bool true) W := fun _ => rfl
    go_enter Try.func39, Try.ntmps39
    go_wp2_with fail
    go_ret
    exact ⟨none, 0, 0, rfl, ⟨Nat.le_refl _, by unfold maxLen; omega, fun h => by omega, fun k hk => by omega, HA.out.bd⟩, (fun h => by omega), Below.refl _ _⟩
  | some p =>
    have hnil : ∀ W, (binOp .eql 42 (.slice (some p) n c) (.slice none 0 0)).run Try.prog W = .ok (.bool false) W := fun _ => rfl
    go_enter Try.func39, Try.ntmps39
    have HR0 : Hid (Row (w.alloc (.cells #[] 5)) (.slice (some ⟨w.heap.size, 0, none⟩) 0 0) (some w.heap.size) 5 1 0 (rowV X 0)) := Lib.hid (Row.mk (heap_alloc_new w _) (Nat.le_refl _) (by unfold maxLen; omega) rfl rfl)
    have HB0 : Hid (Below w.heap.size w (w.alloc (.cells #[] 5))) := Lib.hid ((Below.refl _ _).alloc (Nat.le_refl _) _)
    have hbd := HA.out.bd
    by_cases h0 : n = 0
    · subst h0
      go_wp2_with (at_builtin; refine wpList_append_row_zero _ rfl (.tmp 5) (.tmp 6) 42 rfl 5 i0 1 Try.underlying42 HI.out _ _ 0 _ rfl HR0.out (some p) c rfl ?_)
      go_wp2_with fail
      go_ret
      exact ⟨_, _, 0, rfl, ⟨Nat.le_refl _, by unfold maxLen; omega, fun h => by omega, fun k hk => by omega, HA.out.bd⟩, (fun h => by omega), HB0.out⟩
    · obtain ⟨e0, e1⟩ := HA.out.at_ (by omega)
      obtain rfl : p = ⟨b, o, none⟩ := Option.some.inj e0
      have hb8 : (0 + (n : Int)) * 1 ≤ 140737488355328 := by omega
      go_wp2_with (at_builtin; refine wpList_append_row _ rfl (.tmp 5) (.tmp 6) 42 rfl 5 i0 _ 1 1 Try.underlying42 HI.out HZ0.out HZ1.out HZ2.out rfl (by decide) _ _ 0 (rowV X 0) rfl HR0.out ⟨b, o, none⟩ n c (rowV X n) rfl (by omega) (by rw [rowV_len, Nat.mul_one]) ?c1 (rowV_one X n) ?c3 ?c4 ?_)
      case c1 =>
        intro j u hu
        have hj : j < n := by have := (List.getElem?_eq_some_iff.1 hu).1; rwa [rowV_len] at this
        rw [rowV_at X n j hj] at hu
        obtain rfl := Option.some.inj hu
        exact HA.out.cell j hj
      case c3 => unfold maxLen; omega
      case c4 => omega
      intro v' ob' W3 hrow3 hg3 hob3
      have hB3 : Below w.heap.size w W3 := HB0.out.grown hg3 (by simp) (fun g e => by obtain rfl := Option.some.inj e; exact Nat.le_refl _)
      have hrow4 : Row W3 v' (some ob') 5 1 n (rowV X n) := by
        first | exact hrow3 | (rw [Nat.zero_add] at hrow3; exact hrow3)
      obtain ⟨a', c', rfl, hby⟩ := row_by hrow4 hbd
      have HBY := Lib.hid hby
      have HB3 := Lib.hid hB3
      have HOB : Hid (w.heap.size ≤ ob') := Lib.hid (by
        rcases hob3 with h | h
        · exact Nat.le_of_eq (by first | exact h | exact Option.some.inj h)
        · rw [h]; simp)
      clear hrow3 hg3 hob3 hrow4 hby hB3
      go_wp2_with fail
      go_ret
      exact ⟨a', c', _, rfl, HBY.out, (fun _ => HOB.out), HB3.out⟩
end Go.Proofs.Ytoodmocapagapaa
namespace Go.Proofs.Ytoodmocapagapaa
open Go.RowKit
set_option linter.unusedSimpArgs false
set_option linter.unusedVariables false

end Go.Proofs.Ytoodmocapagapaa
namespace Go.Proofs.Ytoodmocapagapaa
open Go.RowKit
set_option linter.unusedSimpArgs false
set_option linter.unusedVariables false

set_option maxRecDepth 100000 in
set_option maxHeartbeats 4000000 in
theorem grow_nil (n : Nat) (w : World) (h0 : 0 < n) (h1 : n ≤ 5000) :
    Calls Try.prog 73 #[.slice none 0 0, .int .i64 (n : Nat)] w fun e w' => ∃ v g, e = .returned v ∧ Row w' v (some g) 5 1 0 [] ∧ w.heap.size ≤ g ∧ Below w.heap.size w w' := by
  obtain ⟨i0, hi, hz0, hz1, hz2⟩ := info_parts infoU8'
  have hrun := Lib.run_append_nil_zeros (P := Try.prog) w 42 3 42 5 i0 (.int .u8 0) .i64 .i64 Try.underlying42 Try.underlying3 hi hz0 n h0 (by rw [hz1]; omega) (by omega) (by rw [hz2]; omega)
  obtain ⟨G, hG⟩ : ∃ G, G = grownCap w n 0 5 := ⟨_, rfl⟩
  have hG1 : n ≤ G := by rw [hG]; exact grownCap_ge w n 0 _
  have hG2 : G ≤ maxLen := by rw [hG]; exact grownCap_le_maxLen w n 0 _ (by unfold maxLen; omega)
  rw [← hG] at hrun
  have HROW : Hid (Row (w.drew.alloc (.cells (Builtin.zeroCells (Value.int .u8 0).cells n ++ Builtin.zeroCells (Value.int .u8 0).cells (G - n)) 5)) (.slice (some ⟨w.heap.size, 0, none⟩) 0 G) (some w.heap.size) 5 1 0 []) :=
    Lib.hid (Row.mk (heap_alloc_new w.drew _) (Nat.zero_le _) hG2 (by simp only [Array.size_append, size_zeroCells]; show n * 1 + (G - n) * 1 = G * 1; omega) rfl)
  have HBL : Hid (Below w.heap.size w (w.drew.alloc (.cells (Builtin.zeroCells (Value.int .u8 0).cells n ++ Builtin.zeroCells (Value.int .u8 0).cells (G - n)) 5))) := Lib.hid ((Below.refl _ _).drew.alloc (Nat.le_refl _) _)
  obtain ⟨W1, hW1⟩ : ∃ W1, W1 = w.drew.alloc (.cells (Builtin.zeroCells (Value.int .u8 0).cells n ++ Builtin.zeroCells (Value.int .u8 0).cells (G - n)) 5) := ⟨_, rfl⟩
  rw [← hW1] at hrun HROW HBL
  have HRUN := Lib.hid hrun
  unfold maxLen at hG2
  clear hG hi hz0 hz1 hz2 hrun hW1
  go_enter Try.func73, Try.ntmps73
  go_wp2_with (at_builtin; refine Lib.wpList_append_run _ rfl (.tmp 20) (.tmp 21) 42 3 rfl _ _ rfl rfl _ _ HRUN.out ?_)
  go_wp2_with fail
  go_ret
  exact ⟨_, _, rfl, HROW.out, Nat.le_refl _, HBL.out⟩
end Go.Proofs.Ytoodmocapagapaa
namespace Go.Proofs.Ytoodmocapagapaa
open Go.RowKit
set_option linter.unusedSimpArgs false
set_option linter.unusedVariables false

def cN (n m k : Nat) : Nat := if k = 0 then 0 else if k = 1 then n else n + m
theorem rowV_left (X Y : Nat → Nat) (n : Nat) : rowV (putB X n Y) n = rowV X n := by
  refine List.ext_getElem? fun j => ?_
  by_cases h : j < n
  · rw [rowV_at _ _ _ h, rowV_at _ _ _ h, putB, if_pos h]
  · rw [List.getElem?_eq_none (by rw [rowV_len]; omega), List.getElem?_eq_none (by rw [rowV_len]; omega)]

set_option maxRecDepth 100000 in
set_option maxHeartbeats 8000000 in
theorem concat2_any (g cg : Nat) (a : Option Addr) (n c b o : Nat) (X : Nat → Nat) (a' : Option Addr) (m c' b' o' : Nat) (Y : Nat → Nat) (w : World) (hg : g < w.heap.size) (hcg : 2 ≤ cg) (hcg2 : cg ≤ 5000)
    (g0 : w.cell? ⟨g, 0, none⟩ = some (.slice a n c)) (g1 : w.cell? ⟨g, 1, none⟩ = some (.slice a' m c')) (h1 : ByIn w a n c b o X) (h2 : ByIn w a' m c' b' o' Y) (hn : 0 < n) (hnm : n + m ≤ 5000) :
    Calls Try.prog 57 #[.slice (some ⟨g, 0, none⟩) 2 cg] w fun e w' => ∃ v ob, e = .returned v ∧ Row w' v (some ob) 5 1 (n + m) (rowV (putB X n Y) (n + m)) ∧ w.heap.size ≤ ob ∧ Below w.heap.size w w' := by
  obtain ⟨i0, hi, hz0, hz1, hz2⟩ := info_parts infoU8'
  have HI := Lib.hid hi
  have HZ0 := Lib.hid hz0
  have HZ1 := Lib.hid hz1
  have HZ2 := Lib.hid hz2
  have hm := h1.max
  have hl := h1.le
  have hm' := h2.max
  have hl' := h2.le
  unfold maxLen at hm hm'
  have HA := Lib.hid h1
  have HB := Lib.hid h2
  have HG0 := Lib.hid g0
  have HG1 := Lib.hid g1
  have HGR := Lib.hid (grow_nil (n + m))
  clear h1 h2 g0 g1 hi hz0 hz1 hz2
  go_enter Try.func57, Try.ntmps57
  go_wp2_with fail
  go_loopw [3, 11] (fun s i wr => ∃ k : Nat, k ≤ 2 ∧ i = .int .i64 k ∧ s = .int .i64 (cN n m k : Nat) ∧ Below w.heap.size w wr) (fun _ i _ => 2 - (intOf i).toNat)
  case atStart => exact ⟨0, by omega, rfl, rfl, Below.refl _ _⟩
  case round =>
    obtain ⟨k, hk, rfl, rfl, hB⟩ := hrel
    have HBB := Lib.hid hB
    clear hB
    have k0 := (HBB.out.cell (p := ⟨g, 0, none⟩) hg).trans HG0.out
    have k1 := (HBB.out.cell (p := ⟨g, 1, none⟩) hg).trans HG1.out
    have hk3 : k = 0 ∨ k = 1 ∨ k = 2 := by omega
    rcases hk3 with rfl | rfl | rfl
    · have e0 : cN n m 0 = 0 := rfl
      rw [e0]
      go_wp2_with fail
      go_roundw
      case rel => exact ⟨1, by omega, rfl, by simp [cN], HBB.out⟩
      case measure => simp [intOf]
    · have e0 : cN n m 1 = n := rfl
      rw [e0]
      have d0 : decide ((n : Int) + m < 0) = false := by simp; omega
      go_wp2_with fail
      go_roundw
      case rel => exact ⟨2, by omega, rfl, by simp [cN], HBB.out⟩
      case measure => simp [intOf]
    · have e0 : cN n m 2 = n + m := rfl
      rw [e0]
      go_wp2_with fail
      go_at_call 73
      refine (HGR.out _ (by omega) (by omega)).mono ?_
      rintro e W2 ⟨v, ob, rfl, hr, hob, hB2⟩
      have HR := Lib.hid hr
      have HOB : Hid (w.heap.size ≤ ob) := Lib.hid (Nat.le_trans HBB.out.size hob)
      have HB2 := Lib.hid (HBB.out.trans (hB2.mono HBB.out.size))
      clear hr hob hB2 k0 k1
      go_wp2_with fail
      go_loopw [6, 27] (fun v i wr => ∃ (k ob : Nat), k ≤ 2 ∧ i = .int .i64 k ∧ Row wr v (some ob) 5 1 (cN n m k) (rowV (putB X n Y) (cN n m k)) ∧ w.heap.size ≤ ob ∧ Below w.heap.size w wr) (fun _ i _ => 2 - (intOf i).toNat)
      case atStart => exact ⟨0, ob, by omega, rfl, HR.out, HOB.out, HB2.out⟩
      case round =>
        clear HR HOB HB2
        obtain ⟨k, ob, hk, rfl, hr, hob, hB⟩ := hrel
        obtain ⟨av, cv, hv, hcv1, hcv2, hav⟩ := hr.shape
        clear hav
        subst hv
        unfold maxLen at hcv2
        have HR := Lib.hid hr
        have HOB := Lib.hid hob
        have HB3 := Lib.hid hB
        have k0 := (hB.cell (p := ⟨g, 0, none⟩) hg).trans HG0.out
        have k1 := (hB.cell (p := ⟨g, 1, none⟩) hg).trans HG1.out
        clear hr hob hB
        have hk3 : k = 0 ∨ k = 1 ∨ k = 2 := by omega
        rcases hk3 with rfl | rfl | rfl
        · have z0 : cN n m 0 = 0 := rfl
          rw [z0] at hcv1 ⊢
          have HRz : Hid (Row wr (.slice av 0 cv) (some ob) 5 1 0 (rowV X 0)) := Lib.hid HR.out
          obtain ⟨e0, e1⟩ := HA.out.at_ hn
          subst e0
          have hb8 : (0 + (n : Int)) * 1 ≤ 140737488355328 := by omega
          go_wp2_with (at_builtin; refine wpList_append_row _ rfl (.tmp 31) (.tmp 32) 42 rfl 5 i0 _ 1 1 Try.underlying42 HI.out HZ0.out HZ1.out HZ2.out rfl (by decide) _ (some ob) 0 (rowV X 0) rfl HRz.out ⟨b, o, none⟩ n c (rowV X n) rfl hn (by rw [rowV_len, Nat.mul_one]) ?c1 (rowV_one X n) ?c3 ?c4 ?_)
          case c1 =>
            intro j u hu
            have hj : j < n := by have := (List.getElem?_eq_some_iff.1 hu).1; rwa [rowV_len] at this
            rw [rowV_at X n j hj] at hu
            obtain rfl := Option.some.inj hu
            first | exact (HA.out.below HB3.out).cell j hj | (rw [addr_add]; exact (HA.out.below HB3.out).cell j hj)
          case c3 => unfold maxLen; omega
          case c4 => omega
          intro v' ob' W3 hrow3 hg3 hob3
          have hz9 := HB3.out.size
          have hob' : w.heap.size ≤ ob' := by
            rcases hob3 with h | h
            · first | (rw [← h]; exact HOB.out) | (obtain rfl := Option.some.inj h; exact HOB.out)
            · omega
          have HB4 : Hid (Below w.heap.size w W3) := Lib.hid (HB3.out.grown hg3 (by omega) (fun g e => by obtain rfl := Option.some.inj e; exact HOB.out))
          have HR4 : Hid (Row W3 v' (some ob') 5 1 n (rowV X n)) := Lib.hid (by first | exact hrow3 | (rw [Nat.zero_add] at hrow3; exact hrow3))
          have HO4 := Lib.hid hob'
          clear hrow3 hg3 hob3 hob'
          go_wp2_with fail
          go_roundw
          case rel => exact ⟨1, ob', by omega, rfl, by show Row _ _ _ _ 1 n (rowV (putB X n Y) n); rw [rowV_left]; exact HR4.out, HO4.out, HB4.out⟩
          case measure => simp [intOf]
        · have z0 : cN n m 1 = n := rfl
          rw [z0] at hcv1 ⊢
          have HRn : Hid (Row wr (.slice av n cv) (some ob) 5 1 n (rowV X n)) := Lib.hid (by rw [← rowV_left X Y n]; exact HR.out)
          by_cases hm0 : m = 0
          · have HM0 := Lib.hid hm0
            clear hm0
            go_wp2_with (at_builtin; refine wpList_append_row_zero _ rfl (.tmp 31) (.tmp 32) 42 rfl 5 i0 1 Try.underlying42 HI.out _ (some ob) n (rowV X n) rfl HRn.out a' c' (show Value.slice a' m c' = .slice a' 0 c' by rw [HM0.out]) ?_)
            go_wp2_with fail
            go_roundw
            case rel => exact ⟨2, ob, by omega, rfl, by show Row _ _ _ _ 1 (n + m) (rowV (putB X n Y) (n + m)); rw [HM0.out, Nat.add_zero, rowV_left]; exact HRn.out, HOB.out, HB3.out⟩
            case measure => simp [intOf]
          · obtain ⟨e0, e1⟩ := HB.out.at_ (by omega)
            subst e0
            have hb8 : ((n : Int) + (m : Int)) * 1 ≤ 140737488355328 := by omega
            go_wp2_with (at_builtin; refine wpList_append_row _ rfl (.tmp 31) (.tmp 32) 42 rfl 5 i0 _ 1 1 Try.underlying42 HI.out HZ0.out HZ1.out HZ2.out rfl (by decide) _ (some ob) n (rowV X n) rfl HRn.out ⟨b', o', none⟩ m c' (rowV Y m) rfl (by omega) (by rw [rowV_len, Nat.mul_one]) ?c1 (rowV_one Y m) ?c3 ?c4 ?_)
            case c1 =>
              intro j u hu
              have hj : j < m := by have := (List.getElem?_eq_some_iff.1 hu).1; rwa [rowV_len] at this
              rw [rowV_at Y m j hj] at hu
              obtain rfl := Option.some.inj hu
              first | exact (HB.out.below HB3.out).cell j hj | (rw [addr_add]; exact (HB.out.below HB3.out).cell j hj)
            case c3 => unfold maxLen; omega
            case c4 => omega
            intro v' ob' W3 hrow3 hg3 hob3
            have hz9 := HB3.out.size
            have hob' : w.heap.size ≤ ob' := by
              rcases hob3 with h | h
              · first | (rw [← h]; exact HOB.out) | (obtain rfl := Option.some.inj h; exact HOB.out)
              · omega
            have HB4 : Hid (Below w.heap.size w W3) := Lib.hid (HB3.out.grown hg3 (by omega) (fun g e => by obtain rfl := Option.some.inj e; exact HOB.out))
            have HR4 : Hid (Row W3 v' (some ob') 5 1 (n + m) (rowV (putB X n Y) (n + m))) := Lib.hid (by rw [rowV_put]; exact hrow3)
            have HO4 := Lib.hid hob'
            clear hrow3 hg3 hob3 hob'
            go_wp2_with fail
            go_roundw
            case rel => exact ⟨2, ob', by omega, rfl, HR4.out, HO4.out, HB4.out⟩
            case measure => simp [intOf]
        · have z0 : cN n m 2 = n + m := rfl
          rw [z0] at hcv1 ⊢
          go_wp2_with fail
          go_ret
          exact ⟨_, ob, rfl, HR.out, HOB.out, HB3.out⟩
end Go.Proofs.Ytoodmocapagapaa
namespace Go.Proofs.Ytoodmocapagapaa
open Go.RowKit
set_option linter.unusedSimpArgs false
set_option linter.unusedVariables false

def headB (t c n : Nat) (j : Nat) : Nat := if j = 0 then 105 else if j = 1 then t else if j = 2 then c else if j = 4 then n / 256 else if j = 5 then n % 256 else 0

/-- the check laid in -/
def fixB (Z : Nat → Nat) (S : Nat) (j : Nat) : Nat := if j = 6 then S / 256 else if j = 7 then S % 256 else Z j
theorem row_set {W : World} {v : Value} {ob n : Nat} {Y : Nat → Nat} (h : Row W v (some ob) 5 1 n (rowV Y n)) (i : Nat) (hi : i < n) (x : Nat) :
    Row (W.setCell ⟨ob, i, none⟩ (.int .u8 (x : Nat))) v (some ob) 5 1 n (rowV (fun j => if j = i then x else Y j) n) := by
  rcases h.cases with ⟨_, h2, _, _⟩ | ⟨g, cap, cur, hob, rfl, hg, hnc, hcm, hcs, htake⟩
  · omega
  · obtain rfl := Option.some.inj hob
    refine Row.mk (heap_setCell_same hg i _) hnc hcm (by simp [hcs]) ?_
    rw [Array.toList_setIfInBounds, List.take_set, htake]
    refine List.ext_getElem? fun j => ?_
    rw [List.getElem?_set]
    by_cases hj : j < n
    · rw [rowV_at _ n j hj, rowV_len]
      by_cases e : i = j
      · subst e; rw [rowV_at _ n i hj]; simp [hj]
      · rw [if_neg e, rowV_at _ n j hj, if_neg (fun h => e h.symm)]
    · rw [List.getElem?_eq_none (l := rowV (fun j => if j = i then x else Y j) n) (by rw [rowV_len]; omega), if_neg (by omega), List.getElem?_eq_none (by rw [rowV_len]; omega)]

set_option maxRecDepth 100000 in
set_option maxHeartbeats 8000000 in
theorem build_any (num : Int) (t c : Nat) (a : Option Addr) (n ca b o : Nat) (X : Nat → Nat) (w : World) (h1 : ByIn w a n ca b o X) (ht : 1 ≤ t ∧ t ≤ 16) (hc : c ≤ 255) (hn : n ≤ 1492) :
    Calls Try.prog 33 #[.agg #[.int .i64 num, .int .i64 (t : Nat), .int .i64 (c : Nat), .slice a n ca]] w fun e w' => ∃ v ob, e = .returned (.tuple #[v, .int .i64 0]) ∧ Row w' v (some ob) 5 1 (8 + n) (rowV (fixB (putB (headB t c n) 8 X) (65535 - sumN16 (putB (headB t c n) 8 X) (8 + n))) (8 + n)) ∧ w.heap.size ≤ ob ∧ Below w.heap.size w w' := by
  obtain ⟨t1, t2⟩ := ht
  have d1 : decide ((t : Int) < 1) = false := by simp; omega
  have d2 : decide ((16 : Int) < t) = false := by simp; omega
  have d3 : decide ((c : Int) < 0) = false := by simp
  have d4 : decide ((255 : Int) < c) = false := by simp; omega
  have d5 : decide ((1492 : Int) < n) = false := by simp; omega
  have hm := h1.max
  have hl := h1.le
  unfold maxLen at hm
  have HA := Lib.hid h1
  clear h1
  go_enter Try.func33, Try.ntmps33
  go_wp2_with fail
  obtain ⟨N, hN⟩ : ∃ N, N = w.heap.size := ⟨_, rfl⟩
  rw [← hN]
  obtain ⟨W0, hW0⟩ : ∃ W0, W0 = ((w.alloc (.cells #[.int .i64 num, .int .i64 (t : Nat), .int .i64 (c : Nat), .slice a n ca] 53)).alloc (.cells #[.int .u8 105, .int .u8 (t : Nat), .int .u8 (c : Nat), .int .u8 0, .int .u8 ((n : Int) / 256), .int .u8 ((n : Int) % 256), .int .u8 0, .int .u8 0] 5)).alloc (.cells #[.slice (some ⟨N + 1, 0, none⟩) 8 8, .slice a n ca] 42) := ⟨_, rfl⟩
  have hs0 : W0.heap.size = N + 3 := by rw [hW0, hN]; simp
  have bH : Blk W0 (N + 1) #[.int .u8 105, .int .u8 (t : Nat), .int .u8 (c : Nat), .int .u8 0, .int .u8 ((n : Int) / 256), .int .u8 ((n : Int) % 256), .int .u8 0, .int .u8 0] 5 := by
    rw [hW0, hN]
    show _ = _
    rw [Below.heap_alloc _ _ _ (by simp; try omega), ← World.size_alloc w (.cells #[.int .i64 num, .int .i64 (t : Nat), .int .i64 (c : Nat), .slice a n ca] 53)]
    exact heap_alloc_new _ _
  have bS : Blk W0 (N + 2) #[.slice (some ⟨N + 1, 0, none⟩) 8 8, .slice a n ca] 42 := by
    rw [hW0, hN]
    show _ = _
    rw [show w.heap.size + 2 = ((w.alloc (.cells #[.int .i64 num, .int .i64 (t : Nat), .int .i64 (c : Nat), .slice a n ca] 53)).alloc (.cells #[.int .u8 105, .int .u8 (t : Nat), .int .u8 (c : Nat), .int .u8 0, .int .u8 ((n : Int) / 256), .int .u8 ((n : Int) % 256), .int .u8 0, .int .u8 0] 5)).heap.size by simp]
    exact heap_alloc_new _ _
  have bP : Blk W0 N #[.int .i64 num, .int .i64 (t : Nat), .int .i64 (c : Nat), .slice a n ca] 53 := by
    rw [hW0, hN]
    show _ = _
    rw [Below.heap_alloc _ _ _ (by simp; try omega), Below.heap_alloc _ _ _ (by simp; try omega)]
    exact heap_alloc_new w _
  have hB0 : Below N w W0 := by rw [hW0, hN]; exact (((Below.refl _ _).alloc (Nat.le_refl _) _).alloc (by simp) _).alloc (by simp; omega) _
  have hH : ByIn W0 (some ⟨N + 1, 0, none⟩) 8 8 (N + 1) 0 (headB t c n) := by
    refine ⟨Nat.le_refl _, by unfold maxLen; omega, fun _ => ⟨rfl, by omega⟩, fun k hk => ?_, fun k => ?_⟩
    · rw [Nat.zero_add, cell_at bH k]
      have hk8 : k = 0 ∨ k = 1 ∨ k = 2 ∨ k = 3 ∨ k = 4 ∨ k = 5 ∨ k = 6 ∨ k = 7 := by omega
      rcases hk8 with rfl | rfl | rfl | rfl | rfl | rfl | rfl | rfl <;> simp [headB]
    · unfold headB
      repeat' split
      all_goals omega
  rw [← hW0]
  have HC := Lib.hid (concat2_any (N + 2) 2 (some ⟨N + 1, 0, none⟩) 8 8 (N + 1) 0 (headB t c n) a n ca b o X W0 (by omega) (by omega) (by omega) (cell_at bS 0) (cell_at bS 1) hH (HA.out.below (by rw [← hN]; exact hB0)) (by omega) (by omega))
  refine HC.out.mono ?_
  rintro e W1 ⟨v, ob, rfl, hr, hob, hB1⟩
  have hZ : ∀ j, putB (headB t c n) 8 X j < 256 := fun j => by unfold putB; split; exact hH.bd j; exact HA.out.bd _
  obtain ⟨Z, hZe⟩ : ∃ Z, Z = putB (headB t c n) 8 X := ⟨_, rfl⟩
  rw [← hZe] at hr hZ
  obtain ⟨av, cv, rfl, hby⟩ := row_by hr hZ
  have HR := Lib.hid hr
  have HBY := Lib.hid hby
  have HOB : Hid (N ≤ ob) := Lib.hid (by omega)
  have HB1 : Hid (Below N w W1) := Lib.hid (hB0.trans (hB1.mono (by omega)))
  have HN := Lib.hid hN
  have HZE := Lib.hid hZe
  have hcv1 := hby.le
  have hcv2 := hby.max
  unfold maxLen at hcv2
  have HS := Lib.hid (sumN16_le Z hZ (8 + n))
  clear hr hby hob hB1 hN hZe hW0 bH bS bP hB0 hH HC hs0
  go_wp2_with fail
  go_at_call 58
  refine (pcheck_any _ _ _ _ _ Z _ HBY.out).mono ?_
  rintro e W2 ⟨rfl, hB2⟩
  have hsz := HR.out.lt
  have HR2 := Lib.hid (HR.out.congr (w' := W2) fun g hg => by obtain rfl := Option.some.inj hg; exact hB2.block _ hsz)
  have HB3 : Hid (Below N w W2) := Lib.hid (HB1.out.trans (hB2.mono (by have := HB1.out.size; have := HN.out; omega)))
  obtain ⟨S, hS⟩ : ∃ S : Nat, (65535 : Int) - (sumN16 Z (8 + n) : Nat) = (S : Nat) := ⟨65535 - sumN16 Z (8 + n), by have := HS.out; omega⟩
  rw [hS]
  have hS9 : S ≤ 65535 := by omega
  obtain ⟨e0, _⟩ := HBY.out.at_ (by omega)
  simp only [Option.getD_some] at e0
  have HSS := Lib.hid hS
  subst e0
  obtain ⟨q6, hq6, hc6, hf6⟩ := HR2.out.cell 6 (by omega)
  obtain rfl := Option.some.inj hq6
  obtain ⟨q7, hq7, hc7, hf7⟩ := HR2.out.cell 7 (by omega)
  obtain rfl := Option.some.inj hq7
  rw [rowV_at Z (8 + n) 6 (by omega)] at hc6
  rw [rowV_at Z (8 + n) 7 (by omega)] at hc7
  clear hS hq6 hq7 hB2
  go_wp2_with fail
  go_ret2
  refine ⟨_, ob, rfl, ?_, Nat.le_trans (by have := HN.out; omega) HOB.out, ?_⟩
  · have hr := row_set (row_set HR2.out 6 (by omega) (S / 256)) 7 (by omega) (S % 256)
    have e : rowV (fun j => if j = 7 then S % 256 else if j = 6 then S / 256 else Z j) (8 + n) = rowV (fixB Z (65535 - sumN16 Z (8 + n))) (8 + n) := by
      have e2 : S = 65535 - sumN16 Z (8 + n) := by have := HSS.out; have := HS.out; omega
      rw [← e2]
      congr 1
      funext j
      unfold fixB
      by_cases h6 : j = 6
      · subst h6; simp
      · simp [h6]
    rw [← HZE.out, ← e]
    exact hr
  · rw [← HN.out]
    have := HOB.out
    exact (HB3.out.setCell (p := ⟨ob, 6, none⟩) (by simp only; omega) _).setCell (p := ⟨ob, 7, none⟩) (by simp only; omega) _
end Go.Proofs.Ytoodmocapagapaa
namespace Go.Proofs.Ytoodmocapagapaa
open Go.RowKit
set_option linter.unusedSimpArgs false
set_option linter.unusedVariables false

structure TagsE where
  s : Int
  f : Int
def TagsE.cells (e : TagsE) : List Value := [.int .i64 e.s, .int .i64 e.f]
def TagsE.ok (e : TagsE) : Prop := (-9223372036854775808 ≤ e.s ∧ e.s ≤ 9223372036854775807) ∧ (-9223372036854775808 ≤ e.f ∧ e.f ≤ 9223372036854775807)
structure TagsIn (W : World) (a : Option Addr) (len cap b o : Nat) (E : Nat → TagsE) : Prop where
  le : len ≤ cap
  max : cap ≤ maxLen
  at_ : 0 < len → a = some ⟨b, o, none⟩ ∧ b < W.heap.size
  cell : ∀ k, k < len → W.cell? ⟨b, o + k * 2, none⟩ = some (.int .i64 (E k).s) ∧ W.cell? ⟨b, o + k * 2 + 1, none⟩ = some (.int .i64 (E k).f)
  bd : ∀ k, k < len → (E k).ok
theorem TagsIn.below {W W' : World} {a : Option Addr} {len cap b o : Nat} {E : Nat → TagsE} (h : TagsIn W a len cap b o E) (hB : Below W.heap.size W W') : TagsIn W' a len cap b o E :=
  ⟨h.le, h.max, fun hk => ⟨(h.at_ hk).1, by have := (h.at_ hk).2; have := hB.size; omega⟩, fun k hk => by
    have hb := (h.at_ (by omega)).2
    obtain ⟨c0, c1⟩ := h.cell k hk
    exact ⟨(hB.cell (p := ⟨b, _, none⟩) hb).trans c0, (hB.cell (p := ⟨b, _, none⟩) hb).trans c1⟩, h.bd⟩
theorem tags_cells (W : World) {a : Option Addr} {len cap : Nat} {xs : List Dt} (h : SliceFits Try.prog W 129 a len cap xs) : ∃ (b o : Nat) (E : Nat → TagsE), TagsIn W a len cap b o E := by
  have hc : Try.prog.cellsOf 129 = 2 := by kernel_rfl
  obtain ⟨b, o, h1, h2⟩ := h.spot (by rw [hc]; omega)
  have hex : ∀ k, ∃ q : TagsE, k < len → (W.cell? ⟨b, o + k * 2, none⟩ = some (.int .i64 q.s) ∧ W.cell? ⟨b, o + k * 2 + 1, none⟩ = some (.int .i64 q.f)) ∧ q.ok := fun k => by
    by_cases hk : k < len
    · have hl := h.length
      have hx := List.getElem?_eq_getElem (l := xs) (i := k) (by omega)
      obtain ⟨l0, hl1, hl0, hf0⟩ := (h.each k _ hx).1.agg_inv Try.underlying129
      obtain ⟨y0_0, e0_0, f0_0⟩ := hf0 0 _ rfl
      obtain ⟨y0_1, e0_1, f0_1⟩ := hf0 1 _ rfl
      obtain ⟨v0_0, rfl, gv0_0⟩ := f0_0.int_inv Try.underlying3
      obtain ⟨v0_1, rfl, gv0_1⟩ := f0_1.int_inv Try.underlying3
      match l0, hl0 with
      | [z0_0, z0_1], _ =>
        obtain rfl : z0_0 = _ := by simpa using e0_0
        obtain rfl : z0_1 = _ := by simpa using e0_1
        have hcell := h2 k _ hx
        rw [hl1, hc] at hcell
        exact ⟨⟨v0_0, v0_1⟩, fun _ => ⟨⟨hcell 0 _ rfl, by have := hcell 1 _ rfl; rwa [← Nat.add_assoc] at this⟩, gv0_0, gv0_1⟩⟩
    · exact ⟨⟨0, 0⟩, fun h => absurd h hk⟩
  have hg := fun k => Classical.choose_spec (hex k)
  exact ⟨b, o, fun k => Classical.choose (hex k), h.le, h.max, h1, fun k hk => (hg k hk).1, fun k hk => (hg k hk).2⟩
def tagsL (E : Nat → TagsE) (n : Nat) : List Value := (List.range n).flatMap fun k => (E k).cells
theorem tagsL_succ (E : Nat → TagsE) (n : Nat) : tagsL E (n + 1) = tagsL E n ++ (E n).cells := by simp [tagsL, List.range_succ, List.flatMap_append]
theorem tagsL_len (E : Nat → TagsE) : ∀ n : Nat, (tagsL E n).length = n * 2
  | 0 => by simp [tagsL]
  | n + 1 => by rw [tagsL_succ, List.length_append, tagsL_len E n]; simp [TagsE.cells]; omega
theorem tagsL_congr {E E' : Nat → TagsE} : ∀ {n : Nat}, (∀ k, k < n → E k = E' k) → tagsL E n = tagsL E' n
  | 0, _ => rfl
  | n + 1, h => by rw [tagsL_succ, tagsL_succ, tagsL_congr (fun k hk => h k (by omega)), h n (by omega)]
theorem tagsL_at (E : Nat → TagsE) : ∀ (n k j : Nat), k < n → j < 2 → (tagsL E n)[k * 2 + j]? = (E k).cells[j]?
  | 0, _, _, h, _ => by omega
  | n + 1, k, j, h, hj => by
    have hl := tagsL_len E n
    rw [tagsL_succ]
    by_cases hk : k < n
    · rw [List.getElem?_append_left (by omega)]
      exact tagsL_at E n k j hk hj
    · obtain rfl : k = n := by omega
      rw [List.getElem?_append_right (by omega), hl]
      congr 1
      omega
theorem tags_row {w : World} {v : Value} {ob : Option Nat} {E : Nat → TagsE} {n : Nat} (h : Row w v ob 129 2 n (tagsL E n)) (hE : ∀ k, k < n → (E k).ok) :
    ∃ a cap, v = .slice a n cap ∧ TagsIn w a n cap (ob.getD 0) 0 E := by
  obtain ⟨a, cap, rfl, h1, h2, h3⟩ := h.shape
  refine ⟨a, cap, rfl, h1, h2, fun hk => ?_, fun k hk => ?_, hE⟩
  · obtain ⟨g, hg, _⟩ := h.cell 0 (by omega)
    subst hg
    exact ⟨h3, h.lt⟩
  · have hh : ∀ j, j < 2 → w.cell? ⟨ob.getD 0, 0 + k * 2 + j, none⟩ = (E k).cells[j]? := fun j hj => by
      obtain ⟨g, hg, hc, _⟩ := h.cell (k * 2 + j) (by omega)
      subst hg
      rw [Option.getD_some, Nat.zero_add, hc, tagsL_at E n k j hk hj]
    exact ⟨hh 0 (by omega), hh 1 (by omega)⟩
end Go.Proofs.Ytoodmocapagapaa
namespace Go.Proofs.Ytoodmocapagapaa
open Go.RowKit
set_option linter.unusedSimpArgs false
set_option linter.unusedVariables false

def timeB (n : Int) : Bool := decide (0 ≤ n) && decide (n ≤ 1152921504606846976)
def tagB (t : TagsE) : Bool := timeB t.s && timeB t.f && decide (t.s ≤ t.f)
def okN (T : Nat → TagsE) : Nat → Bool
  | 0 => true
  | m + 1 => okN T m && tagB (T m)
theorem okN_iff (T : Nat → TagsE) : ∀ n : Nat, okN T n = true ↔ ∀ k, k < n → tagB (T k) = true
  | 0 => by simp [okN]
  | n + 1 => by
    simp only [okN, Bool.and_eq_true, okN_iff T n]
    constructor
    · rintro ⟨h1, h2⟩ k hk
      rcases Nat.lt_or_ge k n with h | h
      · exact h1 k h
      · obtain rfl : k = n := by omega
        exact h2
    · exact fun h => ⟨fun k hk => h k (by omega), h n (by omega)⟩
theorem okN_no {T : Nat → TagsE} {n k : Nat} (hk : k < n) (h : tagB (T k) = false) : okN T n = false := by
  cases hh : okN T n
  · rfl
  · have := (okN_iff T n).1 hh k hk
    rw [h] at this; cases this
/-- may a virtual time be? -/
def vokB (V : Int) (n : Nat) (T : Nat → TagsE) : Bool := decide (n ≤ 8) && timeB V && okN T n

theorem time_cases (n : Int) : (n < 0 ∧ timeB n = false) ∨ (0 ≤ n ∧ n ≤ 1152921504606846976 ∧ timeB n = true) ∨ (0 ≤ n ∧ 1152921504606846976 < n ∧ timeB n = false) := by
  rcases (show n < 0 ∨ (0 ≤ n ∧ n ≤ 1152921504606846976) ∨ (0 ≤ n ∧ 1152921504606846976 < n) by omega) with h | ⟨h, h2⟩ | ⟨h, h2⟩
  · exact .inl ⟨h, by unfold timeB; simp; omega⟩
  · exact .inr (.inl ⟨h, h2, by unfold timeB; simp; omega⟩)
  · exact .inr (.inr ⟨h, h2, by unfold timeB; simp; omega⟩)
theorem isTime_any (n : Int) (w : World) : Calls Try.prog 79 #[.int .i64 n] w fun e w' => e = .returned (.bool (timeB n)) ∧ w = w' := by
  rcases time_cases n with ⟨h, hb⟩ | ⟨h, h2, hb⟩ | ⟨h, h2, hb⟩
  all_goals
    rw [hb]
    clear hb
    go_enter Try.func79, Try.ntmps79
    go_wp2_with fail
    go_ret
    exact ⟨by first | rfl | exact congrArg (fun b => Ending.returned (.bool b)) (by simp; omega), rfl⟩

set_option maxRecDepth 100000 in
set_option maxHeartbeats 4000000 in
theorem check_any (V : Int) (a : Option Addr) (n c b o : Nat) (T : Nat → TagsE) (w : World) (hs : TagsIn w a n c b o T) :
    Calls Try.prog 65 #[.agg #[.int .i64 V, .slice a n c]] w fun e w' => e = .returned (.bool (vokB V n T)) ∧ Below w.heap.size w w' := by
  have hm := hs.max
  have hl := hs.le
  unfold maxLen at hm
  obtain ⟨C, hC⟩ : ∃ C, C = vokB V n T := ⟨_, rfl⟩
  rw [← hC]
  obtain ⟨tv, htv⟩ : ∃ tv, tv = timeB V := ⟨_, rfl⟩
  have C1 : Hid (∀ w, Calls Try.prog 79 #[.int .i64 V] w fun e w' => e = .returned (.bool tv) ∧ w = w') := Lib.hid (fun w => by rw [htv]; exact isTime_any V w)
  unfold vokB at hC
  rw [← htv] at hC
  clear htv
  by_cases h8 : 8 < n
  · have HC : Hid (C = false) := Lib.hid (by rw [hC]; simp; omega)
    clear hC hs
    go_enter Try.func65, Try.ntmps65
    go_wp2_with fail
    go_ret
    exact ⟨by rw [HC.out]; rfl, (Below.refl _ _).alloc (Nat.le_refl _) _⟩
  · cases tv
    · have HC : Hid (C = false) := Lib.hid (by rw [hC]; simp)
      clear hC hs
      go_enter Try.func65, Try.ntmps65
      go_wp2_with (go_at_call 79; refine (C1.out _).mono ?_; rintro e w' ⟨rfl, rfl⟩)
      go_ret
      exact ⟨by rw [HC.out]; rfl, (Below.refl _ _).alloc (Nat.le_refl _) _⟩
    · have HC : Hid (C = okN T n) := Lib.hid (by rw [hC]; simp; omega)
      have HS := Lib.hid hs
      clear hC hs
      go_enter Try.func65, Try.ntmps65
      go_wp2_with (go_at_call 79; refine (C1.out _).mono ?_; rintro e w' ⟨rfl, rfl⟩)
      go_loopw [18] (fun i wr => ∃ k : Nat, k ≤ n ∧ i = .int .i64 k ∧ (∀ j, j < k → tagB (T j) = true) ∧ Below w.heap.size w wr) (fun i _ => n - (intOf i).toNat)
      case atStart => exact ⟨0, Nat.zero_le _, rfl, (fun j hj => by omega), (Below.refl _ _).alloc (Nat.le_refl _) _⟩
      case round =>
        obtain ⟨k, hk, rfl, hall, hbel⟩ := hrel
        by_cases hlt : k < n
        · obtain ⟨e0, e1⟩ := HS.out.at_ (by omega)
          subst e0
          obtain ⟨c0, c1⟩ := (HS.out.below hbel).cell k hlt
          obtain ⟨x, hx⟩ : ∃ x, x = (T k).s := ⟨_, rfl⟩
          obtain ⟨y, hy⟩ : ∃ y, y = (T k).f := ⟨_, rfl⟩
          rw [← hx] at c0
          rw [← hy] at c1
          obtain ⟨p, hp⟩ : ∃ p, p = timeB x := ⟨_, rfl⟩
          obtain ⟨q, hq⟩ : ∃ q, q = timeB y := ⟨_, rfl⟩
          have HT : Hid (tagB (T k) = (p && q && decide (x ≤ y))) := Lib.hid (by unfold tagB; rw [← hx, ← hy, ← hp, ← hq])
          have CX : Hid (∀ w, Calls Try.prog 79 #[.int .i64 x] w fun e w' => e = .returned (.bool p) ∧ w = w') := Lib.hid (fun w => by rw [hp]; exact isTime_any x w)
          have CY : Hid (∀ w, Calls Try.prog 79 #[.int .i64 y] w fun e w' => e = .returned (.bool q) ∧ w = w') := Lib.hid (fun w => by rw [hq]; exact isTime_any y w)
          have HA := Lib.hid hall
          clear hall hx hy hp hq
          have hbel1 : ∀ o, Below w.heap.size w (wr.alloc o) := fun o => hbel.alloc hbel.size o
          have HB1 := Lib.hid hbel1
          clear hbel1
          by_cases hg : p = true ∧ q = true ∧ x ≤ y
          · obtain ⟨rfl, rfl, hxy⟩ := hg
            have HA2 : Hid (∀ j, j < k + 1 → tagB (T j) = true) := Lib.hid (fun j hj => by
              rcases Nat.lt_or_ge j k with h | h
              · exact HA.out j h
              · obtain rfl : j = k := by omega
                rw [HT.out]; simp; omega)
            go_wp2_with (first
              | (go_at_call_of 79 (Value.int .i64 x); with_reducible refine Calls.mono (CX.out _) ?_; rintro e w' ⟨rfl, rfl⟩)
              | (go_at_call 79; with_reducible refine Calls.mono (CY.out _) ?_; rintro e w' ⟨rfl, rfl⟩))
            go_roundw
            case rel => exact ⟨k + 1, by omega, by go_num, HA2.out, HB1.out _⟩
            case measure => simp [intOf]; omega
          · have HN : Hid (C = false) := Lib.hid (by
              rw [HC.out]
              refine okN_no hlt ?_
              rw [HT.out]
              cases p <;> cases q <;> simp at hg ⊢
              omega)
            have hcs : p = false ∨ (p = true ∧ q = false) ∨ (p = true ∧ q = true ∧ y < x) := by cases p <;> cases q <;> simp at hg ⊢; omega
            clear hg
            rcases hcs with rfl | ⟨rfl, rfl⟩ | ⟨rfl, rfl, hyx⟩
            all_goals
              go_wp2_with (first
                | (go_at_call_of 79 (Value.int .i64 x); with_reducible refine Calls.mono (CX.out _) ?_; rintro e w' ⟨rfl, rfl⟩)
                | (go_at_call 79; with_reducible refine Calls.mono (CY.out _) ?_; rintro e w' ⟨rfl, rfl⟩))
              go_ret
              exact ⟨by rw [HN.out]; rfl, HB1.out _⟩
        · obtain rfl : k = n := by omega
          have HN : Hid (C = true) := Lib.hid (by rw [HC.out]; exact (okN_iff T k).2 hall)
          go_wp2_with fail
          go_ret
          exact ⟨by rw [HN.out]; rfl, hbel⟩
end Go.Proofs.Ytoodmocapagapaa
namespace Go.Proofs.Ytoodmocapagapaa
open Go.RowKit
set_option linter.unusedSimpArgs false
set_option linter.unusedVariables false

theorem tag_cases (t : TagsE) : (t.s < 0 ∧ tagB t = false) ∨ (0 ≤ t.s ∧ t.f < t.s ∧ tagB t = false) ∨ (0 ≤ t.s ∧ t.s ≤ t.f ∧ 1152921504606846976 < t.f ∧ tagB t = false) ∨ (0 ≤ t.s ∧ t.s ≤ t.f ∧ t.f ≤ 1152921504606846976 ∧ tagB t = true) := by
  rcases (show t.s < 0 ∨ (0 ≤ t.s ∧ t.f < t.s) ∨ (0 ≤ t.s ∧ t.s ≤ t.f ∧ 1152921504606846976 < t.f) ∨ (0 ≤ t.s ∧ t.s ≤ t.f ∧ t.f ≤ 1152921504606846976) by omega) with h | ⟨h, h2⟩ | ⟨h, h2, h3⟩ | ⟨h, h2, h3⟩
  · exact .inl ⟨h, by unfold tagB timeB; simp; omega⟩
  · exact .inr (.inl ⟨h, h2, by unfold tagB timeB; simp; omega⟩)
  · exact .inr (.inr (.inl ⟨h, h2, h3, by unfold tagB timeB; simp; omega⟩))
  · exact .inr (.inr (.inr ⟨h, h2, h3, by unfold tagB timeB; simp; omega⟩))

end Go.Proofs.Ytoodmocapagapaa
namespace Go.Proofs.Ytoodmocapagapaa

/-- the first place, of those that are looked at, that none goes ahead of -/
def firstS (tk : Nat → Bool) (lt : Nat → Nat → Bool) : Nat → Option Nat
  | 0 => none
  | m + 1 => match firstS tk lt m with
    | none => if tk m then some m else none
    | some b => if tk m && lt m b then some m else some b
def firstI (tk : Nat → Bool) (lt : Nat → Nat → Bool) (n : Nat) : Int := match firstS tk lt n with
  | none => -1
  | some b => b
theorem firstS_some {tk : Nat → Bool} {lt : Nat → Nat → Bool} : ∀ {n b : Nat}, firstS tk lt n = some b → b < n ∧ tk b = true
  | 0, _, h => by simp [firstS] at h
  | m + 1, b, h => by
    unfold firstS at h
    split at h
    · split at h
      · obtain rfl : m = b := by simpa using h
        exact ⟨by omega, by assumption⟩
      · simp at h
    · rename_i c hc
      have := firstS_some hc
      split at h
      · rename_i h2
        obtain rfl : m = b := by simpa using h
        simp at h2
        exact ⟨by omega, h2.1⟩
      · obtain rfl : c = b := by simpa using h
        exact ⟨by omega, this.2⟩
theorem firstS_none {tk : Nat → Bool} {lt : Nat → Nat → Bool} : ∀ {n : Nat}, firstS tk lt n = none → ∀ j, j < n → tk j = false
  | 0, _, j, hj => by omega
  | m + 1, h, j, hj => by
    unfold firstS at h
    split at h
    · rename_i hc
      split at h
      · simp at h
      · rename_i h2
        by_cases hjm : j < m
        · exact firstS_none hc j hjm
        · obtain rfl : j = m := by omega
          simpa using h2
    · split at h <;> simp at h
/-- by keys: the one that is picked has the least -/
theorem firstS_least {tk : Nat → Bool} {key : Nat → Int} : ∀ {n b : Nat}, firstS tk (fun i j => decide (key i < key j)) n = some b → ∀ j, j < n → tk j = true → key b ≤ key j
  | 0, _, h, j, hj, _ => by omega
  | m + 1, b, h, j, hj, ht => by
    unfold firstS at h
    split at h
    · rename_i hc
      split at h
      · obtain rfl : m = b := by simpa using h
        by_cases hjm : j < m
        · have := firstS_none hc j hjm
          rw [this] at ht; cases ht
        · obtain rfl : j = m := by omega
          omega
      · simp at h
    · rename_i c hc
      have ih := fun hj => firstS_least hc j hj ht
      split at h
      · rename_i h2
        obtain rfl : m = b := by simpa using h
        simp at h2
        by_cases hjm : j < m
        · have := ih hjm; omega
        · obtain rfl : j = m := by omega
          omega
      · rename_i h2
        obtain rfl : c = b := by simpa using h
        by_cases hjm : j < m
        · exact ih hjm
        · obtain rfl : j = m := by omega
          simp [ht] at h2
          omega
theorem firstS_congr {tk tk' : Nat → Bool} {lt lt' : Nat → Nat → Bool} : ∀ {n : Nat}, (∀ j, j < n → tk j = tk' j) → (∀ i j, i < n → j < n → lt i j = lt' i j) → firstS tk lt n = firstS tk' lt' n
  | 0, _, _ => rfl
  | m + 1, h1, h2 => by
    unfold firstS
    rw [firstS_congr (fun j hj => h1 j (by omega)) (fun i j hi hj => h2 i j (by omega) (by omega)), h1 m (by omega)]
    cases hc : firstS tk' lt' m with
    | none => rfl
    | some b => simp only; rw [h2 m b (by omega) (by have := (firstS_some hc).1; omega)]
end Go.Proofs.Ytoodmocapagapaa
/-
  Package virtual: what a packet costs; new times; a time that is the same. The document's answers beside them.
-/
namespace Go.Proofs.Ytoodmocapagapaa
open Go.RowKit
set_option linter.unusedSimpArgs false
set_option linter.unusedVariables false

def costB (s w a : Int) : Bool := decide (1 ≤ s) && decide (s ≤ 1500) && decide (1 ≤ w) && decide (w ≤ 16) && decide (w ≤ a) && decide (a ≤ 128)
def costS (s w a : Int) : Int := if costB s w a = true then s * a * (720720 / w) else 0
theorem costB_cases (s w a : Int) : (costB s w a = false ∧ (s < 1 ∨ (1 ≤ s ∧ 1500 < s) ∨ (1 ≤ s ∧ s ≤ 1500 ∧ w < 1) ∨ (1 ≤ s ∧ s ≤ 1500 ∧ 1 ≤ w ∧ 16 < w) ∨ (1 ≤ s ∧ s ≤ 1500 ∧ 1 ≤ w ∧ w ≤ 16 ∧ a < w) ∨ (1 ≤ s ∧ s ≤ 1500 ∧ 1 ≤ w ∧ w ≤ 16 ∧ w ≤ a ∧ 128 < a))) ∨ (costB s w a = true ∧ 1 ≤ s ∧ s ≤ 1500 ∧ 1 ≤ w ∧ w ≤ 16 ∧ w ≤ a ∧ a ≤ 128) := by
  cases h : costB s w a
  · left
    refine ⟨rfl, ?_⟩
    unfold costB at h
    simp at h
    omega
  · right
    unfold costB at h
    simp at h
    exact ⟨rfl, by omega, by omega, by omega, by omega, by omega, by omega⟩
theorem cost_bd {s w a : Int} (h1 : 1 ≤ s) (h2 : s ≤ 1500) (h3 : 1 ≤ w) (h5 : w ≤ a) (h6 : a ≤ 128) :
    1 ≤ s * a ∧ s * a ≤ 192000 ∧ 0 ≤ 720720 / w ∧ 720720 / w ≤ 720720 ∧ 0 ≤ s * a * (720720 / w) ∧ s * a * (720720 / w) ≤ 138378240000 := by
  have e1 : 1 * 1 ≤ s * a := Int.mul_le_mul h1 (by omega) (by omega) (by omega)
  have e2 : s * a ≤ 1500 * 128 := Int.mul_le_mul h2 h6 (by omega) (by omega)
  have e3 : 0 ≤ 720720 / w := Int.ediv_nonneg (by omega) (by omega)
  have e4 : 720720 / w ≤ 720720 := Int.ediv_le_self _ (by omega)
  have e5 : 0 ≤ s * a * (720720 / w) := Int.mul_nonneg (by omega) e3
  have e6 : s * a * (720720 / w) ≤ 192000 * 720720 := Int.mul_le_mul (by omega) e4 e3 (by omega)
  exact ⟨by omega, by omega, e3, e4, e5, by omega⟩
theorem cost_range (s w a : Int) : 0 ≤ costS s w a ∧ costS s w a ≤ 138378240000 := by
  unfold costS
  rcases costB_cases s w a with ⟨h, _⟩ | ⟨h, h1, h2, h3, h4, h5, h6⟩
  · rw [if_neg (by rw [h]; simp)]; omega
  · rw [if_pos h]
    have := cost_bd h1 h2 h3 h5 h6
    omega

set_option maxRecDepth 100000 in
set_option maxHeartbeats 4000000 in
theorem cost_any (s wt a : Int) (w : World) : Calls Try.prog 76 #[.int .i64 s, .int .i64 wt, .int .i64 a] w fun e w' => e = .returned (.int .i64 (costS s wt a)) ∧ w = w' := by
  obtain ⟨C, hC⟩ : ∃ C, C = costS s wt a := ⟨_, rfl⟩
  rw [← hC]
  unfold costS at hC
  rcases costB_cases s wt a with ⟨h, hh⟩ | ⟨h, h1, h2, h3, h4, h5, h6⟩
  · rw [if_neg (by rw [h]; simp)] at hC
    have HC := Lib.hid hC
    clear hC h
    rcases hh with h | ⟨h, h2⟩ | ⟨h, h2, h3⟩ | ⟨h, h2, h3, h4⟩ | ⟨h, h2, h3, h4, h5⟩ | ⟨h, h2, h3, h4, h5, h6⟩
    all_goals
      go_enter Try.func76, Try.ntmps76
      go_wp2_with fail
      go_ret
      exact ⟨by rw [HC.out]; rfl, rfl⟩
  · rw [if_pos h] at hC
    have hb := cost_bd h1 h2 h3 h5 h6
    obtain ⟨b1, b2, b3, b4, b5, b6⟩ := hb
    have k1 : IntKind.u64.wrap (s * a) = s * a := IntWalk.u64_in _ (by omega)
    have k2 : IntKind.u64.wrap (s * a * (720720 / wt)) = s * a * (720720 / wt) := IntWalk.u64_in _ (by omega)
    have HC := Lib.hid hC
    clear hC h
    go_enter Try.func76, Try.ntmps76
    go_wp2_with fail
    go_ret
    exact ⟨by rw [HC.out]; rfl, rfl⟩
/-- a virtual time in memory of the call's own -/
def VOut (w w' : World) (v : Value) (V : Int) (n : Nat) (T : Nat → TagsE) : Prop := ∃ a c ob, v = .agg #[.int .i64 V, .slice a n c] ∧ Row w' (.slice a n c) ob 129 2 n (tagsL T n) ∧ (∀ g, ob = some g → w.heap.size ≤ g) ∧ Below w.heap.size w w'
def VRes (w : World) (V : Int) (n : Nat) (T : Nat → TagsE) (er : Int) (e : Ending) (w' : World) : Prop := ∃ v, e = .returned (.tuple #[v, .int .i64 er]) ∧ VOut w w' v V n T

theorem infoTags : (Try.prog.info? 129).map (fun i => (i.zero, i.size, i.bytes)) = some (some (.agg #[.int .i64 0, .int .i64 0]), 2, 16) := by kernel_rfl
def zeroT (_ : Nat) : TagsE := ⟨0, 0⟩
theorem made_tags (n : Nat) : (madeCells (Value.agg #[.int .i64 0, .int .i64 0]).cells (n * 2)).toList = tagsL zeroT n := by
  apply List.ext_getElem?
  intro j
  have hl := tagsL_len zeroT n
  by_cases hj : j < n * 2
  · have h1 := tagsL_at zeroT n (j / 2) (j % 2) (by omega) (by omega)
    rw [show j / 2 * 2 + j % 2 = j by omega] at h1
    rw [h1]
    rcases (show j % 2 = 0 ∨ j % 2 = 1 by omega) with e | e
    · simp [madeCells, hj, e, TagsE.cells, zeroT, Value.cells]
    · simp [madeCells, hj, e, TagsE.cells, zeroT, Value.cells]
  · rw [List.getElem?_eq_none (by rw [Array.length_toList, size_madeCells]; omega), List.getElem?_eq_none (by omega)]

theorem make_tags (k : Nat) (h8 : k ≤ 8) (w : World) : (Instr.makeSlice 97 (.int .i64 (k : Int)) (.int .i64 (k : Int))).run Try.prog w = .ok (.slice (some ⟨w.heap.size, 0, none⟩) k k) (w.alloc (.cells (madeCells (Value.agg #[.int .i64 0, .int .i64 0]).cells (k * 2)) 129)) := by
  obtain ⟨i0, hi, hz0, hz1, hz2⟩ := info_parts infoTags
  have hr := run_makeSlice (P := Try.prog) w 97 129 i0 _ Try.underlying97 hi hz0 .i64 .i64 k k (by omega) (Int.le_refl _) (by rw [hz1]; simp; omega) (by rw [hz2]; omega) (by omega)
  rw [hz1] at hr
  simpa only [Int.toNat_natCast] using hr
set_option maxRecDepth 100000 in
set_option maxHeartbeats 4000000 in
theorem new_bad (n : Int) (w : World) (h : n < 1 ∨ (1 ≤ n ∧ 8 < n)) : Calls Try.prog 59 #[.int .i64 n] w (VRes w 0 0 zeroT 2) := by
  rcases h with h | ⟨h, h2⟩
  all_goals
    go_enter Try.func59, Try.ntmps59
    go_wp2_with fail
    refine bodyPost_ret (v := .tuple #[.agg #[.int .i64 0, .slice none 0 0], .int .i64 2]) (by simp [results, Try.results59, go_sem]) rfl ⟨_, rfl, none, 0, none, rfl, Row.nil _ _ _, (fun _ h => by cases h), ?_⟩
    (repeat (first | with_reducible exact Below.refl _ _ | with_reducible refine Below.drew ?_ | ((with_reducible refine Below.alloc ?_ ?_ _); (rotate_left; first | omega | (simp; done) | (simp; omega))) | ((with_reducible refine Below.setCell ?_ ?_ _); (rotate_left; first | omega | (simp only; omega) | (simp; done) | (simp; omega)))))
set_option maxRecDepth 100000 in
set_option maxHeartbeats 4000000 in
theorem new_good (k : Nat) (w : World) (h : 1 ≤ k) (h8 : k ≤ 8) : Calls Try.prog 59 #[.int .i64 k] w (VRes w 0 k zeroT 0) := by
  have hmk := make_tags k h8
  have HK : Hid (madeCells #[.int .i64 0, .int .i64 0] (k * 2) = (tagsL zeroT k).toArray) := Lib.hid (by have := made_tags k; rw [← this]; rfl)
  go_enter Try.func59, Try.ntmps59
  go_wp2_with fail
  refine bodyPost_ret (v := .tuple #[.agg #[.int .i64 0, .slice (some ⟨w.heap.size + 1, 0, none⟩) k k], .int .i64 0]) (by simp [results, Try.results59, go_sem]) rfl ⟨_, rfl, _, _, some (w.heap.size + 1), rfl, ?_, (fun g h => by obtain rfl := Option.some.inj h; omega), ?_⟩
  · refine Row.mk (cur := (tagsL zeroT k).toArray) ?_ (Nat.le_refl _) (by unfold maxLen; omega) (by simp [tagsL_len]) (by simp; rw [List.take_of_length_le (by rw [tagsL_len]; omega)])
    rw [HK.out]
    refine Eq.trans (congrArg (fun k => _root_.GetElem?.getElem? _ k) ?_) (heap_alloc_new _ _)
    simp
  · exact ((Below.refl _ _).alloc (Nat.le_refl _) _).alloc (by simp) _
end Go.Proofs.Ytoodmocapagapaa
namespace Go.Proofs.Ytoodmocapagapaa
open Go.RowKit
set_option linter.unusedSimpArgs false
set_option linter.unusedVariables false

theorem Row.drew {w : World} {v : Value} {ob : Option Nat} {e : TypeId} {size n : Nat} {xs : List Value} (h : Row w v ob e size n xs) : Row w.drew v ob e size n xs := h.congr fun _ _ => rfl
theorem addr_pl (b o j : Nat) : (⟨b, o, none⟩ : Addr).add j = ⟨b, o + j, none⟩ := by simp [Addr.add]
theorem news_at (W : World) (xs : Array Value) (e : TypeId) (j : Nat) (u : Value) (h : xs.toList[j]? = some u) : (W.alloc (.cells xs e)).cell? ((⟨W.heap.size, 0, none⟩ : Addr).add j) = some u := by
  have h1 : (W.alloc (.cells xs e)).heap[W.heap.size]? = some (.cells xs e (0, 0)) := heap_alloc_new W _
  have h2 := cell_at h1 (0 + j)
  rw [Nat.zero_add, ← Array.getElem?_toList, h] at h2
  have h3 : (⟨W.heap.size, 0, none⟩ : Addr).add j = ⟨W.heap.size, 0 + j, none⟩ := addr_pl _ _ _
  rw [h3, Nat.zero_add]
  exact h2
theorem eql_nil (w : World) (t e : TypeId) (a : Option Addr) (l c : Nat) (h : Try.prog.underlying t = some (.slice e)) : (binOp .eql t (.slice a l c) (.slice none 0 0)).run Try.prog w = .ok (.bool a.isNone) w := by
  simp [binOp, run_equal_slice_nil w t e a l c h]
theorem own_mono {w : World} {b b' : Nat} {e : TypeId} {size n : Nat} {v : Value} {xs : List Value} (h : w.ownsRow b e size v n xs) (hb : b' ≤ b) : w.ownsRow b' e size v n xs := by
  obtain ⟨h1, h2⟩ := h
  refine ⟨h1, ?_⟩
  rcases h2 with h2 | ⟨g, cap, cur, e1, e2, rest⟩
  · exact .inl h2
  · exact .inr ⟨g, cap, cur, e1, Nat.le_trans hb e2, rest⟩

theorem tagsL_of {w : World} {a : Option Addr} {n c b o : Nat} {T : Nat → TagsE} (h : TagsIn w a n c b o T) (j : Nat) (u : Value) (hu : (tagsL T n)[j]? = some u) : a = some ⟨b, o, none⟩ ∧ b < w.heap.size ∧ w.cell? ⟨b, o + j, none⟩ = some u := by
  have hj : j < n * 2 := by
    have := (List.getElem?_eq_some_iff.1 hu).1
    rwa [tagsL_len] at this
  have h1 := tagsL_at T n (j / 2) (j % 2) (by omega) (by omega)
  rw [show j / 2 * 2 + j % 2 = j by omega, hu] at h1
  obtain ⟨e1, e2⟩ := h.at_ (by omega)
  obtain ⟨c0, c1⟩ := h.cell (j / 2) (by omega)
  refine ⟨e1, e2, ?_⟩
  rcases (show j % 2 = 0 ∨ j % 2 = 1 by omega) with e | e
  · rw [e] at h1
    obtain rfl : u = .int .i64 (T (j / 2)).s := by simpa [TagsE.cells] using h1
    rw [show o + j = o + j / 2 * 2 by omega]
    exact c0
  · rw [e] at h1
    obtain rfl : u = .int .i64 (T (j / 2)).f := by simpa [TagsE.cells] using h1
    rw [show o + j = o + j / 2 * 2 + 1 by omega]
    exact c1
theorem tagsL_one (T : Nat → TagsE) (n : Nat) : ∀ u ∈ tagsL T n, u.oneCell' = true := fun u hu => by
  simp only [tagsL, List.mem_flatMap] at hu
  obtain ⟨p, _, hu⟩ := hu
  simp [TagsE.cells] at hu
  rcases hu with rfl | rfl <;> rfl

def CloneP (w : World) (n : Nat) (T : Nat → TagsE) (r : Ending) (w' : World) : Prop := ∃ a c ob, r = .returned (.slice a n c) ∧ Row w' (.slice a n c) ob 129 2 n (tagsL T n) ∧ Below w.heap.size w w' ∧ ∀ g, ob = some g → w.heap.size ≤ g

set_option maxHeartbeats 1000000 in
set_option maxRecDepth 100000 in
theorem clone_any (a : Option Addr) (n c b o : Nat) (T : Nat → TagsE) (w : World) (hs : TagsIn w a n c b o T) (hn : n * 16 ≤ 140737488351232) :
    Calls Try.prog 80 #[.slice a n c] w (CloneP w n T) := by
  cases a with
  | none =>
    have h0 : n = 0 := by
      rcases Nat.eq_zero_or_pos n with e | e
      · exact e
      · cases (hs.at_ e).1
    subst h0
    have heq := fun W n => eql_nil W 97 129 none n c Try.underlying97
    go_enter Try.func80, Try.ntmps80
    go_wp2
    go_ret
    exact ⟨_, _, none, rfl, Row.nil _ _ _, Below.refl _ _, fun g hg => (nomatch hg)⟩
  | some x =>
    have hc : ∀ j u, (tagsL T n)[j]? = some u → w.cell? (x.add j) = some u := fun j u hu => by
      obtain ⟨e1, e2, e3⟩ := tagsL_of hs j u hu
      obtain rfl := Option.some.inj e1
      rw [addr_pl]
      exact e3
    have hxl : ∀ j u, (tagsL T n)[j]? = some u → (x.add j).block < w.heap.size := fun j u hu => by
      obtain ⟨e1, e2, e3⟩ := tagsL_of hs j u hu
      obtain rfl := Option.some.inj e1
      rw [addr_pl]
      exact e2
    obtain ⟨i0, hi, hz0, hz1, hz2⟩ := info_parts infoTags
    have HI := Lib.hid hi
    have hlen := tagsL_len T n
    have hone := tagsL_one T n
    have HT : Hid (∀ v, v = tagsL T n → v = tagsL T n) := Lib.hid (fun _ h => h)
    obtain ⟨cs, hcs⟩ : ∃ cs, cs = tagsL T n := ⟨_, rfl⟩
    rw [← hcs] at hc hxl hlen hone
    have HC := Lib.hid hc
    have HX := Lib.hid hxl
    have HCS := Lib.hid hcs
    clear hs hi hcs hc hxl HT
    have heq := fun W => eql_nil W 97 129 (some x) n c Try.underlying97
    go_enter Try.func80, Try.ntmps80
    have hown0 : (w.alloc (.cells #[] 129)).ownsRow w.heap.size 129 2 (.slice (some ⟨w.heap.size, 0, none⟩) 0 0) 0 [] :=
      ⟨rfl, .inr ⟨w.heap.size, 0, #[], rfl, Nat.le_refl _, heap_alloc_new w _, Nat.le_refl _, Nat.zero_le _, rfl, rfl⟩⟩
    go_wp2_with (at_builtin; refine wpList_append_own _ rfl (.tmp 5) (.tmp 6) 97 rfl w.heap.size 129 i0 (.agg #[.int .i64 0, .int .i64 0]) 2 16 Try.underlying97 HI.out hz0 hz1 hz2 rfl (by decide) _ _ _ rfl hown0 x n c cs rfl hlen ?c1 ?c2 ?c3 ?c4 ?c5 ?_)
    case c1 =>
      intro j u hj
      exact (((Below.refl w.heap.size w).alloc (Nat.le_refl _) _).cell (HX.out j u hj)).trans (HC.out j u hj)
    case c2 => exact hone
    case c3 => unfold maxLen; omega
    case c4 => omega
    case c5 => simp
    intro v' w2 hown' hgrow _
    have hB : Below w.heap.size w w2 := ((Below.refl w.heap.size w).alloc (Nat.le_refl _) (.cells #[] 129)).grown hgrow (by simp) (fun j e => (hown0.lt j e).1)
    clear hgrow hown0
    have hown' : w2.ownsRow w.heap.size 129 2 v' n cs := by simpa using hown'
    have hRow : Row w2 v' v'.ownBlock 129 2 n cs := ⟨own_mono hown' (Nat.zero_le _), rfl⟩
    have hge : ∀ g, v'.ownBlock = some g → w.heap.size ≤ g := fun g hg => (hown'.lt g hg).1
    have HR := Lib.hid hRow
    obtain ⟨a2, c2, rfl, _, _, _⟩ := hRow.shape
    have HG := Lib.hid hge
    clear hRow hown' hge
    go_wp2
    go_ret
    exact ⟨_, _, _, rfl, by rw [← HCS.out]; exact HR.out, hB, HG.out⟩

set_option maxRecDepth 100000 in
set_option maxHeartbeats 4000000 in
theorem twin_any (V : Int) (a : Option Addr) (n c b o : Nat) (T : Nat → TagsE) (w : World) (hs : TagsIn w a n c b o T) (hn : n * 16 ≤ 140737488351232) :
    Calls Try.prog 71 #[.agg #[.int .i64 V, .slice a n c]] w fun e w' => ∃ v, e = .returned v ∧ VOut w w' v V n T := by
  have HB0 : Hid (Below w.heap.size w ((w.alloc (.cells #[.int .i64 V, .slice a n c] 99)).alloc (.cells #[.int .i64 0, .slice none 0 0] 99))) := Lib.hid (((Below.refl _ _).alloc (Nat.le_refl _) _).alloc (by simp) _)
  have C1 := Lib.hid (fun W h => clone_any a n c b o T W h hn)
  have HS := Lib.hid hs
  clear hs
  go_enter Try.func71, Try.ntmps71
  go_wp2_with (go_at_call 80; refine Calls.mono (C1.out _ (HS.out.below HB0.out)) ?_; rintro e W1 ⟨a1, c1, ob, rfl, hRow, hB, hO⟩; have T2 := tw2 (n := w.heap.size) hB rfl; obtain ⟨⟨r0, y0, z0⟩, ⟨r1, y1, z1⟩⟩ := T2; have HR := Lib.hid hRow; have HO := Lib.hid hO; have HBB := Lib.hid hB; clear hRow hO hB)
  refine bodyPost_ret (v := .agg #[.int .i64 V, .slice a1 n c1]) (by simp [results, Try.results71, go_sem, r0, r1, y0, y1, z0, z1]) rfl ⟨_, rfl, a1, c1, ob, rfl, ?_, ?_, ?_⟩
  · refine HR.out.congr fun g e => ?_
    have := HO.out g e
    simp at this
    repeat rw [heap_setCell_ne _ _ _ _ (by simp only; omega)]
  · intro g e
    have := HO.out g e
    simp at this
    omega
  · have h1 := HB0.out.trans (HBB.out.mono (by simp; omega))
    exact ((h1.setCell (Nat.le_refl _) _).setCell (by simp only; omega) _).setCell (by simp only; omega) _
end Go.Proofs.Ytoodmocapagapaa
namespace Go.Proofs.Ytoodmocapagapaa
open Go.RowKit
set_option linter.unusedSimpArgs false
set_option linter.unusedVariables false

/-- the copy while it grows -/
def CopyR (w : World) (V : Int) (a : Option Addr) (n c : Nat) (T : Nat → TagsE) (k : Nat) (wr : World) : Prop := ∃ v ob, wr.heap[w.heap.size + 2]? = some (.cells #[.int .i64 V, v] 99 (0, 0)) ∧ Row wr v ob 129 2 k (tagsL T k) ∧ Below w.heap.size w wr ∧ (∀ g, ob = some g → w.heap.size + 3 ≤ g) ∧
  wr.heap[w.heap.size]? = some (.cells #[.int .i64 V, .slice a n c] 99 (0, 0)) ∧ wr.heap[w.heap.size + 1]? = some (.cells #[.int .i64 0, .slice none 0 0] 99 (0, 0))

theorem copyR_step {w W1 w2 : World} {V : Int} {a : Option Addr} {n c : Nat} {T : Nat → TagsE} {k : Nat} {ob : Option Nat} {a' : Option Addr} {cap' ob' : Nat} {v : Value} {s f : Int} (ht : T k = ⟨s, f⟩) (h1 : Below w.heap.size w W1) (hs : w.heap.size + 3 ≤ W1.heap.size) (hO : ∀ g, ob = some g → w.heap.size + 3 ≤ g)
    (HRow2 : Row w2 (.slice a' (k + 1) cap') (some ob') 129 2 (k + 1) (tagsL T k ++ [.int .i64 s, .int .i64 f])) (HG2 : W1.grownBy w2 ob) (HOB2 : ob = some ob' ∨ ob' = W1.heap.size)
    (hb2 : w2.heap[w.heap.size + 2]? = some (.cells #[.int .i64 V, v] 99 (0, 0))) (hb0 : w2.heap[w.heap.size]? = some (.cells #[.int .i64 V, .slice a n c] 99 (0, 0))) (hb1 : w2.heap[w.heap.size + 1]? = some (.cells #[.int .i64 0, .slice none 0 0] 99 (0, 0))) :
    CopyR w V a n c T (k + 1) (w2.setCell ⟨w.heap.size + 2, 1, none⟩ (.slice a' (k + 1) cap')) := by
  have hob : w.heap.size + 3 ≤ ob' := by
    rcases HOB2 with h | h
    · exact hO _ h
    · omega
  refine ⟨.slice a' (k + 1) cap', some ob', heap_setCell_same hb2 1 _, ?_, ?_, (fun g e => by obtain rfl := Option.some.inj e; exact hob), ?_, ?_⟩
  · rw [tagsL_succ, ht]
    exact HRow2.congr fun g e => by obtain rfl := Option.some.inj e; exact heap_setCell_ne _ _ _ _ (by simp only; omega)
  · exact (h1.grown HG2 (by have := h1.size; omega) (fun g e => by have := hO g e; omega)).setCell (by simp) _
  · rw [heap_setCell_ne _ _ _ _ (by simp)]
    exact hb0
  · rw [heap_setCell_ne _ _ _ _ (by simp)]
    exact hb1

end Go.Proofs.Ytoodmocapagapaa
namespace Go.Proofs.Ytoodmocapagapaa
open Go.RowKit
set_option linter.unusedSimpArgs false
set_option linter.unusedVariables false

theorem ret_int {k : IntKind} {a b : Int} (h : a = b) : Ending.returned (.int k a) = .returned (.int k b) := by rw [h]
theorem below_drewN {B : Nat} {w X : World} (h : Below B w X) (n : Nat) : Below B w (X.drewN n) := ⟨h.os, h.tape, h.output, h.size, h.block⟩
theorem Holds.step {A B : World} {n : Nat} {c : Array Value} (h : Holds A n c) (hB : Below A.heap.size A B) : Holds B n c :=
  ⟨fun j => (hB.cell (p := ⟨n, j, none⟩) h.2.2).trans (h.1 j), fun j => (hB.frozen (p := ⟨n, j, none⟩) h.2.2).trans (h.2.1 j), by have := hB.size; have := h.2.2; omega⟩
theorem Row.set {w : World} {v : Value} {g : Nat} {e : TypeId} {size n : Nat} {xs : List Value} (h : Row w v (some g) e size n xs) (j : Nat) (u : Value) : Row (w.setCell ⟨g, j, none⟩ u) v (some g) e size n (xs.set j u) := by
  rcases h.cases with ⟨h1, _⟩ | ⟨g', cap, cur, hg, rfl, h3, h4, h5, h6, h7⟩
  · cases h1
  · obtain rfl := Option.some.inj hg
    refine Row.mk (heap_setCell_same h3 j u) h4 h5 (by simpa using h6) ?_
    rw [← h7, Array.toList_setIfInBounds, ← List.take_set]
def updT (T : Nat → TagsE) (k : Nat) (t : TagsE) : Nat → TagsE := fun j => if j = k then t else T j
theorem set_append_len {A : Type} (l m : List A) (x : A) (j n : Nat) (h : l.length = n) : (l ++ m).set (n + j) x = l ++ m.set j x := by
  subst h
  rw [List.set_append_right _ _ (by omega)]
  congr 2
  omega
theorem tagsL_upd (T : Nat → TagsE) (k : Nat) (s f : Int) : ∀ n : Nat, k < n → ((tagsL T n).set (k * 2) (.int .i64 s)).set (k * 2 + 1) (.int .i64 f) = tagsL (updT T k ⟨s, f⟩) n
  | 0, h => by omega
  | n + 1, h => by
    have hl := tagsL_len T n
    rw [tagsL_succ, tagsL_succ]
    by_cases hk : k < n
    · rw [List.set_append_left _ _ (by omega), List.set_append_left _ _ (by rw [List.length_set]; omega), tagsL_upd T k s f n hk]
      congr 2
      unfold updT
      rw [if_neg (by omega)]
    · obtain rfl : k = n := by omega
      have e0 := set_append_len (tagsL T k) (T k).cells (.int .i64 s) 0 (k * 2) hl
      rw [Nat.add_zero] at e0
      rw [e0, set_append_len (tagsL T k) _ (.int .i64 f) 1 (k * 2) hl, tagsL_congr (E := updT T k ⟨s, f⟩) (E' := T) (fun j hj => by unfold updT; rw [if_neg (by omega)])]
      congr 1
      unfold updT
      rw [if_pos rfl]
      rfl

set_option maxHeartbeats 1000000 in
theorem wake1_any (s f V : Int) (g : Nat) (w : World) (hg : w.cell? ⟨g, 0, none⟩ = some (.int .i64 V)) (hlt : g < w.heap.size) :
    Calls Try.prog 78 #[.agg #[.int .i64 s, .int .i64 f], .pointer (some ⟨g, 0, none⟩)] w fun e w' => e = .returned (.int .i64 (max f V)) ∧ w.alloc (.cells #[.int .i64 s, .int .i64 f] 129) = w' := by
  have hne : (w.heap.size = g) = False := eq_false (by omega)
  have hne2 : (g = w.heap.size) = False := eq_false (by omega)
  go_enter Try.func78, Try.ntmps78
  go_wp2_with fail
  all_goals
    go_ret
    exact ⟨ret_int (by omega), rfl⟩
set_option maxHeartbeats 1000000 in
theorem next1_any (s f : Int) (w : World) :
    Calls Try.prog 77 #[.agg #[.int .i64 s, .int .i64 f]] w fun e w' => e = .returned (.int .i64 f) ∧ w.alloc (.cells #[.int .i64 s, .int .i64 f] 129) = w' := by
  go_enter Try.func77, Try.ntmps77
  go_wp2_with fail
  go_ret
  exact ⟨rfl, rfl⟩
theorem Row.own {w : World} {a : Option Addr} {g c n : Nat} {e : TypeId} {size : Nat} {xs : List Value} (h : Row w (.slice a n c) (some g) e size n xs) : a = some ⟨g, 0, none⟩ := by
  rcases h.cases with ⟨h1, _⟩ | ⟨g', cap, cur, hg, hv, _⟩
  · cases h1
  · obtain rfl := Option.some.inj hg
    injection hv
/-- two boxes of the call's own -/
def VB2 (w : World) (c1 c2 : Array Value) (W : World) : Prop := Holds W w.heap.size c1 ∧ Holds W (w.heap.size + 1) c2 ∧ Below w.heap.size w W
theorem VB2.step {w A B : World} {c1 c2 : Array Value} (h : VB2 w c1 c2 A) (hB : Below A.heap.size A B) : VB2 w c1 c2 B := ⟨Holds.step h.1 hB, Holds.step h.2.1 hB, h.2.2.trans (hB.mono h.2.2.size)⟩
theorem VB2.mk0 (w : World) (c1 c2 : Array Value) (t1 t2 : TypeId) : VB2 w c1 c2 ((w.alloc (.cells c1 t1)).alloc (.cells c2 t2)) := by
  obtain ⟨h1, h2⟩ := tw2 (Below.refl _ ((w.alloc (.cells c1 t1)).alloc (.cells c2 t2))) rfl
  exact ⟨h1, h2, ((Below.refl _ _).alloc (Nat.le_refl _) _).alloc (by simp) _⟩
theorem VB2.alloc {w A : World} {c1 c2 : Array Value} (h : VB2 w c1 c2 A) (o : Obj) : VB2 w c1 c2 (A.alloc o) := h.step ((Below.refl _ _).alloc (Nat.le_refl _) o)
end Go.Proofs.Ytoodmocapagapaa
namespace Go.Proofs.Ytoodmocapagapaa
open Go.RowKit
set_option linter.unusedSimpArgs false
set_option linter.unusedVariables false

theorem cell_congr {A B : World} {b : Nat} (h : B.heap[b]? = A.heap[b]?) (o : Nat) : B.cell? ⟨b, o, none⟩ = A.cell? ⟨b, o, none⟩ := by
  unfold World.cell?
  simp only [h]
theorem ByIn.ne {W : World} {a : Option Addr} {len cap b o : Nat} {X : Nat → Nat} (h : ByIn W a len cap b o X) (p : Addr) (hp : 0 < len → b ≠ p.block) (u : Value) : ByIn (W.setCell p u) a len cap b o X :=
  ⟨h.le, h.max, fun hk => ⟨(h.at_ hk).1, by have := (h.at_ hk).2; simpa using this⟩, fun k hk => (cell_congr (heap_setCell_ne _ _ _ _ (hp (by omega))) _).trans (h.cell k hk), h.bd⟩
theorem build_arg (num t c : Int) (a : Option Addr) (n ca : Nat) (w : World) (h : t < 1 ∨ 16 < t ∨ c < 0 ∨ 255 < c) (hn : n ≤ 9223372036854775807) :
    Calls Try.prog 33 #[.agg #[.int .i64 num, .int .i64 t, .int .i64 c, .slice a n ca]] w fun e w' => e = .returned (.tuple #[.slice none 0 0, .int .i64 2]) ∧ Below w.heap.size w w' := by
  by_cases h1 : t < 1
  · have d1 : decide (t < 1) = true := by simpa using h1
    clear h
    go_enter Try.func33, Try.ntmps33
    go_wp2_with fail
    go_ret2
    exact ⟨rfl, (Below.refl _ _).alloc (Nat.le_refl _) _⟩
  · have d1 : decide (t < 1) = false := by simpa using h1
    by_cases h2 : 16 < t
    · have d2 : decide (16 < t) = true := by simpa using h2
      clear h
      go_enter Try.func33, Try.ntmps33
      go_wp2_with fail
      go_ret2
      exact ⟨rfl, (Below.refl _ _).alloc (Nat.le_refl _) _⟩
    · have d2 : decide (16 < t) = false := by simpa using h2
      by_cases h3 : c < 0
      · have d3 : decide (c < 0) = true := by simpa using h3
        clear h
        go_enter Try.func33, Try.ntmps33
        go_wp2_with fail
        go_ret2
        exact ⟨rfl, (Below.refl _ _).alloc (Nat.le_refl _) _⟩
      · have d3 : decide (c < 0) = false := by simpa using h3
        have h4 : 255 < c := by omega
        have d4 : decide (255 < c) = true := by simpa using h4
        clear h
        go_enter Try.func33, Try.ntmps33
        go_wp2_with fail
        go_ret2
        exact ⟨rfl, (Below.refl _ _).alloc (Nat.le_refl _) _⟩

theorem build_long (num t c : Int) (a : Option Addr) (n ca : Nat) (w : World) (h : 1 ≤ t ∧ t ≤ 16 ∧ 0 ≤ c ∧ c ≤ 255) (hn : n ≤ 9223372036854775807) (hl : 1492 < n) :
    Calls Try.prog 33 #[.agg #[.int .i64 num, .int .i64 t, .int .i64 c, .slice a n ca]] w fun e w' => e = .returned (.tuple #[.slice none 0 0, .int .i64 3]) ∧ Below w.heap.size w w' := by
  obtain ⟨t1, t2, c1, c2⟩ := h
  have d1 : decide (t < 1) = false := by simp; omega
  have d2 : decide ((16 : Int) < t) = false := by simp; omega
  have d3 : decide (c < 0) = false := by simp; omega
  have d4 : decide ((255 : Int) < c) = false := by simp; omega
  have d5 : decide ((1492 : Int) < n) = true := by simp; omega
  go_enter Try.func33, Try.ntmps33
  go_wp2_with fail
  go_ret2
  exact ⟨rfl, (Below.refl _ _).alloc (Nat.le_refl _) _⟩

theorem fix_bd {Z : Nat → Nat} {S : Nat} (hZ : ∀ j, Z j < 256) (hS : S ≤ 65535) (j : Nat) : fixB Z S j < 256 := by
  unfold fixB
  split
  · omega
  · split
    · omega
    · exact hZ j
theorem head_bd {t c n : Nat} {X : Nat → Nat} (ht : t < 256) (hc : c < 256) (hn : n < 65536) (hX : ∀ j, X j < 256) (j : Nat) : putB (headB t c n) 8 X j < 256 := by
  unfold putB
  split
  · unfold headB
    repeat' split
    all_goals omega
  · exact hX _
/-- what a packet's bytes would be, by the bytes that stand there -/
def againB (X : Nat → Nat) (n : Nat) : Nat → Nat := fixB (putB (headB (X 1) (X 2) (n - 8)) 8 fun j => X (8 + j)) (65535 - sumN16 (putB (headB (X 1) (X 2) (n - 8)) 8 fun j => X (8 + j)) n)
def parseOk (X : Nat → Nat) (n : Nat) : Bool := decide (8 ≤ n ∧ n ≤ 1500) && (decide (1 ≤ X 1 ∧ X 1 ≤ 16) && eqB (againB X n) X n)
def ParseP (w : World) (n : Nat) (X : Nat → Nat) (e : Ending) (w' : World) : Prop :=
  Below w.heap.size w w' ∧ ((parseOk X n = false ∧ e = .returned (.tuple #[.agg #[.int .i64 0, .int .i64 0, .int .i64 0, .slice none 0 0], .int .i64 230])) ∨
    (parseOk X n = true ∧ ∃ a' c' b', e = .returned (.tuple #[.agg #[.int .i64 0, .int .i64 (X 1 : Nat), .int .i64 (X 2 : Nat), .slice a' ((n - 8 : Nat)) c'], .int .i64 0]) ∧ ByIn w' a' (n - 8) c' b' 0 (fun j => X (8 + j)) ∧ (0 < n - 8 → w.heap.size ≤ b')))

set_option maxRecDepth 100000 in
set_option maxHeartbeats 8000000 in
theorem parse_short (a : Option Addr) (n ca : Nat) (X : Nat → Nat) (w : World) (hn : n ≤ 9223372036854775807) (h : n < 8 ∨ 1500 < n) : Calls Try.prog 22 #[.slice a n ca] w (ParseP w n X) := by
  have HP : Hid (parseOk X n = false) := Lib.hid (by unfold parseOk; rw [decide_eq_false (by omega)]; rfl)
  have H0 : Hid (∀ (W : World), Below w.heap.size w W → ParseP w n X (.returned (.tuple #[.agg #[.int .i64 0, .int .i64 0, .int .i64 0, .slice none 0 0], .int .i64 230])) W) := Lib.hid (fun W hB => ⟨hB, .inl ⟨HP.out, rfl⟩⟩)
  by_cases h1 : n < 8
  · have d1 : decide ((n : Int) < 8) = true := by simp; omega
    clear h
    go_enter Try.func22, Try.ntmps22
    go_wp2_with fail
    exact bodyPost_ret (v := .tuple #[.agg #[.int .i64 0, .int .i64 0, .int .i64 0, .slice none 0 0], .int .i64 230]) (by simp [results, Try.results22, go_sem]) rfl (H0.out _ ((Below.refl _ _).alloc (Nat.le_refl _) _))
  · have d1 : decide ((n : Int) < 8) = false := by simp; omega
    have d2 : decide ((1500 : Int) < n) = true := by simp; omega
    clear h
    go_enter Try.func22, Try.ntmps22
    go_wp2_with fail
    exact bodyPost_ret (v := .tuple #[.agg #[.int .i64 0, .int .i64 0, .int .i64 0, .slice none 0 0], .int .i64 230]) (by simp [results, Try.results22, go_sem]) rfl (H0.out _ ((Below.refl _ _).alloc (Nat.le_refl _) _))
end Go.Proofs.Ytoodmocapagapaa
namespace Go.Proofs.Ytoodmocapagapaa
open Go.RowKit
set_option linter.unusedSimpArgs false
set_option linter.unusedVariables false

def bytesOf (X : Nat → Nat) (n : Nat) : List UInt8 := (List.range n).map fun j => UInt8.ofNat (X j)
theorem bytesOf_len (X : Nat → Nat) (n : Nat) : (bytesOf X n).length = n := by simp [bytesOf]
theorem ByIn.string {W : World} {a : Option Addr} {n c b o : Nat} {X : Nat → Nat} (h : ByIn W a n c b o X) : (convert 42 9 (.slice a n c)).run Try.prog W = .ok (.string ⟨(bytesOf X n).toArray⟩) W := by
  by_cases h0 : n = 0
  · subst h0
    cases a with
    | none =>
      rw [run_convert_bytes_string W 42 9 5 none _ c Try.underlying42 Try.underlying5 Try.underlying9]
      rfl
    | some x => exact run_convert_bytes_back (P := Try.prog) W 42 9 5 x c [] Try.underlying42 Try.underlying5 Try.underlying9 fun j hj => by simp at hj
  · obtain ⟨e0, _⟩ := h.at_ (by omega)
    subst e0
    have hr := run_convert_bytes_back (P := Try.prog) W 42 9 5 ⟨b, o, none⟩ c (bytesOf X n) Try.underlying42 Try.underlying5 Try.underlying9 fun j hj => by
      rw [bytesOf_len] at hj
      rw [addr_add, h.cell j hj]
      have hb := h.bd j
      simp [bytesOf]
      omega
    rw [bytesOf_len] at hr
    exact hr

theorem fsize_any (num t c : Int) (la : Option Addr) (ln lc : Nat) (w : World) (hn : ln ≤ 4611686018427387904) :
    Calls Try.prog 42 #[.agg #[.int .i64 num, .int .i64 t, .int .i64 c, .slice la ln lc]] w fun e w' => e = .returned (.int .i64 (8 + (ln : Int))) ∧ Below w.heap.size w w' := by
  go_enter Try.func42, Try.ntmps42
  go_wp2_with fail
  go_ret
  exact ⟨rfl, (Below.refl _ _).alloc (Nat.le_refl _) _⟩

set_option maxRecDepth 100000 in
set_option maxHeartbeats 8000000 in
theorem ftwin_any (num t c : Int) (a : Option Addr) (n ca b o : Nat) (X : Nat → Nat) (w : World) (h1 : ByIn w a n ca b o X) (hn : n ≤ 5000) :
    Calls Try.prog 44 #[.agg #[.int .i64 num, .int .i64 t, .int .i64 c, .slice a n ca]] w fun e w' => ∃ a' c' b', e = .returned (.agg #[.int .i64 num, .int .i64 t, .int .i64 c, .slice a' n c']) ∧ ByIn w' a' n c' b' 0 X ∧ (0 < n → w.heap.size ≤ b') ∧ Below w.heap.size w w' := by
  have HS := Lib.hid h1
  clear h1
  obtain ⟨N, hN⟩ : ∃ N, N = w.heap.size := ⟨_, rfl⟩
  have HN := Lib.hid hN
  have HB0 : Hid (Below w.heap.size w ((w.alloc (.cells #[.int .i64 num, .int .i64 t, .int .i64 c, .slice a n ca] 53)).alloc (.cells #[.int .i64 0, .int .i64 0, .int .i64 0, .slice none 0 0] 53))) := Lib.hid (((Below.refl _ _).alloc (Nat.le_refl _) _).alloc (by simp) _)
  have HP : Hid (Blk ((w.alloc (.cells #[.int .i64 num, .int .i64 t, .int .i64 c, .slice a n ca] 53)).alloc (.cells #[.int .i64 0, .int .i64 0, .int .i64 0, .slice none 0 0] 53)) N #[.int .i64 num, .int .i64 t, .int .i64 c, .slice a n ca] 53) := Lib.hid (by rw [hN]; exact (blk_new _ _ _).alloc _)
  have HR : Hid (Blk ((w.alloc (.cells #[.int .i64 num, .int .i64 t, .int .i64 c, .slice a n ca] 53)).alloc (.cells #[.int .i64 0, .int .i64 0, .int .i64 0, .slice none 0 0] 53)) (N + 1) #[.int .i64 0, .int .i64 0, .int .i64 0, .slice none 0 0] 53) := Lib.hid (by have := blk_new (w.alloc (.cells #[.int .i64 num, .int .i64 t, .int .i64 c, .slice a n ca] 53)) #[.int .i64 0, .int .i64 0, .int .i64 0, .slice none 0 0] 53; rw [World.size_alloc, ← hN] at this; exact this)
  clear hN
  go_enter Try.func44, Try.ntmps44
  go_wp2_with fail
  go_at_call 39
  refine (pclone_any _ _ _ _ _ _ _ (HS.out.below HB0.out) hn).mono ?_
  rintro e W1 ⟨a', c', b', rfl, hby, hfr, hB1⟩
  rw [← HN.out]
  have HB1 := Lib.hid (HB0.out.trans (hB1.mono HB0.out.size))
  have HP1 := Lib.hid (HP.out.step hB1)
  have HR1 := Lib.hid (HR.out.step hB1)
  have HBY := Lib.hid hby
  have HF : Hid (0 < n → N + 2 ≤ b') := Lib.hid (fun hp => by have := hfr hp; simp only [World.size_alloc] at this; rw [← HN.out] at this; omega)
  clear hby hfr hB1 HB0 HP HR
  have c0 : W1.cell? ⟨N, 0, none⟩ = some (.int .i64 num) := cell_at HP1.out 0
  have c1 : W1.cell? ⟨N, 1, none⟩ = some (.int .i64 t) := cell_at HP1.out 1
  have c2 : W1.cell? ⟨N, 2, none⟩ = some (.int .i64 c) := cell_at HP1.out 2
  have c3 : W1.cell? ⟨N, 3, none⟩ = some (.slice a n ca) := cell_at HP1.out 3
  have z3 := free_at HP1.out 3
  have d0 : W1.cell? ⟨N + 1, 0, none⟩ = some (.int .i64 0) := cell_at HR1.out 0
  have d1 : W1.cell? ⟨N + 1, 1, none⟩ = some (.int .i64 0) := cell_at HR1.out 1
  have d2 : W1.cell? ⟨N + 1, 2, none⟩ = some (.int .i64 0) := cell_at HR1.out 2
  have d3 : W1.cell? ⟨N + 1, 3, none⟩ = some (.slice none 0 0) := cell_at HR1.out 3
  have y0 := free_at HR1.out 0
  have y1 := free_at HR1.out 1
  have y2 := free_at HR1.out 2
  have y3 := free_at HR1.out 3
  have hl1 : N < W1.heap.size := HP1.out.lt
  have hl2 : N + 1 < W1.heap.size := HR1.out.lt
  go_wp2_with fail
  obtain ⟨WF, hWF⟩ : ∃ WF, WF = ((((W1.setCell ⟨N, 3, none⟩ (.slice a' n c')).setCell ⟨N + 1, 0, none⟩ (.int .i64 num)).setCell ⟨N + 1, 1, none⟩ (.int .i64 t)).setCell ⟨N + 1, 2, none⟩ (.int .i64 c)).setCell ⟨N + 1, 3, none⟩ (.slice a' n c') := ⟨_, rfl⟩
  have k1 : Blk WF (N + 1) #[.int .i64 num, .int .i64 t, .int .i64 c, .slice a' n c'] 53 := by rw [hWF]; exact ((((HR1.out.ne ⟨N, 3, none⟩ (by simp) _).set 0 (.int .i64 num)).set 1 (.int .i64 t)).set 2 (.int .i64 c)).set 3 (.slice a' n c')
  have hBF : Below w.heap.size w WF := by rw [hWF]; exact ((((HB1.out.setCell (p := ⟨N, 3, none⟩) (by have := HN.out; simp only; omega) _).setCell (p := ⟨N + 1, 0, none⟩) (by have := HN.out; simp only; omega) _).setCell (p := ⟨N + 1, 1, none⟩) (by have := HN.out; simp only; omega) _).setCell (p := ⟨N + 1, 2, none⟩) (by have := HN.out; simp only; omega) _).setCell (p := ⟨N + 1, 3, none⟩) (by have := HN.out; simp only; omega) _
  have hn1 : 0 < n → b' ≠ N := fun hp => by have := HF.out hp; omega
  have hn2 : 0 < n → b' ≠ N + 1 := fun hp => by have := HF.out hp; omega
  have k2 : ByIn WF a' n c' b' 0 X := by rw [hWF]; exact ((((HBY.out.ne ⟨N, 3, none⟩ hn1 _).ne ⟨N + 1, 0, none⟩ hn2 _).ne ⟨N + 1, 1, none⟩ hn2 _).ne ⟨N + 1, 2, none⟩ hn2 _).ne ⟨N + 1, 3, none⟩ hn2 _
  rw [← hWF]
  have r0 : WF.cell? ⟨N + 1, 0, none⟩ = some (.int .i64 num) := cell_at k1 0
  have r1 : WF.cell? ⟨N + 1, 1, none⟩ = some (.int .i64 t) := cell_at k1 1
  have r2 : WF.cell? ⟨N + 1, 2, none⟩ = some (.int .i64 c) := cell_at k1 2
  have r3 : WF.cell? ⟨N + 1, 3, none⟩ = some (.slice a' n c') := cell_at k1 3
  exact bodyPost_ret (v := .agg #[.int .i64 num, .int .i64 t, .int .i64 c, .slice a' n c']) (by simp [results, Try.results44, go_sem, r0, r1, r2, r3]) rfl ⟨a', c', b', rfl, k2, (fun hp => by have := HF.out hp; have := HN.out; omega), hBF⟩
end Go.Proofs.Ytoodmocapagapaa
namespace Go.Proofs.Ytoodmocapagapaa
open Go.RowKit
set_option linter.unusedSimpArgs false
set_option linter.unusedVariables false

/-- a packet, and where its load lies -/
structure PkE where
  num : Int
  t : Int
  c : Int
  a : Option Addr
  n : Nat
  ca : Nat
  b : Nat
  o : Nat
  X : Nat → Nat
def PkE.cells (p : PkE) : List Value := [.int .i64 p.num, .int .i64 p.t, .int .i64 p.c, .slice p.a p.n p.ca]
def putE (E : Nat → PkE) (k : Nat) (p : PkE) (j : Nat) : PkE := if j = k then p else E j

/-- a packet's load, apart from the queue's own blocks -/
structure LdIn (W : World) (D R : Nat) (p : PkE) : Prop where
  by_ : ByIn W p.a p.n p.ca p.b p.o p.X
  le : p.n ≤ 1492
  d : 0 < p.n → p.b ≠ D
  r : 0 < p.n → p.b ≠ R

/-- a queue: its block D, its ring's block R -/
structure FqIn (W : World) (D R o room f n : Nat) (by_ dr : Int) (E : Nat → PkE) : Prop where
  own : Blk W D #[.slice (some ⟨R, o, none⟩) room room, .int .i64 (f : Nat), .int .i64 (n : Nat), .int .i64 by_, .int .i64 dr] 91
  ring : ∃ cur : Array Value, Blk W R cur 53 ∧ cur.size = o + room * 4 ∧ ∀ j, j < n → ∀ i, i < 4 → cur[o + (f + j) % room * 4 + i]? = (E j).cells[i]?
  ne : D ≠ R
  r1 : 1 ≤ room
  r64 : room ≤ 64
  fl : f < room
  nl : n ≤ room
  ld : ∀ j, j < n → LdIn W D R (E j)

theorem LdIn.fr {W W' : World} {D R : Nat} {p : PkE} (h : LdIn W D R p) (hF : Fr [D, R] W W') : LdIn W' D R p :=
  ⟨⟨h.by_.le, h.by_.max, fun hk => ⟨(h.by_.at_ hk).1, by have := (h.by_.at_ hk).2; have := hF.size; omega⟩, fun k hk => by
    have hb := (h.by_.at_ (by omega)).2
    have h1 := h.d (by omega)
    have h2 := h.r (by omega)
    exact (cell_congr (hF.block p.b hb (by simp [h1, h2])) _).trans (h.by_.cell k hk), h.by_.bd⟩, h.le, h.d, h.r⟩

theorem mod_ne {f n j room : Nat} (hf : f < room) (hn : n < room) (hj : j < n) : (f + j) % room ≠ (f + n) % room := by
  intro h
  have e1 : (f + j) % room = if f + j < room then f + j else f + j - room := by
    split
    · exact Nat.mod_eq_of_lt (by omega)
    · rw [Nat.mod_eq_sub_mod (by omega), Nat.mod_eq_of_lt (by omega)]
  have e2 : (f + n) % room = if f + n < room then f + n else f + n - room := by
    split
    · exact Nat.mod_eq_of_lt (by omega)
    · rw [Nat.mod_eq_sub_mod (by omega), Nat.mod_eq_of_lt (by omega)]
  rw [e1, e2] at h
  split at h <;> split at h <;> omega

def put4 (cur : Array Value) (m : Nat) (v0 v1 v2 v3 : Value) : Array Value := (((cur.setIfInBounds m v0).setIfInBounds (m + 1) v1).setIfInBounds (m + 2) v2).setIfInBounds (m + 3) v3
theorem put4_size (cur : Array Value) (m : Nat) (v0 v1 v2 v3 : Value) : (put4 cur m v0 v1 v2 v3).size = cur.size := by simp [put4]
theorem put4_at (cur : Array Value) (m : Nat) (v0 v1 v2 v3 : Value) (h : m + 4 ≤ cur.size) (i : Nat) (hi : i < 4) : (put4 cur m v0 v1 v2 v3)[m + i]? = [v0, v1, v2, v3][i]? := by
  unfold put4
  have h4 : i = 0 ∨ i = 1 ∨ i = 2 ∨ i = 3 := by omega
  have q0 : m < cur.size := by omega
  have q1 : m + 1 < cur.size := by omega
  have q2 : m + 2 < cur.size := by omega
  have q3 : m + 3 < cur.size := by omega
  rcases h4 with rfl | rfl | rfl | rfl <;> simp [Array.getElem?_setIfInBounds, q0, q1, q2, q3]
theorem put4_ne (cur : Array Value) (m : Nat) (v0 v1 v2 v3 : Value) (x : Nat) (h : x < m ∨ m + 4 ≤ x) : (put4 cur m v0 v1 v2 v3)[x]? = cur[x]? := by
  unfold put4
  simp only [Array.getElem?_setIfInBounds, Array.size_setIfInBounds]
  rw [if_neg (by omega), if_neg (by omega), if_neg (by omega), if_neg (by omega)]
theorem LdIn.drewN' {W : World} {D R : Nat} {p : PkE} (h : LdIn W D R p) : LdIn W.drew D R p := h.fr ((Fr.refl _ _).drew)

set_option maxRecDepth 100000 in
set_option maxHeartbeats 8000000 in
theorem ring_push (D R o room f n : Nat) (by_ dr : Int) (E : Nat → PkE) (num t c : Int) (a : Option Addr) (ln ca : Nat) (w : World) (hq : FqIn w D R o room f n by_ dr E) (hn : n < room) (b ob : Nat) (X : Nat → Nat) (hl : LdIn w D R ⟨num, t, c, a, ln, ca, b, ob, X⟩) :
    Calls Try.prog 43 #[.pointer (some ⟨D, 0, none⟩), .agg #[.int .i64 num, .int .i64 t, .int .i64 c, .slice a ln ca]] w fun e w' => e = .returned (.bool true) ∧ FqIn w' D R o room f (n + 1) by_ dr (putE E n ⟨num, t, c, a, ln, ca, b, ob, X⟩) ∧ Fr [D, R] w w' := by
  obtain ⟨W1, hW1⟩ : ∃ W1, W1 = w.alloc (.cells #[.int .i64 num, .int .i64 t, .int .i64 c, .slice a ln ca] 53) := ⟨_, rfl⟩
  have hB1 : Below w.heap.size w W1 := by rw [hW1]; exact (Below.refl _ _).alloc (Nat.le_refl _) _
  have hD := hq.own.lt
  obtain ⟨cur, hr, hcs, hce⟩ := hq.ring
  have hR := hr.lt
  have hown1 := hq.own.step hB1
  have hr1 := hr.step hB1
  have hr64 := hq.r64
  have hf := hq.fl
  have hr0 := hq.r1
  obtain ⟨N, hN⟩ : ∃ N, N = w.heap.size := ⟨_, rfl⟩
  have hp : Blk W1 N #[.int .i64 num, .int .i64 t, .int .i64 c, .slice a ln ca] 53 := by rw [hW1, hN]; exact blk_new _ _ _
  obtain ⟨k, hk⟩ : ∃ k, k = (f + n) % room := ⟨_, rfl⟩
  have hkr : k < room := by rw [hk]; exact Nat.mod_lt _ (by omega)
  have hmod : Int.tmod ((f : Int) + (n : Int)) (room : Int) = (k : Nat) := by rw [hk, ← Int.natCast_add, ← Int.ofNat_tmod]
  have HK := Lib.hid hk
  have hcell : ∀ i, i < 4 → ∃ v, cur[o + k * 4 + i]? = some v := fun i hi => ⟨_, Array.getElem?_eq_getElem (by omega)⟩
  obtain ⟨v0, e0⟩ := hcell 0 (by omega)
  obtain ⟨v1, e1⟩ := hcell 1 (by omega)
  obtain ⟨v2, e2⟩ := hcell 2 (by omega)
  obtain ⟨v3, e3⟩ := hcell 3 (by omega)
  have q0 : W1.cell? ⟨R, o + k * 4, none⟩ = some v0 := (cell_at hr1 _).trans e0
  have q1 : W1.cell? ⟨R, o + k * 4 + 1, none⟩ = some v1 := (cell_at hr1 _).trans e1
  have q2 : W1.cell? ⟨R, o + k * 4 + 2, none⟩ = some v2 := (cell_at hr1 _).trans e2
  have q3 : W1.cell? ⟨R, o + k * 4 + 3, none⟩ = some v3 := (cell_at hr1 _).trans e3
  have y0 := free_at hr1 (o + k * 4)
  have y1 := free_at hr1 (o + k * 4 + 1)
  have y2 := free_at hr1 (o + k * 4 + 2)
  have y3 := free_at hr1 (o + k * 4 + 3)
  have c0 : W1.cell? ⟨D, 0, none⟩ = some (.slice (some ⟨R, o, none⟩) room room) := cell_at hown1 0
  have c1 : W1.cell? ⟨D, 1, none⟩ = some (.int .i64 (f : Nat)) := cell_at hown1 1
  have c2 : W1.cell? ⟨D, 2, none⟩ = some (.int .i64 (n : Nat)) := cell_at hown1 2
  have z2 := free_at hown1 2
  have p0 : W1.cell? ⟨N, 0, none⟩ = some (.int .i64 num) := cell_at hp 0
  have p1 : W1.cell? ⟨N, 1, none⟩ = some (.int .i64 t) := cell_at hp 1
  have p2 : W1.cell? ⟨N, 2, none⟩ = some (.int .i64 c) := cell_at hp 2
  have p3 : W1.cell? ⟨N, 3, none⟩ = some (.slice a ln ca) := cell_at hp 3
  have hD1 : D < W1.heap.size := hown1.lt
  have hR1 : R < W1.heap.size := hr1.lt
  have hN1 : N < W1.heap.size := hp.lt
  have hne := hq.ne
  have d1 : decide ((room : Int) ≤ n) = false := by simp; omega
  have d2 : decide (room ≤ n) = false := by simp; omega
  have HQ := Lib.hid hq
  have HL := Lib.hid hl
  have HB1 := Lib.hid hB1
  have HOWN := Lib.hid hown1
  have HR1 := Lib.hid hr1
  have HN := Lib.hid hN
  have HCE := Lib.hid hce
  clear hq hl hB1 hown1 hr1 hr hcell e0 e1 e2 e3 hp hce hk
  go_enter Try.func43, Try.ntmps43
  go_wp2_with fail
  rw [← hN, ← hW1]
  clear hN hW1
  go_quiet (fail)
  go_wp2_with fail
  generalize hWA : World.drewN W1 _ = WA
  have hdc : ∀ p, W1.cell? p = WA.cell? p := fun p => by rw [← hWA]; rfl
  have hdf : ∀ p, W1.frozen? p = WA.frozen? p := fun p => by rw [← hWA]; rfl
  have hds : W1.heap.size = WA.heap.size := by rw [← hWA]; rfl
  have HOWA : Hid (Blk WA D #[.slice (some ⟨R, o, none⟩) room room, .int .i64 (f : Nat), .int .i64 (n : Nat), .int .i64 by_, .int .i64 dr] 91) := Lib.hid (by rw [← hWA]; exact HOWN.out)
  have HRA : Hid (Blk WA R cur 53) := Lib.hid (by rw [← hWA]; exact HR1.out)
  have HBA : Hid (Below w.heap.size w WA) := Lib.hid (by rw [← hWA]; exact below_drewN HB1.out _)
  rw [hdc] at q0 q1 q2 q3 c0 c1 c2 p0 p1 p2 p3
  rw [hdf] at y0 y1 y2 y3 z2
  rw [hds] at hD1 hR1 hN1
  clear hdc hdf hds hWA HB1 HOWN HR1
  have hw : IntKind.i64.wrap ((f : Int) + (n : Int)) = (f : Int) + n := by rw [IntKind.wrap_i64]; omega
  have hz : (room = 0) = False := eq_false (by omega)
  go_still_tail 21, (by kernel_rfl)
  change wpList _ _ _ _ _ WA.drew
  go_wp2_with fail
  go_ret
  obtain ⟨WF, hWF⟩ : ∃ WF, WF = ((((WA.drew.setCell ⟨R, o + k * 4, none⟩ (.int .i64 num)).setCell ⟨R, o + k * 4 + 1, none⟩ (.int .i64 t)).setCell ⟨R, o + k * 4 + 2, none⟩ (.int .i64 c)).setCell ⟨R, o + k * 4 + 3, none⟩ (.slice a ln ca)).setCell ⟨D, 2, none⟩ (.int .i64 ((n : Int) + 1)) := ⟨_, rfl⟩
  have hRD : R ≠ D := fun e => hne e.symm
  have k1 : Blk WF D #[.slice (some ⟨R, o, none⟩) room room, .int .i64 (f : Nat), .int .i64 ((n : Int) + 1), .int .i64 by_, .int .i64 dr] 91 := by
    rw [hWF]
    exact ((((Blk.ne (A := WA.drew) HOWA.out ⟨R, o + k * 4, none⟩ hne (.int .i64 num)).ne ⟨R, o + k * 4 + 1, none⟩ hne (.int .i64 t)).ne ⟨R, o + k * 4 + 2, none⟩ hne (.int .i64 c)).ne ⟨R, o + k * 4 + 3, none⟩ hne (.slice a ln ca)).set 2 (.int .i64 ((n : Int) + 1))
  have k2 : Blk WF R (put4 cur (o + k * 4) (.int .i64 num) (.int .i64 t) (.int .i64 c) (.slice a ln ca)) 53 := by
    rw [hWF]
    exact ((((Blk.set (A := WA.drew) HRA.out (o + k * 4) (.int .i64 num)).set (o + k * 4 + 1) (.int .i64 t)).set (o + k * 4 + 2) (.int .i64 c)).set (o + k * 4 + 3) (.slice a ln ca)).ne ⟨D, 2, none⟩ hRD (.int .i64 ((n : Int) + 1))
  have hFA : Fr [D, R] w WA.drew := ((Fr.of_below HBA.out).mono (by simp)).drew
  have k3 : Fr [D, R] w WF := by
    rw [hWF]
    exact ((((hFA.setCell ⟨R, o + k * 4, none⟩ (.inl (by simp)) (.int .i64 num)).setCell ⟨R, o + k * 4 + 1, none⟩ (.inl (by simp)) (.int .i64 t)).setCell ⟨R, o + k * 4 + 2, none⟩ (.inl (by simp)) (.int .i64 c)).setCell ⟨R, o + k * 4 + 3, none⟩ (.inl (by simp)) (.slice a ln ca)).setCell ⟨D, 2, none⟩ (.inl (by simp)) (.int .i64 ((n : Int) + 1))
  have hfin : FqIn WF D R o room f (n + 1) by_ dr (putE E n ⟨num, t, c, a, ln, ca, b, ob, X⟩) := by
    refine ⟨by rw [Int.natCast_add]; exact k1, ⟨_, k2, by rw [put4_size, hcs], fun j hj i hi => ?_⟩, hne, hr0, hr64, hf, hn, fun j hj => ?_⟩
    · unfold putE
      by_cases e : j = n
      · rw [if_pos e, e, ← HK.out, put4_at _ _ _ _ _ _ (by omega) i hi]; rfl
      · have hm : (f + j) % room ≠ k := by rw [HK.out]; exact mod_ne hf hn (by omega)
        have hm2 : (f + j) % room < room := Nat.mod_lt _ (by omega)
        rw [if_neg e, put4_ne _ _ _ _ _ _ _ (by omega), HCE.out j (by omega) i hi]
    · unfold putE
      by_cases e : j = n
      · rw [if_pos e]; exact HL.out.fr k3
      · rw [if_neg e]; exact (HQ.out.ld j (by omega)).fr k3
  rw [hWF] at hfin k3
  exact ⟨rfl, hfin, k3⟩
end Go.Proofs.Ytoodmocapagapaa
namespace Go.Proofs.Ytoodmocapagapaa
open Go.RowKit
set_option linter.unusedSimpArgs false
set_option linter.unusedVariables false

theorem infoPkt : (Try.prog.info? 53).map (fun i => (i.zero, i.size, i.bytes)) = some (some (.agg #[.int .i64 0, .int .i64 0, .int .i64 0, .slice none 0 0]), 4, 48) := by kernel_rfl
theorem make_pkts (k : Nat) (h8 : k ≤ 64) (w : World) : (Instr.makeSlice 87 (.int .i64 (k : Int)) (.int .i64 (k : Int))).run Try.prog w = .ok (.slice (some ⟨w.heap.size, 0, none⟩) k k) (w.alloc (.cells (madeCells (Value.agg #[.int .i64 0, .int .i64 0, .int .i64 0, .slice none 0 0]).cells (k * 4)) 53)) := by
  obtain ⟨i0, hi, hz0, hz1, hz2⟩ := info_parts infoPkt
  have hr := run_makeSlice (P := Try.prog) w 87 53 i0 _ Try.underlying87 hi hz0 .i64 .i64 k k (by omega) (Int.le_refl _) (by rw [hz1]; simp; omega) (by rw [hz2]; omega) (by omega)
  rw [hz1] at hr
  simpa only [Int.toNat_natCast] using hr

set_option maxRecDepth 100000 in
set_option maxHeartbeats 4000000 in
theorem fnew_bad (n : Int) (w : World) (h : n < 1 ∨ (1 ≤ n ∧ 64 < n)) : Calls Try.prog 35 #[.int .i64 n] w fun e w' => e = .returned (.tuple #[.pointer none, .int .i64 2]) ∧ w = w' := by
  rcases h with h | ⟨h, h2⟩
  all_goals
    go_enter Try.func35, Try.ntmps35
    go_wp2_with fail
    go_ret2
    exact ⟨rfl, rfl⟩

set_option maxRecDepth 100000 in
set_option maxHeartbeats 4000000 in
theorem qnew_any (room : Nat) (E : Nat → PkE) (w : World) (h : 1 ≤ room) (h64 : room ≤ 64) : Calls Try.prog 35 #[.int .i64 (room : Int)] w fun e w' => e = .returned (.tuple #[.pointer (some ⟨w.heap.size + 1, 0, none⟩), .int .i64 0]) ∧ FqIn w' (w.heap.size + 1) w.heap.size 0 room 0 0 0 0 E ∧ Below w.heap.size w w' := by
  have hmk := make_pkts room h64
  go_enter Try.func35, Try.ntmps35
  go_wp2_with fail
  go_ret2
  refine ⟨rfl, ⟨?_, ⟨madeCells (Value.agg #[.int .i64 0, .int .i64 0, .int .i64 0, .slice none 0 0]).cells (room * 4), ?_, ?_, fun j hj => absurd hj (Nat.not_lt_zero _)⟩, by omega, h, h64, by omega, by omega, fun j hj => absurd hj (Nat.not_lt_zero _)⟩, ?_⟩
  · have h1 := blk_new (w.alloc (.cells (madeCells (Value.agg #[.int .i64 0, .int .i64 0, .int .i64 0, .slice none 0 0]).cells (room * 4)) 53)) #[.slice (some ⟨w.heap.size, 0, none⟩) room room, .int .i64 0, .int .i64 0, .int .i64 0, .int .i64 0] 91
    rw [World.size_alloc] at h1
    exact h1
  · exact (blk_new _ _ _).alloc _
  · simp [size_madeCells]
  · exact ((Below.refl _ _).alloc (Nat.le_refl _) _).alloc (by simp) _

set_option maxRecDepth 100000 in
set_option maxHeartbeats 8000000 in
theorem ring_full (D R o room f n : Nat) (by_ dr : Int) (E : Nat → PkE) (num t c : Int) (a : Option Addr) (ln ca : Nat) (w : World) (hq : FqIn w D R o room f n by_ dr E) (hn : n = room) :
    Calls Try.prog 43 #[.pointer (some ⟨D, 0, none⟩), .agg #[.int .i64 num, .int .i64 t, .int .i64 c, .slice a ln ca]] w fun e w' => e = .returned (.bool false) ∧ Below w.heap.size w w' := by
  have hB1 : Below w.heap.size w (w.alloc (.cells #[.int .i64 num, .int .i64 t, .int .i64 c, .slice a ln ca] 53)) := (Below.refl _ _).alloc (Nat.le_refl _) _
  have hD := hq.own.lt
  have c0 : w.cell? ⟨D, 0, none⟩ = some (.slice (some ⟨R, o, none⟩) room room) := cell_at hq.own 0
  have c2 : w.cell? ⟨D, 2, none⟩ = some (.int .i64 (n : Nat)) := cell_at hq.own 2
  have HB1 := Lib.hid hB1
  have d1 : decide ((room : Int) ≤ n) = true := by simp; omega
  have d2 : decide (room ≤ n) = true := by simp; omega
  clear hq hB1
  go_enter Try.func43, Try.ntmps43
  go_wp2_with fail
  go_quiet (fail)
  go_wp2_with fail
  go_ret
  exact ⟨rfl, below_drewN HB1.out _⟩

set_option maxRecDepth 100000 in
set_option maxHeartbeats 4000000 in
theorem flen_any (D R o room f n : Nat) (by_ dr : Int) (E : Nat → PkE) (w : World) (hq : FqIn w D R o room f n by_ dr E) :
    Calls Try.prog 31 #[.pointer (some ⟨D, 0, none⟩)] w fun e w' => e = .returned (.int .i64 (n : Nat)) ∧ w = w' := by
  have hD := hq.own.lt
  have c2 : w.cell? ⟨D, 2, none⟩ = some (.int .i64 (n : Nat)) := cell_at hq.own 2
  clear hq
  go_enter Try.func31, Try.ntmps31
  go_wp2_with fail
  go_ret
  exact ⟨rfl, rfl⟩
set_option maxRecDepth 100000 in
set_option maxHeartbeats 4000000 in
theorem fbytes_any (D R o room f n : Nat) (by_ dr : Int) (E : Nat → PkE) (w : World) (hq : FqIn w D R o room f n by_ dr E) :
    Calls Try.prog 32 #[.pointer (some ⟨D, 0, none⟩)] w fun e w' => e = .returned (.int .i64 by_) ∧ w = w' := by
  have hD := hq.own.lt
  have c3 : w.cell? ⟨D, 3, none⟩ = some (.int .i64 by_) := cell_at hq.own 3
  clear hq
  go_enter Try.func32, Try.ntmps32
  go_wp2_with fail
  go_ret
  exact ⟨rfl, rfl⟩
end Go.Proofs.Ytoodmocapagapaa
