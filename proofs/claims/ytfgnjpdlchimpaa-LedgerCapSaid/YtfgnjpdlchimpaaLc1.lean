/-
  Texts of this claim, put together: Lib, Lib2, Dt, Bl, Lz, LgA, LgB, LgC, Bk, Bk2, Po1, LgS0, Po2, Po5, Po6, Po7, Po3, Po4, Po8, Po9, Poa.
-/
import Derived.WalkKit
import Derived.WalkSpells
import Derived.WalkLawsBesides
import Derived.Deep.RegionLaw
import Derived.Test.YtfgnjpdlchimpaaRows
import Derived.Below
import Derived.Deep.Slices
import Derived.ChangeSame
import Derived.Deep.Fields
import Derived.SizedLaws
import Derived.Deep.QuietTactic
import Derived.BigRegion
import Derived.BigQuiet
import Derived.RegionTactic
import Derived.Lib.Small
import Derived.Lib.Hide
import Derived.Laws.OwnMore
import Derived.Deep.DeepFit
import Derived.Lib.AppendZeros
import Derived.OwnWalk
import Derived.IntWalk
import Derived.Deep.RegionHeld3
import Derived.OrdersHeld
import Derived.Deep.DeepCutAuto
import Derived.WalkMore
import Derived.Test.YtfgnjpdlchimpaaProg
import Derived.Outline
namespace Go.Proofs.Ytfgnjpdlchimpaa
open Go.RowKit
set_option linter.unusedSimpArgs false
set_option linter.unusedVariables false

theorem heap_setCell_same {w : World} {g : Nat} {cur : Array Value} {e : TypeId} {fr : Nat × Nat} (h : w.heap[g]? = some (.cells cur e fr)) (j : Nat) (u : Value) :
    (w.setCell ⟨g, j, none⟩ u).heap[g]? = some (.cells (cur.setIfInBounds j u) e fr) := by
  have hlt := lt_of_block h
  have h' : w.heap[g] = .cells cur e fr := by simpa [Array.getElem?_eq_getElem hlt] using h
  show (w.heap.modify g _)[g]? = _
  rw [Array.getElem?_eq_getElem (by simpa using hlt), Array.getElem_modify_self, h']
  rfl

theorem heap_setCell_ne (w : World) (a : Addr) (u : Value) (k : Nat) (h : k ≠ a.block) : (w.setCell a u).heap[k]? = w.heap[k]? := Below.heap_setCell w a u k h

theorem cell_at {w : World} {g : Nat} {cur : Array Value} {e : TypeId} (h : w.heap[g]? = some (.cells cur e (0, 0))) (j : Nat) : w.cell? ⟨g, j, none⟩ = cur[j]? := cell_of_row w g j cur e (0, 0) h
theorem free_at {w : World} {g : Nat} {cur : Array Value} {e : TypeId} (h : w.heap[g]? = some (.cells cur e (0, 0))) (j : Nat) : w.frozen? ⟨g, j, none⟩ = false := by simp [World.frozen?, h]

/-- Of what was there only the blocks of l may have turned. -/
structure Fr (l : List Nat) (w w' : World) : Prop where
  os : w'.os = w.os
  tape : w'.tape = w.tape
  output : w'.output = w.output
  size : w.heap.size ≤ w'.heap.size
  block : ∀ k, k < w.heap.size → k ∉ l → w'.heap[k]? = w.heap[k]?

theorem Fr.refl (l : List Nat) (w : World) : Fr l w w := ⟨rfl, rfl, rfl, Nat.le_refl _, fun _ _ _ => rfl⟩
theorem Fr.trans {l l' : List Nat} {a b c : World} (h : Fr l a b) (k : Fr l' b c) (hl : ∀ x ∈ l', x ∈ l ∨ a.heap.size ≤ x) : Fr l a c :=
  ⟨k.os.trans h.os, k.tape.trans h.tape, k.output.trans h.output, Nat.le_trans h.size k.size,
    fun i hi hn => (k.block i (Nat.lt_of_lt_of_le hi h.size) (fun hm => by rcases hl i hm with h1 | h1; exact hn h1; omega)).trans (h.block i hi hn)⟩
theorem Fr.mono {l l' : List Nat} {a b : World} (h : Fr l a b) (hl : ∀ x ∈ l, x ∈ l' ∨ a.heap.size ≤ x) : Fr l' a b :=
  ⟨h.os, h.tape, h.output, h.size, fun i hi hn => h.block i hi fun hm => by rcases hl i hm with h1 | h1; exact hn h1; omega⟩
theorem Fr.of_below {w w' : World} (h : Below w.heap.size w w') : Fr [] w w' := ⟨h.os, h.tape, h.output, h.size, fun k hk _ => h.block k hk⟩
theorem Fr.below {l : List Nat} {w w' : World} (h : Fr l w w') {B : Nat} (hB : B ≤ w.heap.size) (hl : ∀ x ∈ l, B ≤ x) : Below B w w' :=
  ⟨h.os, h.tape, h.output, h.size, fun k hk => h.block k (by omega) fun hm => by have := hl k hm; omega⟩
theorem Fr.below0 {w w' : World} (h : Fr [] w w') : Below w.heap.size w w' := h.below (Nat.le_refl _) (by simp)
theorem Fr.alloc {l : List Nat} {a w : World} (h : Fr l a w) (o : Obj) : Fr l a (w.alloc o) :=
  ⟨h.os, h.tape, h.output, by have := h.size; simp; omega, fun k hk hn => (Below.heap_alloc w o k (by have := h.size; omega)).trans (h.block k hk hn)⟩
theorem Fr.setCell {l : List Nat} {a w : World} (h : Fr l a w) (p : Addr) (hp : p.block ∈ l ∨ a.heap.size ≤ p.block) (u : Value) : Fr l a (w.setCell p u) :=
  ⟨h.os, h.tape, h.output, by have := h.size; simpa using this, fun k hk hn => (heap_setCell_ne w p u k (by rintro rfl; rcases hp with h1 | h1; exact hn h1; omega)).trans (h.block k hk hn)⟩
theorem Fr.drew {l : List Nat} {a w : World} (h : Fr l a w) : Fr l a w.drew := ⟨h.os, h.tape, h.output, h.size, h.block⟩
theorem Fr.drewN {l : List Nat} {a w : World} (h : Fr l a w) (n : Nat) : Fr l a (w.drewN n) := ⟨h.os, h.tape, h.output, h.size, h.block⟩
theorem Fr.grown {l : List Nat} {a w w' : World} {row : Option Nat} (h : Fr l a w) (hg : w.grownBy w' row) (hr : ∀ k, row = some k → k ∈ l ∨ a.heap.size ≤ k) : Fr l a w' :=
  ⟨hg.os.trans h.os, hg.tape.trans h.tape, hg.output.trans h.output, Nat.le_trans h.size hg.size,
    fun k hk hn => (hg.block k (by have := h.size; omega) (fun e => by rcases hr k e.symm with h1 | h1; exact hn h1; omega)).trans (h.block k hk hn)⟩

/-- A row of the call's own, its block known: none where it is nil. -/
def Row (w : World) (v : Value) (ob : Option Nat) (e : TypeId) (size n : Nat) (xs : List Value) : Prop := w.ownsRow 0 e size v n xs ∧ v.ownBlock = ob

theorem Row.nil (w : World) (e : TypeId) (size : Nat) : Row w (.slice none 0 0) none e size 0 [] := ⟨World.ownsRow_nil _ _ _ _, rfl⟩
theorem Row.len {w : World} {v : Value} {ob : Option Nat} {e : TypeId} {size n : Nat} {xs : List Value} (h : Row w v ob e size n xs) : xs.length = n * size := h.1.1
theorem Row.lt {w : World} {v : Value} {g : Nat} {e : TypeId} {size n : Nat} {xs : List Value} (h : Row w v (some g) e size n xs) : g < w.heap.size := (h.1.lt g h.2).2
theorem Row.cases {w : World} {v : Value} {ob : Option Nat} {e : TypeId} {size n : Nat} {xs : List Value} (h : Row w v ob e size n xs) :
    (ob = none ∧ v = .slice none 0 0 ∧ n = 0 ∧ xs = []) ∨ ∃ g cap cur, ob = some g ∧ v = .slice (some ⟨g, 0, none⟩) n cap ∧ w.heap[g]? = some (.cells cur e (0, 0)) ∧ n ≤ cap ∧ cap ≤ maxLen ∧ cur.size = cap * size ∧ cur.toList.take (n * size) = xs := by
  obtain ⟨⟨hl, h1⟩, h2⟩ := h
  rcases h1 with ⟨rfl, rfl⟩ | ⟨g, cap, cur, rfl, _, h3, h4, h5, h6, h7⟩
  · exact .inl ⟨by rw [← h2]; rfl, rfl, rfl, List.eq_nil_of_length_eq_zero (by simpa using hl)⟩
  · exact .inr ⟨g, cap, cur, by rw [← h2]; rfl, rfl, h3, h4, h5, h6, h7⟩
theorem Row.mk {w : World} {g cap n : Nat} {e : TypeId} {size : Nat} {cur : Array Value} (h3 : w.heap[g]? = some (.cells cur e (0, 0))) (h4 : n ≤ cap) (h5 : cap ≤ maxLen) (h6 : cur.size = cap * size) {xs : List Value} (h7 : cur.toList.take (n * size) = xs) :
    Row w (.slice (some ⟨g, 0, none⟩) n cap) (some g) e size n xs :=
  ⟨⟨by rw [← h7, List.length_take, Array.length_toList, h6, Nat.min_eq_left (Nat.mul_le_mul_right _ h4)], .inr ⟨g, cap, cur, rfl, Nat.zero_le _, h3, h4, h5, h6, h7⟩⟩, rfl⟩
theorem Row.congr {w w' : World} {v : Value} {ob : Option Nat} {e : TypeId} {size n : Nat} {xs : List Value} (h : Row w v ob e size n xs) (hb : ∀ g, ob = some g → w'.heap[g]? = w.heap[g]?) : Row w' v ob e size n xs := by
  rcases h.cases with ⟨rfl, rfl, rfl, rfl⟩ | ⟨g, cap, cur, rfl, rfl, h3, h4, h5, h6, h7⟩
  · exact Row.nil _ _ _
  · exact Row.mk (by rw [hb g rfl]; exact h3) h4 h5 h6 h7
theorem Row.alloc {w : World} {v : Value} {ob : Option Nat} {e : TypeId} {size n : Nat} {xs : List Value} (h : Row w v ob e size n xs) (o : Obj) : Row (w.alloc o) v ob e size n xs :=
  h.congr fun g hg => by subst hg; exact Below.heap_alloc w o g h.lt
theorem Row.shape {w : World} {v : Value} {ob : Option Nat} {e : TypeId} {size n : Nat} {xs : List Value} (h : Row w v ob e size n xs) : ∃ a cap, v = .slice a n cap ∧ n ≤ cap ∧ cap ≤ maxLen ∧ a = ob.map (fun g => ⟨g, 0, none⟩) := by
  rcases h.cases with ⟨rfl, rfl, rfl, rfl⟩ | ⟨g, cap, cur, rfl, rfl, h3, h4, h5, h6, h7⟩
  · exact ⟨_, _, rfl, Nat.le_refl _, Nat.zero_le _, rfl⟩
  · exact ⟨_, _, rfl, h4, h5, rfl⟩
theorem Row.cell {w : World} {v : Value} {ob : Option Nat} {e : TypeId} {size n : Nat} {xs : List Value} (h : Row w v ob e size n xs) (j : Nat) (hj : j < n * size) : ∃ g, ob = some g ∧ w.cell? ⟨g, j, none⟩ = xs[j]? ∧ w.frozen? ⟨g, j, none⟩ = false := by
  rcases h.cases with ⟨rfl, rfl, rfl, rfl⟩ | ⟨g, cap, cur, rfl, rfl, h3, h4, h5, h6, rfl⟩
  · simp at hj
  · refine ⟨g, rfl, ?_, free_at h3 j⟩
    rw [cell_at h3, List.getElem?_take, if_pos hj, Array.getElem?_toList]

section
variable {P : Program} (w : World)
/-- append to a row of the call's own: the row's block stays, or it is the next new one. -/
theorem run_append_row (t ty e : TypeId) (i : TypeInfo) (z : Value) (size bytes : Nat) (ht : P.underlying t = some (.slice e)) (hi : P.info? e = some i) (hz : i.zero = some z)
    (hsize : i.size = size) (hby : i.bytes = bytes) (hzs : z.cells.size = size) (hsz : 0 < size)
    (v : Value) (ob : Option Nat) (n : Nat) (xs : List Value) (hrow : Row w v ob e size n xs)
    (a : Addr) (m c : Nat) (news : List Value) (hm : 0 < m) (hl : news.length = m * size) (hnews : ∀ j u, news[j]? = some u → w.cell? (a.add j) = some u) (h1 : ∀ u ∈ news, u.oneCell' = true)
    (h63 : n + m ≤ maxLen) (hbytes : (n + m) * bytes ≤ 140737488355328) :
    ∃ v' ob' w', (Builtin.append_ #[t, t] ty #[v, .slice (some a) m c]).run P w = .ok v' w' ∧ Row w' v' (some ob') e size (n + m) (xs ++ news) ∧ w.grownBy w' ob ∧ (ob = some ob' ∨ ob' = w.heap.size) := by
  subst hsize
  subst hby
  have hsmall : n + m ≤ 9223372036854775807 := by simp only [maxLen] at h63; omega
  have hlen : (xs ++ news).length = (n + m) * i.size := by rw [List.length_append, hrow.len, hl, Nat.add_mul]
  have made : ∀ (old : Nat), old < n + m →
      Row (w.drew.alloc (.cells (xs.toArray ++ news.toArray ++ Builtin.zeroCells z.cells (grownCap w (n + m) old e - (n + m))) e))
        (.slice (some ⟨w.heap.size, 0, none⟩) (n + m) (grownCap w (n + m) old e)) (some w.heap.size) e i.size (n + m) (xs ++ news) ∧
      w.grownBy (w.drew.alloc (.cells (xs.toArray ++ news.toArray ++ Builtin.zeroCells z.cells (grownCap w (n + m) old e - (n + m))) e)) ob := by
    intro old ho
    have hge := grownCap_ge w (n + m) old e
    refine ⟨Row.mk (heap_alloc_new w.drew _) hge (grownCap_le_maxLen w (n + m) old e h63) ?_ ?_, ⟨rfl, rfl, rfl, by simp, fun k hk _ => Below.heap_alloc w.drew _ k hk⟩⟩
    · simp only [Array.size_append, List.size_toArray, size_zeroCells, hzs, hrow.len, hl, ← Nat.add_mul]
      congr 1
      omega
    · simp only [Array.toList_append, List.append_assoc]
      rw [← List.append_assoc, ← hlen]
      exact List.take_left
  rcases hrow.cases with ⟨rfl, rfl, rfl, rfl⟩ | ⟨g, cap, cur, rfl, rfl, hg, hnc, hcm, hcs, htake⟩
  · have hr := run_append_nil (P := P) w t ty e i z ht hi hz a m c news hl hnews hm (by omega) (by have hb := hbytes; simp only [Nat.zero_add] at hb; omega)
    have hgr := made 0 (by omega)
    simp only [Nat.zero_add, List.nil_append, Array.empty_append] at hgr ⊢
    exact ⟨_, _, _, hr, hgr.1, hgr.2, .inr rfl⟩
  · by_cases hroom : n + m ≤ cap
    · have hfit : n * i.size + news.length ≤ cur.size := by rw [hl, hcs, ← Nat.add_mul]; exact Nat.mul_le_mul_right _ hroom
      have hr := run_append_room (P := P) w t ty e i ht hi g n cap cur hg a m c news hl hnews h1 hroom hfit
      refine ⟨_, _, _, hr, Row.mk (setRow_heap w g cur _ e _ hg) hroom hcm ?_ ?_, ⟨rfl, rfl, rfl, by simp, fun k _ hk => setRow_other w g k _ (fun e => hk (by simp [e]))⟩, .inl rfl⟩
      · simp only [List.size_toArray, List.length_append, List.length_take, List.length_drop, Array.length_toList]
        omega
      · simp only
        rw [htake, ← hlen]
        exact List.take_left
    · have holds : ∀ j u, xs[j]? = some u → w.cell? ((⟨g, 0, none⟩ : Addr).add j) = some u := hrow.1.cells (g := g) rfl
      have hr := run_append_grow (P := P) w t ty e i z ht hi hz ⟨g, 0, none⟩ n cap xs hrow.len holds a m c news hl hnews (by omega) (by omega) (growslice_fits (by omega) hbytes)
      have hgr := made cap (by omega)
      exact ⟨_, _, _, hr, hgr.1, hgr.2, .inr rfl⟩

theorem wpList_append_row {ops : Array Oper} {rest : List Oper} {o : Oper} {a : Act} {Q : Exit → Act → World → Prop} (hgd : o.guard = none) (s x : Operand) (t : TypeId)
    (ho : o.op = .call { callee := .builtin .append, args := #[s, x], argTypes := #[t, t] })
    (e : TypeId) (i : TypeInfo) (z : Value) (size bytes : Nat) (ht : P.underlying t = some (.slice e)) (hi : P.info? e = some i) (hz : i.zero = some z)
    (hsize : i.size = size) (hby : i.bytes = bytes) (hzs : z.cells.size = size) (hsz : 0 < size)
    (v : Value) (ob : Option Nat) (n : Nat) (xs : List Value) (hs : a.eval s = v) (hrow : Row w v ob e size n xs)
    (ad : Addr) (m c : Nat) (news : List Value) (hx : a.eval x = .slice (some ad) m c) (hm : 0 < m) (hl : news.length = m * size) (hnews : ∀ j u, news[j]? = some u → w.cell? (ad.add j) = some u) (h1 : ∀ u ∈ news, u.oneCell' = true)
    (h63 : n + m ≤ maxLen) (hbytes : (n + m) * bytes ≤ 140737488355328)
    (h : ∀ v' ob' w', Row w' v' (some ob') e size (n + m) (xs ++ news) → w.grownBy w' ob → (ob = some ob' ∨ ob' = w.heap.size) → wpList P ops Q rest (a.put o.dst v') w') : wpList P ops Q (o :: rest) a w := by
  refine wpList_plain hgd fun K hK => ?_
  obtain ⟨v', ob', w', hr, h2, h3, h4⟩ := run_append_row (P := P) w t o.type e i z size bytes ht hi hz hsize hby hzs hsz v ob n xs hrow ad m c news hm hl hnews h1 h63 hbytes
  unfold Oper.wp execOp
  simp only [ho, resolve, invoke, builtin, Sem.run_bind, Sem.run_pure, Result.andThen_ok, List.map_toArray, List.map_cons, List.map_nil, hs, hx, hr]
  exact hK _ _ (h v' ob' w' h2 h3 h4)
end
end Go.Proofs.Ytfgnjpdlchimpaa
namespace Go.Proofs.Ytfgnjpdlchimpaa
open Go.RowKit
set_option linter.unusedSimpArgs false
set_option linter.unusedVariables false

theorem step_append_row {P : Program} {ops : Array Oper} {o : Oper} {a : Act} {w : World} {K : Act → World → Prop} {Q : Exit → Act → World → Prop} {X : Prop} (hgd : o.guard = none) (s x : Operand) (t : TypeId)
    (ho : o.op = .call { callee := .builtin .append, args := #[s, x], argTypes := #[t, t] })
    (e : TypeId) (i : TypeInfo) (z : Value) (size bytes : Nat) (ht : P.underlying t = some (.slice e)) (hi : P.info? e = some i) (hz : i.zero = some z)
    (hsize : i.size = size) (hby : i.bytes = bytes) (hzs : z.cells.size = size) (hsz : 0 < size)
    (v : Value) (ob : Option Nat) (n : Nat) (xs : List Value) (hs : a.eval s = v) (hrow : Row w v ob e size n xs)
    (ad : Addr) (m c : Nat) (news : List Value) (hx : a.eval x = .slice (some ad) m c) (hm : 0 < m) (hl : news.length = m * size) (hnews : ∀ j u, news[j]? = some u → w.cell? (ad.add j) = some u) (h1 : ∀ u ∈ news, u.oneCell' = true)
    (h63 : n + m ≤ maxLen) (hbytes : (n + m) * bytes ≤ 140737488355328)
    (hK : ∀ v' ob' w', Row w' v' (some ob') e size (n + m) (xs ++ news) → w.grownBy w' ob → (ob = some ob' ∨ ob' = w.heap.size) → K (a.put o.dst v') w') :
    if Region.wanted o (yielded ops a.tmps) = true then Oper.wp P o a w K Q else X := by
  have hw : Region.wanted o (yielded ops a.tmps) = true := by simp [Region.wanted, hgd]
  rw [if_pos hw]
  obtain ⟨v', ob', w', hr, h2, h3, h4⟩ := run_append_row (P := P) w t o.type e i z size bytes ht hi hz hsize hby hzs hsz v ob n xs hrow ad m c news hm hl hnews h1 h63 hbytes
  unfold Oper.wp execOp
  simp only [ho, resolve, invoke, builtin, Sem.run_bind, Sem.run_pure, Result.andThen_ok, List.map_toArray, List.map_cons, List.map_nil, hs, hx, hr]
  exact hK _ _ _ h2 h3 h4

/-- what a growth of one row leaves of other blocks -/
theorem grown_other {w w' : World} {ob : Option Nat} {k : Nat} {o : Obj} (h : w.grownBy w' ob) (hk : w.heap[k]? = some o) (hn : ob ≠ some k) : w'.heap[k]? = some o :=
  (h.block k (by have := (Array.getElem?_eq_some_iff.1 hk).1; exact this) (fun e => hn e.symm)).trans hk

theorem bcell {W w1 : World} (hb : Below W.heap.size W w1) : (∀ b o, b < W.heap.size → w1.cell? ⟨b, o, none⟩ = W.cell? ⟨b, o, none⟩) ∧ (∀ b o, b < W.heap.size → w1.frozen? ⟨b, o, none⟩ = W.frozen? ⟨b, o, none⟩) ∧
    (∀ b, b < W.heap.size → (b = w1.heap.size) = False) ∧ (∀ b, b < W.heap.size → (w1.heap.size = b) = False) ∧ (∀ b, b < W.heap.size → (b < w1.heap.size) = True) :=
  ⟨fun b o h => hb.cell (p := ⟨b, o, none⟩) h, fun b o h => hb.frozen (p := ⟨b, o, none⟩) h, fun b h => eq_false (by have := hb.size; omega), fun b h => eq_false (by have := hb.size; omega), fun b h => eq_true (by have := hb.size; omega)⟩

theorem below_undrew {w X : World} (h : Below w.drew.heap.size w.drew X) : Below w.heap.size w X := ⟨h.os, h.tape, h.output, h.size, h.block⟩

/-- what lies in one new block, in each of two, of three, behind a call that leaves them -/
def Holds (X : World) (n : Nat) (c : Array Value) : Prop := (∀ j, X.cell? ⟨n, j, none⟩ = c[j]?) ∧ (∀ j, X.frozen? ⟨n, j, none⟩ = false) ∧ n < X.heap.size
theorem holds_of {Y X : World} {n : Nat} {c : Array Value} {t : TypeId} (h : Below Y.heap.size Y X) (hY : Y.heap[n]? = some (.cells c t (0, 0))) : Holds X n c := by
  have hlt : n < Y.heap.size := (Array.getElem?_eq_some_iff.1 hY).1
  have hX := (h.block n hlt).trans hY
  exact ⟨fun j => cell_at hX j, fun j => free_at hX j, by have := h.size; omega⟩
theorem tw1 {A X : World} {n : Nat} {c1 : Array Value} {t1 : TypeId} (h : Below (A.alloc (.cells c1 t1)).heap.size (A.alloc (.cells c1 t1)) X) (hn : A.heap.size = n) : Holds X n c1 :=
  holds_of h (by rw [← hn]; exact heap_alloc_new A _)
theorem tw2 {A X : World} {n : Nat} {c1 c2 : Array Value} {t1 t2 : TypeId} (h : Below ((A.alloc (.cells c1 t1)).alloc (.cells c2 t2)).heap.size ((A.alloc (.cells c1 t1)).alloc (.cells c2 t2)) X) (hn : A.heap.size = n) : Holds X n c1 ∧ Holds X (n + 1) c2 :=
  ⟨holds_of h (by rw [← hn, Below.heap_alloc _ _ _ (by simp)]; exact heap_alloc_new A _), holds_of h (by rw [← hn, ← World.size_alloc A (.cells c1 t1)]; exact heap_alloc_new _ _)⟩
theorem tw3 {A X : World} {n : Nat} {c1 c2 c3 : Array Value} {t1 t2 t3 : TypeId} (h : Below (((A.alloc (.cells c1 t1)).alloc (.cells c2 t2)).alloc (.cells c3 t3)).heap.size (((A.alloc (.cells c1 t1)).alloc (.cells c2 t2)).alloc (.cells c3 t3)) X) (hn : A.heap.size = n) : Holds X n c1 ∧ Holds X (n + 1) c2 ∧ Holds X (n + 1 + 1) c3 :=
  ⟨holds_of h (by rw [← hn, Below.heap_alloc _ _ _ (by simp; omega), Below.heap_alloc _ _ _ (by simp)]; exact heap_alloc_new A _), holds_of h (by rw [← hn, Below.heap_alloc _ _ _ (by simp), ← World.size_alloc A (.cells c1 t1)]; exact heap_alloc_new _ _),
    holds_of h (by rw [← hn, ← World.size_alloc A (.cells c1 t1), ← World.size_alloc _ (.cells c2 t2)]; exact heap_alloc_new _ _)⟩
end Go.Proofs.Ytfgnjpdlchimpaa
namespace Go.Proofs.Ytfgnjpdlchimpaa
open Go.RowKit Go.ChangeShapes Go.WideShapes Go.Deep
set_option linter.unusedSimpArgs false
set_option linter.unusedVariables false

inductive Dt where
  | int (k : IntKind) (n : Int)
  | bool (b : Bool)
  | str (s : ByteArray)
  | agg (l : List Dt)
  | slice (a : Option Addr) (len cap : Nat) (xs : List Dt)

mutual
def Dt.cells : Dt → List Value
  | .int k n => [.int k n]
  | .bool b => [.bool b]
  | .str s => [.string s]
  | .agg l => Dt.cellsL l
  | .slice a len cap _ => [.slice a len cap]
def Dt.cellsL : List Dt → List Value
  | [] => []
  | x :: l => x.cells ++ Dt.cellsL l
end

inductive Fits (P : Program) (w : World) : TypeId → Dt → Prop
  | int {t : TypeId} {k : IntKind} {n : Int} (ht : P.underlying t = some (.int k)) (h : (Lit.int k n).wf = true) : Fits P w t (.int k n)
  | bool {t : TypeId} {b : Bool} (ht : P.underlying t = some .bool) : Fits P w t (.bool b)
  | str {t : TypeId} {s : ByteArray} (ht : P.underlying t = some .string) (h : s.size ≤ maxLen) (h2 : s.size ≤ 140737488351232) : Fits P w t (.str s)
  | agg {t : TypeId} {fs : Array Field} {l : List Dt} (ht : P.underlying t = some (.struct fs)) (hl : l.length = fs.size)
      (h : ∀ (i : Nat) (f : Field) (x : Dt), fs[i]? = some f → l[i]? = some x → Fits P w f.type x) : Fits P w t (.agg l)
  | slice {t e : TypeId} {a : Option Addr} {len cap : Nat} {xs : List Dt} (ht : P.underlying t = some (.slice e)) (hl : xs.length = len) (hc : len ≤ cap) (hm : cap ≤ maxLen) (hn : a = none → cap = 0)
      (hb : len * P.bytesOf e ≤ 140737488351232)
      (hcell : ∀ ad, a = some ad → ∀ (i : Nat) (x : Dt), xs[i]? = some x → ∀ (j : Nat) (v : Value), x.cells[j]? = some v → w.cell? (ad.add (i * P.cellsOf e + j)) = some v)
      (hlen : ∀ (i : Nat) (x : Dt), xs[i]? = some x → x.cells.length = P.cellsOf e)
      (h : ∀ (i : Nat) (x : Dt), xs[i]? = some x → Fits P w e x) : Fits P w t (.slice a len cap xs)

/-! ### What a type of plain data is -/
def packed (P : Program) : Nat → List Field → Nat → Bool
  | k, [], tot => k == tot
  | k, f :: fs, tot => f.offset == k && packed P (k + P.cellsOf f.type) fs tot

def okTy (P : Program) : Nat → TypeId → Bool
  | 0, _ => false
  | n + 1, t => match P.underlying t with
    | some (.int _) => P.cellsOf t == 1
    | some .bool => P.cellsOf t == 1
    | some .string => P.cellsOf t == 1
    | some (.slice e) => P.cellsOf t == 1 && okTy P n e
    | some (.struct fs) => packed P 0 fs.toList (P.cellsOf t) && fs.toList.all fun f => okTy P n f.type
    | _ => false

theorem dt_all_mem {H : Type} {P : Program} {e : TypeId} : ∀ {l : List (DataW H)} {d : DataW H}, d ∈ l → ∀ n ∈ d.weights P e, n ∈ DataW.weightsAll P e l
  | d0 :: l, d, hd, n, hn => by
    rw [DataW.weightsAll, List.mem_append]
    rcases List.mem_cons.1 hd with rfl | h
    · exact .inl hn
    · exact .inr (dt_all_mem h n hn)

theorem packed_cells (P : Program) (w : World) (cs : List Value) (tot : Nat) (htot : cs.length = tot) : ∀ (fs : List Field) (k : Nat), packed P k fs tot = true →
    (∀ (i : Nat) (f : Field), fs[i]? = some f → ∃ x : Dt, (cs.drop f.offset).take (P.cellsOf f.type) = x.cells ∧ Fits P w f.type x ∧ x.cells.length = P.cellsOf f.type) →
    ∃ l : List Dt, l.length = fs.length ∧ (∀ (i : Nat) (f : Field) (x : Dt), fs[i]? = some f → l[i]? = some x → Fits P w f.type x) ∧ cs.drop k = Dt.cellsL l
  | [], k, hp, _ => by
    refine ⟨[], rfl, fun i f x hi => by simp at hi, ?_⟩
    have : k = tot := by simpa [packed] using hp
    subst this
    rw [List.drop_of_length_le (by omega)]
    rfl
  | f :: fs, k, hp, h => by
    simp only [packed, Bool.and_eq_true, beq_iff_eq] at hp
    obtain ⟨ho, hp⟩ := hp
    obtain ⟨x, hx, hxf, hxl⟩ := h 0 f rfl
    obtain ⟨l, hl, hlf, hlc⟩ := packed_cells P w cs tot htot fs (k + P.cellsOf f.type) hp fun i g hi => h (i + 1) g (by simpa using hi)
    refine ⟨x :: l, by simp [hl], fun i g y hi hy => ?_, ?_⟩
    · cases i with
      | zero =>
        obtain rfl : f = g := by simpa using hi
        obtain rfl : x = y := by simpa using hy
        exact hxf
      | succ i => exact hlf i g y (by simpa using hi) (by simpa using hy)
    · rw [Dt.cellsL, ← hx, ho, ← hlc, ← List.drop_drop]
      exact (List.take_append_drop _ _).symm

section
variable {H : Type} {enc : TypeId × Value → H} {P : Program} {w : World}

theorem fits_of : ∀ (n : Nat) (t : TypeId), okTy P n t = true → ∀ {fuel : Nat} {cs : List Value} {d : DataW H} {p : List MemPlace}, DataW.trod enc P w 0 (fun _ => true) true fuel t cs = some (d, p) →
    (∀ m ∈ d.weights P t, m ≤ reachBytes) → ∃ x : Dt, cs = x.cells ∧ Fits P w t x ∧ x.cells.length = P.cellsOf t
  | 0, _, h0, _, _, _, _, _, _ => by simp [okTy] at h0
  | n + 1, t, h0, fuel, cs, d, p, hf, hw => by
    unfold okTy at h0
    split at h0
    · rename_i k ht
      obtain ⟨z, rfl, _, hz⟩ := DataW.trod_int ht hf
      exact ⟨.int k z, rfl, .int ht hz, (by simpa using h0 : P.cellsOf t = 1).symm⟩
    · rename_i ht
      obtain ⟨b, rfl, _⟩ := DataW.trod_bool ht hf
      exact ⟨.bool b, rfl, .bool ht, (by simpa using h0 : P.cellsOf t = 1).symm⟩
    · rename_i ht
      obtain ⟨s, rfl, hd, hs⟩ := DataW.trod_string ht hf
      have h1 := hw s.size (by rw [(Prod.mk.inj hd).1]; simp only [DataW.weights, List.mem_singleton, Array.length_toList]; rfl)
      simp only [reachBytes] at h1
      exact ⟨.str s, rfl, .str ht hs h1, (by simpa using h0 : P.cellsOf t = 1).symm⟩
    · rename_i e ht
      obtain ⟨hc1, he⟩ : P.cellsOf t = 1 ∧ okTy P n e = true := by simpa using h0
      rcases open_slice ht hf with ⟨rfl, _⟩ | ⟨a, len, cap, m, k, D, Pl, rfl, _, hl, hm, hmm, hx, hi⟩
      · exact ⟨.slice none 0 0 [], rfl, .slice ht rfl (Nat.le_refl _) (Nat.zero_le _) (fun _ => rfl) (by omega) (fun _ h => (nomatch h)) (fun i x hi => by simp at hi) (fun i x hi => by simp at hi), hc1.symm⟩
      · simp only [if_true] at hmm
        have hd : d = .slice ((List.range len).map D) ((List.range (m - len)).map fun j => D (len + j)) := (Prod.mk.inj hx).1
        have hex : ∀ i, ∃ q : Dt, i < len → (∀ (j : Nat) (v : Value), q.cells[j]? = some v → w.cell? (a.add (i * P.cellsOf e + j)) = some v) ∧ Fits P w e q ∧ q.cells.length = P.cellsOf e := fun i => by
          by_cases hil : i < len
          · obtain ⟨cs', hc, ht'⟩ := hi i (by omega)
            obtain ⟨_, hcl, hat⟩ := World.cells?_some hc
            obtain ⟨q, rfl, hq, hql⟩ := fits_of n e he ht' (fun k hk => hw k (by
              rw [hd]
              simp only [DataW.weights, ht, List.mem_cons, List.mem_append]
              exact .inr (.inl (dt_all_mem (List.mem_map.2 ⟨i, List.mem_range.2 hil, rfl⟩) k hk))))
            refine ⟨q, fun _ => ⟨fun j v hv => ?_, hq, hql⟩⟩
            have hj : j < P.cellsOf e := by
              have := (List.getElem?_eq_some_iff.1 hv).1
              omega
            have := hat j hj
            rw [add_add] at this
            rw [this, hv]
          · exact ⟨.bool true, fun h => absurd h hil⟩
        have hg := fun i => Classical.choose_spec (hex i)
        obtain ⟨F, hF⟩ : ∃ F : Nat → Dt, F = fun i => Classical.choose (hex i) := ⟨_, rfl⟩
        have hg : ∀ i, i < len → (∀ (j : Nat) (v : Value), (F i).cells[j]? = some v → w.cell? (a.add (i * P.cellsOf e + j)) = some v) ∧ Fits P w e (F i) ∧ (F i).cells.length = P.cellsOf e := fun i hil => by rw [hF]; exact hg i hil
        have hat : ∀ (i : Nat) (x : Dt), ((List.range len).map F)[i]? = some x → i < len ∧ F i = x := fun i x hx => by
          obtain ⟨hlt, hx⟩ := List.getElem?_eq_some_iff.1 hx
          exact ⟨by simpa using hlt, by simpa using hx⟩
        have hb : len * P.bytesOf e ≤ 140737488351232 := by
          have := hw ((len + (m - len)) * P.bytesOf e) (by rw [hd]; simp [DataW.weights, ht])
          simp only [reachBytes] at this
          exact Nat.le_trans (Nat.mul_le_mul_right _ (by omega)) this
        refine ⟨.slice (some a) len cap ((List.range len).map F), rfl, .slice ht (by simp) hl hm (fun h => (nomatch h)) hb (fun ad ha i x hx => ?_) (fun i x hx => ?_) (fun i x hx => ?_), hc1.symm⟩
        · obtain rfl := Option.some.inj ha
          obtain ⟨hlt, rfl⟩ := hat i x hx
          exact (hg i hlt).1
        · obtain ⟨hlt, rfl⟩ := hat i x hx
          exact (hg i hlt).2.2
        · obtain ⟨hlt, rfl⟩ := hat i x hx
          exact (hg i hlt).2.1
    · rename_i fs ht
      obtain ⟨hp, hall⟩ := Bool.and_eq_true_iff.1 h0
      have hall := List.all_eq_true.1 hall
      obtain ⟨ys, n', _, hx, hcl, hyl, hf'⟩ := DataW.trod_struct ht hf
      have hd : d = .agg (ys.map (·.1)) := (Prod.mk.inj hx).1
      obtain ⟨l, hll, hlf, hlc⟩ := packed_cells P w cs (P.cellsOf t) hcl fs.toList 0 hp fun i f hi => by
        have hi' : fs[i]? = some f := by simpa using hi
        have hlt : i < fs.size := (Array.getElem?_eq_some_iff.1 hi').1
        have h1 := hf' i f hi'
        obtain ⟨y, hy⟩ : ∃ y, ys[i]? = some y := ⟨ys[i]'(by omega), List.getElem?_eq_getElem (by omega)⟩
        rw [hy] at h1
        obtain ⟨q, e1, e2, e3⟩ := fits_of n f.type (hall f (List.mem_of_getElem? hi)) (d := y.1) (p := y.2) h1 fun k hk => hw k (by
          rw [hd]
          have := DataW.weights_mem_each (ts := fs.toList.map (·.type)) (ds := ys.map (·.1)) (j := i) (t := f.type) (d := y.1) (P := P) (by simp [hi']) (by simp [hy]) k hk
          simp only [DataW.weights, ht]
          exact this)
        exact ⟨q, e1, e2, e3⟩
      exact ⟨.agg l, by simpa [Dt.cells] using hlc, .agg ht (by simpa using hll) (fun i f x hi => hlf i f x (by simpa using hi)), by
        have : cs = Dt.cellsL l := by simpa using hlc
        rw [Dt.cells, ← this, hcl]⟩
    · cases h0


theorem Fits.int_inv {t : TypeId} {k : IntKind} {x : Dt} (h : Fits P w t x) (ht : P.underlying t = some (.int k)) : ∃ n, x = .int k n ∧ k.min ≤ n ∧ n ≤ k.max := by
  cases h with
  | int h1 h2 => rw [ht] at h1; injection h1 with h1; injection h1 with h1; subst h1; exact ⟨_, rfl, by simpa [Lit.wf] using h2⟩
  | bool h1 => rw [ht] at h1; cases h1
  | str h1 _ _ => rw [ht] at h1; cases h1
  | agg h1 _ _ => rw [ht] at h1; cases h1
  | slice h1 => rw [ht] at h1; cases h1
theorem Fits.bool_inv {t : TypeId} {x : Dt} (h : Fits P w t x) (ht : P.underlying t = some .bool) : ∃ b, x = .bool b := by
  cases h with
  | int h1 h2 => rw [ht] at h1; cases h1
  | bool h1 => exact ⟨_, rfl⟩
  | str h1 _ _ => rw [ht] at h1; cases h1
  | agg h1 _ _ => rw [ht] at h1; cases h1
  | slice h1 => rw [ht] at h1; cases h1
theorem Fits.str_inv {t : TypeId} {x : Dt} (h : Fits P w t x) (ht : P.underlying t = some .string) : ∃ s : ByteArray, x = .str s ∧ s.size ≤ maxLen ∧ s.size ≤ 140737488351232 := by
  cases h with
  | int h1 h2 => rw [ht] at h1; cases h1
  | bool h1 => rw [ht] at h1; cases h1
  | str h1 h2 h3 => exact ⟨_, rfl, h2, h3⟩
  | agg h1 _ _ => rw [ht] at h1; cases h1
  | slice h1 => rw [ht] at h1; cases h1
theorem Fits.agg_inv {t : TypeId} {fs : Array Field} {x : Dt} (h : Fits P w t x) (ht : P.underlying t = some (.struct fs)) :
    ∃ l, x = .agg l ∧ l.length = fs.size ∧ ∀ (i : Nat) (f : Field), fs[i]? = some f → ∃ y, l[i]? = some y ∧ Fits P w f.type y := by
  cases h with
  | int h1 h2 => rw [ht] at h1; cases h1
  | bool h1 => rw [ht] at h1; cases h1
  | str h1 _ _ => rw [ht] at h1; cases h1
  | agg h1 h2 h3 =>
    rw [ht] at h1
    injection h1 with h1
    injection h1 with h1
    subst h1
    refine ⟨_, rfl, h2, fun i f hi => ?_⟩
    have hlt : i < fs.size := (Array.getElem?_eq_some_iff.1 hi).1
    exact ⟨_, List.getElem?_eq_getElem (by omega), h3 i f _ hi (List.getElem?_eq_getElem (by omega))⟩
  | slice h1 => rw [ht] at h1; cases h1

/-- What a slice that fits is good for. -/
structure SliceFits (P : Program) (w : World) (e : TypeId) (a : Option Addr) (len cap : Nat) (xs : List Dt) : Prop where
  length : xs.length = len
  le : len ≤ cap
  max : cap ≤ maxLen
  nil : a = none → cap = 0
  short : len * P.bytesOf e ≤ 140737488351232
  cell : ∀ ad, a = some ad → ∀ (i : Nat) (x : Dt), xs[i]? = some x → ∀ (j : Nat) (v : Value), x.cells[j]? = some v → w.cell? (ad.add (i * P.cellsOf e + j)) = some v
  each : ∀ (i : Nat) (x : Dt), xs[i]? = some x → Fits P w e x ∧ x.cells.length = P.cellsOf e

theorem Fits.slice_inv {t e : TypeId} {x : Dt} (h : Fits P w t x) (ht : P.underlying t = some (.slice e)) : ∃ a len cap xs, x = .slice a len cap xs ∧ SliceFits P w e a len cap xs := by
  cases h with
  | int h1 h2 => rw [ht] at h1; cases h1
  | bool h1 => rw [ht] at h1; cases h1
  | str h1 _ _ => rw [ht] at h1; cases h1
  | agg h1 _ _ => rw [ht] at h1; cases h1
  | slice h1 h2 h3 h4 h5 h6 h7 h8 h9 =>
    rw [ht] at h1
    injection h1 with h1
    injection h1 with h1
    subst h1
    exact ⟨_, _, _, _, rfl, h2, h3, h4, h5, h6, h7, fun i x hx => ⟨h9 i x hx, h8 i x hx⟩⟩

theorem SliceFits.spot {e : TypeId} {a : Option Addr} {len cap : Nat} {xs : List Dt} (h : SliceFits P w e a len cap xs) (hp : 0 < P.cellsOf e) :
    ∃ b o, (0 < len → a = some ⟨b, o, none⟩ ∧ b < w.heap.size) ∧ ∀ (i : Nat) (x : Dt), xs[i]? = some x → ∀ (j : Nat) (v : Value), x.cells[j]? = some v → w.cell? ⟨b, o + (i * P.cellsOf e + j), none⟩ = some v := by
  by_cases h0 : len = 0
  · refine ⟨0, 0, fun hl => by omega, fun i x hx => ?_⟩
    have := (List.getElem?_eq_some_iff.1 hx).1
    have := h.length
    omega
  · cases ha : a with
    | none => have := h.nil ha; have := h.le; omega
    | some y =>
      obtain ⟨b, o, spot⟩ := y
      have hl := h.length
      obtain ⟨hx, hc⟩ := h.each 0 xs[0] (List.getElem?_eq_getElem (by omega))
      have h1 := h.cell _ ha 0 xs[0] (List.getElem?_eq_getElem (by omega)) 0 xs[0].cells[0] (List.getElem?_eq_getElem (by omega))
      have hsp : spot = none := by simpa [Addr.add] using World.cell?_spot h1
      subst hsp
      have hlt : b < w.heap.size := by
        unfold World.cell? at h1
        rcases Nat.lt_or_ge b w.heap.size with hlt | hge
        · exact hlt
        · simp [Addr.add, Array.getElem?_eq_none hge] at h1
      refine ⟨b, o, fun _ => ⟨rfl, hlt⟩, fun i x hx j v hv => ?_⟩
      have h2 := h.cell _ ha i x hx j v hv
      have e1 : (⟨b, o, none⟩ : Addr).add (i * P.cellsOf e + j) = ⟨b, o + (i * P.cellsOf e + j), none⟩ := by
        unfold Addr.add
        split
        · rename_i hz; simp at hz; simp
        · rfl
      rw [e1] at h2
      exact h2

theorem open_slice_dt (n : Nat) {t e : TypeId} {v : Value} {d : DataW H} {p : List MemPlace} (ht : P.underlying t = some (.slice e)) (hok : okTy P n t = true) {b0 : Nat} (hv : Value.okWide P w .any b0 t v)
    (h : DataW.Trod enc P w 0 (fun _ => true) true t v d p) (hw : ∀ m ∈ d.weights P t, m ≤ reachBytes) : ∃ a len cap xs, v = .slice a len cap ∧ SliceFits P w e a len cap xs := by
  obtain ⟨a, len, cap, rfl⟩ := okWide_slice ht hv
  obtain ⟨fuel, hf⟩ := h
  obtain ⟨x, hx, hfit, _⟩ := fits_of n t hok hf hw
  obtain ⟨a', len', cap', xs, rfl, hs⟩ := hfit.slice_inv ht
  have : (.slice a len cap : Value) = .slice a' len' cap' := by simpa [Value.cells, Dt.cells] using hx
  injection this with e1 e2 e3
  subst e1 e2 e3
  exact ⟨_, _, _, xs, rfl, hs⟩
theorem open_struct_dt (n : Nat) {t : TypeId} {fs : Array Field} {v : Value} {d : DataW H} {p : List MemPlace} (ht : P.underlying t = some (.struct fs)) (hok : okTy P n t = true) {b0 : Nat} (hv : Value.okWide P w .any b0 t v)
    (h : DataW.Trod enc P w 0 (fun _ => true) true t v d p) (hw : ∀ m ∈ d.weights P t, m ≤ reachBytes) : ∃ x, v = .agg x.cells.toArray ∧ Fits P w t x := by
  obtain ⟨cs, rfl, _⟩ := okWide_struct ht hv
  obtain ⟨fuel, hf⟩ := h
  obtain ⟨x, hx, hfit, _⟩ := fits_of n t hok hf hw
  refine ⟨x, ?_, hfit⟩
  have : cs.toList = x.cells := by simpa [Value.cells] using hx
  rw [← this]
end
end Go.Proofs.Ytfgnjpdlchimpaa
namespace Go.Proofs.Ytfgnjpdlchimpaa
open Go.RowKit
set_option linter.unusedSimpArgs false
set_option linter.unusedVariables false

def Blk (W : World) (B : Nat) (cs : Array Value) (t : TypeId) : Prop := W.heap[B]? = some (.cells cs t (0, 0))
theorem Blk.lt {W : World} {B : Nat} {cs : Array Value} {t : TypeId} (h : Blk W B cs t) : B < W.heap.size := (Array.getElem?_eq_some_iff.1 h).1
theorem Blk.step {A B : World} {n : Nat} {c : Array Value} {t : TypeId} (h : Blk A n c t) (hB : Below A.heap.size A B) : Blk B n c t := (hB.block n h.lt).trans h
theorem Blk.ne {A : World} {n : Nat} {c : Array Value} {t : TypeId} (h : Blk A n c t) (p : Addr) (hp : n ≠ p.block) (u : Value) : Blk (A.setCell p u) n c t := (heap_setCell_ne _ _ _ _ hp).trans h
theorem Blk.set {A : World} {n : Nat} {c : Array Value} {t : TypeId} (h : Blk A n c t) (j : Nat) (u : Value) : Blk (A.setCell ⟨n, j, none⟩ u) n (c.setIfInBounds j u) t := heap_setCell_same h j u
theorem blk_new (A : World) (c : Array Value) (t : TypeId) : Blk (A.alloc (.cells c t)) A.heap.size c t := heap_alloc_new A _
theorem Blk.alloc {A : World} {n : Nat} {c : Array Value} {t : TypeId} (h : Blk A n c t) (o : Obj) : Blk (A.alloc o) n c t := (Below.heap_alloc _ _ _ h.lt).trans h
end Go.Proofs.Ytfgnjpdlchimpaa
namespace Go.Proofs.Ytfgnjpdlchimpaa
open Go.RowKit
set_option linter.unusedSimpArgs false
set_option linter.unusedVariables false

section
variable {P : Program} (w : World)
theorem run_append_row_zero (t ty e : TypeId) (i : TypeInfo) (size : Nat) (ht : P.underlying t = some (.slice e)) (hi : P.info? e = some i) (v : Value) (ob : Option Nat) (n : Nat) (xs : List Value) (hrow : Row w v ob e size n xs) (ad : Option Addr) (c : Nat) :
    (Builtin.append_ #[t, t] ty #[v, .slice ad 0 c]).run P w = .ok v w := by
  cases ad with
  | none =>
    rcases hrow.cases with ⟨rfl, rfl, rfl, rfl⟩ | ⟨g, cap, cur, rfl, rfl, hg, hnc, hcm, hcs, htake⟩
    · simp [Builtin.append_, run_underlying ht, sizeOf, typeInfo, hi, Builtin.lenOf, Builtin.firstCells]
    · simp [Builtin.append_, run_underlying ht, sizeOf, typeInfo, hi, Builtin.lenOf, Builtin.firstCells, hnc, storeCells]
  | some a =>
    rcases hrow.cases with ⟨rfl, rfl, rfl, rfl⟩ | ⟨g, cap, cur, rfl, rfl, hg, hnc, hcm, hcs, htake⟩
    · simp [Builtin.append_, run_underlying ht, sizeOf, typeInfo, hi, Builtin.lenOf, Builtin.firstCells, loadCells, loadCellsFrom]
    · simp [Builtin.append_, run_underlying ht, sizeOf, typeInfo, hi, Builtin.lenOf, Builtin.firstCells, hnc, storeCells, loadCells, loadCellsFrom]
theorem wpList_append_row_zero {ops : Array Oper} {rest : List Oper} {o : Oper} {a : Act} {Q : Exit → Act → World → Prop} (hgd : o.guard = none) (s x : Operand) (t : TypeId)
    (ho : o.op = .call { callee := .builtin .append, args := #[s, x], argTypes := #[t, t] }) (e : TypeId) (i : TypeInfo) (size : Nat) (ht : P.underlying t = some (.slice e)) (hi : P.info? e = some i)
    (v : Value) (ob : Option Nat) (n : Nat) (xs : List Value) (hs : a.eval s = v) (hrow : Row w v ob e size n xs) (ad : Option Addr) (c : Nat) (hx : a.eval x = .slice ad 0 c)
    (h : wpList P ops Q rest (a.put o.dst v) w) : wpList P ops Q (o :: rest) a w := by
  refine wpList_plain hgd fun K hK => ?_
  have hrun := run_append_row_zero (P := P) w t o.type e i size ht hi v ob n xs hrow ad c
  unfold Oper.wp execOp
  simp only [ho, resolve, invoke, builtin, Sem.run_bind, Sem.run_pure, Result.andThen_ok, List.map_toArray, List.map_cons, List.map_nil, hs, hx, hrun]
  exact hK _ _ h
end

theorem addr_add (b o j : Nat) : (⟨b, o, none⟩ : Addr).add j = ⟨b, o + j, none⟩ := by
  unfold Addr.add
  split <;> simp_all
end Go.Proofs.Ytfgnjpdlchimpaa
namespace Go.Proofs.Ytfgnjpdlchimpaa
open Go.RowKit
set_option linter.unusedSimpArgs false
set_option linter.unusedVariables false

structure LeE where
  id : Int
  tenant : Int
  shaper : Int
  epoch : Int
  number : Int
  size : Int
  spent : Int
deriving DecidableEq
def LeE.cells (e : LeE) : List Value := [.int .i64 e.id, .int .i64 e.tenant, .int .i64 e.shaper, .int .i64 e.epoch, .int .i64 e.number, .int .i64 e.size, .int .i64 e.spent]
def LeE.ok (e : LeE) : Prop := (-9223372036854775808 ≤ e.id ∧ e.id ≤ 9223372036854775807) ∧ (-9223372036854775808 ≤ e.tenant ∧ e.tenant ≤ 9223372036854775807) ∧ (-9223372036854775808 ≤ e.shaper ∧ e.shaper ≤ 9223372036854775807) ∧ (-9223372036854775808 ≤ e.epoch ∧ e.epoch ≤ 9223372036854775807) ∧ (-9223372036854775808 ≤ e.number ∧ e.number ≤ 9223372036854775807) ∧ (-9223372036854775808 ≤ e.size ∧ e.size ≤ 9223372036854775807) ∧ (-9223372036854775808 ≤ e.spent ∧ e.spent ≤ 9223372036854775807)
structure LeIn (W : World) (a : Option Addr) (len cap b o : Nat) (E : Nat → LeE) : Prop where
  le : len ≤ cap
  max : cap ≤ maxLen
  at_ : 0 < len → a = some ⟨b, o, none⟩ ∧ b < W.heap.size
  cell : ∀ k, k < len → W.cell? ⟨b, o + k * 7, none⟩ = some (.int .i64 (E k).id) ∧ W.cell? ⟨b, o + k * 7 + 1, none⟩ = some (.int .i64 (E k).tenant) ∧ W.cell? ⟨b, o + k * 7 + 2, none⟩ = some (.int .i64 (E k).shaper) ∧ W.cell? ⟨b, o + k * 7 + 3, none⟩ = some (.int .i64 (E k).epoch) ∧ W.cell? ⟨b, o + k * 7 + 4, none⟩ = some (.int .i64 (E k).number) ∧ W.cell? ⟨b, o + k * 7 + 5, none⟩ = some (.int .i64 (E k).size) ∧ W.cell? ⟨b, o + k * 7 + 6, none⟩ = some (.int .i64 (E k).spent)
  bd : ∀ k, k < len → (E k).ok
theorem LeIn.below {W W' : World} {a : Option Addr} {len cap b o : Nat} {E : Nat → LeE} (h : LeIn W a len cap b o E) (hB : Below W.heap.size W W') : LeIn W' a len cap b o E :=
  ⟨h.le, h.max, fun hk => ⟨(h.at_ hk).1, by have := (h.at_ hk).2; have := hB.size; omega⟩, fun k hk => by
    have hb := (h.at_ (by omega)).2
    obtain ⟨c0, c1, c2, c3, c4, c5, c6⟩ := h.cell k hk
    exact ⟨(hB.cell (p := ⟨b, _, none⟩) hb).trans c0, (hB.cell (p := ⟨b, _, none⟩) hb).trans c1, (hB.cell (p := ⟨b, _, none⟩) hb).trans c2, (hB.cell (p := ⟨b, _, none⟩) hb).trans c3, (hB.cell (p := ⟨b, _, none⟩) hb).trans c4, (hB.cell (p := ⟨b, _, none⟩) hb).trans c5, (hB.cell (p := ⟨b, _, none⟩) hb).trans c6⟩, h.bd⟩
theorem le_cells (W : World) {a : Option Addr} {len cap : Nat} {xs : List Dt} (h : SliceFits Try.prog W 31 a len cap xs) : ∃ (b o : Nat) (E : Nat → LeE), LeIn W a len cap b o E := by
  have hc : Try.prog.cellsOf 31 = 7 := by kernel_rfl
  obtain ⟨b, o, h1, h2⟩ := h.spot (by rw [hc]; omega)
  have hex : ∀ k, ∃ q : LeE, k < len → (W.cell? ⟨b, o + k * 7, none⟩ = some (.int .i64 q.id) ∧ W.cell? ⟨b, o + k * 7 + 1, none⟩ = some (.int .i64 q.tenant) ∧ W.cell? ⟨b, o + k * 7 + 2, none⟩ = some (.int .i64 q.shaper) ∧ W.cell? ⟨b, o + k * 7 + 3, none⟩ = some (.int .i64 q.epoch) ∧ W.cell? ⟨b, o + k * 7 + 4, none⟩ = some (.int .i64 q.number) ∧ W.cell? ⟨b, o + k * 7 + 5, none⟩ = some (.int .i64 q.size) ∧ W.cell? ⟨b, o + k * 7 + 6, none⟩ = some (.int .i64 q.spent)) ∧ q.ok := fun k => by
    by_cases hk : k < len
    · have hl := h.length
      have hx := List.getElem?_eq_getElem (l := xs) (i := k) (by omega)
      obtain ⟨l0, hxe, hl0, hf0⟩ := (h.each k _ hx).1.agg_inv Try.underlying31
      obtain ⟨y0_0, e0_0, f0_0⟩ := hf0 0 _ rfl
      obtain ⟨y0_1, e0_1, f0_1⟩ := hf0 1 _ rfl
      obtain ⟨y0_2, e0_2, f0_2⟩ := hf0 2 _ rfl
      obtain ⟨y0_3, e0_3, f0_3⟩ := hf0 3 _ rfl
      obtain ⟨y0_4, e0_4, f0_4⟩ := hf0 4 _ rfl
      obtain ⟨y0_5, e0_5, f0_5⟩ := hf0 5 _ rfl
      obtain ⟨y0_6, e0_6, f0_6⟩ := hf0 6 _ rfl
      obtain ⟨v0_0, rfl, gv0_0⟩ := f0_0.int_inv Try.underlying3
      obtain ⟨v0_1, rfl, gv0_1⟩ := f0_1.int_inv Try.underlying3
      obtain ⟨v0_2, rfl, gv0_2⟩ := f0_2.int_inv Try.underlying3
      obtain ⟨v0_3, rfl, gv0_3⟩ := f0_3.int_inv Try.underlying3
      obtain ⟨v0_4, rfl, gv0_4⟩ := f0_4.int_inv Try.underlying3
      obtain ⟨v0_5, rfl, gv0_5⟩ := f0_5.int_inv Try.underlying3
      obtain ⟨v0_6, rfl, gv0_6⟩ := f0_6.int_inv Try.underlying3
      match l0, hl0 with
      | [z0_0, z0_1, z0_2, z0_3, z0_4, z0_5, z0_6], _ =>
        obtain rfl : z0_0 = _ := by simpa using e0_0
        obtain rfl : z0_1 = _ := by simpa using e0_1
        obtain rfl : z0_2 = _ := by simpa using e0_2
        obtain rfl : z0_3 = _ := by simpa using e0_3
        obtain rfl : z0_4 = _ := by simpa using e0_4
        obtain rfl : z0_5 = _ := by simpa using e0_5
        obtain rfl : z0_6 = _ := by simpa using e0_6
        have hcell := h2 k _ hx
        rw [hxe, hc] at hcell
        exact ⟨⟨v0_0, v0_1, v0_2, v0_3, v0_4, v0_5, v0_6⟩, fun _ => ⟨⟨hcell 0 _ rfl, by have := hcell 1 _ rfl; rwa [← Nat.add_assoc] at this, by have := hcell 2 _ rfl; rwa [← Nat.add_assoc] at this, by have := hcell 3 _ rfl; rwa [← Nat.add_assoc] at this, by have := hcell 4 _ rfl; rwa [← Nat.add_assoc] at this, by have := hcell 5 _ rfl; rwa [← Nat.add_assoc] at this, by have := hcell 6 _ rfl; rwa [← Nat.add_assoc] at this⟩, gv0_0, gv0_1, gv0_2, gv0_3, gv0_4, gv0_5, gv0_6⟩⟩
    · exact ⟨⟨0, 0, 0, 0, 0, 0, 0⟩, fun h => absurd h hk⟩
  have hg := fun k => Classical.choose_spec (hex k)
  exact ⟨b, o, fun k => Classical.choose (hex k), h.le, h.max, h1, fun k hk => (hg k hk).1, fun k hk => (hg k hk).2⟩
def leL (E : Nat → LeE) (n : Nat) : List Value := (List.range n).flatMap fun k => (E k).cells
theorem leL_succ (E : Nat → LeE) (n : Nat) : leL E (n + 1) = leL E n ++ (E n).cells := by simp [leL, List.range_succ, List.flatMap_append]
theorem leL_len (E : Nat → LeE) : ∀ n : Nat, (leL E n).length = n * 7
  | 0 => by simp [leL]
  | n + 1 => by rw [leL_succ, List.length_append, leL_len E n]; simp [LeE.cells]; omega
theorem leL_congr {E E' : Nat → LeE} : ∀ {n : Nat}, (∀ k, k < n → E k = E' k) → leL E n = leL E' n
  | 0, _ => rfl
  | n + 1, h => by rw [leL_succ, leL_succ, leL_congr (fun k hk => h k (by omega)), h n (by omega)]
theorem leL_at (E : Nat → LeE) : ∀ (n k j : Nat), k < n → j < 7 → (leL E n)[k * 7 + j]? = (E k).cells[j]?
  | 0, _, _, h, _ => by omega
  | n + 1, k, j, h, hj => by
    have hl := leL_len E n
    rw [leL_succ]
    by_cases hk : k < n
    · rw [List.getElem?_append_left (by omega)]
      exact leL_at E n k j hk hj
    · obtain rfl : k = n := by omega
      rw [List.getElem?_append_right (by omega), hl]
      congr 1
      omega
theorem le_row {w : World} {v : Value} {ob : Option Nat} {E : Nat → LeE} {n : Nat} (h : Row w v ob 31 7 n (leL E n)) (hE : ∀ k, k < n → (E k).ok) :
    ∃ a cap, v = .slice a n cap ∧ LeIn w a n cap (ob.getD 0) 0 E := by
  obtain ⟨a, cap, rfl, h1, h2, h3⟩ := h.shape
  refine ⟨a, cap, rfl, h1, h2, fun hk => ?_, fun k hk => ?_, hE⟩
  · obtain ⟨g, hg, _⟩ := h.cell 0 (by omega)
    subst hg
    exact ⟨h3, h.lt⟩
  · have hh : ∀ j, j < 7 → w.cell? ⟨ob.getD 0, 0 + k * 7 + j, none⟩ = (E k).cells[j]? := fun j hj => by
      obtain ⟨g, hg, hc, _⟩ := h.cell (k * 7 + j) (by omega)
      subst hg
      rw [Option.getD_some, Nat.zero_add, hc, leL_at E n k j hk hj]
    exact ⟨hh 0 (by omega), hh 1 (by omega), hh 2 (by omega), hh 3 (by omega), hh 4 (by omega), hh 5 (by omega), hh 6 (by omega)⟩
def LeE.agg (e : LeE) : Value := .agg #[.int .i64 e.id, .int .i64 e.tenant, .int .i64 e.shaper, .int .i64 e.epoch, .int .i64 e.number, .int .i64 e.size, .int .i64 e.spent]
def zLe : LeE := ⟨0, 0, 0, 0, 0, 0, 0⟩
def gLe (L : List LeE) (k : Nat) : LeE := (L[k]?).getD zLe
theorem gLe_lt {L : List LeE} {k : Nat} (h : k < L.length) : L[k]? = some (gLe L k) := by unfold gLe; rw [List.getElem?_eq_getElem h]; rfl
theorem gLe_of {L : List LeE} {k : Nat} {x : LeE} (h : L[k]? = some x) : gLe L k = x := by unfold gLe; rw [h]; rfl
def llLe (L : List LeE) : List Value := L.flatMap LeE.cells
theorem llLe_append (a b : List LeE) : llLe (a ++ b) = llLe a ++ llLe b := by simp [llLe]
theorem llLe_one (m : LeE) : llLe [m] = m.cells := by simp [llLe]
theorem llLe_len : ∀ L : List LeE, (llLe L).length = L.length * 7
  | [] => rfl
  | m :: l => by
    show (m.cells ++ llLe l).length = _
    rw [List.length_append, llLe_len l]
    simp [LeE.cells]
    omega
theorem llLe_g : ∀ (L : List LeE), llLe L = leL (gLe L) L.length := by
  intro L
  suffices h : ∀ n, n ≤ L.length → llLe (L.take n) = leL (gLe L) n by
    have := h L.length (Nat.le_refl _)
    rwa [List.take_length] at this
  intro n
  induction n with
  | zero => intro _; rfl
  | succ n ih =>
    intro hn
    rw [leL_succ, ← ih (by omega), List.take_add_one, gLe_lt (by omega)]
    rw [llLe_append]
    simp [llLe]
theorem llLe_take (L : List LeE) (i : Nat) (hi : i ≤ L.length) : (llLe L).take (i * 7) = llLe (L.take i) := by
  have h : llLe L = llLe (L.take i) ++ llLe (L.drop i) := by rw [← llLe_append, List.take_append_drop]
  rw [h, List.take_append_of_le_length (by rw [llLe_len, List.length_take, Nat.min_eq_left hi]; exact Nat.le_refl _), List.take_of_length_le (by rw [llLe_len, List.length_take, Nat.min_eq_left hi]; exact Nat.le_refl _)]
/-- the list that a value stands for -/
def LeV (W : World) (v : Value) (L : List LeE) : Prop := ∃ a b o cap, v = .slice a L.length cap ∧ LeIn W a L.length cap b o (gLe L)
theorem LeV.below {W W' : World} {v : Value} {L : List LeE} (h : LeV W v L) (hB : Below W.heap.size W W') : LeV W' v L := by
  obtain ⟨a, b, o, c, rfl, h⟩ := h
  exact ⟨a, b, o, c, rfl, h.below hB⟩
def okLe (L : List LeE) : Prop := ∀ x ∈ L, x.ok
theorem okLe_g {L : List LeE} (h : okLe L) (k : Nat) (hk : k < L.length) : (gLe L k).ok := h _ (List.mem_of_getElem? (gLe_lt hk))
theorem LeV.ok {W : World} {v : Value} {L : List LeE} (h : LeV W v L) : okLe L := by
  obtain ⟨a, b, o, c, rfl, h⟩ := h
  intro x hx
  obtain ⟨k, hk, rfl⟩ := List.mem_iff_getElem.1 hx
  have := h.bd k hk
  rwa [gLe_of (List.getElem?_eq_getElem hk)] at this
theorem LeV.sh {W : World} {v : Value} {L : List LeE} (h : LeV W v L) : ∃ a n c, v = .slice a n c ∧ Hid (n = L.length) ∧ n ≤ c ∧ c ≤ 9223372036854775807 := by
  obtain ⟨a, b, o, c, rfl, h⟩ := h
  exact ⟨a, _, c, rfl, Lib.hid rfl, h.le, by have := h.max; unfold maxLen at this; exact this⟩
theorem LeV.at {W : World} {a : Option Addr} {n c : Nat} {L : List LeE} (h : LeV W (.slice a n c) L) (k : Nat) (hk : k < n) : ∃ (g o : Nat) (e : LeE), a = some ⟨g, o, none⟩ ∧ g < W.heap.size ∧ L[k]? = some e ∧ W.cell? ⟨g, o + k * 7, none⟩ = some (.int .i64 e.id) ∧ W.cell? ⟨g, o + k * 7 + 1, none⟩ = some (.int .i64 e.tenant) ∧ W.cell? ⟨g, o + k * 7 + 2, none⟩ = some (.int .i64 e.shaper) ∧ W.cell? ⟨g, o + k * 7 + 3, none⟩ = some (.int .i64 e.epoch) ∧ W.cell? ⟨g, o + k * 7 + 4, none⟩ = some (.int .i64 e.number) ∧ W.cell? ⟨g, o + k * 7 + 5, none⟩ = some (.int .i64 e.size) ∧ W.cell? ⟨g, o + k * 7 + 6, none⟩ = some (.int .i64 e.spent) := by
  obtain ⟨a', b, o, c', ee, h⟩ := h
  injection ee with e1 e2 e3
  subst e1 e2 e3
  have h1 := h.at_ (by omega)
  exact ⟨b, o, gLe L k, h1.1, h1.2, gLe_lt hk, h.cell k hk⟩
theorem lev_row {W : World} {v : Value} {ob : Option Nat} {L : List LeE} (h : Row W v ob 31 7 L.length (llLe L)) (ho : okLe L) : LeV W v L := by
  rw [llLe_g] at h
  obtain ⟨a, c, e, h2⟩ := le_row h (okLe_g ho)
  exact ⟨a, _, 0, c, e, h2⟩
theorem lev_nil (W : World) : LeV W (.slice none 0 0) [] := ⟨none, 0, 0, 0, rfl, Nat.le_refl _, Nat.zero_le _, fun h => absurd h (by simp), fun k hk => absurd hk (by simp), fun k hk => absurd hk (by simp)⟩
theorem lev_cells (W : World) {a : Option Addr} {len cap : Nat} {xs : List Dt} (h : SliceFits Try.prog W 31 a len cap xs) : ∃ L : List LeE, L.length = len ∧ LeV W (.slice a len cap) L := by
  obtain ⟨b, o, E, hE⟩ := le_cells W h
  refine ⟨(List.range len).map E, by simp, a, b, o, cap, by simp, ?_⟩
  have hg : ∀ k, k < len → gLe ((List.range len).map E) k = E k := fun k hk => gLe_of (by simp [hk])
  rw [show ((List.range len).map E).length = len by simp]
  exact ⟨hE.le, hE.max, hE.at_, fun k hk => by rw [hg k hk]; exact hE.cell k hk, fun k hk => by rw [hg k hk]; exact hE.bd k hk⟩
theorem leZero : (Try.prog.info? 31).map (fun i => (i.zero, i.size, i.bytes)) = some (some (Value.agg #[.int .i64 0, .int .i64 0, .int .i64 0, .int .i64 0, .int .i64 0, .int .i64 0, .int .i64 0]), 7, 56) := by kernel_rfl
theorem llLe_ones (L : List LeE) : ∀ u ∈ llLe L, u.oneCell' = true := by
  intro u hu
  simp only [llLe, List.mem_flatMap] at hu
  obtain ⟨y, _, hk⟩ := hu
  have : y.cells.all (fun u => u.oneCell') = true := rfl
  exact List.all_eq_true.1 this u hk
theorem le_at2 {W : World} {a : Option Addr} {n c b o : Nat} {E : Nat → LeE} (h : LeIn W a n c b o E) (j : Nat) (u : Value) (hu : (leL E n)[j]? = some u) : W.cell? ⟨b, o + j, none⟩ = some u := by
  have hj : j < n * 7 := by have := (List.getElem?_eq_some_iff.1 hu).1; rwa [leL_len] at this
  obtain ⟨k, i, hk, hi, rfl⟩ : ∃ k i, k < n ∧ i < 7 ∧ j = k * 7 + i := ⟨j / 7, j % 7, by omega, by omega, by omega⟩
  rw [leL_at E n k i hk hi] at hu
  obtain ⟨c0, c1, c2, c3, c4, c5, c6⟩ := h.cell k hk
  match i, hi with
  | 0, _ => simp [LeE.cells] at hu; subst hu; exact c0
  | 1, _ => simp [LeE.cells] at hu; subst hu; rw [← Nat.add_assoc]; exact c1
  | 2, _ => simp [LeE.cells] at hu; subst hu; rw [← Nat.add_assoc]; exact c2
  | 3, _ => simp [LeE.cells] at hu; subst hu; rw [← Nat.add_assoc]; exact c3
  | 4, _ => simp [LeE.cells] at hu; subst hu; rw [← Nat.add_assoc]; exact c4
  | 5, _ => simp [LeE.cells] at hu; subst hu; rw [← Nat.add_assoc]; exact c5
  | 6, _ => simp [LeE.cells] at hu; subst hu; rw [← Nat.add_assoc]; exact c6
/-- a row of the call's own, its block no older than M -/
def LeO (M : Nat) (W : World) (v : Value) (ob : Option Nat) (L : List LeE) : Prop := Row W v ob 31 7 L.length (llLe L) ∧ okLe L ∧ ∀ g, ob = some g → M ≤ g
theorem leo_nil (W : World) (M : Nat) : LeO M W (.slice none 0 0) none [] := ⟨Row.nil _ _ _, fun x h => absurd h (by simp), fun g e => by cases e⟩
theorem LeO.v {W : World} {M : Nat} {v : Value} {ob : Option Nat} {L : List LeE} (h : LeO M W v ob L) : LeV W v L := lev_row h.1 h.2.1
theorem LeO.step {A B : World} {M : Nat} {v : Value} {ob : Option Nat} {L : List LeE} (h : LeO M A v ob L) (hB : Below A.heap.size A B) : LeO M B v ob L := ⟨h.1.congr fun g e => hB.block g (by subst e; exact h.1.lt), h.2.1, h.2.2⟩
theorem LeO.fr {A B : World} {M N : Nat} {v : Value} {ob : Option Nat} {L : List LeE} (h : LeO M A v ob L) (hf : Fr [N] A B) (hN : N < M) : LeO M B v ob L := ⟨h.1.congr fun g e => hf.block g (by subst e; exact h.1.lt) (by have := h.2.2 g e; simp; omega), h.2.1, h.2.2⟩
/-- append of a piece (empty too) to a row of the call's own -/
theorem le_app {W : World} {M : Nat} {ty : TypeId} {v v2 : Value} {ob : Option Nat} {L L2 : List LeE} (h : LeO M W v ob L) (h2 : LeV W v2 L2) (hM : M ≤ W.heap.size) (hn : L.length + L2.length ≤ 100000) :
    ∃ v' ob' w', (Builtin.append_ #[23, 23] ty #[v, v2]).run Try.prog W = .ok v' w' ∧ LeO M w' v' ob' (L ++ L2) ∧ Below M W w' := by
  have ho2 := h2.ok
  obtain ⟨r1, r4, r5⟩ := h
  obtain ⟨a2, b2, o2, c2, rfl, d1⟩ := h2
  obtain ⟨i0, hi, hz0, hz1, hz2⟩ := info_parts leZero
  rcases Nat.eq_zero_or_pos L2.length with h0 | h0
  · have hL2 : L2 = [] := List.eq_nil_of_length_eq_zero h0
    subst hL2
    rw [List.append_nil]
    exact ⟨v, ob, W, run_append_row_zero (P := Try.prog) (w := W) 23 ty 31 i0 7 Try.underlying23 hi v ob _ _ r1 a2 c2, ⟨r1, r4, r5⟩, Below.refl _ _⟩
  · obtain ⟨e0, e1⟩ := d1.at_ h0
    subst e0
    have hat := fun j u hu => le_at2 d1 j u hu
    rw [← llLe_g] at hat
    obtain ⟨v', ob', w', hrun, s1, s2, s3⟩ := run_append_row (P := Try.prog) W 23 ty 31 i0 _ 7 56 Try.underlying23 hi hz0 hz1 hz2 rfl (by decide) v ob L.length (llLe L) r1 ⟨b2, o2, none⟩ L2.length c2 (llLe L2) h0 (llLe_len L2) (fun j u hu => by rw [addr_add]; exact hat j u hu) (llLe_ones L2) (by unfold maxLen; omega) (by omega)
    refine ⟨v', some ob', w', hrun, ⟨by rw [List.length_append, llLe_append]; exact s1, fun x hx => ?_, fun g e => ?_⟩, ?_⟩
    · rcases List.mem_append.1 hx with h | h
      · exact r4 x h
      · exact ho2 x h
    · obtain rfl := Option.some.inj e
      rcases s3 with h | h
      · exact r5 _ h
      · omega
    · exact (Below.refl M W).grown s2 hM r5
/-- one element in a new block, as a piece -/
theorem lev_one {W : World} {b : Nat} {e : LeE} (h : Blk W b #[.int .i64 e.id, .int .i64 e.tenant, .int .i64 e.shaper, .int .i64 e.epoch, .int .i64 e.number, .int .i64 e.size, .int .i64 e.spent] 31) (ho : e.ok) : LeV W (.slice (some ⟨b, 0, none⟩) 1 1) [e] := by
  refine ⟨some ⟨b, 0, none⟩, b, 0, 1, rfl, Nat.le_refl _, by unfold maxLen; simp, fun _ => ⟨rfl, h.lt⟩, fun k hk => ?_, fun k hk => ?_⟩
  · obtain rfl : k = 0 := by simpa using hk
    exact ⟨cell_at h 0, cell_at h 1, cell_at h 2, cell_at h 3, cell_at h 4, cell_at h 5, cell_at h 6⟩
  · obtain rfl : k = 0 := by simpa using hk
    exact ho
set_option maxRecDepth 100000 in
set_option maxHeartbeats 4000000 in
theorem leclone_any (v : Value) (L : List LeE) (w : World) (h : LeV w v L) (hn : L.length ≤ 5000) :
    Calls Try.prog 67 #[v] w fun e w' => ∃ v' ob, e = .returned v' ∧ LeO w.heap.size w' v' ob L ∧ Below w.heap.size w w' := by
  have HOK := Lib.hid h.ok
  have HV := Lib.hid h
  obtain ⟨i0, hi, hz0, hz1, hz2⟩ := info_parts leZero
  have HR0 : Hid (LeO w.heap.size (w.alloc (.cells #[] 31)) (.slice (some ⟨w.heap.size, 0, none⟩) 0 0) (some w.heap.size) []) := Lib.hid ⟨Row.mk (heap_alloc_new w _) (Nat.le_refl _) (by unfold maxLen; omega) rfl rfl, fun x h => absurd h (by simp), fun g e => by obtain rfl := Option.some.inj e; exact Nat.le_refl _⟩
  have HB0 : Hid (Below w.heap.size w (w.alloc (.cells #[] 31))) := Lib.hid ((Below.refl _ _).alloc (Nat.le_refl _) _)
  obtain ⟨v3, ob3, W3, hrun, hor, hBM⟩ := le_app (ty := 23) HR0.out (HV.out.below HB0.out) HB0.out.size (by simp; omega)
  rw [List.nil_append] at hor
  obtain ⟨a, b, o, c, rfl, h⟩ := h
  have hl := h.le
  have hm := h.max
  unfold maxLen at hm
  cases a with
  | none =>
    obtain hz : L.length = 0 := by
      rcases Nat.eq_zero_or_pos L.length with h0 | h0
      · exact h0
      · exact absurd (h.at_ h0).1 (by simp)
    obtain rfl : L = [] := List.eq_nil_of_length_eq_zero hz
    have hnil : ∀ W, (binOp .eql 23 (.slice none 0 c) (.slice none 0 0)).run Try.prog W = .ok (.bool true) W := fun _ => rfl
    clear hrun hor hBM h
    show Calls Try.prog _ #[.slice none 0 c] w _
    go_enter Try.func67, Try.ntmps67
    go_wp2_with fail
    go_ret
    exact ⟨_, none, rfl, leo_nil _ _, Below.refl _ _⟩
  | some p =>
    obtain ⟨n, hn2⟩ : ∃ n, n = L.length := ⟨_, rfl⟩
    rw [← hn2] at hrun hl ⊢
    have hnil : ∀ W, (binOp .eql 23 (.slice (some p) n c) (.slice none 0 0)).run Try.prog W = .ok (.bool false) W := fun _ => rfl
    have HRUN := Lib.hid hrun
    have HOR := Lib.hid hor
    have HB3 := Lib.hid (HB0.out.trans hBM)
    clear hrun hor hBM h hn2
    go_enter Try.func67, Try.ntmps67
    go_wp2_with (at_builtin; refine Lib.wpList_append_run _ rfl (.tmp 5) (.tmp 6) 23 23 rfl _ _ rfl rfl _ _ HRUN.out ?_)
    go_wp2_with fail
    go_ret
    exact ⟨_, _, rfl, HOR.out, HB3.out⟩
end Go.Proofs.Ytfgnjpdlchimpaa
namespace Go.Proofs.Ytfgnjpdlchimpaa
open Go.RowKit
set_option linter.unusedSimpArgs false
set_option linter.unusedVariables false

structure SeE where
  client : Int
  number : Int
  e : Int
  rate : Int
  burst : Int
  lease : Int
  size : Int
deriving DecidableEq
def SeE.cells (e : SeE) : List Value := [.int .i64 e.client, .int .i64 e.number, .int .i64 e.e, .int .i64 e.rate, .int .i64 e.burst, .int .i64 e.lease, .int .i64 e.size]
def SeE.ok (e : SeE) : Prop := (-9223372036854775808 ≤ e.client ∧ e.client ≤ 9223372036854775807) ∧ (-9223372036854775808 ≤ e.number ∧ e.number ≤ 9223372036854775807) ∧ (-9223372036854775808 ≤ e.e ∧ e.e ≤ 9223372036854775807) ∧ (-9223372036854775808 ≤ e.rate ∧ e.rate ≤ 9223372036854775807) ∧ (-9223372036854775808 ≤ e.burst ∧ e.burst ≤ 9223372036854775807) ∧ (-9223372036854775808 ≤ e.lease ∧ e.lease ≤ 9223372036854775807) ∧ (-9223372036854775808 ≤ e.size ∧ e.size ≤ 9223372036854775807)
structure SeIn (W : World) (a : Option Addr) (len cap b o : Nat) (E : Nat → SeE) : Prop where
  le : len ≤ cap
  max : cap ≤ maxLen
  at_ : 0 < len → a = some ⟨b, o, none⟩ ∧ b < W.heap.size
  cell : ∀ k, k < len → W.cell? ⟨b, o + k * 7, none⟩ = some (.int .i64 (E k).client) ∧ W.cell? ⟨b, o + k * 7 + 1, none⟩ = some (.int .i64 (E k).number) ∧ W.cell? ⟨b, o + k * 7 + 2, none⟩ = some (.int .i64 (E k).e) ∧ W.cell? ⟨b, o + k * 7 + 3, none⟩ = some (.int .i64 (E k).rate) ∧ W.cell? ⟨b, o + k * 7 + 4, none⟩ = some (.int .i64 (E k).burst) ∧ W.cell? ⟨b, o + k * 7 + 5, none⟩ = some (.int .i64 (E k).lease) ∧ W.cell? ⟨b, o + k * 7 + 6, none⟩ = some (.int .i64 (E k).size)
  bd : ∀ k, k < len → (E k).ok
theorem SeIn.below {W W' : World} {a : Option Addr} {len cap b o : Nat} {E : Nat → SeE} (h : SeIn W a len cap b o E) (hB : Below W.heap.size W W') : SeIn W' a len cap b o E :=
  ⟨h.le, h.max, fun hk => ⟨(h.at_ hk).1, by have := (h.at_ hk).2; have := hB.size; omega⟩, fun k hk => by
    have hb := (h.at_ (by omega)).2
    obtain ⟨c0, c1, c2, c3, c4, c5, c6⟩ := h.cell k hk
    exact ⟨(hB.cell (p := ⟨b, _, none⟩) hb).trans c0, (hB.cell (p := ⟨b, _, none⟩) hb).trans c1, (hB.cell (p := ⟨b, _, none⟩) hb).trans c2, (hB.cell (p := ⟨b, _, none⟩) hb).trans c3, (hB.cell (p := ⟨b, _, none⟩) hb).trans c4, (hB.cell (p := ⟨b, _, none⟩) hb).trans c5, (hB.cell (p := ⟨b, _, none⟩) hb).trans c6⟩, h.bd⟩
theorem se_cells (W : World) {a : Option Addr} {len cap : Nat} {xs : List Dt} (h : SliceFits Try.prog W 70 a len cap xs) : ∃ (b o : Nat) (E : Nat → SeE), SeIn W a len cap b o E := by
  have hc : Try.prog.cellsOf 70 = 7 := by kernel_rfl
  obtain ⟨b, o, h1, h2⟩ := h.spot (by rw [hc]; omega)
  have hex : ∀ k, ∃ q : SeE, k < len → (W.cell? ⟨b, o + k * 7, none⟩ = some (.int .i64 q.client) ∧ W.cell? ⟨b, o + k * 7 + 1, none⟩ = some (.int .i64 q.number) ∧ W.cell? ⟨b, o + k * 7 + 2, none⟩ = some (.int .i64 q.e) ∧ W.cell? ⟨b, o + k * 7 + 3, none⟩ = some (.int .i64 q.rate) ∧ W.cell? ⟨b, o + k * 7 + 4, none⟩ = some (.int .i64 q.burst) ∧ W.cell? ⟨b, o + k * 7 + 5, none⟩ = some (.int .i64 q.lease) ∧ W.cell? ⟨b, o + k * 7 + 6, none⟩ = some (.int .i64 q.size)) ∧ q.ok := fun k => by
    by_cases hk : k < len
    · have hl := h.length
      have hx := List.getElem?_eq_getElem (l := xs) (i := k) (by omega)
      obtain ⟨l0, hxe, hl0, hf0⟩ := (h.each k _ hx).1.agg_inv Try.underlying70
      obtain ⟨y0_0, e0_0, f0_0⟩ := hf0 0 _ rfl
      obtain ⟨y0_1, e0_1, f0_1⟩ := hf0 1 _ rfl
      obtain ⟨y0_2, e0_2, f0_2⟩ := hf0 2 _ rfl
      obtain ⟨v0_0, rfl, gv0_0⟩ := f0_0.int_inv Try.underlying3
      obtain ⟨v0_1, rfl, gv0_1⟩ := f0_1.int_inv Try.underlying3
      obtain ⟨l1, rfl, hl1, hf1⟩ := f0_2.agg_inv Try.underlying41
      obtain ⟨y1_0, e1_0, f1_0⟩ := hf1 0 _ rfl
      obtain ⟨y1_1, e1_1, f1_1⟩ := hf1 1 _ rfl
      obtain ⟨y1_2, e1_2, f1_2⟩ := hf1 2 _ rfl
      obtain ⟨y1_3, e1_3, f1_3⟩ := hf1 3 _ rfl
      obtain ⟨y1_4, e1_4, f1_4⟩ := hf1 4 _ rfl
      obtain ⟨v1_0, rfl, gv1_0⟩ := f1_0.int_inv Try.underlying39
      obtain ⟨v1_1, rfl, gv1_1⟩ := f1_1.int_inv Try.underlying3
      obtain ⟨v1_2, rfl, gv1_2⟩ := f1_2.int_inv Try.underlying3
      obtain ⟨v1_3, rfl, gv1_3⟩ := f1_3.int_inv Try.underlying3
      obtain ⟨v1_4, rfl, gv1_4⟩ := f1_4.int_inv Try.underlying3
      match l0, hl0 with
      | [z0_0, z0_1, z0_2], _ =>
        obtain rfl : z0_0 = _ := by simpa using e0_0
        obtain rfl : z0_1 = _ := by simpa using e0_1
        obtain rfl : z0_2 = _ := by simpa using e0_2
        match l1, hl1 with
        | [z1_0, z1_1, z1_2, z1_3, z1_4], _ =>
          obtain rfl : z1_0 = _ := by simpa using e1_0
          obtain rfl : z1_1 = _ := by simpa using e1_1
          obtain rfl : z1_2 = _ := by simpa using e1_2
          obtain rfl : z1_3 = _ := by simpa using e1_3
          obtain rfl : z1_4 = _ := by simpa using e1_4
          have hcell := h2 k _ hx
          rw [hxe, hc] at hcell
          exact ⟨⟨v0_0, v0_1, v1_0, v1_1, v1_2, v1_3, v1_4⟩, fun _ => ⟨⟨hcell 0 _ rfl, by have := hcell 1 _ rfl; rwa [← Nat.add_assoc] at this, by have := hcell 2 _ rfl; rwa [← Nat.add_assoc] at this, by have := hcell 3 _ rfl; rwa [← Nat.add_assoc] at this, by have := hcell 4 _ rfl; rwa [← Nat.add_assoc] at this, by have := hcell 5 _ rfl; rwa [← Nat.add_assoc] at this, by have := hcell 6 _ rfl; rwa [← Nat.add_assoc] at this⟩, gv0_0, gv0_1, gv1_0, gv1_1, gv1_2, gv1_3, gv1_4⟩⟩
    · exact ⟨⟨0, 0, 0, 0, 0, 0, 0⟩, fun h => absurd h hk⟩
  have hg := fun k => Classical.choose_spec (hex k)
  exact ⟨b, o, fun k => Classical.choose (hex k), h.le, h.max, h1, fun k hk => (hg k hk).1, fun k hk => (hg k hk).2⟩
def seL (E : Nat → SeE) (n : Nat) : List Value := (List.range n).flatMap fun k => (E k).cells
theorem seL_succ (E : Nat → SeE) (n : Nat) : seL E (n + 1) = seL E n ++ (E n).cells := by simp [seL, List.range_succ, List.flatMap_append]
theorem seL_len (E : Nat → SeE) : ∀ n : Nat, (seL E n).length = n * 7
  | 0 => by simp [seL]
  | n + 1 => by rw [seL_succ, List.length_append, seL_len E n]; simp [SeE.cells]; omega
theorem seL_congr {E E' : Nat → SeE} : ∀ {n : Nat}, (∀ k, k < n → E k = E' k) → seL E n = seL E' n
  | 0, _ => rfl
  | n + 1, h => by rw [seL_succ, seL_succ, seL_congr (fun k hk => h k (by omega)), h n (by omega)]
theorem seL_at (E : Nat → SeE) : ∀ (n k j : Nat), k < n → j < 7 → (seL E n)[k * 7 + j]? = (E k).cells[j]?
  | 0, _, _, h, _ => by omega
  | n + 1, k, j, h, hj => by
    have hl := seL_len E n
    rw [seL_succ]
    by_cases hk : k < n
    · rw [List.getElem?_append_left (by omega)]
      exact seL_at E n k j hk hj
    · obtain rfl : k = n := by omega
      rw [List.getElem?_append_right (by omega), hl]
      congr 1
      omega
theorem se_row {w : World} {v : Value} {ob : Option Nat} {E : Nat → SeE} {n : Nat} (h : Row w v ob 70 7 n (seL E n)) (hE : ∀ k, k < n → (E k).ok) :
    ∃ a cap, v = .slice a n cap ∧ SeIn w a n cap (ob.getD 0) 0 E := by
  obtain ⟨a, cap, rfl, h1, h2, h3⟩ := h.shape
  refine ⟨a, cap, rfl, h1, h2, fun hk => ?_, fun k hk => ?_, hE⟩
  · obtain ⟨g, hg, _⟩ := h.cell 0 (by omega)
    subst hg
    exact ⟨h3, h.lt⟩
  · have hh : ∀ j, j < 7 → w.cell? ⟨ob.getD 0, 0 + k * 7 + j, none⟩ = (E k).cells[j]? := fun j hj => by
      obtain ⟨g, hg, hc, _⟩ := h.cell (k * 7 + j) (by omega)
      subst hg
      rw [Option.getD_some, Nat.zero_add, hc, seL_at E n k j hk hj]
    exact ⟨hh 0 (by omega), hh 1 (by omega), hh 2 (by omega), hh 3 (by omega), hh 4 (by omega), hh 5 (by omega), hh 6 (by omega)⟩
def SeE.agg (e : SeE) : Value := .agg #[.int .i64 e.client, .int .i64 e.number, .int .i64 e.e, .int .i64 e.rate, .int .i64 e.burst, .int .i64 e.lease, .int .i64 e.size]
def zSe : SeE := ⟨0, 0, 0, 0, 0, 0, 0⟩
def gSe (L : List SeE) (k : Nat) : SeE := (L[k]?).getD zSe
theorem gSe_lt {L : List SeE} {k : Nat} (h : k < L.length) : L[k]? = some (gSe L k) := by unfold gSe; rw [List.getElem?_eq_getElem h]; rfl
theorem gSe_of {L : List SeE} {k : Nat} {x : SeE} (h : L[k]? = some x) : gSe L k = x := by unfold gSe; rw [h]; rfl
def llSe (L : List SeE) : List Value := L.flatMap SeE.cells
theorem llSe_append (a b : List SeE) : llSe (a ++ b) = llSe a ++ llSe b := by simp [llSe]
theorem llSe_one (m : SeE) : llSe [m] = m.cells := by simp [llSe]
theorem llSe_len : ∀ L : List SeE, (llSe L).length = L.length * 7
  | [] => rfl
  | m :: l => by
    show (m.cells ++ llSe l).length = _
    rw [List.length_append, llSe_len l]
    simp [SeE.cells]
    omega
theorem llSe_g : ∀ (L : List SeE), llSe L = seL (gSe L) L.length := by
  intro L
  suffices h : ∀ n, n ≤ L.length → llSe (L.take n) = seL (gSe L) n by
    have := h L.length (Nat.le_refl _)
    rwa [List.take_length] at this
  intro n
  induction n with
  | zero => intro _; rfl
  | succ n ih =>
    intro hn
    rw [seL_succ, ← ih (by omega), List.take_add_one, gSe_lt (by omega)]
    rw [llSe_append]
    simp [llSe]
theorem llSe_take (L : List SeE) (i : Nat) (hi : i ≤ L.length) : (llSe L).take (i * 7) = llSe (L.take i) := by
  have h : llSe L = llSe (L.take i) ++ llSe (L.drop i) := by rw [← llSe_append, List.take_append_drop]
  rw [h, List.take_append_of_le_length (by rw [llSe_len, List.length_take, Nat.min_eq_left hi]; exact Nat.le_refl _), List.take_of_length_le (by rw [llSe_len, List.length_take, Nat.min_eq_left hi]; exact Nat.le_refl _)]
/-- the list that a value stands for -/
def SeV (W : World) (v : Value) (L : List SeE) : Prop := ∃ a b o cap, v = .slice a L.length cap ∧ SeIn W a L.length cap b o (gSe L)
theorem SeV.below {W W' : World} {v : Value} {L : List SeE} (h : SeV W v L) (hB : Below W.heap.size W W') : SeV W' v L := by
  obtain ⟨a, b, o, c, rfl, h⟩ := h
  exact ⟨a, b, o, c, rfl, h.below hB⟩
def okSe (L : List SeE) : Prop := ∀ x ∈ L, x.ok
theorem okSe_g {L : List SeE} (h : okSe L) (k : Nat) (hk : k < L.length) : (gSe L k).ok := h _ (List.mem_of_getElem? (gSe_lt hk))
theorem SeV.ok {W : World} {v : Value} {L : List SeE} (h : SeV W v L) : okSe L := by
  obtain ⟨a, b, o, c, rfl, h⟩ := h
  intro x hx
  obtain ⟨k, hk, rfl⟩ := List.mem_iff_getElem.1 hx
  have := h.bd k hk
  rwa [gSe_of (List.getElem?_eq_getElem hk)] at this
theorem SeV.sh {W : World} {v : Value} {L : List SeE} (h : SeV W v L) : ∃ a n c, v = .slice a n c ∧ Hid (n = L.length) ∧ n ≤ c ∧ c ≤ 9223372036854775807 := by
  obtain ⟨a, b, o, c, rfl, h⟩ := h
  exact ⟨a, _, c, rfl, Lib.hid rfl, h.le, by have := h.max; unfold maxLen at this; exact this⟩
theorem SeV.at {W : World} {a : Option Addr} {n c : Nat} {L : List SeE} (h : SeV W (.slice a n c) L) (k : Nat) (hk : k < n) : ∃ (g o : Nat) (e : SeE), a = some ⟨g, o, none⟩ ∧ g < W.heap.size ∧ L[k]? = some e ∧ W.cell? ⟨g, o + k * 7, none⟩ = some (.int .i64 e.client) ∧ W.cell? ⟨g, o + k * 7 + 1, none⟩ = some (.int .i64 e.number) ∧ W.cell? ⟨g, o + k * 7 + 2, none⟩ = some (.int .i64 e.e) ∧ W.cell? ⟨g, o + k * 7 + 3, none⟩ = some (.int .i64 e.rate) ∧ W.cell? ⟨g, o + k * 7 + 4, none⟩ = some (.int .i64 e.burst) ∧ W.cell? ⟨g, o + k * 7 + 5, none⟩ = some (.int .i64 e.lease) ∧ W.cell? ⟨g, o + k * 7 + 6, none⟩ = some (.int .i64 e.size) := by
  obtain ⟨a', b, o, c', ee, h⟩ := h
  injection ee with e1 e2 e3
  subst e1 e2 e3
  have h1 := h.at_ (by omega)
  exact ⟨b, o, gSe L k, h1.1, h1.2, gSe_lt hk, h.cell k hk⟩
theorem sev_row {W : World} {v : Value} {ob : Option Nat} {L : List SeE} (h : Row W v ob 70 7 L.length (llSe L)) (ho : okSe L) : SeV W v L := by
  rw [llSe_g] at h
  obtain ⟨a, c, e, h2⟩ := se_row h (okSe_g ho)
  exact ⟨a, _, 0, c, e, h2⟩
theorem sev_nil (W : World) : SeV W (.slice none 0 0) [] := ⟨none, 0, 0, 0, rfl, Nat.le_refl _, Nat.zero_le _, fun h => absurd h (by simp), fun k hk => absurd hk (by simp), fun k hk => absurd hk (by simp)⟩
theorem sev_cells (W : World) {a : Option Addr} {len cap : Nat} {xs : List Dt} (h : SliceFits Try.prog W 70 a len cap xs) : ∃ L : List SeE, L.length = len ∧ SeV W (.slice a len cap) L := by
  obtain ⟨b, o, E, hE⟩ := se_cells W h
  refine ⟨(List.range len).map E, by simp, a, b, o, cap, by simp, ?_⟩
  have hg : ∀ k, k < len → gSe ((List.range len).map E) k = E k := fun k hk => gSe_of (by simp [hk])
  rw [show ((List.range len).map E).length = len by simp]
  exact ⟨hE.le, hE.max, hE.at_, fun k hk => by rw [hg k hk]; exact hE.cell k hk, fun k hk => by rw [hg k hk]; exact hE.bd k hk⟩
theorem seZero : (Try.prog.info? 70).map (fun i => (i.zero, i.size, i.bytes)) = some (some (Value.agg #[.int .i64 0, .int .i64 0, .int .i64 0, .int .i64 0, .int .i64 0, .int .i64 0, .int .i64 0]), 7, 56) := by kernel_rfl
theorem llSe_ones (L : List SeE) : ∀ u ∈ llSe L, u.oneCell' = true := by
  intro u hu
  simp only [llSe, List.mem_flatMap] at hu
  obtain ⟨y, _, hk⟩ := hu
  have : y.cells.all (fun u => u.oneCell') = true := rfl
  exact List.all_eq_true.1 this u hk
theorem se_at2 {W : World} {a : Option Addr} {n c b o : Nat} {E : Nat → SeE} (h : SeIn W a n c b o E) (j : Nat) (u : Value) (hu : (seL E n)[j]? = some u) : W.cell? ⟨b, o + j, none⟩ = some u := by
  have hj : j < n * 7 := by have := (List.getElem?_eq_some_iff.1 hu).1; rwa [seL_len] at this
  obtain ⟨k, i, hk, hi, rfl⟩ : ∃ k i, k < n ∧ i < 7 ∧ j = k * 7 + i := ⟨j / 7, j % 7, by omega, by omega, by omega⟩
  rw [seL_at E n k i hk hi] at hu
  obtain ⟨c0, c1, c2, c3, c4, c5, c6⟩ := h.cell k hk
  match i, hi with
  | 0, _ => simp [SeE.cells] at hu; subst hu; exact c0
  | 1, _ => simp [SeE.cells] at hu; subst hu; rw [← Nat.add_assoc]; exact c1
  | 2, _ => simp [SeE.cells] at hu; subst hu; rw [← Nat.add_assoc]; exact c2
  | 3, _ => simp [SeE.cells] at hu; subst hu; rw [← Nat.add_assoc]; exact c3
  | 4, _ => simp [SeE.cells] at hu; subst hu; rw [← Nat.add_assoc]; exact c4
  | 5, _ => simp [SeE.cells] at hu; subst hu; rw [← Nat.add_assoc]; exact c5
  | 6, _ => simp [SeE.cells] at hu; subst hu; rw [← Nat.add_assoc]; exact c6
/-- a row of the call's own, its block no older than M -/
def SeO (M : Nat) (W : World) (v : Value) (ob : Option Nat) (L : List SeE) : Prop := Row W v ob 70 7 L.length (llSe L) ∧ okSe L ∧ ∀ g, ob = some g → M ≤ g
theorem seo_nil (W : World) (M : Nat) : SeO M W (.slice none 0 0) none [] := ⟨Row.nil _ _ _, fun x h => absurd h (by simp), fun g e => by cases e⟩
theorem SeO.v {W : World} {M : Nat} {v : Value} {ob : Option Nat} {L : List SeE} (h : SeO M W v ob L) : SeV W v L := sev_row h.1 h.2.1
theorem SeO.step {A B : World} {M : Nat} {v : Value} {ob : Option Nat} {L : List SeE} (h : SeO M A v ob L) (hB : Below A.heap.size A B) : SeO M B v ob L := ⟨h.1.congr fun g e => hB.block g (by subst e; exact h.1.lt), h.2.1, h.2.2⟩
theorem SeO.fr {A B : World} {M N : Nat} {v : Value} {ob : Option Nat} {L : List SeE} (h : SeO M A v ob L) (hf : Fr [N] A B) (hN : N < M) : SeO M B v ob L := ⟨h.1.congr fun g e => hf.block g (by subst e; exact h.1.lt) (by have := h.2.2 g e; simp; omega), h.2.1, h.2.2⟩
/-- append of a piece (empty too) to a row of the call's own -/
theorem se_app {W : World} {M : Nat} {ty : TypeId} {v v2 : Value} {ob : Option Nat} {L L2 : List SeE} (h : SeO M W v ob L) (h2 : SeV W v2 L2) (hM : M ≤ W.heap.size) (hn : L.length + L2.length ≤ 100000) :
    ∃ v' ob' w', (Builtin.append_ #[24, 24] ty #[v, v2]).run Try.prog W = .ok v' w' ∧ SeO M w' v' ob' (L ++ L2) ∧ Below M W w' := by
  have ho2 := h2.ok
  obtain ⟨r1, r4, r5⟩ := h
  obtain ⟨a2, b2, o2, c2, rfl, d1⟩ := h2
  obtain ⟨i0, hi, hz0, hz1, hz2⟩ := info_parts seZero
  rcases Nat.eq_zero_or_pos L2.length with h0 | h0
  · have hL2 : L2 = [] := List.eq_nil_of_length_eq_zero h0
    subst hL2
    rw [List.append_nil]
    exact ⟨v, ob, W, run_append_row_zero (P := Try.prog) (w := W) 24 ty 70 i0 7 Try.underlying24 hi v ob _ _ r1 a2 c2, ⟨r1, r4, r5⟩, Below.refl _ _⟩
  · obtain ⟨e0, e1⟩ := d1.at_ h0
    subst e0
    have hat := fun j u hu => se_at2 d1 j u hu
    rw [← llSe_g] at hat
    obtain ⟨v', ob', w', hrun, s1, s2, s3⟩ := run_append_row (P := Try.prog) W 24 ty 70 i0 _ 7 56 Try.underlying24 hi hz0 hz1 hz2 rfl (by decide) v ob L.length (llSe L) r1 ⟨b2, o2, none⟩ L2.length c2 (llSe L2) h0 (llSe_len L2) (fun j u hu => by rw [addr_add]; exact hat j u hu) (llSe_ones L2) (by unfold maxLen; omega) (by omega)
    refine ⟨v', some ob', w', hrun, ⟨by rw [List.length_append, llSe_append]; exact s1, fun x hx => ?_, fun g e => ?_⟩, ?_⟩
    · rcases List.mem_append.1 hx with h | h
      · exact r4 x h
      · exact ho2 x h
    · obtain rfl := Option.some.inj e
      rcases s3 with h | h
      · exact r5 _ h
      · omega
    · exact (Below.refl M W).grown s2 hM r5
/-- one element in a new block, as a piece -/
theorem sev_one {W : World} {b : Nat} {e : SeE} (h : Blk W b #[.int .i64 e.client, .int .i64 e.number, .int .i64 e.e, .int .i64 e.rate, .int .i64 e.burst, .int .i64 e.lease, .int .i64 e.size] 70) (ho : e.ok) : SeV W (.slice (some ⟨b, 0, none⟩) 1 1) [e] := by
  refine ⟨some ⟨b, 0, none⟩, b, 0, 1, rfl, Nat.le_refl _, by unfold maxLen; simp, fun _ => ⟨rfl, h.lt⟩, fun k hk => ?_, fun k hk => ?_⟩
  · obtain rfl : k = 0 := by simpa using hk
    exact ⟨cell_at h 0, cell_at h 1, cell_at h 2, cell_at h 3, cell_at h 4, cell_at h 5, cell_at h 6⟩
  · obtain rfl : k = 0 := by simpa using hk
    exact ho
set_option maxRecDepth 100000 in
set_option maxHeartbeats 4000000 in
theorem seclone_any (v : Value) (L : List SeE) (w : World) (h : SeV w v L) (hn : L.length ≤ 5000) :
    Calls Try.prog 68 #[v] w fun e w' => ∃ v' ob, e = .returned v' ∧ SeO w.heap.size w' v' ob L ∧ Below w.heap.size w w' := by
  have HOK := Lib.hid h.ok
  have HV := Lib.hid h
  obtain ⟨i0, hi, hz0, hz1, hz2⟩ := info_parts seZero
  have HR0 : Hid (SeO w.heap.size (w.alloc (.cells #[] 70)) (.slice (some ⟨w.heap.size, 0, none⟩) 0 0) (some w.heap.size) []) := Lib.hid ⟨Row.mk (heap_alloc_new w _) (Nat.le_refl _) (by unfold maxLen; omega) rfl rfl, fun x h => absurd h (by simp), fun g e => by obtain rfl := Option.some.inj e; exact Nat.le_refl _⟩
  have HB0 : Hid (Below w.heap.size w (w.alloc (.cells #[] 70))) := Lib.hid ((Below.refl _ _).alloc (Nat.le_refl _) _)
  obtain ⟨v3, ob3, W3, hrun, hor, hBM⟩ := se_app (ty := 24) HR0.out (HV.out.below HB0.out) HB0.out.size (by simp; omega)
  rw [List.nil_append] at hor
  obtain ⟨a, b, o, c, rfl, h⟩ := h
  have hl := h.le
  have hm := h.max
  unfold maxLen at hm
  cases a with
  | none =>
    obtain hz : L.length = 0 := by
      rcases Nat.eq_zero_or_pos L.length with h0 | h0
      · exact h0
      · exact absurd (h.at_ h0).1 (by simp)
    obtain rfl : L = [] := List.eq_nil_of_length_eq_zero hz
    have hnil : ∀ W, (binOp .eql 24 (.slice none 0 c) (.slice none 0 0)).run Try.prog W = .ok (.bool true) W := fun _ => rfl
    clear hrun hor hBM h
    show Calls Try.prog _ #[.slice none 0 c] w _
    go_enter Try.func68, Try.ntmps68
    go_wp2_with fail
    go_ret
    exact ⟨_, none, rfl, seo_nil _ _, Below.refl _ _⟩
  | some p =>
    obtain ⟨n, hn2⟩ : ∃ n, n = L.length := ⟨_, rfl⟩
    rw [← hn2] at hrun hl ⊢
    have hnil : ∀ W, (binOp .eql 24 (.slice (some p) n c) (.slice none 0 0)).run Try.prog W = .ok (.bool false) W := fun _ => rfl
    have HRUN := Lib.hid hrun
    have HOR := Lib.hid hor
    have HB3 := Lib.hid (HB0.out.trans hBM)
    clear hrun hor hBM h hn2
    go_enter Try.func68, Try.ntmps68
    go_wp2_with (at_builtin; refine Lib.wpList_append_run _ rfl (.tmp 5) (.tmp 6) 24 24 rfl _ _ rfl rfl _ _ HRUN.out ?_)
    go_wp2_with fail
    go_ret
    exact ⟨_, _, rfl, HOR.out, HB3.out⟩
end Go.Proofs.Ytfgnjpdlchimpaa
namespace Go.Proofs.Ytfgnjpdlchimpaa
open Go.RowKit
set_option linter.unusedSimpArgs false
set_option linter.unusedVariables false

structure DkE where
  shaper : Int
  epoch : Int
  number : Int
  e : Int
  rate : Int
  burst : Int
  lease : Int
  size : Int
deriving DecidableEq
def DkE.cells (e : DkE) : List Value := [.int .i64 e.shaper, .int .i64 e.epoch, .int .i64 e.number, .int .i64 e.e, .int .i64 e.rate, .int .i64 e.burst, .int .i64 e.lease, .int .i64 e.size]
def DkE.ok (e : DkE) : Prop := (-9223372036854775808 ≤ e.shaper ∧ e.shaper ≤ 9223372036854775807) ∧ (-9223372036854775808 ≤ e.epoch ∧ e.epoch ≤ 9223372036854775807) ∧ (-9223372036854775808 ≤ e.number ∧ e.number ≤ 9223372036854775807) ∧ (-9223372036854775808 ≤ e.e ∧ e.e ≤ 9223372036854775807) ∧ (-9223372036854775808 ≤ e.rate ∧ e.rate ≤ 9223372036854775807) ∧ (-9223372036854775808 ≤ e.burst ∧ e.burst ≤ 9223372036854775807) ∧ (-9223372036854775808 ≤ e.lease ∧ e.lease ≤ 9223372036854775807) ∧ (-9223372036854775808 ≤ e.size ∧ e.size ≤ 9223372036854775807)
structure DkIn (W : World) (a : Option Addr) (len cap b o : Nat) (E : Nat → DkE) : Prop where
  le : len ≤ cap
  max : cap ≤ maxLen
  at_ : 0 < len → a = some ⟨b, o, none⟩ ∧ b < W.heap.size
  cell : ∀ k, k < len → W.cell? ⟨b, o + k * 8, none⟩ = some (.int .i64 (E k).shaper) ∧ W.cell? ⟨b, o + k * 8 + 1, none⟩ = some (.int .i64 (E k).epoch) ∧ W.cell? ⟨b, o + k * 8 + 2, none⟩ = some (.int .i64 (E k).number) ∧ W.cell? ⟨b, o + k * 8 + 3, none⟩ = some (.int .i64 (E k).e) ∧ W.cell? ⟨b, o + k * 8 + 4, none⟩ = some (.int .i64 (E k).rate) ∧ W.cell? ⟨b, o + k * 8 + 5, none⟩ = some (.int .i64 (E k).burst) ∧ W.cell? ⟨b, o + k * 8 + 6, none⟩ = some (.int .i64 (E k).lease) ∧ W.cell? ⟨b, o + k * 8 + 7, none⟩ = some (.int .i64 (E k).size)
  bd : ∀ k, k < len → (E k).ok
theorem DkIn.below {W W' : World} {a : Option Addr} {len cap b o : Nat} {E : Nat → DkE} (h : DkIn W a len cap b o E) (hB : Below W.heap.size W W') : DkIn W' a len cap b o E :=
  ⟨h.le, h.max, fun hk => ⟨(h.at_ hk).1, by have := (h.at_ hk).2; have := hB.size; omega⟩, fun k hk => by
    have hb := (h.at_ (by omega)).2
    obtain ⟨c0, c1, c2, c3, c4, c5, c6, c7⟩ := h.cell k hk
    exact ⟨(hB.cell (p := ⟨b, _, none⟩) hb).trans c0, (hB.cell (p := ⟨b, _, none⟩) hb).trans c1, (hB.cell (p := ⟨b, _, none⟩) hb).trans c2, (hB.cell (p := ⟨b, _, none⟩) hb).trans c3, (hB.cell (p := ⟨b, _, none⟩) hb).trans c4, (hB.cell (p := ⟨b, _, none⟩) hb).trans c5, (hB.cell (p := ⟨b, _, none⟩) hb).trans c6, (hB.cell (p := ⟨b, _, none⟩) hb).trans c7⟩, h.bd⟩
theorem dk_cells (W : World) {a : Option Addr} {len cap : Nat} {xs : List Dt} (h : SliceFits Try.prog W 72 a len cap xs) : ∃ (b o : Nat) (E : Nat → DkE), DkIn W a len cap b o E := by
  have hc : Try.prog.cellsOf 72 = 8 := by kernel_rfl
  obtain ⟨b, o, h1, h2⟩ := h.spot (by rw [hc]; omega)
  have hex : ∀ k, ∃ q : DkE, k < len → (W.cell? ⟨b, o + k * 8, none⟩ = some (.int .i64 q.shaper) ∧ W.cell? ⟨b, o + k * 8 + 1, none⟩ = some (.int .i64 q.epoch) ∧ W.cell? ⟨b, o + k * 8 + 2, none⟩ = some (.int .i64 q.number) ∧ W.cell? ⟨b, o + k * 8 + 3, none⟩ = some (.int .i64 q.e) ∧ W.cell? ⟨b, o + k * 8 + 4, none⟩ = some (.int .i64 q.rate) ∧ W.cell? ⟨b, o + k * 8 + 5, none⟩ = some (.int .i64 q.burst) ∧ W.cell? ⟨b, o + k * 8 + 6, none⟩ = some (.int .i64 q.lease) ∧ W.cell? ⟨b, o + k * 8 + 7, none⟩ = some (.int .i64 q.size)) ∧ q.ok := fun k => by
    by_cases hk : k < len
    · have hl := h.length
      have hx := List.getElem?_eq_getElem (l := xs) (i := k) (by omega)
      obtain ⟨l0, hxe, hl0, hf0⟩ := (h.each k _ hx).1.agg_inv Try.underlying72
      obtain ⟨y0_0, e0_0, f0_0⟩ := hf0 0 _ rfl
      obtain ⟨y0_1, e0_1, f0_1⟩ := hf0 1 _ rfl
      obtain ⟨y0_2, e0_2, f0_2⟩ := hf0 2 _ rfl
      obtain ⟨y0_3, e0_3, f0_3⟩ := hf0 3 _ rfl
      obtain ⟨v0_0, rfl, gv0_0⟩ := f0_0.int_inv Try.underlying3
      obtain ⟨v0_1, rfl, gv0_1⟩ := f0_1.int_inv Try.underlying3
      obtain ⟨v0_2, rfl, gv0_2⟩ := f0_2.int_inv Try.underlying3
      obtain ⟨l1, rfl, hl1, hf1⟩ := f0_3.agg_inv Try.underlying41
      obtain ⟨y1_0, e1_0, f1_0⟩ := hf1 0 _ rfl
      obtain ⟨y1_1, e1_1, f1_1⟩ := hf1 1 _ rfl
      obtain ⟨y1_2, e1_2, f1_2⟩ := hf1 2 _ rfl
      obtain ⟨y1_3, e1_3, f1_3⟩ := hf1 3 _ rfl
      obtain ⟨y1_4, e1_4, f1_4⟩ := hf1 4 _ rfl
      obtain ⟨v1_0, rfl, gv1_0⟩ := f1_0.int_inv Try.underlying39
      obtain ⟨v1_1, rfl, gv1_1⟩ := f1_1.int_inv Try.underlying3
      obtain ⟨v1_2, rfl, gv1_2⟩ := f1_2.int_inv Try.underlying3
      obtain ⟨v1_3, rfl, gv1_3⟩ := f1_3.int_inv Try.underlying3
      obtain ⟨v1_4, rfl, gv1_4⟩ := f1_4.int_inv Try.underlying3
      match l0, hl0 with
      | [z0_0, z0_1, z0_2, z0_3], _ =>
        obtain rfl : z0_0 = _ := by simpa using e0_0
        obtain rfl : z0_1 = _ := by simpa using e0_1
        obtain rfl : z0_2 = _ := by simpa using e0_2
        obtain rfl : z0_3 = _ := by simpa using e0_3
        match l1, hl1 with
        | [z1_0, z1_1, z1_2, z1_3, z1_4], _ =>
          obtain rfl : z1_0 = _ := by simpa using e1_0
          obtain rfl : z1_1 = _ := by simpa using e1_1
          obtain rfl : z1_2 = _ := by simpa using e1_2
          obtain rfl : z1_3 = _ := by simpa using e1_3
          obtain rfl : z1_4 = _ := by simpa using e1_4
          have hcell := h2 k _ hx
          rw [hxe, hc] at hcell
          exact ⟨⟨v0_0, v0_1, v0_2, v1_0, v1_1, v1_2, v1_3, v1_4⟩, fun _ => ⟨⟨hcell 0 _ rfl, by have := hcell 1 _ rfl; rwa [← Nat.add_assoc] at this, by have := hcell 2 _ rfl; rwa [← Nat.add_assoc] at this, by have := hcell 3 _ rfl; rwa [← Nat.add_assoc] at this, by have := hcell 4 _ rfl; rwa [← Nat.add_assoc] at this, by have := hcell 5 _ rfl; rwa [← Nat.add_assoc] at this, by have := hcell 6 _ rfl; rwa [← Nat.add_assoc] at this, by have := hcell 7 _ rfl; rwa [← Nat.add_assoc] at this⟩, gv0_0, gv0_1, gv0_2, gv1_0, gv1_1, gv1_2, gv1_3, gv1_4⟩⟩
    · exact ⟨⟨0, 0, 0, 0, 0, 0, 0, 0⟩, fun h => absurd h hk⟩
  have hg := fun k => Classical.choose_spec (hex k)
  exact ⟨b, o, fun k => Classical.choose (hex k), h.le, h.max, h1, fun k hk => (hg k hk).1, fun k hk => (hg k hk).2⟩
def dkL (E : Nat → DkE) (n : Nat) : List Value := (List.range n).flatMap fun k => (E k).cells
theorem dkL_succ (E : Nat → DkE) (n : Nat) : dkL E (n + 1) = dkL E n ++ (E n).cells := by simp [dkL, List.range_succ, List.flatMap_append]
theorem dkL_len (E : Nat → DkE) : ∀ n : Nat, (dkL E n).length = n * 8
  | 0 => by simp [dkL]
  | n + 1 => by rw [dkL_succ, List.length_append, dkL_len E n]; simp [DkE.cells]; omega
theorem dkL_congr {E E' : Nat → DkE} : ∀ {n : Nat}, (∀ k, k < n → E k = E' k) → dkL E n = dkL E' n
  | 0, _ => rfl
  | n + 1, h => by rw [dkL_succ, dkL_succ, dkL_congr (fun k hk => h k (by omega)), h n (by omega)]
theorem dkL_at (E : Nat → DkE) : ∀ (n k j : Nat), k < n → j < 8 → (dkL E n)[k * 8 + j]? = (E k).cells[j]?
  | 0, _, _, h, _ => by omega
  | n + 1, k, j, h, hj => by
    have hl := dkL_len E n
    rw [dkL_succ]
    by_cases hk : k < n
    · rw [List.getElem?_append_left (by omega)]
      exact dkL_at E n k j hk hj
    · obtain rfl : k = n := by omega
      rw [List.getElem?_append_right (by omega), hl]
      congr 1
      omega
theorem dk_row {w : World} {v : Value} {ob : Option Nat} {E : Nat → DkE} {n : Nat} (h : Row w v ob 72 8 n (dkL E n)) (hE : ∀ k, k < n → (E k).ok) :
    ∃ a cap, v = .slice a n cap ∧ DkIn w a n cap (ob.getD 0) 0 E := by
  obtain ⟨a, cap, rfl, h1, h2, h3⟩ := h.shape
  refine ⟨a, cap, rfl, h1, h2, fun hk => ?_, fun k hk => ?_, hE⟩
  · obtain ⟨g, hg, _⟩ := h.cell 0 (by omega)
    subst hg
    exact ⟨h3, h.lt⟩
  · have hh : ∀ j, j < 8 → w.cell? ⟨ob.getD 0, 0 + k * 8 + j, none⟩ = (E k).cells[j]? := fun j hj => by
      obtain ⟨g, hg, hc, _⟩ := h.cell (k * 8 + j) (by omega)
      subst hg
      rw [Option.getD_some, Nat.zero_add, hc, dkL_at E n k j hk hj]
    exact ⟨hh 0 (by omega), hh 1 (by omega), hh 2 (by omega), hh 3 (by omega), hh 4 (by omega), hh 5 (by omega), hh 6 (by omega), hh 7 (by omega)⟩
def DkE.agg (e : DkE) : Value := .agg #[.int .i64 e.shaper, .int .i64 e.epoch, .int .i64 e.number, .int .i64 e.e, .int .i64 e.rate, .int .i64 e.burst, .int .i64 e.lease, .int .i64 e.size]
def zDk : DkE := ⟨0, 0, 0, 0, 0, 0, 0, 0⟩
def gDk (L : List DkE) (k : Nat) : DkE := (L[k]?).getD zDk
theorem gDk_lt {L : List DkE} {k : Nat} (h : k < L.length) : L[k]? = some (gDk L k) := by unfold gDk; rw [List.getElem?_eq_getElem h]; rfl
theorem gDk_of {L : List DkE} {k : Nat} {x : DkE} (h : L[k]? = some x) : gDk L k = x := by unfold gDk; rw [h]; rfl
def llDk (L : List DkE) : List Value := L.flatMap DkE.cells
theorem llDk_append (a b : List DkE) : llDk (a ++ b) = llDk a ++ llDk b := by simp [llDk]
theorem llDk_one (m : DkE) : llDk [m] = m.cells := by simp [llDk]
theorem llDk_len : ∀ L : List DkE, (llDk L).length = L.length * 8
  | [] => rfl
  | m :: l => by
    show (m.cells ++ llDk l).length = _
    rw [List.length_append, llDk_len l]
    simp [DkE.cells]
    omega
theorem llDk_g : ∀ (L : List DkE), llDk L = dkL (gDk L) L.length := by
  intro L
  suffices h : ∀ n, n ≤ L.length → llDk (L.take n) = dkL (gDk L) n by
    have := h L.length (Nat.le_refl _)
    rwa [List.take_length] at this
  intro n
  induction n with
  | zero => intro _; rfl
  | succ n ih =>
    intro hn
    rw [dkL_succ, ← ih (by omega), List.take_add_one, gDk_lt (by omega)]
    rw [llDk_append]
    simp [llDk]
theorem llDk_take (L : List DkE) (i : Nat) (hi : i ≤ L.length) : (llDk L).take (i * 8) = llDk (L.take i) := by
  have h : llDk L = llDk (L.take i) ++ llDk (L.drop i) := by rw [← llDk_append, List.take_append_drop]
  rw [h, List.take_append_of_le_length (by rw [llDk_len, List.length_take, Nat.min_eq_left hi]; exact Nat.le_refl _), List.take_of_length_le (by rw [llDk_len, List.length_take, Nat.min_eq_left hi]; exact Nat.le_refl _)]
/-- the list that a value stands for -/
def DkV (W : World) (v : Value) (L : List DkE) : Prop := ∃ a b o cap, v = .slice a L.length cap ∧ DkIn W a L.length cap b o (gDk L)
theorem DkV.below {W W' : World} {v : Value} {L : List DkE} (h : DkV W v L) (hB : Below W.heap.size W W') : DkV W' v L := by
  obtain ⟨a, b, o, c, rfl, h⟩ := h
  exact ⟨a, b, o, c, rfl, h.below hB⟩
def okDk (L : List DkE) : Prop := ∀ x ∈ L, x.ok
theorem okDk_g {L : List DkE} (h : okDk L) (k : Nat) (hk : k < L.length) : (gDk L k).ok := h _ (List.mem_of_getElem? (gDk_lt hk))
theorem DkV.ok {W : World} {v : Value} {L : List DkE} (h : DkV W v L) : okDk L := by
  obtain ⟨a, b, o, c, rfl, h⟩ := h
  intro x hx
  obtain ⟨k, hk, rfl⟩ := List.mem_iff_getElem.1 hx
  have := h.bd k hk
  rwa [gDk_of (List.getElem?_eq_getElem hk)] at this
theorem DkV.sh {W : World} {v : Value} {L : List DkE} (h : DkV W v L) : ∃ a n c, v = .slice a n c ∧ Hid (n = L.length) ∧ n ≤ c ∧ c ≤ 9223372036854775807 := by
  obtain ⟨a, b, o, c, rfl, h⟩ := h
  exact ⟨a, _, c, rfl, Lib.hid rfl, h.le, by have := h.max; unfold maxLen at this; exact this⟩
theorem DkV.at {W : World} {a : Option Addr} {n c : Nat} {L : List DkE} (h : DkV W (.slice a n c) L) (k : Nat) (hk : k < n) : ∃ (g o : Nat) (e : DkE), a = some ⟨g, o, none⟩ ∧ g < W.heap.size ∧ L[k]? = some e ∧ W.cell? ⟨g, o + k * 8, none⟩ = some (.int .i64 e.shaper) ∧ W.cell? ⟨g, o + k * 8 + 1, none⟩ = some (.int .i64 e.epoch) ∧ W.cell? ⟨g, o + k * 8 + 2, none⟩ = some (.int .i64 e.number) ∧ W.cell? ⟨g, o + k * 8 + 3, none⟩ = some (.int .i64 e.e) ∧ W.cell? ⟨g, o + k * 8 + 4, none⟩ = some (.int .i64 e.rate) ∧ W.cell? ⟨g, o + k * 8 + 5, none⟩ = some (.int .i64 e.burst) ∧ W.cell? ⟨g, o + k * 8 + 6, none⟩ = some (.int .i64 e.lease) ∧ W.cell? ⟨g, o + k * 8 + 7, none⟩ = some (.int .i64 e.size) := by
  obtain ⟨a', b, o, c', ee, h⟩ := h
  injection ee with e1 e2 e3
  subst e1 e2 e3
  have h1 := h.at_ (by omega)
  exact ⟨b, o, gDk L k, h1.1, h1.2, gDk_lt hk, h.cell k hk⟩
theorem dkv_row {W : World} {v : Value} {ob : Option Nat} {L : List DkE} (h : Row W v ob 72 8 L.length (llDk L)) (ho : okDk L) : DkV W v L := by
  rw [llDk_g] at h
  obtain ⟨a, c, e, h2⟩ := dk_row h (okDk_g ho)
  exact ⟨a, _, 0, c, e, h2⟩
theorem dkv_nil (W : World) : DkV W (.slice none 0 0) [] := ⟨none, 0, 0, 0, rfl, Nat.le_refl _, Nat.zero_le _, fun h => absurd h (by simp), fun k hk => absurd hk (by simp), fun k hk => absurd hk (by simp)⟩
theorem dkv_cells (W : World) {a : Option Addr} {len cap : Nat} {xs : List Dt} (h : SliceFits Try.prog W 72 a len cap xs) : ∃ L : List DkE, L.length = len ∧ DkV W (.slice a len cap) L := by
  obtain ⟨b, o, E, hE⟩ := dk_cells W h
  refine ⟨(List.range len).map E, by simp, a, b, o, cap, by simp, ?_⟩
  have hg : ∀ k, k < len → gDk ((List.range len).map E) k = E k := fun k hk => gDk_of (by simp [hk])
  rw [show ((List.range len).map E).length = len by simp]
  exact ⟨hE.le, hE.max, hE.at_, fun k hk => by rw [hg k hk]; exact hE.cell k hk, fun k hk => by rw [hg k hk]; exact hE.bd k hk⟩
theorem dkZero : (Try.prog.info? 72).map (fun i => (i.zero, i.size, i.bytes)) = some (some (Value.agg #[.int .i64 0, .int .i64 0, .int .i64 0, .int .i64 0, .int .i64 0, .int .i64 0, .int .i64 0, .int .i64 0]), 8, 64) := by kernel_rfl
theorem llDk_ones (L : List DkE) : ∀ u ∈ llDk L, u.oneCell' = true := by
  intro u hu
  simp only [llDk, List.mem_flatMap] at hu
  obtain ⟨y, _, hk⟩ := hu
  have : y.cells.all (fun u => u.oneCell') = true := rfl
  exact List.all_eq_true.1 this u hk
theorem dk_at2 {W : World} {a : Option Addr} {n c b o : Nat} {E : Nat → DkE} (h : DkIn W a n c b o E) (j : Nat) (u : Value) (hu : (dkL E n)[j]? = some u) : W.cell? ⟨b, o + j, none⟩ = some u := by
  have hj : j < n * 8 := by have := (List.getElem?_eq_some_iff.1 hu).1; rwa [dkL_len] at this
  obtain ⟨k, i, hk, hi, rfl⟩ : ∃ k i, k < n ∧ i < 8 ∧ j = k * 8 + i := ⟨j / 8, j % 8, by omega, by omega, by omega⟩
  rw [dkL_at E n k i hk hi] at hu
  obtain ⟨c0, c1, c2, c3, c4, c5, c6, c7⟩ := h.cell k hk
  match i, hi with
  | 0, _ => simp [DkE.cells] at hu; subst hu; exact c0
  | 1, _ => simp [DkE.cells] at hu; subst hu; rw [← Nat.add_assoc]; exact c1
  | 2, _ => simp [DkE.cells] at hu; subst hu; rw [← Nat.add_assoc]; exact c2
  | 3, _ => simp [DkE.cells] at hu; subst hu; rw [← Nat.add_assoc]; exact c3
  | 4, _ => simp [DkE.cells] at hu; subst hu; rw [← Nat.add_assoc]; exact c4
  | 5, _ => simp [DkE.cells] at hu; subst hu; rw [← Nat.add_assoc]; exact c5
  | 6, _ => simp [DkE.cells] at hu; subst hu; rw [← Nat.add_assoc]; exact c6
  | 7, _ => simp [DkE.cells] at hu; subst hu; rw [← Nat.add_assoc]; exact c7
/-- a row of the call's own, its block no older than M -/
def DkO (M : Nat) (W : World) (v : Value) (ob : Option Nat) (L : List DkE) : Prop := Row W v ob 72 8 L.length (llDk L) ∧ okDk L ∧ ∀ g, ob = some g → M ≤ g
theorem dko_nil (W : World) (M : Nat) : DkO M W (.slice none 0 0) none [] := ⟨Row.nil _ _ _, fun x h => absurd h (by simp), fun g e => by cases e⟩
theorem DkO.v {W : World} {M : Nat} {v : Value} {ob : Option Nat} {L : List DkE} (h : DkO M W v ob L) : DkV W v L := dkv_row h.1 h.2.1
theorem DkO.step {A B : World} {M : Nat} {v : Value} {ob : Option Nat} {L : List DkE} (h : DkO M A v ob L) (hB : Below A.heap.size A B) : DkO M B v ob L := ⟨h.1.congr fun g e => hB.block g (by subst e; exact h.1.lt), h.2.1, h.2.2⟩
theorem DkO.fr {A B : World} {M N : Nat} {v : Value} {ob : Option Nat} {L : List DkE} (h : DkO M A v ob L) (hf : Fr [N] A B) (hN : N < M) : DkO M B v ob L := ⟨h.1.congr fun g e => hf.block g (by subst e; exact h.1.lt) (by have := h.2.2 g e; simp; omega), h.2.1, h.2.2⟩
/-- append of a piece (empty too) to a row of the call's own -/
theorem dk_app {W : World} {M : Nat} {ty : TypeId} {v v2 : Value} {ob : Option Nat} {L L2 : List DkE} (h : DkO M W v ob L) (h2 : DkV W v2 L2) (hM : M ≤ W.heap.size) (hn : L.length + L2.length ≤ 100000) :
    ∃ v' ob' w', (Builtin.append_ #[25, 25] ty #[v, v2]).run Try.prog W = .ok v' w' ∧ DkO M w' v' ob' (L ++ L2) ∧ Below M W w' := by
  have ho2 := h2.ok
  obtain ⟨r1, r4, r5⟩ := h
  obtain ⟨a2, b2, o2, c2, rfl, d1⟩ := h2
  obtain ⟨i0, hi, hz0, hz1, hz2⟩ := info_parts dkZero
  rcases Nat.eq_zero_or_pos L2.length with h0 | h0
  · have hL2 : L2 = [] := List.eq_nil_of_length_eq_zero h0
    subst hL2
    rw [List.append_nil]
    exact ⟨v, ob, W, run_append_row_zero (P := Try.prog) (w := W) 25 ty 72 i0 8 Try.underlying25 hi v ob _ _ r1 a2 c2, ⟨r1, r4, r5⟩, Below.refl _ _⟩
  · obtain ⟨e0, e1⟩ := d1.at_ h0
    subst e0
    have hat := fun j u hu => dk_at2 d1 j u hu
    rw [← llDk_g] at hat
    obtain ⟨v', ob', w', hrun, s1, s2, s3⟩ := run_append_row (P := Try.prog) W 25 ty 72 i0 _ 8 64 Try.underlying25 hi hz0 hz1 hz2 rfl (by decide) v ob L.length (llDk L) r1 ⟨b2, o2, none⟩ L2.length c2 (llDk L2) h0 (llDk_len L2) (fun j u hu => by rw [addr_add]; exact hat j u hu) (llDk_ones L2) (by unfold maxLen; omega) (by omega)
    refine ⟨v', some ob', w', hrun, ⟨by rw [List.length_append, llDk_append]; exact s1, fun x hx => ?_, fun g e => ?_⟩, ?_⟩
    · rcases List.mem_append.1 hx with h | h
      · exact r4 x h
      · exact ho2 x h
    · obtain rfl := Option.some.inj e
      rcases s3 with h | h
      · exact r5 _ h
      · omega
    · exact (Below.refl M W).grown s2 hM r5
/-- one element in a new block, as a piece -/
theorem dkv_one {W : World} {b : Nat} {e : DkE} (h : Blk W b #[.int .i64 e.shaper, .int .i64 e.epoch, .int .i64 e.number, .int .i64 e.e, .int .i64 e.rate, .int .i64 e.burst, .int .i64 e.lease, .int .i64 e.size] 72) (ho : e.ok) : DkV W (.slice (some ⟨b, 0, none⟩) 1 1) [e] := by
  refine ⟨some ⟨b, 0, none⟩, b, 0, 1, rfl, Nat.le_refl _, by unfold maxLen; simp, fun _ => ⟨rfl, h.lt⟩, fun k hk => ?_, fun k hk => ?_⟩
  · obtain rfl : k = 0 := by simpa using hk
    exact ⟨cell_at h 0, cell_at h 1, cell_at h 2, cell_at h 3, cell_at h 4, cell_at h 5, cell_at h 6, cell_at h 7⟩
  · obtain rfl : k = 0 := by simpa using hk
    exact ho
set_option maxRecDepth 100000 in
set_option maxHeartbeats 4000000 in
theorem dkclone_any (v : Value) (L : List DkE) (w : World) (h : DkV w v L) (hn : L.length ≤ 5000) :
    Calls Try.prog 69 #[v] w fun e w' => ∃ v' ob, e = .returned v' ∧ DkO w.heap.size w' v' ob L ∧ Below w.heap.size w w' := by
  have HOK := Lib.hid h.ok
  have HV := Lib.hid h
  obtain ⟨i0, hi, hz0, hz1, hz2⟩ := info_parts dkZero
  have HR0 : Hid (DkO w.heap.size (w.alloc (.cells #[] 72)) (.slice (some ⟨w.heap.size, 0, none⟩) 0 0) (some w.heap.size) []) := Lib.hid ⟨Row.mk (heap_alloc_new w _) (Nat.le_refl _) (by unfold maxLen; omega) rfl rfl, fun x h => absurd h (by simp), fun g e => by obtain rfl := Option.some.inj e; exact Nat.le_refl _⟩
  have HB0 : Hid (Below w.heap.size w (w.alloc (.cells #[] 72))) := Lib.hid ((Below.refl _ _).alloc (Nat.le_refl _) _)
  obtain ⟨v3, ob3, W3, hrun, hor, hBM⟩ := dk_app (ty := 25) HR0.out (HV.out.below HB0.out) HB0.out.size (by simp; omega)
  rw [List.nil_append] at hor
  obtain ⟨a, b, o, c, rfl, h⟩ := h
  have hl := h.le
  have hm := h.max
  unfold maxLen at hm
  cases a with
  | none =>
    obtain hz : L.length = 0 := by
      rcases Nat.eq_zero_or_pos L.length with h0 | h0
      · exact h0
      · exact absurd (h.at_ h0).1 (by simp)
    obtain rfl : L = [] := List.eq_nil_of_length_eq_zero hz
    have hnil : ∀ W, (binOp .eql 25 (.slice none 0 c) (.slice none 0 0)).run Try.prog W = .ok (.bool true) W := fun _ => rfl
    clear hrun hor hBM h
    show Calls Try.prog _ #[.slice none 0 c] w _
    go_enter Try.func69, Try.ntmps69
    go_wp2_with fail
    go_ret
    exact ⟨_, none, rfl, dko_nil _ _, Below.refl _ _⟩
  | some p =>
    obtain ⟨n, hn2⟩ : ∃ n, n = L.length := ⟨_, rfl⟩
    rw [← hn2] at hrun hl ⊢
    have hnil : ∀ W, (binOp .eql 25 (.slice (some p) n c) (.slice none 0 0)).run Try.prog W = .ok (.bool false) W := fun _ => rfl
    have HRUN := Lib.hid hrun
    have HOR := Lib.hid hor
    have HB3 := Lib.hid (HB0.out.trans hBM)
    clear hrun hor hBM h hn2
    go_enter Try.func69, Try.ntmps69
    go_wp2_with (at_builtin; refine Lib.wpList_append_run _ rfl (.tmp 5) (.tmp 6) 25 25 rfl _ _ rfl rfl _ _ HRUN.out ?_)
    go_wp2_with fail
    go_ret
    exact ⟨_, _, rfl, HOR.out, HB3.out⟩
end Go.Proofs.Ytfgnjpdlchimpaa
namespace Go.Proofs.Ytfgnjpdlchimpaa
open Go.RowKit
set_option linter.unusedSimpArgs false
set_option linter.unusedVariables false

theorem ret_int {k : IntKind} {a b : Int} (h : a = b) : Ending.returned (.int k a) = .returned (.int k b) := by rw [h]
theorem ret_bool {a b : Bool} (h : a = b) : Ending.returned (.bool a) = .returned (.bool b) := by rw [h]

def within (n most : Int) : Int := min (max n 0) most
def room (burst out : Int) : Int := 1000 * max (within burst 1000000 - max out 0) 0
def cut (b burst out : Int) : Int := within b (room burst out)
def mayB (rate burst : Int) : Bool := decide (0 ≤ rate ∧ rate ≤ 1000000 ∧ 0 ≤ burst ∧ burst ≤ 1000000)

theorem within_bd (n most : Int) (h : 0 ≤ most) : 0 ≤ within n most ∧ within n most ≤ most := by unfold within; omega
theorem room_bd (burst out : Int) : 0 ≤ room burst out ∧ room burst out ≤ 1000000000 := by unfold room within; omega

set_option maxHeartbeats 400000 in
theorem within_any (n most : Int) (w : World) : Calls Try.prog 71 #[.int .i64 n, .int .i64 most] w fun e w' => e = .returned (.int .i64 (within n most)) ∧ w = w' := by
  go_enter Try.func71, Try.ntmps71
  go_wp2_with fail
  all_goals
    go_ret
    exact ⟨ret_int (by unfold within; omega), rfl⟩

set_option maxHeartbeats 400000 in
theorem may_any (n m : Int) (w : World) : Calls Try.prog 90 #[.int .i64 n, .int .i64 m] w fun e w' => e = .returned (.bool (mayB n m)) ∧ w = w' := by
  go_enter Try.func90, Try.ntmps90
  go_wp2_with fail
  all_goals
    go_ret
    exact ⟨ret_bool (by unfold mayB; simp; omega), rfl⟩

set_option maxHeartbeats 400000 in
theorem room_any (n m : Int) (hn : m ≤ 9223372036854775807) (w : World) : Calls Try.prog 95 #[.int .i64 n, .int .i64 m] w fun e w' => e = .returned (.int .i64 (room n m)) ∧ w = w' := by
  have hb := within_bd n 1000000 (by omega)
  go_enter Try.func95, Try.ntmps95
  go_wp2_with (refine (within_any _ _ _).mono ?_; rintro e w' ⟨rfl, rfl⟩)
  all_goals
    go_ret
    exact ⟨ret_int (by unfold room; omega), rfl⟩

set_option maxHeartbeats 400000 in
theorem rroom_any (n m : Int) (hn : m ≤ 9223372036854775807) (w : World) : Calls Try.prog 77 #[.int .i64 n, .int .i64 m] w fun e w' => e = .returned (.int .i64 (room n m)) ∧ w = w' := by
  go_enter Try.func77, Try.ntmps77
  go_wp2_with fail
  all_goals
    go_ret
    exact ⟨ret_int (by unfold room within; omega), rfl⟩
end Go.Proofs.Ytfgnjpdlchimpaa
namespace Go.Proofs.Ytfgnjpdlchimpaa
open Go.RowKit
set_option linter.unusedSimpArgs false
set_option linter.unusedVariables false

set_option maxHeartbeats 400000 in
set_option maxRecDepth 100000 in
theorem through_two (b r1 r2 : Int) (g f1 f2 : Nat) (c1 c2 : Array Value) (w : World)
    (hg : w.heap[g]? = some (.cells #[.func (.func f1) #[] c1, .func (.func f2) #[] c2] 98 (0, 0)))
    (hc1 : ∀ args w, (callFunc f1 args).run Try.prog w = .ok (.enter f1 args) w) (hc2 : ∀ args w, (callFunc f2 args).run Try.prog w = .ok (.enter f2 args) w)
    (h1 : Calls Try.prog f1 (#[.int .i64 b] ++ c1) w fun e w' => e = .returned (.int .i64 r1) ∧ w = w')
    (h2 : Calls Try.prog f2 (#[.int .i64 r1] ++ c2) w fun e w' => e = .returned (.int .i64 r2) ∧ w = w') :
    Calls Try.prog 72 #[.int .i64 b, .slice (some ⟨g, 0, none⟩) 2 2] w fun e w' => e = .returned (.int .i64 r2) ∧ w = w' := by
  have g0 : w.cell? ⟨g, 0, none⟩ = some (.func (.func f1) #[] c1) := cell_of_row w g 0 _ _ _ hg
  have g1 : w.cell? ⟨g, 1, none⟩ = some (.func (.func f2) #[] c2) := cell_of_row w g 1 _ _ _ hg
  have H1 := Lib.hid h1
  have H2 := Lib.hid h2
  clear h1 h2 hg
  go_enter Try.func72, Try.ntmps72
  go_wp2_with fail
  go_loop [0, 9] (fun v i => (v = .int .i64 b ∧ i = .int .i64 (0 : Nat)) ∨ (v = .int .i64 r1 ∧ i = .int .i64 (1 : Nat)) ∨ (v = .int .i64 r2 ∧ i = .int .i64 (2 : Nat))) (fun _ i => 2 - (intOf i).toNat)
  case atStart => exact .inl ⟨rfl, rfl⟩
  case round =>
    rcases hrel with ⟨rfl, rfl⟩ | ⟨rfl, rfl⟩ | ⟨rfl, rfl⟩
    · go_wp2_with (refine (H1.out).mono ?_; rintro e w' ⟨rfl, rfl⟩)
      go_round
      case rel => exact .inr (.inl ⟨rfl, rfl⟩)
      case measure => simp [intOf]
    · go_wp2_with (refine (H2.out).mono ?_; rintro e w' ⟨rfl, rfl⟩)
      go_round
      case rel => exact .inr (.inr ⟨rfl, rfl⟩)
      case measure => simp [intOf]
    · go_wp2_with fail
      go_ret
      exact ⟨rfl, rfl⟩

def moreS (b n : Int) : Int := min (max b 0 + n) 9223372036854775807

set_option maxHeartbeats 400000 in
set_option maxRecDepth 100000 in
theorem more_any (b n : Int) (hb : b ≤ 9223372036854775807) (h0 : 0 ≤ n) (h1 : n ≤ 2305843009213693952) (w : World) :
    Calls Try.prog 74 #[.int .i64 b, .int .u64 n] w fun e w' => e = .returned (.int .i64 (moreS b n)) ∧ w = w' := by
  go_enter Try.func74, Try.ntmps74
  go_wp2_with fail
  all_goals
    go_ret
    exact ⟨ret_int (by unfold moreS; omega), rfl⟩

set_option maxHeartbeats 400000 in
set_option maxRecDepth 100000 in
theorem cut_any (b burst out : Int) (ho : out ≤ 9223372036854775807) (w : World) :
    Calls Try.prog 76 #[.int .i64 b, .int .i64 burst, .int .i64 out] w fun e w' => e = .returned (.int .i64 (cut b burst out)) ∧ w = w' := by
  go_enter Try.func76, Try.ntmps76
  go_wp2_with (first
    | (go_at_call 95; refine (room_any _ _ ho _).mono ?_; rintro e w' ⟨rfl, rfl⟩)
    | (go_at_call 71; refine (within_any _ _ _).mono ?_; rintro e w' ⟨rfl, rfl⟩))
  go_ret
  exact ⟨rfl, rfl⟩

set_option maxHeartbeats 400000 in
set_option maxRecDepth 100000 in
theorem rcut_any (b burst out : Int) (ho : out ≤ 9223372036854775807) (w : World) :
    Calls Try.prog 85 #[.int .i64 b, .int .i64 burst, .int .i64 out] w fun e w' => e = .returned (.int .i64 (cut b burst out)) ∧ w = w' := by
  go_enter Try.func85, Try.ntmps85
  go_wp2_with (refine (rroom_any _ _ ho _).mono ?_; rintro e w' ⟨rfl, rfl⟩)
  all_goals
    go_ret
    exact ⟨ret_int (by unfold cut within; omega), rfl⟩

set_option maxHeartbeats 400000 in
set_option maxRecDepth 100000 in
theorem credit1_any (b n : Int) (a : Addr) (w : World) (hb : b ≤ 9223372036854775807) (h0 : 0 ≤ n) (h1 : n ≤ 2305843009213693952) (ha : w.cell? a = some (.int .u64 n)) :
    Calls Try.prog 73 #[.int .i64 b, .pointer (some a)] w fun e w' => e = .returned (.int .i64 (moreS b n)) ∧ w = w' := by
  go_enter Try.func73, Try.ntmps73
  go_wp2_with (refine (more_any _ _ hb h0 h1 _).mono ?_; rintro e w' ⟨rfl, rfl⟩)
  go_ret
  exact ⟨rfl, rfl⟩
set_option maxHeartbeats 400000 in
set_option maxRecDepth 100000 in
theorem back1_any (b n : Int) (a : Addr) (w : World) (hb : b ≤ 9223372036854775807) (h0 : 0 ≤ n) (h1 : n ≤ 2305843009213693952) (ha : w.cell? a = some (.int .u64 n)) :
    Calls Try.prog 98 #[.int .i64 b, .pointer (some a)] w fun e w' => e = .returned (.int .i64 (moreS b n)) ∧ w = w' := by
  go_enter Try.func98, Try.ntmps98
  go_wp2_with (refine (more_any _ _ hb h0 h1 _).mono ?_; rintro e w' ⟨rfl, rfl⟩)
  go_ret
  exact ⟨rfl, rfl⟩
set_option maxHeartbeats 400000 in
set_option maxRecDepth 100000 in
theorem credit2_any (b burst out : Int) (a c : Addr) (w : World) (ho : out ≤ 9223372036854775807) (ha : w.cell? a = some (.int .i64 burst)) (hc : w.cell? c = some (.int .i64 out)) :
    Calls Try.prog 75 #[.int .i64 b, .pointer (some a), .pointer (some c)] w fun e w' => e = .returned (.int .i64 (cut b burst out)) ∧ w = w' := by
  go_enter Try.func75, Try.ntmps75
  go_wp2_with (refine (cut_any _ _ _ ho _).mono ?_; rintro e w' ⟨rfl, rfl⟩)
  go_ret
  exact ⟨rfl, rfl⟩
set_option maxHeartbeats 400000 in
set_option maxRecDepth 100000 in
theorem back2_any (b burst out : Int) (a c : Addr) (w : World) (ho : out ≤ 9223372036854775807) (ha : w.cell? a = some (.int .i64 burst)) (hc : w.cell? c = some (.int .i64 out)) :
    Calls Try.prog 99 #[.int .i64 b, .pointer (some a), .pointer (some c)] w fun e w' => e = .returned (.int .i64 (cut b burst out)) ∧ w = w' := by
  go_enter Try.func99, Try.ntmps99
  go_wp2_with (refine (cut_any _ _ _ ho _).mono ?_; rintro e w' ⟨rfl, rfl⟩)
  go_ret
  exact ⟨rfl, rfl⟩

def creditS (b rate burst out ticks : Int) : Int := cut (max b 0 + within rate 1000000 * within ticks 1099511627776) burst out
def backS (b burst out size : Int) : Int := cut (max b 0 + 1000 * within size 1000000) burst out

set_option maxRecDepth 100000 in
theorem prod_bd (rate ticks : Int) : 0 ≤ within rate 1000000 * within ticks 1099511627776 ∧ within rate 1000000 * within ticks 1099511627776 ≤ 1099511627776000000 := by
  have h1 := within_bd rate 1000000 (by omega)
  have h2 := within_bd ticks 1099511627776 (by omega)
  exact ⟨Int.mul_nonneg h1.1 h2.1, Int.le_trans (Int.mul_le_mul h1.2 h2.2 h2.1 (by omega)) (by omega)⟩
set_option maxRecDepth 100000 in
theorem cut_more (b n burst out : Int) (h0 : 0 ≤ n) : cut (moreS b n) burst out = cut (max b 0 + n) burst out := by
  have := room_bd burst out
  unfold cut within moreS; omega

set_option maxHeartbeats 1000000 in
set_option maxRecDepth 100000 in
theorem credit_any (b rate burst out ticks : Int) (hb : b ≤ 9223372036854775807) (ho : out ≤ 9223372036854775807) (w : World) : Calls Try.prog 39 #[.int .i64 b, .int .i64 rate, .int .i64 burst, .int .i64 out, .int .i64 ticks] w fun e w' => e = .returned (.int .i64 (creditS b rate burst out ticks)) ∧ Below w.heap.size w w' := by
  have h1 := within_bd rate 1000000 (by omega)
  have h2 := within_bd ticks 1099511627776 (by omega)
  have h3 := prod_bd rate ticks
  have h4 : IntKind.u64.wrap (within rate 1000000 * within ticks 1099511627776) = within rate 1000000 * within ticks 1099511627776 := IntWalk.u64_in _ (by omega)
  have hfin : creditS b rate burst out ticks = cut (moreS b (within rate 1000000 * within ticks 1099511627776)) burst out := (cut_more _ _ _ _ h3.1).symm
  have Hfin := Lib.hid hfin
  clear hfin
  go_enter Try.func39, Try.ntmps39
  go_wp2_with ( (go_at_call 71; refine (within_any _ _ _).mono ?_; rintro e w' ⟨rfl, rfl⟩))
  clear h4
  refine (through_two b (moreS b (within rate 1000000 * within ticks 1099511627776)) (cut (moreS b (within rate 1000000 * within ticks 1099511627776)) burst out) (w.heap.size + 1 + 1 + 1) 73 75 #[.pointer (some ⟨w.heap.size + 1 + 1, 0, none⟩)] #[.pointer (some ⟨w.heap.size, 0, none⟩), .pointer (some ⟨w.heap.size + 1, 0, none⟩)] _ ?_ (fun _ _ => rfl) (fun _ _ => rfl) ?_ ?_).mono ?_
  · refine Eq.trans (congrArg (fun k => _root_.GetElem?.getElem? _ k) ?_) (heap_alloc_new _ _)
    simp
  · refine credit1_any _ _ _ _ hb h3.1 (by omega) ?_
    go_simp
  · refine credit2_any _ _ _ _ _ _ ho ?_ ?_
    · go_simp
    · go_simp
  · rintro e w' ⟨rfl, rfl⟩
    go_wp2
    go_ret
    exact ⟨ret_int Hfin.out.symm, ((((Below.refl _ _).alloc (Nat.le_refl _) _).alloc (by simp) _).alloc (by simp; omega) _).alloc (by simp; omega) _⟩
end Go.Proofs.Ytfgnjpdlchimpaa
namespace Go.Proofs.Ytfgnjpdlchimpaa
open Go.RowKit
set_option linter.unusedSimpArgs false
set_option linter.unusedVariables false

structure TnE where
  id : Int
  rate : Int
  burst : Int
  bkt : Int
  gone : Bool
deriving DecidableEq
def TnE.cells (e : TnE) : List Value := [.int .i64 e.id, .int .i64 e.rate, .int .i64 e.burst, .int .i64 e.bkt, .bool e.gone]
def TnE.ok (e : TnE) : Prop := (-9223372036854775808 ≤ e.id ∧ e.id ≤ 9223372036854775807) ∧ (-9223372036854775808 ≤ e.rate ∧ e.rate ≤ 9223372036854775807) ∧ (-9223372036854775808 ≤ e.burst ∧ e.burst ≤ 9223372036854775807) ∧ (-9223372036854775808 ≤ e.bkt ∧ e.bkt ≤ 9223372036854775807) ∧ True
structure TnIn (W : World) (a : Option Addr) (len cap b o : Nat) (E : Nat → TnE) : Prop where
  le : len ≤ cap
  max : cap ≤ maxLen
  at_ : 0 < len → a = some ⟨b, o, none⟩ ∧ b < W.heap.size
  cell : ∀ k, k < len → W.cell? ⟨b, o + k * 5, none⟩ = some (.int .i64 (E k).id) ∧ W.cell? ⟨b, o + k * 5 + 1, none⟩ = some (.int .i64 (E k).rate) ∧ W.cell? ⟨b, o + k * 5 + 2, none⟩ = some (.int .i64 (E k).burst) ∧ W.cell? ⟨b, o + k * 5 + 3, none⟩ = some (.int .i64 (E k).bkt) ∧ W.cell? ⟨b, o + k * 5 + 4, none⟩ = some (.bool (E k).gone)
  bd : ∀ k, k < len → (E k).ok
theorem TnIn.below {W W' : World} {a : Option Addr} {len cap b o : Nat} {E : Nat → TnE} (h : TnIn W a len cap b o E) (hB : Below W.heap.size W W') : TnIn W' a len cap b o E :=
  ⟨h.le, h.max, fun hk => ⟨(h.at_ hk).1, by have := (h.at_ hk).2; have := hB.size; omega⟩, fun k hk => by
    have hb := (h.at_ (by omega)).2
    obtain ⟨c0, c1, c2, c3, c4⟩ := h.cell k hk
    exact ⟨(hB.cell (p := ⟨b, _, none⟩) hb).trans c0, (hB.cell (p := ⟨b, _, none⟩) hb).trans c1, (hB.cell (p := ⟨b, _, none⟩) hb).trans c2, (hB.cell (p := ⟨b, _, none⟩) hb).trans c3, (hB.cell (p := ⟨b, _, none⟩) hb).trans c4⟩, h.bd⟩
theorem tn_cells (W : World) {a : Option Addr} {len cap : Nat} {xs : List Dt} (h : SliceFits Try.prog W 54 a len cap xs) : ∃ (b o : Nat) (E : Nat → TnE), TnIn W a len cap b o E := by
  have hc : Try.prog.cellsOf 54 = 5 := by kernel_rfl
  obtain ⟨b, o, h1, h2⟩ := h.spot (by rw [hc]; omega)
  have hex : ∀ k, ∃ q : TnE, k < len → (W.cell? ⟨b, o + k * 5, none⟩ = some (.int .i64 q.id) ∧ W.cell? ⟨b, o + k * 5 + 1, none⟩ = some (.int .i64 q.rate) ∧ W.cell? ⟨b, o + k * 5 + 2, none⟩ = some (.int .i64 q.burst) ∧ W.cell? ⟨b, o + k * 5 + 3, none⟩ = some (.int .i64 q.bkt) ∧ W.cell? ⟨b, o + k * 5 + 4, none⟩ = some (.bool q.gone)) ∧ q.ok := fun k => by
    by_cases hk : k < len
    · have hl := h.length
      have hx := List.getElem?_eq_getElem (l := xs) (i := k) (by omega)
      obtain ⟨l0, hxe, hl0, hf0⟩ := (h.each k _ hx).1.agg_inv Try.underlying54
      obtain ⟨y0_0, e0_0, f0_0⟩ := hf0 0 _ rfl
      obtain ⟨y0_1, e0_1, f0_1⟩ := hf0 1 _ rfl
      obtain ⟨y0_2, e0_2, f0_2⟩ := hf0 2 _ rfl
      obtain ⟨y0_3, e0_3, f0_3⟩ := hf0 3 _ rfl
      obtain ⟨y0_4, e0_4, f0_4⟩ := hf0 4 _ rfl
      obtain ⟨v0_0, rfl, gv0_0⟩ := f0_0.int_inv Try.underlying3
      obtain ⟨v0_1, rfl, gv0_1⟩ := f0_1.int_inv Try.underlying3
      obtain ⟨v0_2, rfl, gv0_2⟩ := f0_2.int_inv Try.underlying3
      obtain ⟨v0_3, rfl, gv0_3⟩ := f0_3.int_inv Try.underlying3
      obtain ⟨v0_4, rfl⟩ := f0_4.bool_inv Try.underlying4
      match l0, hl0 with
      | [z0_0, z0_1, z0_2, z0_3, z0_4], _ =>
        obtain rfl : z0_0 = _ := by simpa using e0_0
        obtain rfl : z0_1 = _ := by simpa using e0_1
        obtain rfl : z0_2 = _ := by simpa using e0_2
        obtain rfl : z0_3 = _ := by simpa using e0_3
        obtain rfl : z0_4 = _ := by simpa using e0_4
        have hcell := h2 k _ hx
        rw [hxe, hc] at hcell
        exact ⟨⟨v0_0, v0_1, v0_2, v0_3, v0_4⟩, fun _ => ⟨⟨hcell 0 _ rfl, by have := hcell 1 _ rfl; rwa [← Nat.add_assoc] at this, by have := hcell 2 _ rfl; rwa [← Nat.add_assoc] at this, by have := hcell 3 _ rfl; rwa [← Nat.add_assoc] at this, by have := hcell 4 _ rfl; rwa [← Nat.add_assoc] at this⟩, gv0_0, gv0_1, gv0_2, gv0_3, trivial⟩⟩
    · exact ⟨⟨0, 0, 0, 0, false⟩, fun h => absurd h hk⟩
  have hg := fun k => Classical.choose_spec (hex k)
  exact ⟨b, o, fun k => Classical.choose (hex k), h.le, h.max, h1, fun k hk => (hg k hk).1, fun k hk => (hg k hk).2⟩
def tnL (E : Nat → TnE) (n : Nat) : List Value := (List.range n).flatMap fun k => (E k).cells
theorem tnL_succ (E : Nat → TnE) (n : Nat) : tnL E (n + 1) = tnL E n ++ (E n).cells := by simp [tnL, List.range_succ, List.flatMap_append]
theorem tnL_len (E : Nat → TnE) : ∀ n : Nat, (tnL E n).length = n * 5
  | 0 => by simp [tnL]
  | n + 1 => by rw [tnL_succ, List.length_append, tnL_len E n]; simp [TnE.cells]; omega
theorem tnL_congr {E E' : Nat → TnE} : ∀ {n : Nat}, (∀ k, k < n → E k = E' k) → tnL E n = tnL E' n
  | 0, _ => rfl
  | n + 1, h => by rw [tnL_succ, tnL_succ, tnL_congr (fun k hk => h k (by omega)), h n (by omega)]
theorem tnL_at (E : Nat → TnE) : ∀ (n k j : Nat), k < n → j < 5 → (tnL E n)[k * 5 + j]? = (E k).cells[j]?
  | 0, _, _, h, _ => by omega
  | n + 1, k, j, h, hj => by
    have hl := tnL_len E n
    rw [tnL_succ]
    by_cases hk : k < n
    · rw [List.getElem?_append_left (by omega)]
      exact tnL_at E n k j hk hj
    · obtain rfl : k = n := by omega
      rw [List.getElem?_append_right (by omega), hl]
      congr 1
      omega
theorem tn_row {w : World} {v : Value} {ob : Option Nat} {E : Nat → TnE} {n : Nat} (h : Row w v ob 54 5 n (tnL E n)) (hE : ∀ k, k < n → (E k).ok) :
    ∃ a cap, v = .slice a n cap ∧ TnIn w a n cap (ob.getD 0) 0 E := by
  obtain ⟨a, cap, rfl, h1, h2, h3⟩ := h.shape
  refine ⟨a, cap, rfl, h1, h2, fun hk => ?_, fun k hk => ?_, hE⟩
  · obtain ⟨g, hg, _⟩ := h.cell 0 (by omega)
    subst hg
    exact ⟨h3, h.lt⟩
  · have hh : ∀ j, j < 5 → w.cell? ⟨ob.getD 0, 0 + k * 5 + j, none⟩ = (E k).cells[j]? := fun j hj => by
      obtain ⟨g, hg, hc, _⟩ := h.cell (k * 5 + j) (by omega)
      subst hg
      rw [Option.getD_some, Nat.zero_add, hc, tnL_at E n k j hk hj]
    exact ⟨hh 0 (by omega), hh 1 (by omega), hh 2 (by omega), hh 3 (by omega), hh 4 (by omega)⟩

def TnE.agg (e : TnE) : Value := .agg #[.int .i64 e.id, .int .i64 e.rate, .int .i64 e.burst, .int .i64 e.bkt, .bool e.gone]
def z0 : TnE := ⟨0, 0, 0, 0, false⟩
def gt (L : List TnE) (k : Nat) : TnE := (L[k]?).getD z0
theorem gt_lt {L : List TnE} {k : Nat} (h : k < L.length) : L[k]? = some (gt L k) := by unfold gt; rw [List.getElem?_eq_getElem h]; rfl
theorem gt_of {L : List TnE} {k : Nat} {x : TnE} (h : L[k]? = some x) : gt L k = x := by unfold gt; rw [h]; rfl
def listL (L : List TnE) : List Value := L.flatMap TnE.cells
theorem listL_append (a b : List TnE) : listL (a ++ b) = listL a ++ listL b := by simp [listL]
theorem listL_one (m : TnE) : listL [m] = m.cells := by simp [listL]
theorem listL_len : ∀ L : List TnE, (listL L).length = L.length * 5
  | [] => rfl
  | m :: l => by
    show (m.cells ++ listL l).length = _
    rw [List.length_append, listL_len l]
    simp [TnE.cells]
    omega
theorem tnL_gt : ∀ (L : List TnE), listL L = tnL (gt L) L.length := by
  intro L
  suffices h : ∀ n, n ≤ L.length → listL (L.take n) = tnL (gt L) n by
    have := h L.length (Nat.le_refl _)
    rwa [List.take_length] at this
  intro n
  induction n with
  | zero => intro _; rfl
  | succ n ih =>
    intro hn
    rw [tnL_succ, ← ih (by omega), List.take_add_one, gt_lt (by omega)]
    rw [listL_append]
    simp [listL]
/-- the list of tenants that a value stands for -/
def TV (W : World) (v : Value) (L : List TnE) : Prop := ∃ a b o cap, v = .slice a L.length cap ∧ TnIn W a L.length cap b o (gt L)
theorem TV.below {W W' : World} {v : Value} {L : List TnE} (h : TV W v L) (hB : Below W.heap.size W W') : TV W' v L := by
  obtain ⟨a, b, o, c, rfl, h⟩ := h
  exact ⟨a, b, o, c, rfl, h.below hB⟩
def okL (L : List TnE) : Prop := ∀ x ∈ L, x.ok
theorem okL_gt {L : List TnE} (h : okL L) (k : Nat) (hk : k < L.length) : (gt L k).ok := h _ (List.mem_of_getElem? (gt_lt hk))
theorem TV.ok {W : World} {v : Value} {L : List TnE} (h : TV W v L) : okL L := by
  obtain ⟨a, b, o, c, rfl, h⟩ := h
  intro x hx
  obtain ⟨k, hk, rfl⟩ := List.mem_iff_getElem.1 hx
  have := h.bd k hk
  rwa [gt_of (List.getElem?_eq_getElem hk)] at this
theorem tv_row {W : World} {v : Value} {ob : Option Nat} {L : List TnE} (h : Row W v ob 54 5 L.length (listL L)) (ho : okL L) : TV W v L := by
  rw [tnL_gt] at h
  obtain ⟨a, c, e, h2⟩ := tn_row h (okL_gt ho)
  exact ⟨a, _, 0, c, e, h2⟩
theorem tv_nil (W : World) : TV W (.slice none 0 0) [] := ⟨none, 0, 0, 0, rfl, Nat.le_refl _, Nat.zero_le _, fun h => absurd h (by simp), fun k hk => absurd hk (by simp), fun k hk => absurd hk (by simp)⟩
theorem tv_cells (W : World) {a : Option Addr} {len cap : Nat} {xs : List Dt} (h : SliceFits Try.prog W 54 a len cap xs) : ∃ L : List TnE, L.length = len ∧ TV W (.slice a len cap) L := by
  obtain ⟨b, o, E, hE⟩ := tn_cells W h
  refine ⟨(List.range len).map E, by simp, a, b, o, cap, by simp, ?_⟩
  have hg : ∀ k, k < len → gt ((List.range len).map E) k = E k := fun k hk => gt_of (by simp [hk])
  rw [show ((List.range len).map E).length = len by simp]
  exact ⟨hE.le, hE.max, hE.at_, fun k hk => by rw [hg k hk]; exact hE.cell k hk, fun k hk => by rw [hg k hk]; exact hE.bd k hk⟩

theorem stC_fr (b : Nat) : ∀ (l : List Value) (o : Nat) (w : World), Fr [b] w (w.setCells b o l)
  | [], _, w => Fr.refl _ _
  | v :: r, o, w => ((Fr.refl [b] w).setCell ⟨b, o, none⟩ (.inl (by simp)) v).trans (stC_fr b r (o + 1) _) (fun x hx => .inl hx)
theorem stC_pt {b : Nat} {t : TypeId} : ∀ (L : List Value) (o : Nat) {W : World} {cs : Array Value}, Blk W b cs t → o + L.length ≤ cs.size → ∃ cs', Blk (W.setCells b o L) b cs' t ∧ cs'.size = cs.size ∧ (∀ j, j < o → cs'[j]? = cs[j]?) ∧ (∀ i, i < L.length → cs'[o + i]? = L[i]?) ∧ ∀ j, o + L.length ≤ j → cs'[j]? = cs[j]?
  | [], o, W, cs, h, _ => ⟨cs, h, rfl, fun _ _ => rfl, fun i hi => absurd hi (Nat.not_lt_zero _), fun _ _ => rfl⟩
  | v :: r, o, W, cs, h, hl => by
    have hl' : o + (r.length + 1) ≤ cs.size := hl
    obtain ⟨cs', k1, k2, k3, k4, k5⟩ := stC_pt r (o + 1) (h.set o v) (by simp; omega)
    refine ⟨cs', k1, by simpa using k2, fun j hj => ?_, fun i hi => ?_, fun j hj => ?_⟩
    · rw [k3 j (by omega), Array.getElem?_setIfInBounds, if_neg (by omega)]
    · rcases Nat.eq_zero_or_pos i with rfl | hp
      · rw [Nat.add_zero, k3 o (by omega), Array.getElem?_setIfInBounds, if_pos rfl, if_pos (by omega)]
        rfl
      · obtain ⟨m, rfl⟩ : ∃ m, i = m + 1 := ⟨i - 1, by omega⟩
        have := k4 m (by simpa using hi)
        rw [show o + (m + 1) = o + 1 + m by omega, this]
        rfl
    · have hj' : o + (r.length + 1) ≤ j := hj
      rw [k5 j (by omega), Array.getElem?_setIfInBounds, if_neg (by omega)]
theorem stC_blk {W : World} {b : Nat} {cs : Array Value} {t : TypeId} (h : Blk W b cs t) (L : List Value) (hl : L.length = cs.size) : Blk (W.setCells b 0 L) b L.toArray t := by
  obtain ⟨cs', k1, k2, k3, k4, k5⟩ := stC_pt L 0 h (by omega)
  have : cs' = L.toArray := by
    apply Array.ext_getElem?
    intro i
    by_cases hi : i < L.length
    · have := k4 i hi
      rw [Nat.zero_add] at this
      rw [this]
      simp
    · rw [Array.getElem?_eq_none (by omega), Array.getElem?_eq_none (by simp; omega)]
  rw [this] at k1
  exact k1

def idB (n : Int) : Bool := decide (1 ≤ n) && decide (n ≤ 16)
def zeroB (x : TnE) : Bool := !x.gone || (decide (x.rate = 0) && decide (x.burst = 0) && decide (x.bkt = 0))
def fullB (x : TnE) : Bool := decide (0 ≤ x.bkt) && decide (x.bkt ≤ 1000000000)
def mayT (x : TnE) : Bool := idB x.id && mayB x.rate x.burst && fullB x && zeroB x
def chkF (last : Int) : List TnE → Bool
  | [] => true
  | x :: r => decide (last < x.id) && mayT x && chkF x.id r
def chk (L : List TnE) : Bool := chkF 0 L

set_option maxRecDepth 100000 in
set_option maxHeartbeats 2000000 in
theorem isId_any (n : Int) (w : World) : Calls Try.prog 88 #[.int .i64 n] w fun e w' => e = .returned (.bool (idB n)) ∧ w = w' := by
  go_enter Try.func88, Try.ntmps88
  go_wp2_with fail
  all_goals
    go_ret
    exact ⟨ret_bool (by unfold idB; simp; try omega), rfl⟩
set_option maxRecDepth 100000 in
set_option maxHeartbeats 2000000 in
theorem rid_any (n : Int) (w : World) : Calls Try.prog 63 #[.int .i64 n] w fun e w' => e = .returned (.bool (idB n)) ∧ w = w' := by
  go_enter Try.func63, Try.ntmps63
  go_wp2_with fail
  all_goals
    go_ret
    exact ⟨ret_bool (by unfold idB; simp; try omega), rfl⟩
set_option maxRecDepth 100000 in
set_option maxHeartbeats 2000000 in
theorem rmay16_any (n m : Int) (w : World) : Calls Try.prog 64 #[.int .i64 n, .int .i64 m] w fun e w' => e = .returned (.bool (mayB n m)) ∧ w = w' := by
  go_enter Try.func64, Try.ntmps64
  go_wp2_with fail
  all_goals
    go_ret
    exact ⟨ret_bool (by unfold mayB; first | (simp [*]; done) | (simp; omega)), rfl⟩

def TnE.arr (x : TnE) : Array Value := #[.int .i64 x.id, .int .i64 x.rate, .int .i64 x.burst, .int .i64 x.bkt, .bool x.gone]
set_option maxRecDepth 100000 in
set_option maxHeartbeats 2000000 in
theorem may1_any (x : TnE) (N : Nat) (w : World) (h : Blk w N x.arr 54) : Calls Try.prog 87 #[.pointer (some ⟨N, 0, none⟩)] w fun e w' => e = .returned (.bool (idB x.id)) ∧ w = w' := by
  have c0 : w.cell? ⟨N, 0, none⟩ = some (.int .i64 x.id) := cell_at h 0
  clear h
  go_enter Try.func87, Try.ntmps87
  go_wp2_with (refine (isId_any _ _).mono ?_; rintro e w' ⟨rfl, rfl⟩)
  go_ret
  exact ⟨rfl, rfl⟩
set_option maxRecDepth 100000 in
set_option maxHeartbeats 2000000 in
theorem may2_any (x : TnE) (N : Nat) (w : World) (h : Blk w N x.arr 54) : Calls Try.prog 89 #[.pointer (some ⟨N, 0, none⟩)] w fun e w' => e = .returned (.bool (mayB x.rate x.burst)) ∧ w = w' := by
  have c1 : w.cell? ⟨N, 1, none⟩ = some (.int .i64 x.rate) := cell_at h 1
  have c2 : w.cell? ⟨N, 2, none⟩ = some (.int .i64 x.burst) := cell_at h 2
  clear h
  go_enter Try.func89, Try.ntmps89
  go_wp2_with (refine (may_any _ _ _).mono ?_; rintro e w' ⟨rfl, rfl⟩)
  go_ret
  exact ⟨rfl, rfl⟩
set_option maxRecDepth 100000 in
set_option maxHeartbeats 2000000 in
theorem may3_any (x : TnE) (N : Nat) (w : World) (h : Blk w N x.arr 54) : Calls Try.prog 91 #[.pointer (some ⟨N, 0, none⟩)] w fun e w' => e = .returned (.bool (fullB x)) ∧ Below w.heap.size w w' := by
  have c3 : w.cell? ⟨N, 3, none⟩ = some (.int .i64 x.bkt) := cell_at h 3
  obtain ⟨bk, hbk⟩ : ∃ bk, bk = x.bkt := ⟨_, rfl⟩
  unfold fullB
  rw [← hbk] at c3 ⊢
  clear h hbk
  have hcs : bk < 0 ∨ (0 ≤ bk ∧ 1000000000 < bk) ∨ (0 ≤ bk ∧ bk ≤ 1000000000) := by omega
  rcases hcs with h1 | ⟨h1, h2⟩ | ⟨h1, h2⟩
  all_goals
    go_enter Try.func91, Try.ntmps91
    go_wp2_with fail
    go_ret
    refine ⟨ret_bool (by simp; try omega), ?_⟩
    first | exact Below.refl _ _ | exact (Below.refl _ _).drew
set_option maxRecDepth 100000 in
set_option maxHeartbeats 2000000 in
theorem may4_any (x : TnE) (N : Nat) (w : World) (h : Blk w N x.arr 54) : Calls Try.prog 92 #[.pointer (some ⟨N, 0, none⟩)] w fun e w' => e = .returned (.bool (zeroB x)) ∧ Below w.heap.size w w' := by
  have c1 : w.cell? ⟨N, 1, none⟩ = some (.int .i64 x.rate) := cell_at h 1
  have c2 : w.cell? ⟨N, 2, none⟩ = some (.int .i64 x.burst) := cell_at h 2
  have c3 : w.cell? ⟨N, 3, none⟩ = some (.int .i64 x.bkt) := cell_at h 3
  have c4 : w.cell? ⟨N, 4, none⟩ = some (.bool x.gone) := cell_at h 4
  unfold zeroB
  obtain ⟨id, rate, burst, bk, gone⟩ := x
  simp only at c1 c2 c3 c4 ⊢
  clear h
  have hcs : gone = false ∨ (gone = true ∧ rate ≠ 0) ∨ (gone = true ∧ rate = 0 ∧ burst ≠ 0) ∨ (gone = true ∧ rate = 0 ∧ burst = 0 ∧ bk ≠ 0) ∨ (gone = true ∧ rate = 0 ∧ burst = 0 ∧ bk = 0) := by cases gone <;> simp; omega
  rcases hcs with h1 | ⟨h1, h2⟩ | ⟨h1, h2, h3⟩ | ⟨h1, h2, h3, h4⟩ | ⟨h1, h2, h3, h4⟩
  all_goals
    try subst h1
    try subst h2
    try subst h3
    try subst h4
    go_enter Try.func92, Try.ntmps92
    go_wp2_with fail
    go_ret
    refine ⟨ret_bool (by simp [*]), ?_⟩
    first | exact Below.refl _ _ | exact (Below.refl _ _).drew
end Go.Proofs.Ytfgnjpdlchimpaa
namespace Go.Proofs.Ytfgnjpdlchimpaa
open Go.RowKit
set_option linter.unusedSimpArgs false
set_option linter.unusedVariables false

/-- a state -/
structure StE where
  term : Int
  stamp : Int
  next : Int
  ts : List TnE
  ls : List LeE
  ss : List SeE
  ds : List DkE
/-- the state that a value stands for -/
def SV (W : World) (v : Value) (s : StE) : Prop := ∃ vt vl vs vd, v = .agg #[.int .i64 s.term, .int .i64 s.stamp, .int .i64 s.next, vt, vl, vs, vd] ∧ TV W vt s.ts ∧ LeV W vl s.ls ∧ SeV W vs s.ss ∧ DkV W vd s.ds
theorem SV.below {W W' : World} {v : Value} {s : StE} (h : SV W v s) (hB : Below W.heap.size W W') : SV W' v s := by
  obtain ⟨vt, vl, vs, vd, e, h1, h2, h3, h4⟩ := h
  exact ⟨vt, vl, vs, vd, e, h1.below hB, h2.below hB, h3.below hB, h4.below hB⟩
theorem TV.sh {W : World} {v : Value} {L : List TnE} (h : TV W v L) : ∃ a n c, v = .slice a n c ∧ Hid (n = L.length) ∧ n ≤ c ∧ c ≤ 9223372036854775807 := by
  obtain ⟨a, b, o, c, rfl, h⟩ := h
  exact ⟨a, _, c, rfl, Lib.hid rfl, h.le, by have := h.max; unfold maxLen at this; exact this⟩
/-- sizes that the laws let by -/
def fewS (s : StE) : Prop := s.ts.length ≤ 200 ∧ s.ls.length ≤ 200 ∧ s.ss.length ≤ 200 ∧ s.ds.length ≤ 200
end Go.Proofs.Ytfgnjpdlchimpaa
namespace Go.Proofs.Ytfgnjpdlchimpaa
open Go.RowKit
set_option linter.unusedSimpArgs false
set_option linter.unusedVariables false

def preM (x : TnE) : Nat → Prop
  | 0 => True
  | 1 => idB x.id = true ∧ True
  | 2 => idB x.id = true ∧ mayB x.rate x.burst = true ∧ True
  | 3 => idB x.id = true ∧ mayB x.rate x.burst = true ∧ fullB x = true ∧ True
  | _ => idB x.id = true ∧ mayB x.rate x.burst = true ∧ fullB x = true ∧ zeroB x = true ∧ True
set_option maxRecDepth 100000 in
set_option maxHeartbeats 4000000 in
theorem mayT_any (x : TnE) (w : World) : Calls Try.prog 65 #[x.agg] w fun e w' => e = .returned (.bool (mayT x)) ∧ Below w.heap.size w w' := by
  obtain ⟨N, hN⟩ : ∃ N, N = w.heap.size := ⟨_, rfl⟩
  obtain ⟨W1, hW1⟩ : ∃ W1, W1 = (w.alloc (.cells #[.int .i64 x.id, .int .i64 x.rate, .int .i64 x.burst, .int .i64 x.bkt, .bool x.gone] 54)).alloc (.cells #[.func (.func 87) #[] #[.pointer (some ⟨N, 0, none⟩)], .func (.func 89) #[] #[.pointer (some ⟨N, 0, none⟩)], .func (.func 91) #[] #[.pointer (some ⟨N, 0, none⟩)], .func (.func 92) #[] #[.pointer (some ⟨N, 0, none⟩)]] 29) := ⟨_, rfl⟩
  have hB1 : Below w.heap.size w W1 := by rw [hW1]; exact ((Below.refl _ _).alloc (Nat.le_refl _) _).alloc (by simp) _
  have HK : Hid (Blk W1 N x.arr 54) := Lib.hid (by rw [hW1, hN]; exact (blk_new _ _ _).alloc _)
  have hf : Blk W1 (N + 1) #[.func (.func 87) #[] #[.pointer (some ⟨N, 0, none⟩)], .func (.func 89) #[] #[.pointer (some ⟨N, 0, none⟩)], .func (.func 91) #[] #[.pointer (some ⟨N, 0, none⟩)], .func (.func 92) #[] #[.pointer (some ⟨N, 0, none⟩)]] 29 := by
    have := blk_new (w.alloc (.cells #[.int .i64 x.id, .int .i64 x.rate, .int .i64 x.burst, .int .i64 x.bkt, .bool x.gone] 54)) #[.func (.func 87) #[] #[.pointer (some ⟨N, 0, none⟩)], .func (.func 89) #[] #[.pointer (some ⟨N, 0, none⟩)], .func (.func 91) #[] #[.pointer (some ⟨N, 0, none⟩)], .func (.func 92) #[] #[.pointer (some ⟨N, 0, none⟩)]] 29
    rw [World.size_alloc] at this
    rw [hW1, hN]
    rw [← hN]
    rw [← hN] at this
    exact this
  have HF := Lib.hid hf
  have HB1 := Lib.hid hB1
  clear hB1 hf
  unfold TnE.agg
  go_enter Try.func65, Try.ntmps65
  go_upto_region 2 with fail
  rw [← hN, ← hW1]
  clear hW1 hN
  go_loopw [11] (fun i wr => ∃ k : Nat, k ≤ 4 ∧ i = .int .i64 k ∧ preM x k ∧ Below W1.heap.size W1 wr) (fun i _ => 4 - (intOf i).toNat)
  case atStart => exact ⟨0, Nat.zero_le _, rfl, trivial, Below.refl _ _⟩
  case round =>
    obtain ⟨k, hk, rfl, hT, hB⟩ := hrel
    have HT := Lib.hid hT
    have HB := Lib.hid hB
    clear hT hB
    obtain rfl | rfl | rfl | rfl | rfl : k = 0 ∨ k = 1 ∨ k = 2 ∨ k = 3 ∨ k = 4 := by omega
    · have f0 : wr.cell? ⟨N + 1, 0, none⟩ = some (.func (.func 87) #[] #[.pointer (some ⟨N, 0, none⟩)]) := cell_at (HF.out.step HB.out) 0
      have MC := Lib.hid (may1_any x N wr (HK.out.step HB.out))
      obtain ⟨C, hC⟩ : ∃ C, C = idB x.id := ⟨_, rfl⟩
      rw [← hC] at MC
      have HC := Lib.hid hC
      clear hC
      cases C
      · go_wp2_with (go_at_call 87; refine Calls.mono MC.out ?_; rintro e w' ⟨rfl, rfl⟩)
        go_ret
        refine ⟨ret_bool (by unfold mayT; rw [← HC.out]; simp), HB1.out.trans (HB.out.mono HB1.out.size)⟩
      · go_wp2_with (go_at_call 87; refine Calls.mono MC.out ?_; rintro e w' ⟨rfl, rfl⟩)
        go_roundw
        case rel => exact ⟨1, by omega, rfl, ⟨HC.out.symm, trivial⟩, HB.out⟩
        case measure => simp [intOf]
    · have f0 : wr.cell? ⟨N + 1, 1, none⟩ = some (.func (.func 89) #[] #[.pointer (some ⟨N, 0, none⟩)]) := cell_at (HF.out.step HB.out) 1
      have MC := Lib.hid (may2_any x N wr (HK.out.step HB.out))
      obtain ⟨C, hC⟩ : ∃ C, C = mayB x.rate x.burst := ⟨_, rfl⟩
      rw [← hC] at MC
      have HC := Lib.hid hC
      clear hC
      cases C
      · go_wp2_with (go_at_call 89; refine Calls.mono MC.out ?_; rintro e w' ⟨rfl, rfl⟩)
        go_ret
        refine ⟨ret_bool (by unfold mayT; rw [HT.out.1, ← HC.out]; simp), HB1.out.trans (HB.out.mono HB1.out.size)⟩
      · go_wp2_with (go_at_call 89; refine Calls.mono MC.out ?_; rintro e w' ⟨rfl, rfl⟩)
        go_roundw
        case rel => exact ⟨2, by omega, rfl, ⟨HT.out.1, HC.out.symm, trivial⟩, HB.out⟩
        case measure => simp [intOf]
    · have f0 : wr.cell? ⟨N + 1, 2, none⟩ = some (.func (.func 91) #[] #[.pointer (some ⟨N, 0, none⟩)]) := cell_at (HF.out.step HB.out) 2
      have MC := Lib.hid (may3_any x N wr (HK.out.step HB.out))
      obtain ⟨C, hC⟩ : ∃ C, C = fullB x := ⟨_, rfl⟩
      rw [← hC] at MC
      have HC := Lib.hid hC
      clear hC
      cases C
      · go_wp2_with (go_at_call 91; refine Calls.mono MC.out ?_; rintro e w' ⟨rfl, hB2⟩)
        go_ret
        refine ⟨ret_bool (by unfold mayT; rw [HT.out.1, HT.out.2.1, ← HC.out]; simp), HB1.out.trans ((HB.out.trans (hB2.mono HB.out.size)).mono HB1.out.size)⟩
      · go_wp2_with (go_at_call 91; refine Calls.mono MC.out ?_; rintro e w' ⟨rfl, hB2⟩)
        go_roundw
        case rel => exact ⟨3, by omega, rfl, ⟨HT.out.1, HT.out.2.1, HC.out.symm, trivial⟩, HB.out.trans (hB2.mono HB.out.size)⟩
        case measure => simp [intOf]
    · have f0 : wr.cell? ⟨N + 1, 3, none⟩ = some (.func (.func 92) #[] #[.pointer (some ⟨N, 0, none⟩)]) := cell_at (HF.out.step HB.out) 3
      have MC := Lib.hid (may4_any x N wr (HK.out.step HB.out))
      obtain ⟨C, hC⟩ : ∃ C, C = zeroB x := ⟨_, rfl⟩
      rw [← hC] at MC
      have HC := Lib.hid hC
      clear hC
      cases C
      · go_wp2_with (go_at_call 92; refine Calls.mono MC.out ?_; rintro e w' ⟨rfl, hB2⟩)
        go_ret
        refine ⟨ret_bool (by unfold mayT; rw [HT.out.1, HT.out.2.1, HT.out.2.2.1, ← HC.out]; simp), HB1.out.trans ((HB.out.trans (hB2.mono HB.out.size)).mono HB1.out.size)⟩
      · go_wp2_with (go_at_call 92; refine Calls.mono MC.out ?_; rintro e w' ⟨rfl, hB2⟩)
        go_roundw
        case rel => exact ⟨4, by omega, rfl, ⟨HT.out.1, HT.out.2.1, HT.out.2.2.1, HC.out.symm, trivial⟩, HB.out.trans (hB2.mono HB.out.size)⟩
        case measure => simp [intOf]
    · go_wp2_with fail
      go_ret
      refine ⟨ret_bool (by unfold mayT; rw [HT.out.1, HT.out.2.1, HT.out.2.2.1, HT.out.2.2.2.1]; rfl), HB1.out.trans (HB.out.mono HB1.out.size)⟩
end Go.Proofs.Ytfgnjpdlchimpaa
namespace Go.Proofs.Ytfgnjpdlchimpaa
open Go.RowKit
set_option linter.unusedSimpArgs false
set_option linter.unusedVariables false

theorem gt_zero (y : TnE) (r : List TnE) : gt (y :: r) 0 = y := rfl
theorem gt_succ (y : TnE) (r : List TnE) (j : Nat) : gt (y :: r) (j + 1) = gt r j := rfl
def plc (key : Int) : List TnE → Nat
  | [] => 0
  | y :: r => if y.id < key then plc key r + 1 else 0
def isAt (key : Int) : List TnE → Bool
  | [] => false
  | y :: r => if y.id < key then isAt key r else decide (y.id = key)
theorem plc_le (key : Int) : ∀ L, plc key L ≤ L.length
  | [] => Nat.le_refl _
  | y :: r => by
    have := plc_le key r
    unfold plc
    split
    · simp; exact this
    · exact Nat.zero_le _
theorem plc_lt (key : Int) : ∀ (L : List TnE) (j : Nat), j < plc key L → (gt L j).id < key
  | [], j, h => absurd h (by simp [plc])
  | y :: r, j, h => by
    unfold plc at h
    by_cases hy : y.id < key
    · rw [if_pos hy] at h
      cases j with
      | zero => exact hy
      | succ j => rw [gt_succ]; exact plc_lt key r j (by omega)
    · rw [if_neg hy] at h
      omega
theorem plc_at (key : Int) : ∀ (L : List TnE), plc key L < L.length → ¬ (gt L (plc key L)).id < key
  | [], h => absurd h (by simp)
  | y :: r, h => by
    unfold plc at h ⊢
    by_cases hy : y.id < key
    · rw [if_pos hy] at h ⊢
      rw [gt_succ]
      exact plc_at key r (by simpa using h)
    · rw [if_neg hy]
      exact hy
theorem isAt_eq (key : Int) : ∀ (L : List TnE), isAt key L = (decide (plc key L < L.length) && decide ((gt L (plc key L)).id = key))
  | [] => by simp [isAt]
  | y :: r => by
    unfold isAt plc
    by_cases hy : y.id < key
    · rw [if_pos hy, if_pos hy, isAt_eq key r, gt_succ]
      simp
    · rw [if_neg hy, if_neg hy, gt_zero]
      simp
def layL (x : TnE) (L : List TnE) : List TnE := L.take (plc x.id L) ++ x :: L.drop (plc x.id L + if isAt x.id L then 1 else 0)
def layR (x : TnE) : List TnE → List TnE
  | [] => [x]
  | y :: r => if y.id < x.id then y :: layR x r else if y.id = x.id then x :: r else x :: y :: r
theorem layL_eq (x : TnE) : ∀ L, layL x L = layR x L
  | [] => rfl
  | y :: r => by
    have ih := layL_eq x r
    unfold layL at ih ⊢
    unfold layR plc isAt
    by_cases hy : y.id < x.id
    · simp only [hy, if_true, List.take_succ_cons, List.cons_append, ← ih]
      rw [show plc x.id r + 1 + (if isAt x.id r = true then 1 else 0) = (plc x.id r + if isAt x.id r = true then 1 else 0) + 1 by omega, List.drop_succ_cons]
    · simp only [hy, if_false, List.take_zero, List.nil_append]
      by_cases he : y.id = x.id
      · simp [he]
      · simp [he]
def fnd (key : Int) (L : List TnE) : Option TnE := L.find? fun y => decide (y.id = key)
theorem chkF_gt : ∀ (L : List TnE) (last : Int), chkF last L = true → ∀ z ∈ L, last < z.id
  | [], _, _, z, h => absurd h (by simp)
  | y :: r, last, h, z, hz => by
    unfold chkF at h
    simp only [Bool.and_eq_true, decide_eq_true_eq] at h
    rcases List.mem_cons.1 hz with rfl | hz
    · exact h.1.1
    · have := chkF_gt r y.id h.2 z hz
      omega
theorem fnd_at (key : Int) : ∀ (L : List TnE) (last : Int), chkF last L = true → fnd key L = if isAt key L then some (gt L (plc key L)) else none
  | [], _, _ => rfl
  | y :: r, last, h => by
    unfold chkF at h
    simp only [Bool.and_eq_true, decide_eq_true_eq] at h
    unfold fnd isAt plc
    by_cases hy : y.id < key
    · have ih := fnd_at key r y.id h.2
      unfold fnd at ih
      rw [if_pos hy, if_pos hy, List.find?_cons_of_neg (by simp; omega), ih, gt_succ]
    · rw [if_neg hy, if_neg hy]
      by_cases he : y.id = key
      · rw [List.find?_cons_of_pos (by simp [he])]
        simp [he, gt_zero]
      · rw [List.find?_cons_of_neg (by simp [he])]
        simp only [he, decide_false]
        refine List.find?_eq_none.2 fun z hz => ?_
        have := chkF_gt r y.id h.2 z hz
        simp
        omega
def withF (x : TnE) : Bool → List TnE → List TnE
  | d, [] => if d then [] else [x]
  | d, y :: r => if y.id = x.id then withF x d r else if x.id < y.id ∧ d = false then x :: y :: withF x true r else y :: withF x d r
theorem withF_true (x : TnE) : ∀ (L : List TnE) (last : Int), chkF last L = true → x.id ≤ last → withF x true L = L
  | [], _, _, _ => rfl
  | y :: r, last, h, hx => by
    unfold chkF at h
    simp only [Bool.and_eq_true, decide_eq_true_eq] at h
    unfold withF
    rw [if_neg (by omega), if_neg (by simp), withF_true x r y.id h.2 (by omega)]
theorem withF_lay (x : TnE) : ∀ (L : List TnE) (last : Int), chkF last L = true → withF x false L = layR x L
  | [], _, _ => rfl
  | y :: r, last, h => by
    unfold chkF at h
    simp only [Bool.and_eq_true, decide_eq_true_eq] at h
    unfold withF layR
    by_cases hy : y.id < x.id
    · rw [if_neg (by omega), if_neg (by omega), if_pos hy, withF_lay x r y.id h.2]
    · rw [if_neg hy]
      by_cases he : y.id = x.id
      · rw [if_pos he, if_pos he]
        cases r with
        | nil => rfl
        | cons z q =>
          have h2 := h.2
          unfold chkF at h2
          simp only [Bool.and_eq_true, decide_eq_true_eq] at h2
          unfold withF
          rw [if_neg (by omega), if_pos (by constructor; omega; rfl), withF_true x q z.id h2.2 (by omega)]
      · rw [if_neg he, if_neg he, if_pos (by constructor; omega; rfl), withF_true x r y.id h.2 (by omega)]
theorem chk_lay (x : TnE) : ∀ (L : List TnE) (last : Int), chkF last L = true → chkF last (layR x L) = (decide (last < x.id) && mayT x)
  | [], last, _ => by simp [layR, chkF]
  | y :: r, last, h => by
    unfold chkF at h
    simp only [Bool.and_eq_true, decide_eq_true_eq] at h
    obtain ⟨⟨h1, h2⟩, h3⟩ := h
    unfold layR
    by_cases hy : y.id < x.id
    · rw [if_pos hy]
      unfold chkF
      rw [chk_lay x r y.id h3, h2]
      simp [hy, h1]
      intro _; omega
    · rw [if_neg hy]
      by_cases he : y.id = x.id
      · rw [if_pos he]
        unfold chkF
        rw [← he, h3]
        simp
      · rw [if_neg he]
        unfold chkF
        unfold chkF
        rw [h2, h3]
        simp [show x.id < y.id by omega]
end Go.Proofs.Ytfgnjpdlchimpaa
namespace Go.Proofs.Ytfgnjpdlchimpaa
open Go.RowKit
set_option linter.unusedSimpArgs false
set_option linter.unusedVariables false

set_option maxRecDepth 100000 in
set_option maxHeartbeats 2000000 in
theorem number_any (x : TnE) (w : World) : Calls Try.prog 97 #[x.agg] w fun e w' => e = .returned (.int .i64 x.id) ∧ Below w.heap.size w w' := by
  obtain ⟨N, hN⟩ : ∃ N, N = w.heap.size := ⟨_, rfl⟩
  obtain ⟨W1, hW1⟩ : ∃ W1, W1 = w.alloc (.cells #[.int .i64 x.id, .int .i64 x.rate, .int .i64 x.burst, .int .i64 x.bkt, .bool x.gone] 54) := ⟨_, rfl⟩
  have hB1 : Below w.heap.size w W1 := by rw [hW1]; exact (Below.refl _ _).alloc (Nat.le_refl _) _
  have hk : Blk W1 N #[.int .i64 x.id, .int .i64 x.rate, .int .i64 x.burst, .int .i64 x.bkt, .bool x.gone] 54 := by rw [hW1, hN]; exact blk_new _ _ _
  have c0 : W1.cell? ⟨N, 0, none⟩ = some (.int .i64 x.id) := cell_at hk 0
  have HB1 := Lib.hid hB1
  clear hB1 hk
  unfold TnE.agg
  go_enter Try.func97, Try.ntmps97
  go_upto_region 1 with fail
  rw [← hN, ← hW1]
  clear hN hW1
  go_wp2_with fail
  go_ret
  exact ⟨rfl, HB1.out⟩
set_option maxRecDepth 100000 in
set_option maxHeartbeats 4000000 in
theorem place_any (v : Value) (L : List TnE) (key : Int) (w : World) (h : TV w v L) : Calls Try.prog 96 #[v, .int .i64 key, .func (.func 97) #[] #[]] w fun e w' => e = .returned (.tuple #[.int .i64 (plc key L : Nat), .bool (isAt key L)]) ∧ Below w.heap.size w w' := by
  obtain ⟨p, hp⟩ : ∃ p, p = plc key L := ⟨_, rfl⟩
  have hp1 : p ≤ L.length := by rw [hp]; exact plc_le _ _
  have HP2 : Hid (∀ j, j < p → (gt L j).id < key) := Lib.hid (by rw [hp]; exact plc_lt _ _)
  have HP3 : Hid (p < L.length → ¬ (gt L p).id < key) := Lib.hid (by rw [hp]; exact plc_at _ _)
  have HP4 : Hid (isAt key L = (decide (p < L.length) && decide ((gt L p).id = key))) := Lib.hid (by rw [hp]; exact isAt_eq _ _)
  rw [← hp]
  clear hp
  obtain ⟨a, b, o, cap, rfl, h⟩ := h
  have m1 := h.le
  have m2 := h.max
  unfold maxLen at m2
  have H1 := Lib.hid h
  clear h
  obtain ⟨n, hn⟩ : ∃ n, n = L.length := ⟨_, rfl⟩
  have HN := Lib.hid hn
  rw [← hn] at m1 H1 ⊢
  clear hn
  rw [← HN.out] at HP3 HP4 hp1
  go_enter Try.func96, Try.ntmps96
  go_wp2_with fail
  go_loopw [8] (fun i wr => ∃ k : Nat, k ≤ p ∧ i = .int .i64 k ∧ Below w.heap.size w wr) (fun i _ => n - (intOf i).toNat)
  case atStart => exact ⟨0, Nat.zero_le _, rfl, Below.refl _ _⟩
  case round =>
    obtain ⟨k, hk, rfl, hB⟩ := hrel
    have HB := Lib.hid hB
    clear hB
    by_cases hlt : k < n
    · have hs1 := H1.out.below HB.out
      obtain ⟨e0, e1⟩ := hs1.at_ (by omega)
      subst e0
      obtain ⟨c0, c1, c2, c3, c4⟩ := hs1.cell k hlt
      have hlk := HP2.out k
      have hpk := HP3.out
      obtain ⟨x, hx⟩ : ∃ x, x = gt L k := ⟨_, rfl⟩
      rw [← hx] at c0 c1 c2 c3 c4 hlk
      have HNU := Lib.hid (fun W => number_any x W)
      unfold TnE.agg at HNU
      clear hs1
      by_cases h1 : x.id < key
      · have hkp : k < p := by
          rcases Nat.lt_or_ge k p with h | h
          · exact h
          · obtain rfl : k = p := by omega
            rw [← hx] at hpk
            exact absurd h1 (by have := hpk hlt; omega)
        clear hx hlk hpk
        go_wp2_with (refine Calls.mono (HNU.out _) ?_; rintro e W3 ⟨rfl, hB3⟩; have HB3 := Lib.hid (HB.out.trans (hB3.mono HB.out.size)); clear hB3)
        go_roundw
        case rel => exact ⟨k + 1, by omega, by go_num, HB3.out⟩
        case measure => first | (simp [intOf]; done) | (simp [intOf]; omega)
      · obtain rfl : k = p := by
          rcases Nat.lt_or_ge k p with h | h
          · exact absurd (hlk h) h1
          · omega
        rw [← hx] at HP4
        have HS1 : Hid (isAt key L = decide (x.id = key)) := Lib.hid (by rw [HP4.out]; simp [hlt])
        clear hx hlk hpk HP4
        go_wp2_with (refine Calls.mono (HNU.out _) ?_; rintro e W3 ⟨rfl, hB3⟩; have HB3 := Lib.hid (HB.out.trans (hB3.mono HB.out.size)); have hb3 : b < W3.heap.size := Nat.lt_of_lt_of_le e1 hB3.size; have d0 : W3.cell? ⟨b, o + k * 5, none⟩ = some (.int .i64 x.id) := (hB3.cell (p := ⟨b, _, none⟩) e1).trans c0; have d1 : W3.cell? ⟨b, o + k * 5 + 1, none⟩ = some (.int .i64 x.rate) := (hB3.cell (p := ⟨b, _, none⟩) e1).trans c1; have d2 : W3.cell? ⟨b, o + k * 5 + 2, none⟩ = some (.int .i64 x.burst) := (hB3.cell (p := ⟨b, _, none⟩) e1).trans c2; have d3 : W3.cell? ⟨b, o + k * 5 + 3, none⟩ = some (.int .i64 x.bkt) := (hB3.cell (p := ⟨b, _, none⟩) e1).trans c3; have d4 : W3.cell? ⟨b, o + k * 5 + 4, none⟩ = some (.bool x.gone) := (hB3.cell (p := ⟨b, _, none⟩) e1).trans c4; clear hB3 c0 c1 c2 c3 c4)
        go_wp2_with (refine Calls.mono (HNU.out _) ?_; rintro e W4 ⟨rfl, hB4⟩; have HB4 := Lib.hid (HB3.out.trans (hB4.mono HB3.out.size)); clear hB4)
        exact bodyPost_ret (v := .tuple #[.int .i64 (k : Nat), .bool (decide (x.id = key))]) (by simp [results, Try.results96, go_sem]; rfl) rfl ⟨by rw [HS1.out], HB4.out⟩
    · obtain rfl : k = n := by omega
      obtain rfl : k = p := by omega
      have HS1 : Hid (isAt key L = false) := Lib.hid (by rw [HP4.out]; simp)
      clear HP4 HP3 HP2
      go_wp2_with fail
      exact bodyPost_ret (v := .tuple #[.int .i64 (k : Nat), .bool false]) (by simp [results, Try.results96, go_sem]) rfl ⟨by rw [HS1.out], HB.out⟩
end Go.Proofs.Ytfgnjpdlchimpaa
namespace Go.Proofs.Ytfgnjpdlchimpaa
open Go.RowKit
set_option linter.unusedSimpArgs false
set_option linter.unusedVariables false

set_option maxRecDepth 100000 in
set_option maxHeartbeats 4000000 in
theorem pfind_any (v : Value) (L : List TnE) (key : Int) (w : World) (h : TV w v L) : Calls Try.prog 79 #[v, .int .i64 key] w fun e w' => e = .returned (.tuple #[((if isAt key L then some (gt L (plc key L)) else none).getD z0).agg, .bool (isAt key L)]) ∧ Below w.heap.size w w' := by
  obtain ⟨N, hN⟩ : ∃ N, N = w.heap.size := ⟨_, rfl⟩
  obtain ⟨W1, hW1⟩ : ∃ W1, W1 = w.alloc (.cells #[.int .i64 0, .int .i64 0, .int .i64 0, .int .i64 0, .bool false] 54) := ⟨_, rfl⟩
  have hB1 : Below w.heap.size w W1 := by rw [hW1]; exact (Below.refl _ _).alloc (Nat.le_refl _) _
  have HK1 : Hid (Blk W1 N #[.int .i64 0, .int .i64 0, .int .i64 0, .int .i64 0, .bool false] 54) := Lib.hid (by rw [hW1, hN]; exact blk_new _ _ _)
  have HPL := Lib.hid (place_any v L key W1 (h.below hB1))
  have HB1 := Lib.hid hB1
  have HNB : Hid (w.heap.size ≤ N) := Lib.hid (by rw [hN]; exact Nat.le_refl _)
  obtain ⟨p, hp⟩ : ∃ p, p = plc key L := ⟨_, rfl⟩
  have HA := Lib.hid (isAt_eq key L)
  rw [← hp] at HPL HA ⊢
  clear hp hB1
  obtain ⟨a, b, o, cap, rfl, h⟩ := h
  have m1 := h.le
  have m2 := h.max
  unfold maxLen at m2
  have H1 := Lib.hid h
  clear h
  obtain ⟨n, hn⟩ : ∃ n, n = L.length := ⟨_, rfl⟩
  have HN := Lib.hid hn
  rw [← hn] at m1 H1 ⊢
  clear hn
  rw [← HN.out] at HA HPL
  obtain ⟨C, hC⟩ : ∃ C, C = isAt key L := ⟨_, rfl⟩
  rw [← hC] at HA HPL ⊢
  obtain ⟨R, hR⟩ : ∃ R, R = ((if C then some (gt L p) else none).getD z0).agg := ⟨_, rfl⟩
  rw [← hR]
  have HR := Lib.hid hR
  have HC := Lib.hid hC
  clear hC hR
  go_enter Try.func79, Try.ntmps79
  go_upto_region 1 with fail
  rw [← hN, ← hW1]
  clear hN hW1
  go_wp2_with fail
  go_at_call 96
  refine Calls.mono HPL.out ?_
  rintro e W2 ⟨rfl, hB2⟩
  have HK2 := Lib.hid (HK1.out.step hB2)
  have HB2 := Lib.hid (HB1.out.trans (hB2.mono HB1.out.size))
  clear HK1 HB1 hB2
  have z2 : ∀ j, W2.frozen? ⟨N, j, none⟩ = false := fun j => free_at HK2.out j
  have l2 : N < W2.heap.size := HK2.out.lt
  cases C
  · have q0 : W2.cell? ⟨N, 0, none⟩ = some (.int .i64 0) := cell_at HK2.out 0
    have q1 : W2.cell? ⟨N, 1, none⟩ = some (.int .i64 0) := cell_at HK2.out 1
    have q2 : W2.cell? ⟨N, 2, none⟩ = some (.int .i64 0) := cell_at HK2.out 2
    have q3 : W2.cell? ⟨N, 3, none⟩ = some (.int .i64 0) := cell_at HK2.out 3
    have q4 : W2.cell? ⟨N, 4, none⟩ = some (.bool false) := cell_at HK2.out 4
    go_wp2_with fail
    obtain ⟨LS, hLS⟩ : ∃ L : List Value, L = [.int .i64 0, .int .i64 0, .int .i64 0, .int .i64 0, .bool false] := ⟨_, rfl⟩
    obtain ⟨WS, hWS⟩ : ∃ WS, WS = W2.setCells (N) 0 LS := ⟨_, rfl⟩
    have hchS := hWS
    rw [hLS] at hchS
    simp only [World.setCells, Nat.zero_add, Nat.reduceAdd] at hchS
    rw [← hchS]
    clear hchS
    have hkS := stC_blk HK2.out LS (by rw [hLS]; rfl)
    have hfrS := stC_fr (N) LS 0 W2
    rw [← hWS] at hkS hfrS
    rw [hLS] at hkS
    have r0 : WS.cell? ⟨N, 0, none⟩ = some (.int .i64 0) := cell_at hkS 0
    have r1 : WS.cell? ⟨N, 1, none⟩ = some (.int .i64 0) := cell_at hkS 1
    have r2 : WS.cell? ⟨N, 2, none⟩ = some (.int .i64 0) := cell_at hkS 2
    have r3 : WS.cell? ⟨N, 3, none⟩ = some (.int .i64 0) := cell_at hkS 3
    have r4 : WS.cell? ⟨N, 4, none⟩ = some (.bool false) := cell_at hkS 4
    clear hWS hLS
    have hBS := HB2.out.trans (hfrS.below HB2.out.size (by have := HNB.out; simp; omega))
    exact bodyPost_ret (v := .tuple #[.agg #[.int .i64 0, .int .i64 0, .int .i64 0, .int .i64 0, .bool false], .bool false]) (by simp [results, Try.results79, go_sem, r0, r1, r2, r3, r4]) rfl ⟨by rw [HR.out]; rfl, hBS⟩
  · have hpn : p < n := by have := HA.out; simp at this; exact this.1
    have hs1 := H1.out.below HB2.out
    obtain ⟨e0, e1⟩ := hs1.at_ (by omega)
    subst e0
    obtain ⟨c0, c1, c2, c3, c4⟩ := hs1.cell p hpn
    obtain ⟨x, hx⟩ : ∃ x, x = gt L p := ⟨_, rfl⟩
    rw [← hx] at c0 c1 c2 c3 c4
    have HX := Lib.hid hx
    clear hs1 hx
    have q0 : W2.cell? ⟨N, 0, none⟩ = some (.int .i64 0) := cell_at HK2.out 0
    have q1 : W2.cell? ⟨N, 1, none⟩ = some (.int .i64 0) := cell_at HK2.out 1
    have q2 : W2.cell? ⟨N, 2, none⟩ = some (.int .i64 0) := cell_at HK2.out 2
    have q3 : W2.cell? ⟨N, 3, none⟩ = some (.int .i64 0) := cell_at HK2.out 3
    have q4 : W2.cell? ⟨N, 4, none⟩ = some (.bool false) := cell_at HK2.out 4
    go_wp2_with fail
    have hRx : R = .agg #[.int .i64 x.id, .int .i64 x.rate, .int .i64 x.burst, .int .i64 x.bkt, .bool x.gone] := by rw [HR.out, HX.out]; rfl
    subst hRx
    clear q0 q1 q2 q3 q4 c0 c1 c2 c3 c4
    obtain ⟨LS, hLS⟩ : ∃ L : List Value, L = [.int .i64 x.id, .int .i64 x.rate, .int .i64 x.burst, .int .i64 x.bkt, .bool x.gone] := ⟨_, rfl⟩
    obtain ⟨WS, hWS⟩ : ∃ WS, WS = W2.setCells (N) 0 LS := ⟨_, rfl⟩
    have hchS := hWS
    rw [hLS] at hchS
    simp only [World.setCells, Nat.zero_add, Nat.reduceAdd] at hchS
    rw [← hchS]
    clear hchS
    have hkS := stC_blk HK2.out LS (by rw [hLS]; rfl)
    have hfrS := stC_fr (N) LS 0 W2
    rw [← hWS] at hkS hfrS
    rw [hLS] at hkS
    have r0 : WS.cell? ⟨N, 0, none⟩ = some (.int .i64 x.id) := cell_at hkS 0
    have r1 : WS.cell? ⟨N, 1, none⟩ = some (.int .i64 x.rate) := cell_at hkS 1
    have r2 : WS.cell? ⟨N, 2, none⟩ = some (.int .i64 x.burst) := cell_at hkS 2
    have r3 : WS.cell? ⟨N, 3, none⟩ = some (.int .i64 x.bkt) := cell_at hkS 3
    have r4 : WS.cell? ⟨N, 4, none⟩ = some (.bool x.gone) := cell_at hkS 4
    clear hWS hLS
    have hBS := HB2.out.trans (hfrS.below HB2.out.size (by have := HNB.out; simp; omega))
    exact bodyPost_ret (v := .tuple #[.agg #[.int .i64 x.id, .int .i64 x.rate, .int .i64 x.burst, .int .i64 x.bkt, .bool x.gone], .bool true]) (by simp [results, Try.results79, go_sem, r0, r1, r2, r3, r4]) rfl ⟨rfl, hBS⟩
end Go.Proofs.Ytfgnjpdlchimpaa
namespace Go.Proofs.Ytfgnjpdlchimpaa
open Go.RowKit
set_option linter.unusedSimpArgs false
set_option linter.unusedVariables false

theorem chk_step {L : List TnE} {k : Nat} (last : Int) (h : k < L.length) : chkF last (L.drop k) = (decide (last < (gt L k).id) && mayT (gt L k) && chkF (gt L k).id (L.drop (k + 1))) := by
  rw [List.drop_eq_getElem_cons h]
  rw [show gt L k = L[k] from gt_of (List.getElem?_eq_getElem h)]
  rfl
theorem chk_end (L : List TnE) (last : Int) : chkF last (L.drop L.length) = true := by rw [List.drop_length]; rfl
/-- the one ahead -/
def pid (L : List TnE) (k : Nat) : Int := if k = 0 then 0 else (gt L (k - 1)).id
theorem pid_succ (L : List TnE) (k : Nat) : pid L (k + 1) = (gt L k).id := rfl
set_option maxRecDepth 100000 in
set_option maxHeartbeats 4000000 in
theorem pcheck_any (v : Value) (L : List TnE) (w : World) (h : TV w v L) : Calls Try.prog 33 #[v] w fun e w' => e = .returned (.bool (chk L)) ∧ Below w.heap.size w w' := by
  obtain ⟨a, b, o, cap, rfl, h⟩ := h
  have m1 := h.le
  have m2 := h.max
  unfold maxLen at m2
  have H1 := Lib.hid h
  clear h
  obtain ⟨n, hn⟩ : ∃ n, n = L.length := ⟨_, rfl⟩
  have HN := Lib.hid hn
  rw [← hn] at m1 H1 ⊢
  clear hn
  go_enter Try.func33, Try.ntmps33
  go_wp2_with fail
  go_loopw [3, 8] (fun l i wr => ∃ k : Nat, k ≤ n ∧ l = .int .i64 (pid L k) ∧ i = .int .i64 k ∧ chkF (pid L k) (L.drop k) = chk L ∧ Below w.heap.size w wr) (fun _ i _ => n - (intOf i).toNat)
  case atStart => exact ⟨0, Nat.zero_le _, rfl, rfl, rfl, Below.refl _ _⟩
  case round =>
    obtain ⟨k, hk, rfl, rfl, hc, hB⟩ := hrel
    have HB := Lib.hid hB
    have HC := Lib.hid hc
    clear hB hc
    by_cases hlt : k < n
    · have hs1 := H1.out.below HB.out
      obtain ⟨e0, e1⟩ := hs1.at_ (by omega)
      subst e0
      obtain ⟨c0, c1, c2, c3, c4⟩ := hs1.cell k hlt
      have HST : Hid (chk L = (decide (pid L k < (gt L k).id) && mayT (gt L k) && chkF (gt L k).id (L.drop (k + 1)))) := Lib.hid (by rw [← HC.out]; exact chk_step _ (by rw [← HN.out]; exact hlt))
      have hps := pid_succ L k
      obtain ⟨x, hx⟩ : ∃ x, x = gt L k := ⟨_, rfl⟩
      obtain ⟨p, hp⟩ : ∃ p, p = pid L k := ⟨_, rfl⟩
      rw [← hx] at c0 c1 c2 c3 c4 HST hps
      rw [← hp] at HST ⊢
      have HPS := Lib.hid hps
      have HM := Lib.hid (fun W => mayT_any x W)
      unfold TnE.agg at HM
      clear hs1 hx hp HC hps
      go_upto_region 5 with fail
      obtain ⟨M, hM⟩ : ∃ M, M = wr.heap.size := ⟨_, rfl⟩
      obtain ⟨WX, hWX⟩ : ∃ W0, W0 = wr.alloc (.cells #[.int .i64 x.id, .int .i64 x.rate, .int .i64 x.burst, .int .i64 x.bkt, .bool x.gone] 54) := ⟨_, rfl⟩
      have HBX : Hid (Below w.heap.size w WX) := Lib.hid (by rw [hWX]; exact HB.out.alloc HB.out.size _)
      have HXX := Lib.hid (show Below wr.heap.size wr WX by rw [hWX]; exact (Below.refl _ _).alloc (Nat.le_refl _) _)
      have hkX : Blk WX M #[.int .i64 x.id, .int .i64 x.rate, .int .i64 x.burst, .int .i64 x.bkt, .bool x.gone] 54 := by rw [hWX, hM]; exact blk_new _ _ _
      have hMl : w.heap.size ≤ M := by rw [hM]; exact HB.out.size
      rw [← hM, ← hWX]
      clear hWX hM
      have r0 : WX.cell? ⟨M, 0, none⟩ = some (.int .i64 x.id) := cell_at hkX 0
      have r1 : WX.cell? ⟨M, 1, none⟩ = some (.int .i64 x.rate) := cell_at hkX 1
      have r2 : WX.cell? ⟨M, 2, none⟩ = some (.int .i64 x.burst) := cell_at hkX 2
      have r3 : WX.cell? ⟨M, 3, none⟩ = some (.int .i64 x.bkt) := cell_at hkX 3
      have r4 : WX.cell? ⟨M, 4, none⟩ = some (.bool x.gone) := cell_at hkX 4
      have HKX := Lib.hid hkX
      have hlX : M < WX.heap.size := hkX.lt
      clear hkX
      clear c0 c1 c2 c3 c4
      by_cases h1 : x.id ≤ p
      · go_wp2_with fail
        go_ret
        refine ⟨ret_bool (by rw [HST.out, show decide (p < x.id) = false by simp; omega]; rfl), ?_⟩
        exact HBX.out
      · obtain ⟨C, hC⟩ : ∃ C, C = mayT x := ⟨_, rfl⟩
        rw [← hC] at HM HST
        clear hC
        cases C
        · go_wp2_with (refine Calls.mono (HM.out _) ?_; rintro e W3 ⟨rfl, hB3⟩)
          go_ret
          refine ⟨ret_bool (by rw [HST.out]; simp), ?_⟩
          exact HBX.out.trans (hB3.mono HBX.out.size)
        · go_wp2_with (refine Calls.mono (HM.out _) ?_; rintro e W3 ⟨rfl, hB3⟩; have s0 : W3.cell? ⟨M, 0, none⟩ = some (.int .i64 x.id) := cell_at (HKX.out.step hB3) 0; clear r0 r1 r2 r3 r4)
          go_roundw
          case rel => exact ⟨k + 1, by omega, by rw [HPS.out], by go_num, by rw [HPS.out, HST.out, show decide (p < x.id) = true by simp; omega]; simp, HBX.out.trans (hB3.mono HBX.out.size)⟩
          case measure => first | (simp [intOf]; done) | (simp [intOf]; omega)
    · obtain rfl : k = n := by omega
      have hE : chk L = true := by rw [← HC.out, HN.out]; exact chk_end _ _
      go_wp2_with fail
      go_ret
      exact ⟨ret_bool hE.symm, HB.out⟩
end Go.Proofs.Ytfgnjpdlchimpaa
namespace Go.Proofs.Ytfgnjpdlchimpaa
open Go.RowKit
set_option linter.unusedSimpArgs false
set_option linter.unusedVariables false

theorem quiet_left {P : Program} {f : FuncId} {args : Array Value} {w : World} {n : Nat} {v : Value}
    (h : Calls P f args (w.drewN n) fun e w' => e = .returned v ∧ w.drewN n = w') : Calls P f args (w.drewN n) fun e w'' => e = .returned v ∧ ∃ m, w'' = w.drewN m :=
  h.mono fun _ _ ⟨he, hm⟩ => ⟨he, n, hm.symm⟩
theorem below_dN {B : Nat} {w X : World} (h : Below B w X) (n : Nat) : Below B w (X.drewN n) := ⟨h.os, h.tape, h.output, h.size, h.block⟩
set_option maxRecDepth 100000 in
set_option maxHeartbeats 16000000 in
theorem rcheck_any (v : Value) (L : List TnE) (w : World) (h : TV w v L) : Calls Try.prog 30 #[v] w fun e w' => e = .returned (.bool (chk L)) ∧ Below w.heap.size w w' := by
  obtain ⟨a, b, o, cap, rfl, h⟩ := h
  have m1 := h.le
  have m2 := h.max
  unfold maxLen at m2
  have H1 := Lib.hid h
  clear h
  obtain ⟨n, hn⟩ : ∃ n, n = L.length := ⟨_, rfl⟩
  have HN := Lib.hid hn
  rw [← hn] at m1 H1 ⊢
  clear hn
  go_enter Try.func30, Try.ntmps30
  go_wp2_with fail
  go_loopw [3] (fun i wr => ∃ k : Nat, k ≤ n ∧ i = .int .i64 k ∧ chkF (pid L k) (L.drop k) = chk L ∧ Below w.heap.size w wr) (fun i _ => n - (intOf i).toNat)
  case atStart => exact ⟨0, Nat.zero_le _, rfl, rfl, Below.refl _ _⟩
  case round =>
    obtain ⟨k, hk, rfl, hc, hB⟩ := hrel
    have HB := Lib.hid hB
    have HC := Lib.hid hc
    clear hB hc
    by_cases hlt : k < n
    · have hs1 := H1.out.below HB.out
      obtain ⟨e0, e1⟩ := hs1.at_ (by omega)
      subst e0
      obtain ⟨c0, c1, c2, c3, c4⟩ := hs1.cell k hlt
      have hpc : k ≠ 0 → wr.cell? ⟨b, o + (k - 1) * 5, none⟩ = some (.int .i64 (gt L (k - 1)).id) := fun h0 => (hs1.cell (k - 1) (by omega)).1
      have HST : Hid (chk L = (decide (pid L k < (gt L k).id) && mayT (gt L k) && chkF (gt L k).id (L.drop (k + 1)))) := Lib.hid (by rw [← HC.out]; exact chk_step _ (by rw [← HN.out]; exact hlt))
      have hps := pid_succ L k
      have HPC := Lib.hid hpc
      obtain ⟨x, hx⟩ : ∃ x, x = gt L k := ⟨_, rfl⟩
      rw [← hx] at c0 c1 c2 c3 c4 HST hps
      have HPS := Lib.hid hps
      obtain ⟨id, rate, burst, bkt, gone⟩ := x
      simp only at c0 c1 c2 c3 c4
      have HID := Lib.hid (fun W => rid_any id W)
      have HMY := Lib.hid (fun W => rmay16_any rate burst W)
      clear hs1 hx HC hps hpc
      go_upto_region 5 with fail
      obtain ⟨M, hM⟩ : ∃ M, M = wr.heap.size := ⟨_, rfl⟩
      obtain ⟨WX, hWX⟩ : ∃ W0, W0 = wr.alloc (.cells #[.int .i64 id, .int .i64 rate, .int .i64 burst, .int .i64 bkt, .bool gone] 54) := ⟨_, rfl⟩
      have HBX : Hid (Below w.heap.size w WX) := Lib.hid (by rw [hWX]; exact HB.out.alloc HB.out.size _)
      have HXX := Lib.hid (show Below wr.heap.size wr WX by rw [hWX]; exact (Below.refl _ _).alloc (Nat.le_refl _) _)
      have hkX : Blk WX M #[.int .i64 id, .int .i64 rate, .int .i64 burst, .int .i64 bkt, .bool gone] 54 := by rw [hWX, hM]; exact blk_new _ _ _
      have hMl : w.heap.size ≤ M := by rw [hM]; exact HB.out.size
      rw [← hM, ← hWX]
      clear hWX hM
      have r0 : WX.cell? ⟨M, 0, none⟩ = some (.int .i64 id) := cell_at hkX 0
      have r1 : WX.cell? ⟨M, 1, none⟩ = some (.int .i64 rate) := cell_at hkX 1
      have r2 : WX.cell? ⟨M, 2, none⟩ = some (.int .i64 burst) := cell_at hkX 2
      have r3 : WX.cell? ⟨M, 3, none⟩ = some (.int .i64 bkt) := cell_at hkX 3
      have r4 : WX.cell? ⟨M, 4, none⟩ = some (.bool gone) := cell_at hkX 4
      have HKX := Lib.hid hkX
      have hlX : M < WX.heap.size := hkX.lt
      clear hkX
      clear c0 c1 c2 c3 c4
      rcases Nat.eq_zero_or_pos k with hk0 | hk0
      · rw [show pid L k = 0 by rw [hk0]; rfl] at HST
        have b0 : decide (0 < k) = false := by simp; omega
        clear hk0 HXX HPC
        have hcs : (idB id = false) ∨ (idB id = true ∧ mayB rate burst = false) ∨ (idB id = true ∧ mayB rate burst = true ∧ bkt < 0) ∨ (idB id = true ∧ mayB rate burst = true ∧ ¬ bkt < 0 ∧ 1000000000 < bkt) ∨ (idB id = true ∧ mayB rate burst = true ∧ ¬ bkt < 0 ∧ ¬ 1000000000 < bkt ∧ gone = false) ∨ (idB id = true ∧ mayB rate burst = true ∧ ¬ bkt < 0 ∧ ¬ 1000000000 < bkt ∧ gone = true ∧ rate ≠ 0) ∨ (idB id = true ∧ mayB rate burst = true ∧ ¬ bkt < 0 ∧ ¬ 1000000000 < bkt ∧ gone = true ∧ rate = 0 ∧ burst ≠ 0) ∨ (idB id = true ∧ mayB rate burst = true ∧ ¬ bkt < 0 ∧ ¬ 1000000000 < bkt ∧ gone = true ∧ rate = 0 ∧ burst = 0 ∧ bkt ≠ 0) ∨ (idB id = true ∧ mayB rate burst = true ∧ ¬ bkt < 0 ∧ ¬ 1000000000 < bkt ∧ gone = true ∧ rate = 0 ∧ burst = 0 ∧ bkt = 0) := by
          cases idB id <;> cases mayB rate burst <;> cases gone <;> simp <;> omega
        rcases hcs with g0 | ⟨g0, g1⟩ | ⟨g0, g1, g2⟩ | ⟨g0, g1, g2, g3⟩ | ⟨g0, g1, g2, g3, g4⟩ | ⟨g0, g1, g2, g3, g4, g5⟩ | ⟨g0, g1, g2, g3, g4, g5, g6⟩ | ⟨g0, g1, g2, g3, g4, g5, g6, g7⟩ | ⟨g0, g1, g2, g3, g4, g5, g6, g7⟩
        · rw [g0] at HID
          have hval : (decide (0 < id) && mayT ⟨id, rate, burst, bkt, gone⟩) = false := by unfold mayT fullB zeroB; simp only [g0]; simp [] <;> (first | omega | (intros; omega))
          rw [hval] at HST
          clear hval
          go_wp2_with fail
          (refine wp_region_quiet_lit (by kernel_rfl) (by kernel_rfl) ?_; (repeat (first | go_big_quiet_step ((first | (go_at_call 63; exact quiet_left (HID.out _)) | (go_at_call 64; exact quiet_left (HMY.out _)))) | (refine BigFrame.wpQuiet_skip (by rfl) ?_; try simp only [Act.put, List.setIfInBounds_toArray, List.set_cons_zero, List.set_cons_succ]))); refine wpQuiet_nil ?_; intro _ hw9; obtain ⟨nq, hw8⟩ := hw9; subst hw8)
          go_wp2_with fail
          go_ret
          exact ⟨ret_bool (by rw [HST.out]; rfl), below_dN HBX.out nq⟩
        · rw [g0] at HID
          have hid : 1 ≤ id ∧ id ≤ 16 := by simpa [idB] using g0
          rw [g1] at HMY
          have hval : (decide (0 < id) && mayT ⟨id, rate, burst, bkt, gone⟩) = false := by unfold mayT fullB zeroB; simp only [g0, g1]; simp [] <;> (first | omega | (intros; omega))
          rw [hval] at HST
          clear hval hid
          go_wp2_with fail
          (refine wp_region_quiet_lit (by kernel_rfl) (by kernel_rfl) ?_; (repeat (first | go_big_quiet_step ((first | (go_at_call 63; exact quiet_left (HID.out _)) | (go_at_call 64; exact quiet_left (HMY.out _)))) | (refine BigFrame.wpQuiet_skip (by rfl) ?_; try simp only [Act.put, List.setIfInBounds_toArray, List.set_cons_zero, List.set_cons_succ]))); refine wpQuiet_nil ?_; intro _ hw9; obtain ⟨nq, hw8⟩ := hw9; subst hw8)
          go_wp2_with fail
          go_ret
          exact ⟨ret_bool (by rw [HST.out]; rfl), below_dN HBX.out nq⟩
        · rw [g0] at HID
          have hid : 1 ≤ id ∧ id ≤ 16 := by simpa [idB] using g0
          rw [g1] at HMY
          have hval : (decide (0 < id) && mayT ⟨id, rate, burst, bkt, gone⟩) = false := by unfold mayT fullB zeroB; simp only [g0, g1]; simp [g2] <;> (first | omega | (intros; omega))
          rw [hval] at HST
          have fg2 : decide (bkt < 0) = true := decide_eq_true (by omega)
          clear hval hid
          go_wp2_with fail
          (refine wp_region_quiet_lit (by kernel_rfl) (by kernel_rfl) ?_; (repeat (first | go_big_quiet_step ((first | (go_at_call 63; exact quiet_left (HID.out _)) | (go_at_call 64; exact quiet_left (HMY.out _)))) | (refine BigFrame.wpQuiet_skip (by rfl) ?_; try simp only [Act.put, List.setIfInBounds_toArray, List.set_cons_zero, List.set_cons_succ]))); refine wpQuiet_nil ?_; intro _ hw9; obtain ⟨nq, hw8⟩ := hw9; subst hw8)
          go_wp2_with fail
          go_ret
          exact ⟨ret_bool (by rw [HST.out]; rfl), below_dN HBX.out nq⟩
        · rw [g0] at HID
          have hid : 1 ≤ id ∧ id ≤ 16 := by simpa [idB] using g0
          rw [g1] at HMY
          have hval : (decide (0 < id) && mayT ⟨id, rate, burst, bkt, gone⟩) = false := by unfold mayT fullB zeroB; simp only [g0, g1]; simp [g2, g3] <;> (first | omega | (intros; omega))
          rw [hval] at HST
          have fg2 : decide (bkt < 0) = false := decide_eq_false (by omega)
          have fg3 : decide (1000000000 < bkt) = true := decide_eq_true (by omega)
          clear hval hid
          go_wp2_with fail
          (refine wp_region_quiet_lit (by kernel_rfl) (by kernel_rfl) ?_; (repeat (first | go_big_quiet_step ((first | (go_at_call 63; exact quiet_left (HID.out _)) | (go_at_call 64; exact quiet_left (HMY.out _)))) | (refine BigFrame.wpQuiet_skip (by rfl) ?_; try simp only [Act.put, List.setIfInBounds_toArray, List.set_cons_zero, List.set_cons_succ]))); refine wpQuiet_nil ?_; intro _ hw9; obtain ⟨nq, hw8⟩ := hw9; subst hw8)
          go_wp2_with fail
          go_ret
          exact ⟨ret_bool (by rw [HST.out]; rfl), below_dN HBX.out nq⟩
        · rw [g0] at HID
          have hid : 1 ≤ id ∧ id ≤ 16 := by simpa [idB] using g0
          rw [g1] at HMY
          have hval : (decide (0 < id) && mayT ⟨id, rate, burst, bkt, gone⟩) = true := by unfold mayT fullB zeroB; simp only [g0, g1]; simp [g2, g3, g4] <;> (first | omega | (intros; omega))
          rw [hval] at HST
          subst g4
          have fg2 : decide (bkt < 0) = false := decide_eq_false (by omega)
          have fg3 : decide (1000000000 < bkt) = false := decide_eq_false (by omega)
          clear hval hid
          go_wp2_with fail
          (refine wp_region_quiet_lit (by kernel_rfl) (by kernel_rfl) ?_; (repeat (first | go_big_quiet_step ((first | (go_at_call 63; exact quiet_left (HID.out _)) | (go_at_call 64; exact quiet_left (HMY.out _)))) | (refine BigFrame.wpQuiet_skip (by rfl) ?_; try simp only [Act.put, List.setIfInBounds_toArray, List.set_cons_zero, List.set_cons_succ]))); refine wpQuiet_nil ?_; intro _ hw9; obtain ⟨nq, hw8⟩ := hw9; subst hw8)
          go_wp2_with fail
          go_roundw
          case rel => exact ⟨k + 1, by omega, by go_num, by rw [HPS.out, HST.out]; simp, below_dN HBX.out nq⟩
          case measure => first | (simp [intOf]; done) | (simp [intOf]; omega)
        · rw [g0] at HID
          have hid : 1 ≤ id ∧ id ≤ 16 := by simpa [idB] using g0
          rw [g1] at HMY
          have hval : (decide (0 < id) && mayT ⟨id, rate, burst, bkt, gone⟩) = false := by unfold mayT fullB zeroB; simp only [g0, g1]; simp [g2, g3, g4, g5] <;> (first | omega | (intros; omega))
          rw [hval] at HST
          subst g4
          have fg2 : decide (bkt < 0) = false := decide_eq_false (by omega)
          have fg3 : decide (1000000000 < bkt) = false := decide_eq_false (by omega)
          have fg5 : (rate != 0) = true := bne_iff_ne.2 g5
          clear hval hid
          go_wp2_with fail
          (refine wp_region_quiet_lit (by kernel_rfl) (by kernel_rfl) ?_; (repeat (first | go_big_quiet_step ((first | (go_at_call 63; exact quiet_left (HID.out _)) | (go_at_call 64; exact quiet_left (HMY.out _)))) | (refine BigFrame.wpQuiet_skip (by rfl) ?_; try simp only [Act.put, List.setIfInBounds_toArray, List.set_cons_zero, List.set_cons_succ]))); refine wpQuiet_nil ?_; intro _ hw9; obtain ⟨nq, hw8⟩ := hw9; subst hw8)
          go_wp2_with fail
          go_ret
          exact ⟨ret_bool (by rw [HST.out]; rfl), below_dN HBX.out nq⟩
        · rw [g0] at HID
          have hid : 1 ≤ id ∧ id ≤ 16 := by simpa [idB] using g0
          rw [g1] at HMY
          have hval : (decide (0 < id) && mayT ⟨id, rate, burst, bkt, gone⟩) = false := by unfold mayT fullB zeroB; simp only [g0, g1]; simp [g2, g3, g4, g5, g6] <;> (first | omega | (intros; omega))
          rw [hval] at HST
          subst g4
          subst g5
          have fg2 : decide (bkt < 0) = false := decide_eq_false (by omega)
          have fg3 : decide (1000000000 < bkt) = false := decide_eq_false (by omega)
          have fg6 : (burst != 0) = true := bne_iff_ne.2 g6
          clear hval hid
          go_wp2_with fail
          (refine wp_region_quiet_lit (by kernel_rfl) (by kernel_rfl) ?_; (repeat (first | go_big_quiet_step ((first | (go_at_call 63; exact quiet_left (HID.out _)) | (go_at_call 64; exact quiet_left (HMY.out _)))) | (refine BigFrame.wpQuiet_skip (by rfl) ?_; try simp only [Act.put, List.setIfInBounds_toArray, List.set_cons_zero, List.set_cons_succ]))); refine wpQuiet_nil ?_; intro _ hw9; obtain ⟨nq, hw8⟩ := hw9; subst hw8)
          go_wp2_with fail
          go_ret
          exact ⟨ret_bool (by rw [HST.out]; rfl), below_dN HBX.out nq⟩
        · rw [g0] at HID
          have hid : 1 ≤ id ∧ id ≤ 16 := by simpa [idB] using g0
          rw [g1] at HMY
          have hval : (decide (0 < id) && mayT ⟨id, rate, burst, bkt, gone⟩) = false := by unfold mayT fullB zeroB; simp only [g0, g1]; simp [g2, g3, g4, g5, g6, g7] <;> (first | omega | (intros; omega))
          rw [hval] at HST
          subst g4
          subst g5
          subst g6
          have fg2 : decide (bkt < 0) = false := decide_eq_false (by omega)
          have fg3 : decide (1000000000 < bkt) = false := decide_eq_false (by omega)
          have fg7 : (bkt != 0) = true := bne_iff_ne.2 g7
          clear hval hid
          go_wp2_with fail
          (refine wp_region_quiet_lit (by kernel_rfl) (by kernel_rfl) ?_; (repeat (first | go_big_quiet_step ((first | (go_at_call 63; exact quiet_left (HID.out _)) | (go_at_call 64; exact quiet_left (HMY.out _)))) | (refine BigFrame.wpQuiet_skip (by rfl) ?_; try simp only [Act.put, List.setIfInBounds_toArray, List.set_cons_zero, List.set_cons_succ]))); refine wpQuiet_nil ?_; intro _ hw9; obtain ⟨nq, hw8⟩ := hw9; subst hw8)
          go_wp2_with fail
          go_ret
          exact ⟨ret_bool (by rw [HST.out]; rfl), below_dN HBX.out nq⟩
        · rw [g0] at HID
          have hid : 1 ≤ id ∧ id ≤ 16 := by simpa [idB] using g0
          rw [g1] at HMY
          have hval : (decide (0 < id) && mayT ⟨id, rate, burst, bkt, gone⟩) = true := by unfold mayT fullB zeroB; simp only [g0, g1]; simp [g2, g3, g4, g5, g6, g7] <;> (first | omega | (intros; omega))
          rw [hval] at HST
          subst g4
          subst g5
          subst g6
          subst g7
          clear hval hid
          go_wp2_with fail
          (refine wp_region_quiet_lit (by kernel_rfl) (by kernel_rfl) ?_; (repeat (first | go_big_quiet_step ((first | (go_at_call 63; exact quiet_left (HID.out _)) | (go_at_call 64; exact quiet_left (HMY.out _)))) | (refine BigFrame.wpQuiet_skip (by rfl) ?_; try simp only [Act.put, List.setIfInBounds_toArray, List.set_cons_zero, List.set_cons_succ]))); refine wpQuiet_nil ?_; intro _ hw9; obtain ⟨nq, hw8⟩ := hw9; subst hw8)
          go_wp2_with fail
          go_roundw
          case rel => exact ⟨k + 1, by omega, by go_num, by rw [HPS.out, HST.out]; simp, below_dN HBX.out nq⟩
          case measure => first | (simp [intOf]; done) | (simp [intOf]; omega)
      · obtain ⟨j, hj⟩ : ∃ j, k = j + 1 := ⟨k - 1, by omega⟩
        have cp : WX.cell? ⟨b, o + j * 5, none⟩ = some (.int .i64 (pid L k)) := (HXX.out.cell (p := ⟨b, _, none⟩) e1).trans (by have := HPC.out (by omega); subst hj; exact this)
        obtain ⟨p, hp⟩ : ∃ p, p = pid L k := ⟨_, rfl⟩
        rw [← hp] at HST cp
        clear hp hk0 HPC
        have b0 : decide (0 < k) = true := by simp; omega
        have b1 : (k : Int) - 1 = (j : Int) := by omega
        have b2 : IntKind.i64.wrap (j : Int) = (j : Int) := IntWalk.i64_in _ (by omega)
        have b3 : j < n := by omega
        have b5 : b < WX.heap.size := Nat.lt_of_lt_of_le e1 HXX.out.size
        clear hj
        have hcs : (idB id = false) ∨ (idB id = true ∧ id ≤ p) ∨ (idB id = true ∧ ¬ id ≤ p ∧ mayB rate burst = false) ∨ (idB id = true ∧ ¬ id ≤ p ∧ mayB rate burst = true ∧ bkt < 0) ∨ (idB id = true ∧ ¬ id ≤ p ∧ mayB rate burst = true ∧ ¬ bkt < 0 ∧ 1000000000 < bkt) ∨ (idB id = true ∧ ¬ id ≤ p ∧ mayB rate burst = true ∧ ¬ bkt < 0 ∧ ¬ 1000000000 < bkt ∧ gone = false) ∨ (idB id = true ∧ ¬ id ≤ p ∧ mayB rate burst = true ∧ ¬ bkt < 0 ∧ ¬ 1000000000 < bkt ∧ gone = true ∧ rate ≠ 0) ∨ (idB id = true ∧ ¬ id ≤ p ∧ mayB rate burst = true ∧ ¬ bkt < 0 ∧ ¬ 1000000000 < bkt ∧ gone = true ∧ rate = 0 ∧ burst ≠ 0) ∨ (idB id = true ∧ ¬ id ≤ p ∧ mayB rate burst = true ∧ ¬ bkt < 0 ∧ ¬ 1000000000 < bkt ∧ gone = true ∧ rate = 0 ∧ burst = 0 ∧ bkt ≠ 0) ∨ (idB id = true ∧ ¬ id ≤ p ∧ mayB rate burst = true ∧ ¬ bkt < 0 ∧ ¬ 1000000000 < bkt ∧ gone = true ∧ rate = 0 ∧ burst = 0 ∧ bkt = 0) := by
          cases idB id <;> cases mayB rate burst <;> cases gone <;> simp <;> omega
        rcases hcs with g0 | ⟨g0, g1⟩ | ⟨g0, g1, g2⟩ | ⟨g0, g1, g2, g3⟩ | ⟨g0, g1, g2, g3, g4⟩ | ⟨g0, g1, g2, g3, g4, g5⟩ | ⟨g0, g1, g2, g3, g4, g5, g6⟩ | ⟨g0, g1, g2, g3, g4, g5, g6, g7⟩ | ⟨g0, g1, g2, g3, g4, g5, g6, g7, g8⟩ | ⟨g0, g1, g2, g3, g4, g5, g6, g7, g8⟩
        · rw [g0] at HID
          have hval : (decide (p < id) && mayT ⟨id, rate, burst, bkt, gone⟩) = false := by unfold mayT fullB zeroB; simp only [g0]; simp [] <;> (first | omega | (intros; omega))
          rw [hval] at HST
          clear hval
          go_wp2_with fail
          (refine wp_region_quiet_lit (by kernel_rfl) (by kernel_rfl) ?_; (repeat (first | go_big_quiet_step ((first | (go_at_call 63; exact quiet_left (HID.out _)) | (go_at_call 64; exact quiet_left (HMY.out _)))) | (refine BigFrame.wpQuiet_skip (by rfl) ?_; try simp only [Act.put, List.setIfInBounds_toArray, List.set_cons_zero, List.set_cons_succ]))); refine wpQuiet_nil ?_; intro _ hw9; obtain ⟨nq, hw8⟩ := hw9; subst hw8)
          go_wp2_with fail
          go_ret
          exact ⟨ret_bool (by rw [HST.out]; rfl), below_dN HBX.out nq⟩
        · rw [g0] at HID
          have hid : 1 ≤ id ∧ id ≤ 16 := by simpa [idB] using g0
          have hval : (decide (p < id) && mayT ⟨id, rate, burst, bkt, gone⟩) = false := by unfold mayT fullB zeroB; simp only [g0]; simp [g1] <;> (first | omega | (intros; omega))
          rw [hval] at HST
          have fg1 : decide (id ≤ p) = true := decide_eq_true (by omega)
          clear hval hid
          go_wp2_with fail
          (refine wp_region_quiet_lit (by kernel_rfl) (by kernel_rfl) ?_; (repeat (first | go_big_quiet_step ((first | (go_at_call 63; exact quiet_left (HID.out _)) | (go_at_call 64; exact quiet_left (HMY.out _)))) | (refine BigFrame.wpQuiet_skip (by rfl) ?_; try simp only [Act.put, List.setIfInBounds_toArray, List.set_cons_zero, List.set_cons_succ]))); refine wpQuiet_nil ?_; intro _ hw9; obtain ⟨nq, hw8⟩ := hw9; subst hw8)
          go_wp2_with fail
          go_ret
          exact ⟨ret_bool (by rw [HST.out]; rfl), below_dN HBX.out nq⟩
        · rw [g0] at HID
          have hid : 1 ≤ id ∧ id ≤ 16 := by simpa [idB] using g0
          rw [g2] at HMY
          have hval : (decide (p < id) && mayT ⟨id, rate, burst, bkt, gone⟩) = false := by unfold mayT fullB zeroB; simp only [g0, g2]; simp [g1] <;> (first | omega | (intros; omega))
          rw [hval] at HST
          have fg1 : decide (id ≤ p) = false := decide_eq_false (by omega)
          clear hval hid
          go_wp2_with fail
          (refine wp_region_quiet_lit (by kernel_rfl) (by kernel_rfl) ?_; (repeat (first | go_big_quiet_step ((first | (go_at_call 63; exact quiet_left (HID.out _)) | (go_at_call 64; exact quiet_left (HMY.out _)))) | (refine BigFrame.wpQuiet_skip (by rfl) ?_; try simp only [Act.put, List.setIfInBounds_toArray, List.set_cons_zero, List.set_cons_succ]))); refine wpQuiet_nil ?_; intro _ hw9; obtain ⟨nq, hw8⟩ := hw9; subst hw8)
          go_wp2_with fail
          go_ret
          exact ⟨ret_bool (by rw [HST.out]; rfl), below_dN HBX.out nq⟩
        · rw [g0] at HID
          have hid : 1 ≤ id ∧ id ≤ 16 := by simpa [idB] using g0
          rw [g2] at HMY
          have hval : (decide (p < id) && mayT ⟨id, rate, burst, bkt, gone⟩) = false := by unfold mayT fullB zeroB; simp only [g0, g2]; simp [g1, g3] <;> (first | omega | (intros; omega))
          rw [hval] at HST
          have fg1 : decide (id ≤ p) = false := decide_eq_false (by omega)
          have fg3 : decide (bkt < 0) = true := decide_eq_true (by omega)
          clear hval hid
          go_wp2_with fail
          (refine wp_region_quiet_lit (by kernel_rfl) (by kernel_rfl) ?_; (repeat (first | go_big_quiet_step ((first | (go_at_call 63; exact quiet_left (HID.out _)) | (go_at_call 64; exact quiet_left (HMY.out _)))) | (refine BigFrame.wpQuiet_skip (by rfl) ?_; try simp only [Act.put, List.setIfInBounds_toArray, List.set_cons_zero, List.set_cons_succ]))); refine wpQuiet_nil ?_; intro _ hw9; obtain ⟨nq, hw8⟩ := hw9; subst hw8)
          go_wp2_with fail
          go_ret
          exact ⟨ret_bool (by rw [HST.out]; rfl), below_dN HBX.out nq⟩
        · rw [g0] at HID
          have hid : 1 ≤ id ∧ id ≤ 16 := by simpa [idB] using g0
          rw [g2] at HMY
          have hval : (decide (p < id) && mayT ⟨id, rate, burst, bkt, gone⟩) = false := by unfold mayT fullB zeroB; simp only [g0, g2]; simp [g1, g3, g4] <;> (first | omega | (intros; omega))
          rw [hval] at HST
          have fg1 : decide (id ≤ p) = false := decide_eq_false (by omega)
          have fg3 : decide (bkt < 0) = false := decide_eq_false (by omega)
          have fg4 : decide (1000000000 < bkt) = true := decide_eq_true (by omega)
          clear hval hid
          go_wp2_with fail
          (refine wp_region_quiet_lit (by kernel_rfl) (by kernel_rfl) ?_; (repeat (first | go_big_quiet_step ((first | (go_at_call 63; exact quiet_left (HID.out _)) | (go_at_call 64; exact quiet_left (HMY.out _)))) | (refine BigFrame.wpQuiet_skip (by rfl) ?_; try simp only [Act.put, List.setIfInBounds_toArray, List.set_cons_zero, List.set_cons_succ]))); refine wpQuiet_nil ?_; intro _ hw9; obtain ⟨nq, hw8⟩ := hw9; subst hw8)
          go_wp2_with fail
          go_ret
          exact ⟨ret_bool (by rw [HST.out]; rfl), below_dN HBX.out nq⟩
        · rw [g0] at HID
          have hid : 1 ≤ id ∧ id ≤ 16 := by simpa [idB] using g0
          rw [g2] at HMY
          have hval : (decide (p < id) && mayT ⟨id, rate, burst, bkt, gone⟩) = true := by unfold mayT fullB zeroB; simp only [g0, g2]; simp [g1, g3, g4, g5] <;> (first | omega | (intros; omega))
          rw [hval] at HST
          subst g5
          have fg1 : decide (id ≤ p) = false := decide_eq_false (by omega)
          have fg3 : decide (bkt < 0) = false := decide_eq_false (by omega)
          have fg4 : decide (1000000000 < bkt) = false := decide_eq_false (by omega)
          clear hval hid
          go_wp2_with fail
          (refine wp_region_quiet_lit (by kernel_rfl) (by kernel_rfl) ?_; (repeat (first | go_big_quiet_step ((first | (go_at_call 63; exact quiet_left (HID.out _)) | (go_at_call 64; exact quiet_left (HMY.out _)))) | (refine BigFrame.wpQuiet_skip (by rfl) ?_; try simp only [Act.put, List.setIfInBounds_toArray, List.set_cons_zero, List.set_cons_succ]))); refine wpQuiet_nil ?_; intro _ hw9; obtain ⟨nq, hw8⟩ := hw9; subst hw8)
          go_wp2_with fail
          go_roundw
          case rel => exact ⟨k + 1, by omega, by go_num, by rw [HPS.out, HST.out]; simp, below_dN HBX.out nq⟩
          case measure => first | (simp [intOf]; done) | (simp [intOf]; omega)
        · rw [g0] at HID
          have hid : 1 ≤ id ∧ id ≤ 16 := by simpa [idB] using g0
          rw [g2] at HMY
          have hval : (decide (p < id) && mayT ⟨id, rate, burst, bkt, gone⟩) = false := by unfold mayT fullB zeroB; simp only [g0, g2]; simp [g1, g3, g4, g5, g6] <;> (first | omega | (intros; omega))
          rw [hval] at HST
          subst g5
          have fg1 : decide (id ≤ p) = false := decide_eq_false (by omega)
          have fg3 : decide (bkt < 0) = false := decide_eq_false (by omega)
          have fg4 : decide (1000000000 < bkt) = false := decide_eq_false (by omega)
          have fg6 : (rate != 0) = true := bne_iff_ne.2 g6
          clear hval hid
          go_wp2_with fail
          (refine wp_region_quiet_lit (by kernel_rfl) (by kernel_rfl) ?_; (repeat (first | go_big_quiet_step ((first | (go_at_call 63; exact quiet_left (HID.out _)) | (go_at_call 64; exact quiet_left (HMY.out _)))) | (refine BigFrame.wpQuiet_skip (by rfl) ?_; try simp only [Act.put, List.setIfInBounds_toArray, List.set_cons_zero, List.set_cons_succ]))); refine wpQuiet_nil ?_; intro _ hw9; obtain ⟨nq, hw8⟩ := hw9; subst hw8)
          go_wp2_with fail
          go_ret
          exact ⟨ret_bool (by rw [HST.out]; rfl), below_dN HBX.out nq⟩
        · rw [g0] at HID
          have hid : 1 ≤ id ∧ id ≤ 16 := by simpa [idB] using g0
          rw [g2] at HMY
          have hval : (decide (p < id) && mayT ⟨id, rate, burst, bkt, gone⟩) = false := by unfold mayT fullB zeroB; simp only [g0, g2]; simp [g1, g3, g4, g5, g6, g7] <;> (first | omega | (intros; omega))
          rw [hval] at HST
          subst g5
          subst g6
          have fg1 : decide (id ≤ p) = false := decide_eq_false (by omega)
          have fg3 : decide (bkt < 0) = false := decide_eq_false (by omega)
          have fg4 : decide (1000000000 < bkt) = false := decide_eq_false (by omega)
          have fg7 : (burst != 0) = true := bne_iff_ne.2 g7
          clear hval hid
          go_wp2_with fail
          (refine wp_region_quiet_lit (by kernel_rfl) (by kernel_rfl) ?_; (repeat (first | go_big_quiet_step ((first | (go_at_call 63; exact quiet_left (HID.out _)) | (go_at_call 64; exact quiet_left (HMY.out _)))) | (refine BigFrame.wpQuiet_skip (by rfl) ?_; try simp only [Act.put, List.setIfInBounds_toArray, List.set_cons_zero, List.set_cons_succ]))); refine wpQuiet_nil ?_; intro _ hw9; obtain ⟨nq, hw8⟩ := hw9; subst hw8)
          go_wp2_with fail
          go_ret
          exact ⟨ret_bool (by rw [HST.out]; rfl), below_dN HBX.out nq⟩
        · rw [g0] at HID
          have hid : 1 ≤ id ∧ id ≤ 16 := by simpa [idB] using g0
          rw [g2] at HMY
          have hval : (decide (p < id) && mayT ⟨id, rate, burst, bkt, gone⟩) = false := by unfold mayT fullB zeroB; simp only [g0, g2]; simp [g1, g3, g4, g5, g6, g7, g8] <;> (first | omega | (intros; omega))
          rw [hval] at HST
          subst g5
          subst g6
          subst g7
          have fg1 : decide (id ≤ p) = false := decide_eq_false (by omega)
          have fg3 : decide (bkt < 0) = false := decide_eq_false (by omega)
          have fg4 : decide (1000000000 < bkt) = false := decide_eq_false (by omega)
          have fg8 : (bkt != 0) = true := bne_iff_ne.2 g8
          clear hval hid
          go_wp2_with fail
          (refine wp_region_quiet_lit (by kernel_rfl) (by kernel_rfl) ?_; (repeat (first | go_big_quiet_step ((first | (go_at_call 63; exact quiet_left (HID.out _)) | (go_at_call 64; exact quiet_left (HMY.out _)))) | (refine BigFrame.wpQuiet_skip (by rfl) ?_; try simp only [Act.put, List.setIfInBounds_toArray, List.set_cons_zero, List.set_cons_succ]))); refine wpQuiet_nil ?_; intro _ hw9; obtain ⟨nq, hw8⟩ := hw9; subst hw8)
          go_wp2_with fail
          go_ret
          exact ⟨ret_bool (by rw [HST.out]; rfl), below_dN HBX.out nq⟩
        · rw [g0] at HID
          have hid : 1 ≤ id ∧ id ≤ 16 := by simpa [idB] using g0
          rw [g2] at HMY
          have hval : (decide (p < id) && mayT ⟨id, rate, burst, bkt, gone⟩) = true := by unfold mayT fullB zeroB; simp only [g0, g2]; simp [g1, g3, g4, g5, g6, g7, g8] <;> (first | omega | (intros; omega))
          rw [hval] at HST
          subst g5
          subst g6
          subst g7
          subst g8
          have fg1 : decide (id ≤ p) = false := decide_eq_false (by omega)
          clear hval hid
          go_wp2_with fail
          (refine wp_region_quiet_lit (by kernel_rfl) (by kernel_rfl) ?_; (repeat (first | go_big_quiet_step ((first | (go_at_call 63; exact quiet_left (HID.out _)) | (go_at_call 64; exact quiet_left (HMY.out _)))) | (refine BigFrame.wpQuiet_skip (by rfl) ?_; try simp only [Act.put, List.setIfInBounds_toArray, List.set_cons_zero, List.set_cons_succ]))); refine wpQuiet_nil ?_; intro _ hw9; obtain ⟨nq, hw8⟩ := hw9; subst hw8)
          go_wp2_with fail
          go_roundw
          case rel => exact ⟨k + 1, by omega, by go_num, by rw [HPS.out, HST.out]; simp, below_dN HBX.out nq⟩
          case measure => first | (simp [intOf]; done) | (simp [intOf]; omega)
    · obtain rfl : k = n := by omega
      have hE : chk L = true := by rw [← HC.out, HN.out]; exact chk_end _ _
      go_wp2_with fail
      go_ret
      exact ⟨ret_bool hE.symm, HB.out⟩
end Go.Proofs.Ytfgnjpdlchimpaa
namespace Go.Proofs.Ytfgnjpdlchimpaa
open Go.RowKit
set_option linter.unusedSimpArgs false
set_option linter.unusedVariables false

theorem fnd_step {L : List TnE} {k : Nat} (key : Int) (h : k < L.length) : fnd key (L.drop k) = if (gt L k).id = key then some (gt L k) else fnd key (L.drop (k + 1)) := by
  rw [List.drop_eq_getElem_cons h, show gt L k = L[k] from gt_of (List.getElem?_eq_getElem h)]
  unfold fnd
  by_cases he : L[k].id = key
  · rw [List.find?_cons_of_pos (by simp [he]), if_pos he]
  · rw [List.find?_cons_of_neg (by simp [he]), if_neg he]
theorem fnd_end (L : List TnE) (key : Int) : fnd key (L.drop L.length) = none := by rw [List.drop_length]; rfl
def ansV (e r b : Int) : Value := .agg #[.int .i64 e, .int .i64 r, .int .i64 b, .int .i64 0, .int .i64 0]
def fndC (key : Int) (L : List TnE) : Option TnE := if chk L then fnd key L else none
def getE (key : Int) (L : List TnE) : Int := if chk L then (match fnd key L with | some x => if x.gone then 161 else 0 | none => 161) else 2
def getX (key : Int) (L : List TnE) : TnE := if getE key L = 0 then (fnd key L).getD z0 else z0
def getV (key : Int) (L : List TnE) : Value := ansV (getE key L) (getX key L).rate (getX key L).burst
theorem getV_bad {key : Int} {L : List TnE} (h : chk L = false) : getV key L = ansV 2 0 0 := by
  have : getE key L = 2 := by unfold getE; rw [h]; rfl
  unfold getV getX; rw [this]; rfl
theorem getV_none {key : Int} {L : List TnE} (h : chk L = true) (h2 : fnd key L = none) : getV key L = ansV 161 0 0 := by
  have : getE key L = 161 := by unfold getE; rw [h, h2]; rfl
  unfold getV getX; rw [this]; rfl
theorem getV_gone {key : Int} {L : List TnE} {x : TnE} (h : chk L = true) (h2 : fnd key L = some x) (h3 : x.gone = true) : getV key L = ansV 161 0 0 := by
  have : getE key L = 161 := by unfold getE; rw [h, h2]; simp [h3]
  unfold getV getX; rw [this]; rfl
theorem getV_some {key : Int} {L : List TnE} {x : TnE} (h : chk L = true) (h2 : fnd key L = some x) (h3 : x.gone = false) : getV key L = ansV 0 x.rate x.burst := by
  have : getE key L = 0 := by unfold getE; rw [h, h2]; simp [h3]
  unfold getV getX; rw [this, h2]; rfl
theorem pfind_ok (v : Value) (L : List TnE) (key : Int) (w : World) (h : TV w v L) (hc : chk L = true) : Calls Try.prog 79 #[v, .int .i64 key] w fun e w' => e = .returned (.tuple #[((fnd key L).getD z0).agg, .bool (fnd key L).isSome]) ∧ Below w.heap.size w w' := by
  have := pfind_any v L key w h
  rw [fnd_at key L 0 hc]
  have e2 : (if isAt key L = true then some (gt L (plc key L)) else none).isSome = isAt key L := by cases isAt key L <;> rfl
  rw [e2]
  exact this
set_option maxRecDepth 100000 in
set_option maxHeartbeats 4000000 in
theorem rfind_any (v : Value) (L : List TnE) (key : Int) (w : World) (h : TV w v L) : Calls Try.prog 26 #[v, .int .i64 key] w fun e w' => e = .returned (.tuple #[((fndC key L).getD z0).agg, .bool (fndC key L).isSome]) ∧ Below w.heap.size w w' := by
  obtain ⟨N, hN⟩ : ∃ N, N = w.heap.size := ⟨_, rfl⟩
  obtain ⟨W1, hW1⟩ : ∃ W1, W1 = w.alloc (.cells #[.int .i64 0, .int .i64 0, .int .i64 0, .int .i64 0, .bool false] 54) := ⟨_, rfl⟩
  have hB1 : Below w.heap.size w W1 := by rw [hW1]; exact (Below.refl _ _).alloc (Nat.le_refl _) _
  have HK1 : Hid (Blk W1 N #[.int .i64 0, .int .i64 0, .int .i64 0, .int .i64 0, .bool false] 54) := Lib.hid (by rw [hW1, hN]; exact blk_new _ _ _)
  have HV1 := Lib.hid (h.below hB1)
  have HB1 := Lib.hid hB1
  have HNB : Hid (w.heap.size ≤ N) := Lib.hid (by rw [hN]; exact Nat.le_refl _)
  clear hB1 h
  have HCK := Lib.hid (fun W (hB : Below W1.heap.size W1 W) => rcheck_any v L W (HV1.out.below hB))
  obtain ⟨R, hR⟩ : ∃ R : Value, R = .tuple #[((fndC key L).getD z0).agg, .bool (fndC key L).isSome] := ⟨_, rfl⟩
  rw [← hR]
  have HR := Lib.hid hR
  obtain ⟨C, hC⟩ : ∃ C, C = chk L := ⟨_, rfl⟩
  rw [← hC] at HCK
  have HC := Lib.hid hC
  clear hR hC
  obtain ⟨a, b, o, cap, rfl, h⟩ := HV1.out
  have m1 := h.le
  have m2 := h.max
  unfold maxLen at m2
  have H1 := Lib.hid h
  clear h
  obtain ⟨n, hn⟩ : ∃ n, n = L.length := ⟨_, rfl⟩
  have HN := Lib.hid hn
  rw [← hn] at m1 H1 HCK ⊢
  clear hn HV1
  go_enter Try.func26, Try.ntmps26
  go_upto_region 1 with fail
  rw [← hN, ← hW1]
  clear hN hW1
  go_wp2_with fail
  go_loopw [6] (fun i wr => ∃ k : Nat, k ≤ n ∧ i = .int .i64 k ∧ (C = true → fnd key (L.drop k) = fnd key L) ∧ Below W1.heap.size W1 wr) (fun i _ => n - (intOf i).toNat)
  case atStart => exact ⟨0, Nat.zero_le _, rfl, fun _ => rfl, Below.refl _ _⟩
  case round =>
    obtain ⟨k, hk, rfl, hf, hB⟩ := hrel
    have HB := Lib.hid hB
    have HF := Lib.hid hf
    clear hf hB
    by_cases hlt : k < n
    · have CK := Lib.hid (HCK.out wr HB.out)
      cases C
      · have hRx : R = .tuple #[.agg #[.int .i64 0, .int .i64 0, .int .i64 0, .int .i64 0, .bool false], .bool false] := by rw [HR.out]; unfold fndC; rw [← HC.out]; rfl
        subst hRx
        go_wp2_with fail
        go_at_call 30
        refine Calls.mono CK.out ?_
        rintro e W3 ⟨rfl, hB3⟩
        have hb3 := HB.out.trans (hB3.mono HB.out.size)
        have HK3 := Lib.hid (HK1.out.step hb3)
        have HB3 := Lib.hid (HB1.out.trans (hb3.mono HB1.out.size))
        clear hb3 hB3
        have q0 : W3.cell? ⟨N, 0, none⟩ = some (.int .i64 0) := cell_at HK3.out 0
        have q1 : W3.cell? ⟨N, 1, none⟩ = some (.int .i64 0) := cell_at HK3.out 1
        have q2 : W3.cell? ⟨N, 2, none⟩ = some (.int .i64 0) := cell_at HK3.out 2
        have q3 : W3.cell? ⟨N, 3, none⟩ = some (.int .i64 0) := cell_at HK3.out 3
        have q4 : W3.cell? ⟨N, 4, none⟩ = some (.bool false) := cell_at HK3.out 4
        have zq : ∀ j, W3.frozen? ⟨N, j, none⟩ = false := fun j => free_at HK3.out j
        have lq : N < W3.heap.size := HK3.out.lt
        go_wp2_with fail
        clear q0 q1 q2 q3 q4
        obtain ⟨LS, hLS⟩ : ∃ L : List Value, L = [.int .i64 0, .int .i64 0, .int .i64 0, .int .i64 0, .bool false] := ⟨_, rfl⟩
        obtain ⟨WS, hWS⟩ : ∃ WS, WS = W3.setCells (N) 0 LS := ⟨_, rfl⟩
        have hchS := hWS
        rw [hLS] at hchS
        simp only [World.setCells, Nat.zero_add, Nat.reduceAdd] at hchS
        rw [← hchS]
        clear hchS
        have hkS := stC_blk HK3.out LS (by rw [hLS]; rfl)
        have hfrS := stC_fr (N) LS 0 W3
        rw [← hWS] at hkS hfrS
        rw [hLS] at hkS
        have r0 : WS.cell? ⟨N, 0, none⟩ = some (.int .i64 0) := cell_at hkS 0
        have r1 : WS.cell? ⟨N, 1, none⟩ = some (.int .i64 0) := cell_at hkS 1
        have r2 : WS.cell? ⟨N, 2, none⟩ = some (.int .i64 0) := cell_at hkS 2
        have r3 : WS.cell? ⟨N, 3, none⟩ = some (.int .i64 0) := cell_at hkS 3
        have r4 : WS.cell? ⟨N, 4, none⟩ = some (.bool false) := cell_at hkS 4
        clear hWS hLS
        have hBS := HB3.out.trans (hfrS.below HB3.out.size (by have := HNB.out; simp; omega))
        exact bodyPost_ret (v := .tuple #[.agg #[.int .i64 0, .int .i64 0, .int .i64 0, .int .i64 0, .bool false], .bool false]) (by simp [results, Try.results26, go_sem, r0, r1, r2, r3, r4]) rfl ⟨rfl, hBS⟩
      · have hst := fnd_step key (L := L) (k := k) (by rw [← HN.out]; exact hlt)
        rw [HF.out rfl] at hst
        go_wp2_with fail
        go_at_call 30
        refine Calls.mono CK.out ?_
        rintro e W3 ⟨rfl, hB3⟩
        have hb3 := HB.out.trans (hB3.mono HB.out.size)
        have HKW := Lib.hid hb3
        have HK3 := Lib.hid (HK1.out.step hb3)
        have HB3 := Lib.hid (HB1.out.trans (hb3.mono HB1.out.size))
        have hs1 := H1.out.below hb3
        obtain ⟨e0, e1⟩ := hs1.at_ (by omega)
        subst e0
        obtain ⟨c0, c1, c2, c3, c4⟩ := hs1.cell k hlt
        obtain ⟨x, hx⟩ : ∃ x, x = gt L k := ⟨_, rfl⟩
        rw [← hx] at c0 c1 c2 c3 c4 hst
        have HST := Lib.hid hst
        clear hs1 hx hst hB3 hb3 CK HF
        by_cases he : x.id = key
        · have hRx : R = .tuple #[.agg #[.int .i64 x.id, .int .i64 x.rate, .int .i64 x.burst, .int .i64 x.bkt, .bool x.gone], .bool true] := by rw [HR.out]; unfold fndC; rw [← HC.out, HST.out]; simp [he, TnE.agg]
          subst hRx
          have hd : (x.id = key) = True := eq_true he
          have hd2 : (x.id == key) = true := beq_iff_eq.2 he
          clear he
          have q0 : W3.cell? ⟨N, 0, none⟩ = some (.int .i64 0) := cell_at HK3.out 0
          have q1 : W3.cell? ⟨N, 1, none⟩ = some (.int .i64 0) := cell_at HK3.out 1
          have q2 : W3.cell? ⟨N, 2, none⟩ = some (.int .i64 0) := cell_at HK3.out 2
          have q3 : W3.cell? ⟨N, 3, none⟩ = some (.int .i64 0) := cell_at HK3.out 3
          have q4 : W3.cell? ⟨N, 4, none⟩ = some (.bool false) := cell_at HK3.out 4
          have zq : ∀ j, W3.frozen? ⟨N, j, none⟩ = false := fun j => free_at HK3.out j
          have lq : N < W3.heap.size := HK3.out.lt
          go_wp2_with fail
          clear q0 q1 q2 q3 q4 c0 c1 c2 c3 c4
          obtain ⟨LS, hLS⟩ : ∃ L : List Value, L = [.int .i64 x.id, .int .i64 x.rate, .int .i64 x.burst, .int .i64 x.bkt, .bool x.gone] := ⟨_, rfl⟩
          obtain ⟨WS, hWS⟩ : ∃ WS, WS = W3.setCells (N) 0 LS := ⟨_, rfl⟩
          have hchS := hWS
          rw [hLS] at hchS
          simp only [World.setCells, Nat.zero_add, Nat.reduceAdd] at hchS
          rw [← hchS]
          clear hchS
          have hkS := stC_blk HK3.out LS (by rw [hLS]; rfl)
          have hfrS := stC_fr (N) LS 0 W3
          rw [← hWS] at hkS hfrS
          rw [hLS] at hkS
          have r0 : WS.cell? ⟨N, 0, none⟩ = some (.int .i64 x.id) := cell_at hkS 0
          have r1 : WS.cell? ⟨N, 1, none⟩ = some (.int .i64 x.rate) := cell_at hkS 1
          have r2 : WS.cell? ⟨N, 2, none⟩ = some (.int .i64 x.burst) := cell_at hkS 2
          have r3 : WS.cell? ⟨N, 3, none⟩ = some (.int .i64 x.bkt) := cell_at hkS 3
          have r4 : WS.cell? ⟨N, 4, none⟩ = some (.bool x.gone) := cell_at hkS 4
          clear hWS hLS
          have hBS := HB3.out.trans (hfrS.below HB3.out.size (by have := HNB.out; simp; omega))
          exact bodyPost_ret (v := .tuple #[.agg #[.int .i64 x.id, .int .i64 x.rate, .int .i64 x.burst, .int .i64 x.bkt, .bool x.gone], .bool true]) (by simp [results, Try.results26, go_sem, r0, r1, r2, r3, r4]) rfl ⟨rfl, hBS⟩
        · have HF2 : Hid (fnd key (L.drop (k + 1)) = fnd key L) := Lib.hid (by rw [HST.out, if_neg he])
          go_wp2_with fail
          go_roundw
          case rel => exact ⟨k + 1, by omega, by go_num, fun _ => HF2.out, HKW.out⟩
          case measure => first | (simp [intOf]; done) | (simp [intOf]; omega)
    · obtain rfl : k = n := by omega
      have hRx : R = .tuple #[.agg #[.int .i64 0, .int .i64 0, .int .i64 0, .int .i64 0, .bool false], .bool false] := by
        rw [HR.out]
        unfold fndC
        rw [← HC.out]
        cases C
        · rfl
        · rw [if_pos rfl, ← HF.out rfl, HN.out, fnd_end]
          rfl
      subst hRx
      have HK3 := Lib.hid (HK1.out.step HB.out)
      have HB3 := Lib.hid (HB1.out.trans (HB.out.mono HB1.out.size))
      have q0 : wr.cell? ⟨N, 0, none⟩ = some (.int .i64 0) := cell_at HK3.out 0
      have q1 : wr.cell? ⟨N, 1, none⟩ = some (.int .i64 0) := cell_at HK3.out 1
      have q2 : wr.cell? ⟨N, 2, none⟩ = some (.int .i64 0) := cell_at HK3.out 2
      have q3 : wr.cell? ⟨N, 3, none⟩ = some (.int .i64 0) := cell_at HK3.out 3
      have q4 : wr.cell? ⟨N, 4, none⟩ = some (.bool false) := cell_at HK3.out 4
      have zq : ∀ j, wr.frozen? ⟨N, j, none⟩ = false := fun j => free_at HK3.out j
      have lq : N < wr.heap.size := HK3.out.lt
      go_wp2_with fail
      clear q0 q1 q2 q3 q4
      obtain ⟨LS, hLS⟩ : ∃ L : List Value, L = [.int .i64 0, .int .i64 0, .int .i64 0, .int .i64 0, .bool false] := ⟨_, rfl⟩
      obtain ⟨WS, hWS⟩ : ∃ WS, WS = wr.setCells (N) 0 LS := ⟨_, rfl⟩
      have hchS := hWS
      rw [hLS] at hchS
      simp only [World.setCells, Nat.zero_add, Nat.reduceAdd] at hchS
      rw [← hchS]
      clear hchS
      have hkS := stC_blk HK3.out LS (by rw [hLS]; rfl)
      have hfrS := stC_fr (N) LS 0 wr
      rw [← hWS] at hkS hfrS
      rw [hLS] at hkS
      have r0 : WS.cell? ⟨N, 0, none⟩ = some (.int .i64 0) := cell_at hkS 0
      have r1 : WS.cell? ⟨N, 1, none⟩ = some (.int .i64 0) := cell_at hkS 1
      have r2 : WS.cell? ⟨N, 2, none⟩ = some (.int .i64 0) := cell_at hkS 2
      have r3 : WS.cell? ⟨N, 3, none⟩ = some (.int .i64 0) := cell_at hkS 3
      have r4 : WS.cell? ⟨N, 4, none⟩ = some (.bool false) := cell_at hkS 4
      clear hWS hLS
      have hBS := HB3.out.trans (hfrS.below HB3.out.size (by have := HNB.out; simp; omega))
      exact bodyPost_ret (v := .tuple #[.agg #[.int .i64 0, .int .i64 0, .int .i64 0, .int .i64 0, .bool false], .bool false]) (by simp [results, Try.results26, go_sem, r0, r1, r2, r3, r4]) rfl ⟨rfl, hBS⟩
end Go.Proofs.Ytfgnjpdlchimpaa
namespace Go.Proofs.Ytfgnjpdlchimpaa
open Go.RowKit
set_option linter.unusedSimpArgs false
set_option linter.unusedVariables false

theorem tnZero : (Try.prog.info? 54).map (fun i => (i.zero, i.size, i.bytes)) = some (some z0.agg, 5, 40) := by kernel_rfl
theorem tnL_one (E : Nat → TnE) (n : Nat) : ∀ u ∈ tnL E n, u.oneCell' = true := by
  intro u hu
  simp only [tnL, List.mem_flatMap] at hu
  obtain ⟨k, _, hk⟩ := hu
  have : (E k).cells.all (fun u => u.oneCell') = true := rfl
  exact List.all_eq_true.1 this u hk
theorem tn_at2 {W : World} {a : Option Addr} {n c b o : Nat} {E : Nat → TnE} (h : TnIn W a n c b o E) (j : Nat) (u : Value) (hu : (tnL E n)[j]? = some u) : W.cell? ⟨b, o + j, none⟩ = some u := by
  have hj : j < n * 5 := by have := (List.getElem?_eq_some_iff.1 hu).1; rwa [tnL_len] at this
  obtain ⟨k, i, hk, hi, rfl⟩ : ∃ k i, k < n ∧ i < 5 ∧ j = k * 5 + i := ⟨j / 5, j % 5, by omega, by omega, by omega⟩
  rw [tnL_at E n k i hk hi] at hu
  obtain ⟨c0, c1, c2, c3, c4⟩ := h.cell k hk
  have hi3 : i = 0 ∨ i = 1 ∨ i = 2 ∨ i = 3 ∨ i = 4 := by omega
  rcases hi3 with rfl | rfl | rfl | rfl | rfl
  · simp [TnE.cells] at hu; subst hu; exact c0
  · simp [TnE.cells] at hu; subst hu; rw [← Nat.add_assoc]; exact c1
  · simp [TnE.cells] at hu; subst hu; rw [← Nat.add_assoc]; exact c2
  · simp [TnE.cells] at hu; subst hu; rw [← Nat.add_assoc]; exact c3
  · simp [TnE.cells] at hu; subst hu; rw [← Nat.add_assoc]; exact c4
/-- likewise, and its block is no older than m -/
def TVo (m : Nat) (W : World) (v : Value) (L : List TnE) : Prop := ∃ a b o cap, v = .slice a L.length cap ∧ TnIn W a L.length cap b o (gt L) ∧ (0 < L.length → m ≤ b)
theorem TVo.tv {m : Nat} {W : World} {v : Value} {L : List TnE} (h : TVo m W v L) : TV W v L := by
  obtain ⟨a, b, o, c, e, h, _⟩ := h
  exact ⟨a, b, o, c, e, h⟩
theorem TVo.le {m m' : Nat} {W : World} {v : Value} {L : List TnE} (h : TVo m W v L) (hm : m' ≤ m) : TVo m' W v L := by
  obtain ⟨a, b, o, c, e, h, h2⟩ := h
  exact ⟨a, b, o, c, e, h, fun hl => Nat.le_trans hm (h2 hl)⟩
theorem TVo.below {m : Nat} {W W' : World} {v : Value} {L : List TnE} (h : TVo m W v L) (hB : Below W.heap.size W W') : TVo m W' v L := by
  obtain ⟨a, b, o, c, e, h, h2⟩ := h
  exact ⟨a, b, o, c, e, h.below hB, h2⟩
theorem TVo.fr {m N : Nat} {W W' : World} {v : Value} {L : List TnE} (h : TVo m W v L) (hf : Fr [N] W W') (hN : N < m) : TVo m W' v L := by
  obtain ⟨a, b, o, c, e, h, h2⟩ := h
  refine ⟨a, b, o, c, e, ⟨h.le, h.max, fun hk => ⟨(h.at_ hk).1, by have := (h.at_ hk).2; have := hf.size; omega⟩, fun k hk => ?_, h.bd⟩, h2⟩
  have hb := (h.at_ (by omega)).2
  have hm := h2 (by omega)
  obtain ⟨c0, c1, c2, c3, c4⟩ := h.cell k hk
  have hbl := hf.block b hb (by simp; omega)
  have hc : ∀ q, W'.cell? ⟨b, q, none⟩ = W.cell? ⟨b, q, none⟩ := fun q => by unfold World.cell?; rw [hbl]
  exact ⟨(hc _).trans c0, (hc _).trans c1, (hc _).trans c2, (hc _).trans c3, (hc _).trans c4⟩
theorem tvo_row {m : Nat} {W : World} {v : Value} {ob : Option Nat} {L : List TnE} (h : Row W v ob 54 5 L.length (listL L)) (ho : okL L) (hg : ∀ g, ob = some g → m ≤ g) : TVo m W v L := by
  have hl := h
  rw [tnL_gt] at h
  obtain ⟨a, c, e, h2⟩ := tn_row h (okL_gt ho)
  refine ⟨a, _, 0, c, e, h2, fun hk => ?_⟩
  obtain ⟨g, hg2, _⟩ := hl.cell 0 (by omega)
  subst hg2
  exact hg g rfl
set_option maxRecDepth 100000 in
set_option maxHeartbeats 4000000 in
theorem tclone_any (a : Option Addr) (n c b o : Nat) (P : Nat → TnE) (w : World) (h1 : TnIn w a n c b o P) (hn5 : n ≤ 5000) :
    Calls Try.prog 66 #[.slice a n c] w fun e w' => ∃ v ob, e = .returned v ∧ Row w' v ob 54 5 n (tnL P n) ∧ (∀ g, ob = some g → w.heap.size ≤ g) ∧ Below w.heap.size w w' := by
  obtain ⟨i0, hi, hz0, hz1, hz2⟩ := info_parts tnZero
  have HI := Lib.hid hi
  have HZ0 := Lib.hid hz0
  have HZ1 := Lib.hid hz1
  have HZ2 := Lib.hid hz2
  have hm := h1.max
  have hl := h1.le
  unfold maxLen at hm
  have HA := Lib.hid h1
  clear h1 hi hz0 hz1 hz2
  cases a with
  | none =>
    obtain rfl : n = 0 := by
      rcases Nat.eq_zero_or_pos n with h | h
      · exact h
      · exact absurd (HA.out.at_ h).1 (by simp)
    have hnil : ∀ W, (binOp .eql 22 (.slice none 0 c) (.slice none 0 0)).run Try.prog W = .ok (.bool true) W := fun _ => rfl
    go_enter Try.func66, Try.ntmps66
    go_wp2_with fail
    go_ret
    exact ⟨_, none, rfl, Row.nil _ _ _, (fun _ h => by cases h), Below.refl _ _⟩
  | some p =>
    have hnil : ∀ W, (binOp .eql 22 (.slice (some p) n c) (.slice none 0 0)).run Try.prog W = .ok (.bool false) W := fun _ => rfl
    go_enter Try.func66, Try.ntmps66
    have HR0 : Hid (Row (w.alloc (.cells #[] 54)) (.slice (some ⟨w.heap.size, 0, none⟩) 0 0) (some w.heap.size) 54 5 0 (tnL P 0)) := Lib.hid (Row.mk (heap_alloc_new w _) (Nat.le_refl _) (by unfold maxLen; omega) rfl rfl)
    have HB0 : Hid (Below w.heap.size w (w.alloc (.cells #[] 54))) := Lib.hid ((Below.refl _ _).alloc (Nat.le_refl _) _)
    by_cases h0 : n = 0
    · subst h0
      go_wp2_with (at_builtin; refine wpList_append_row_zero _ rfl (.tmp 5) (.tmp 6) 22 rfl 54 i0 5 Try.underlying22 HI.out _ _ 0 _ rfl HR0.out (some p) c rfl ?_)
      go_wp2_with fail
      go_ret
      exact ⟨_, some w.heap.size, rfl, HR0.out, (fun g e => by obtain rfl := Option.some.inj e; exact Nat.le_refl _), HB0.out⟩
    · obtain ⟨e0, e1⟩ := HA.out.at_ (by omega)
      obtain rfl : p = ⟨b, o, none⟩ := Option.some.inj e0
      have hb8 : (0 + (n : Int)) * 40 ≤ 140737488355328 := by omega
      go_wp2_with (at_builtin; refine wpList_append_row _ rfl (.tmp 5) (.tmp 6) 22 rfl 54 i0 _ 5 40 Try.underlying22 HI.out HZ0.out HZ1.out HZ2.out rfl (by decide) _ _ 0 (tnL P 0) rfl HR0.out ⟨b, o, none⟩ n c (tnL P n) rfl (by omega) (tnL_len P n) ?c1 (tnL_one P n) ?c3 ?c4 ?_)
      case c1 => first | exact fun j u hu => tn_at2 HA.out j u hu | exact fun j u hu => tn_at2 (HA.out.below HB0.out) j u hu
      case c3 => unfold maxLen; omega
      case c4 => omega
      intro v' ob' W3 hrow3 hg3 hob3
      have hB3 : Below w.heap.size w W3 := HB0.out.grown hg3 (by simp) (fun g e => by obtain rfl := Option.some.inj e; exact Nat.le_refl _)
      have hrow4 : Row W3 v' (some ob') 54 5 n (tnL P n) := by
        first | exact hrow3 | (rw [Nat.zero_add] at hrow3; exact hrow3)
      have HB3 := Lib.hid hB3
      have HR4 := Lib.hid hrow4
      have HOB : Hid (w.heap.size ≤ ob') := Lib.hid (by
        rcases hob3 with h | h
        · exact Nat.le_of_eq (by first | exact h | exact Option.some.inj h)
        · rw [h]; simp)
      clear hrow3 hg3 hob3 hrow4 hB3
      go_wp2_with fail
      go_ret
      exact ⟨v', some ob', rfl, HR4.out, (fun g e => by obtain rfl := Option.some.inj e; exact HOB.out), HB3.out⟩

theorem clone_tv (v : Value) (L : List TnE) (w : World) (h : TV w v L) (hn : L.length ≤ 200) : Calls Try.prog 66 #[v] w fun e w' => ∃ v', e = .returned v' ∧ TVo w.heap.size w' v' L ∧ Below w.heap.size w w' := by
  have hok := h.ok
  obtain ⟨a, b, o, cap, rfl, h⟩ := h
  have := tclone_any a L.length cap b o (gt L) w h (by omega)
  rw [← tnL_gt] at this
  refine this.mono ?_
  rintro e w' ⟨v', ob, rfl, hr, ho, hB⟩
  exact ⟨v', rfl, tvo_row hr hok ho, hB⟩
end Go.Proofs.Ytfgnjpdlchimpaa
namespace Go.Proofs.Ytfgnjpdlchimpaa
open Go.RowKit
set_option linter.unusedSimpArgs false
set_option linter.unusedVariables false

theorem op_append_run {P : Program} {o : Oper} {a : Act} {K : Act → World → Prop} {Q : Exit → Act → World → Prop} {w w' : World} (s x : Operand) (t : TypeId)
    (ho : o.op = .call { callee := .builtin .append, args := #[s, x], argTypes := #[t, t] }) {v y v' : Value} (hs : a.eval s = v) (hx : a.eval x = y)
    (hr : (Builtin.append_ #[t, t] o.type #[v, y]).run P w = .ok v' w') (h : K (a.put o.dst v') w') : Oper.wp P o a w K Q := by
  unfold Oper.wp execOp
  simp only [ho, resolve, invoke, builtin, Sem.run_bind, Sem.run_pure, Result.andThen_ok, List.map_toArray, List.map_cons, List.map_nil, hs, hx, hr]
  exact h
theorem listL_ones (L : List TnE) : ∀ u ∈ listL L, u.oneCell' = true := by
  intro u hu
  simp only [listL, List.mem_flatMap] at hu
  obtain ⟨y, _, hk⟩ := hu
  have : y.cells.all (fun u => u.oneCell') = true := rfl
  exact List.all_eq_true.1 this u hk
/-- a foreign piece of tenants -/
structure PcT (W : World) (a : Option Addr) (n c : Nat) (L : List TnE) : Prop where
  len : L.length = n
  at_ : 0 < n → ∃ b o, a = some ⟨b, o, none⟩ ∧ b < W.heap.size ∧ ∀ j u, (listL L)[j]? = some u → W.cell? ⟨b, o + j, none⟩ = some u
theorem PcT.below {W W' : World} {a : Option Addr} {n c : Nat} {L : List TnE} (h : PcT W a n c L) (hB : Below W.heap.size W W') : PcT W' a n c L :=
  ⟨h.len, fun hn => by
    obtain ⟨b, o, e, hb, hc⟩ := h.at_ hn
    exact ⟨b, o, e, by have := hB.size; omega, fun j u hu => (hB.cell (p := ⟨b, _, none⟩) hb).trans (hc j u hu)⟩⟩
theorem pct_in {W : World} {a : Option Addr} {n cap b o : Nat} {L : List TnE} (h : TnIn W a n cap b o (gt L)) (hn : n = L.length) (i j : Nat) (hij : i + j ≤ n) (hj : 0 < j) : ∀ q u, (listL ((L.drop i).take j))[q]? = some u → W.cell? ⟨b, o + i * 5 + q, none⟩ = some u := by
  intro q u hu
  have hq : q < j * 5 := by
    have := (List.getElem?_eq_some_iff.1 hu).1
    rw [listL_len] at this
    simp at this
    omega
  have e : (tnL (gt L) n)[i * 5 + q]? = some u := by
    rw [hn, ← tnL_gt]
    have h1 : listL L = listL (L.take i) ++ listL ((L.drop i).take j) ++ listL ((L.drop i).drop j) := by
      rw [← listL_append, ← listL_append, List.append_assoc, List.take_append_drop, List.take_append_drop]
    rw [h1, List.append_assoc, List.getElem?_append_right (by rw [listL_len]; simp; omega), listL_len, List.length_take, show min i L.length = i by omega, show i * 5 + q - i * 5 = q by omega, List.getElem?_append_left (by rw [listL_len]; simp; omega)]
    exact hu
  have := tn_at2 h (i * 5 + q) u e
  rwa [← Nat.add_assoc] at this
theorem pct_drop {W : World} {q : Addr} {n cap b o c : Nat} {L : List TnE} (h : TnIn W (some q) n cap b o (gt L)) (hn : n = L.length) (i : Nat) (hi : i ≤ n) (ad : Option Addr) (had : i < n → q = ⟨b, o, none⟩ → ad = some ⟨b, o + i * 5, none⟩) : PcT W ad (n - i) c (L.drop i) := by
  refine ⟨by simp [hn], fun h0 => ?_⟩
  obtain ⟨e0, e1⟩ := h.at_ (by omega)
  refine ⟨b, o + i * 5, had (by omega) (Option.some.inj e0), e1, fun j u hu => ?_⟩
  refine pct_in h hn i (n - i) (by omega) (by omega) j u ?_
  rw [List.take_of_length_le (by simp [hn])]
  exact hu
theorem full_take {W : World} {q : Addr} {n cap b o : Nat} {L : List TnE} (h : TnIn W (some q) n cap b o (gt L)) (hn : n = L.length) (p : Nat) (hp : p ≤ n) (x : Addr) (hx : some q = some x) : ∀ j u, (listL (L.take p))[j]? = some u → W.cell? (x.add j) = some u := by
  intro j u hu
  obtain rfl := Option.some.inj hx
  rcases Nat.eq_zero_or_pos p with rfl | h0
  · simp [listL] at hu
  · obtain ⟨e0, e1⟩ := h.at_ (by omega)
    obtain rfl := Option.some.inj e0
    rw [addr_add]
    have := pct_in h hn 0 p (by omega) h0 j u (by simpa using hu)
    simpa using this
/-- the first append: onto a full piece -/
theorem app_full {W : World} {ty : TypeId} {ao : Option Addr} {k : Nat} {L1 : List TnE} {M : Nat} {x : TnE} (hL : L1.length = k) (hk : k ≤ 1000) (hnone : ao = none → k = 0)
    (ho : ∀ q, ao = some q → ∀ j u, (listL L1)[j]? = some u → W.cell? (q.add j) = some u) (hx : ∀ j u, x.cells[j]? = some u → W.cell? ((⟨M, 0, none⟩ : Addr).add j) = some u) :
    ∃ v' ob' w', (Builtin.append_ #[22, 22] ty #[.slice ao k k, .slice (some ⟨M, 0, none⟩) 1 1]).run Try.prog W = .ok v' w' ∧ Row w' v' (some ob') 54 5 (L1 ++ [x]).length (listL (L1 ++ [x])) ∧ W.grownBy w' none ∧ W.heap.size ≤ ob' := by
  obtain ⟨i0, hi, hz0, hz1, hz2⟩ := info_parts tnZero
  have hxo : ∀ u ∈ x.cells, u.oneCell' = true := by
    intro u hu
    have : x.cells.all (fun u => u.oneCell') = true := rfl
    exact List.all_eq_true.1 this u hu
  have e1 : (L1 ++ [x]).length = k + 1 := by simp [hL]
  have e2 : listL (L1 ++ [x]) = listL L1 ++ x.cells := by rw [listL_append, listL_one]
  rw [e1, e2]
  cases ao with
  | none =>
    obtain rfl := hnone rfl
    obtain rfl : L1 = [] := List.eq_nil_of_length_eq_zero hL
    obtain ⟨v', ob', w', hr, h2, h3, h4⟩ := run_append_row (P := Try.prog) W 22 ty 54 i0 _ 5 40 Try.underlying22 hi hz0 hz1 hz2 rfl (by decide) _ none 0 [] (Row.nil _ _ _) ⟨M, 0, none⟩ 1 1 x.cells (by decide) rfl hx hxo (by decide) (by decide)
    exact ⟨v', ob', w', hr, h2, h3, by rcases h4 with h | h; cases h; omega⟩
  | some q =>
    obtain ⟨v', w', hrun, ⟨ol, hc⟩, hgr⟩ := run_append_arg_grows (P := Try.prog) W 22 ty 54 i0 _ 5 40 Try.underlying22 hi hz0 hz1 hz2 rfl (by decide) q k k (listL L1) (by rw [listL_len, hL]) (ho q rfl) ⟨M, 0, none⟩ 1 1 x.cells rfl hx (by omega) (by unfold maxLen; omega) (by omega)
    rcases hc with ⟨_, hz⟩ | ⟨g', cap', cur', rfl, k2, k3, k4, k5, k6, k7⟩
    · exact absurd hz (by omega)
    · exact ⟨_, g', w', hrun, Row.mk k3 k4 k5 k6 k7, hgr, k2⟩
/-- the second: a piece onto an own row -/
theorem app_row {W : World} {ty : TypeId} {v : Value} {ob : Nat} {n : Nat} {L1 L2 : List TnE} {a2 : Option Addr} {m c : Nat} (hr : Row W v (some ob) 54 5 n (listL L1)) (hn : n = L1.length) (hp : PcT W a2 m c L2) (h1 : L1.length + m ≤ 1000) :
    ∃ v' ob' w', (Builtin.append_ #[22, 22] ty #[v, .slice a2 m c]).run Try.prog W = .ok v' w' ∧ Row w' v' (some ob') 54 5 (L1 ++ L2).length (listL (L1 ++ L2)) ∧ W.grownBy w' (some ob) ∧ (ob' = ob ∨ W.heap.size ≤ ob') := by
  subst hn
  obtain ⟨i0, hi, hz0, hz1, hz2⟩ := info_parts tnZero
  rcases Nat.eq_zero_or_pos m with rfl | hm
  · have hL2 : L2 = [] := List.eq_nil_of_length_eq_zero hp.len
    rw [hL2, List.append_nil]
    exact ⟨v, ob, W, run_append_row_zero (P := Try.prog) (w := W) 22 ty 54 i0 5 Try.underlying22 hi v (some ob) _ _ hr a2 c, hr, ⟨rfl, rfl, rfl, Nat.le_refl _, fun _ _ _ => rfl⟩, .inl rfl⟩
  · obtain ⟨b, o, rfl, hb, hc⟩ := hp.at_ hm
    obtain ⟨v', ob', w', hrun, h2, h3, h4⟩ := run_append_row (P := Try.prog) W 22 ty 54 i0 _ 5 40 Try.underlying22 hi hz0 hz1 hz2 rfl (by decide) v (some ob) L1.length (listL L1) hr ⟨b, o, none⟩ m c (listL L2) hm (by rw [listL_len, hp.len]) (fun j u hu => by rw [addr_add]; exact hc j u hu) (listL_ones L2) (by unfold maxLen; omega) (by omega)
    refine ⟨v', ob', w', hrun, ?_, h3, ?_⟩
    · rw [listL_append, List.length_append, hp.len]
      exact h2
    · rcases h4 with h | h
      · exact .inl (Option.some.inj h).symm
      · exact .inr (by omega)
end Go.Proofs.Ytfgnjpdlchimpaa
