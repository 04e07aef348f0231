/-
  How a disk lies in memory: plain files and disks, and when the blocks of a world hold one.
-/
import Derived.Test.YtgbbbjddooiaeaaBasic
namespace Go.Proofs.Ytgbbbjddooiaeaa
open Go.RowKit

/-- A file: its name, its text, how many bytes of it are sure. -/
structure PF where
  name : ByteArray
  text : List UInt8
  sure : Nat

/-- A disk. -/
structure PD where
  files : List PF
  down : Bool
  lit : Bool
  pass : Nat
  plan : List (ByteArray × Int)

/-- Where a disk lies: its row of files, each file's block and its row of blocks, the plan's row. -/
structure Place where
  row : Option Nat
  files : List (Nat × Option Nat)
  plan : Option Nat

def PF.ok (f : PF) : Prop := nameB f.name = true ∧ f.sure ≤ f.text.length ∧ f.text.length ≤ 1048576

/-- n blocks of 513 cells each that hold a text. -/
structure Blocks (xs : List Value) (n : Nat) (t : List UInt8) : Prop where
  hi : t.length ≤ 512 * n
  lo : 512 * n < t.length + 512
  used : ∀ i, i < n → xs[513 * i]? = some (.int .i64 (min 512 (t.length - 512 * i) : Nat))
  byte : ∀ k, k < t.length → xs[513 * (k / 512) + 1 + k % 512]? = some (.int .u8 ((t.getD k 0).toNat : Nat))
  one : ∀ u ∈ xs, u.oneCell' = true

def FRep (w : World) (p : Nat × Option Nat) (f : PF) : Prop :=
  ∃ v n xs, w.heap[p.1]? = some (.cells #[.string f.name, v, .int .i64 (f.sure : Nat)] 76 (0, 0)) ∧ Row w v p.2 92 513 n xs ∧ Blocks xs n f.text ∧ f.ok

inductive All2 {α β : Type} (r : α → β → Prop) : List α → List β → Prop where
  | nil : All2 r [] []
  | cons {a b l m} : r a b → All2 r l m → All2 r (a :: l) (b :: m)

theorem All2.length {α β : Type} {r : α → β → Prop} {l : List α} {m : List β} (h : All2 r l m) : l.length = m.length := by
  induction h with
  | nil => rfl
  | cons _ _ ih => simp [ih]
theorem All2.get {α β : Type} {r : α → β → Prop} {l : List α} {m : List β} (h : All2 r l m) (j : Nat) (h1 : j < l.length) (h2 : j < m.length) : r l[j] m[j] := by
  induction h generalizing j with
  | nil => simp at h1
  | cons a _ ih =>
    cases j with
    | zero => exact a
    | succ j => exact ih j (by simpa using h1) (by simpa using h2)
theorem All2.of_get {α β : Type} {r : α → β → Prop} : ∀ {l : List α} {m : List β}, l.length = m.length → (∀ j (h1 : j < l.length) (h2 : j < m.length), r l[j] m[j]) → All2 r l m
  | [], [], _, _ => .nil
  | _ :: _, [], h, _ => by simp at h
  | [], _ :: _, h, _ => by simp at h
  | a :: l, b :: m, h, g => .cons (g 0 (by simp) (by simp)) (All2.of_get (by simpa using h) fun j h1 h2 => g (j + 1) (by simpa using h1) (by simpa using h2))
theorem All2.imp {α β : Type} {r r' : α → β → Prop} {l : List α} {m : List β} (h : All2 r l m) (g : ∀ a b, a ∈ l → r a b → r' a b) : All2 r' l m := by
  induction h with
  | nil => exact .nil
  | cons a _ ih => exact .cons (g _ _ (by simp) a) (ih fun a b hm => g a b (by simp [hm]))
theorem All2.append {α β : Type} {r : α → β → Prop} {l l' : List α} {m m' : List β} (h : All2 r l m) (h' : All2 r l' m') : All2 r (l ++ l') (m ++ m') := by
  induction h with
  | nil => exact h'
  | cons a _ ih => exact .cons a ih

def foot1 (p : Nat × Option Nat) : List Nat := p.1 :: p.2.toList
def Place.foot (D : Nat) (p : Place) : List Nat := D :: (p.row.toList ++ (p.files.flatMap foot1 ++ p.plan.toList))

def ptrs (l : List (Nat × Option Nat)) : List Value := l.map fun p => .pointer (some ⟨p.1, 0, none⟩)
def planCells (l : List (ByteArray × Int)) : List Value := l.flatMap fun p => [.string p.1, .int .i64 p.2]

structure DRep (w : World) (D : Nat) (p : Place) (d : PD) (fv pv : Value) : Prop where
  head : w.heap[D]? = some (.cells #[fv, .bool d.down, .bool d.lit, .int .i64 (d.pass : Nat), pv] 67 (0, 0))
  row : Row w fv p.row 69 1 p.files.length (ptrs p.files)
  files : All2 (FRep w) p.files d.files
  plan : Row w pv p.plan 62 2 d.plan.length (planCells d.plan)
  apart : (p.foot D).Nodup
  few : d.files.length ≤ 64
  names : (d.files.map (·.name)).Nodup
  passes : d.pass < 9223372036854775807
  keeps : ∀ x ∈ d.plan, (Lit.int .i64 x.2).wf = true ∧ x.1.size ≤ maxLen
  short : d.plan.length * 24 ≤ 140737488351232

theorem FRep.lt {w : World} {p : Nat × Option Nat} {f : PF} (h : FRep w p f) : ∀ k ∈ foot1 p, k < w.heap.size := by
  obtain ⟨v, n, xs, h1, h2, _⟩ := h
  intro k hk
  obtain ⟨p1, p2⟩ := p
  cases p2 with
  | none => simp [foot1] at hk; subst hk; exact lt_of_block h1
  | some g =>
    simp [foot1] at hk
    rcases hk with rfl | rfl
    · exact lt_of_block h1
    · exact h2.lt

theorem FRep.congr {w w' : World} {p : Nat × Option Nat} {f : PF} (h : FRep w p f) (hb : ∀ k ∈ foot1 p, w'.heap[k]? = w.heap[k]?) : FRep w' p f := by
  obtain ⟨v, n, xs, h1, h2, h3⟩ := h
  exact ⟨v, n, xs, (hb p.1 (by simp [foot1])).trans h1, h2.congr fun g hg => hb g (by simp [foot1, hg]), h3⟩

theorem files_lt {w : World} : ∀ {ps : List (Nat × Option Nat)} {fs : List PF}, All2 (FRep w) ps fs → ∀ k ∈ ps.flatMap foot1, k < w.heap.size
  | _, _, .nil, k, hk => by simp at hk
  | _, _, .cons a r, k, hk => by
    simp only [List.flatMap_cons, List.mem_append] at hk
    rcases hk with hk | hk
    · exact a.lt k hk
    · exact files_lt r k hk

theorem Row.lt' {w : World} {v : Value} {ob : Option Nat} {e : TypeId} {size n : Nat} {xs : List Value} (h : Row w v ob e size n xs) : ∀ k ∈ ob.toList, k < w.heap.size := by
  cases ob with
  | none => simp
  | some g => simp; exact h.lt

theorem DRep.lt {w : World} {D : Nat} {p : Place} {d : PD} {fv pv : Value} (h : DRep w D p d fv pv) : ∀ k ∈ p.foot D, k < w.heap.size := by
  intro k hk
  simp only [Place.foot, List.mem_cons, List.mem_append] at hk
  rcases hk with rfl | hk | hk | hk
  · exact lt_of_block h.head
  · exact h.row.lt' k hk
  · exact files_lt h.files k hk
  · exact h.plan.lt' k hk

theorem DRep.congr {w w' : World} {D : Nat} {p : Place} {d : PD} {fv pv : Value} (h : DRep w D p d fv pv) (hb : ∀ k ∈ p.foot D, w'.heap[k]? = w.heap[k]?) : DRep w' D p d fv pv := by
  refine ⟨(hb D (by simp [Place.foot])).trans h.head, h.row.congr fun g hg => hb g (by simp [Place.foot, hg]), h.files.imp fun a b ha hr => hr.congr fun k hk => hb k ?_, h.plan.congr fun g hg => hb g (by simp [Place.foot, hg]), h.apart, h.few, h.names, h.passes, h.keeps, h.short⟩
  simp only [Place.foot, List.mem_cons, List.mem_append, List.mem_flatMap]
  exact .inr (.inr (.inl ⟨a, ha, hk⟩))

theorem DRep.fr {w w' : World} {D : Nat} {p : Place} {d : PD} {fv pv : Value} (h : DRep w D p d fv pv) {l : List Nat} (hf : Fr l w w') (hl : ∀ k ∈ p.foot D, k ∉ l) : DRep w' D p d fv pv :=
  h.congr fun k hk => hf.block k (h.lt k hk) (hl k hk)

theorem DRep.below {w w' : World} {D : Nat} {p : Place} {d : PD} {fv pv : Value} (h : DRep w D p d fv pv) (hf : Below w.heap.size w w') : DRep w' D p d fv pv :=
  h.congr fun k hk => hf.block k (h.lt k hk)

/-- The cells of a disk's own block. -/
theorem DRep.cells {w : World} {D : Nat} {p : Place} {d : PD} {fv pv : Value} (h : DRep w D p d fv pv) :
    w.cell? ⟨D, 0, none⟩ = some fv ∧ w.cell? ⟨D, 1, none⟩ = some (.bool d.down) ∧ w.cell? ⟨D, 2, none⟩ = some (.bool d.lit) ∧ w.cell? ⟨D, 3, none⟩ = some (.int .i64 (d.pass : Nat)) ∧ w.cell? ⟨D, 4, none⟩ = some pv :=
  ⟨cell_at h.head 0, cell_at h.head 1, cell_at h.head 2, cell_at h.head 3, cell_at h.head 4⟩
theorem DRep.free {w : World} {D : Nat} {p : Place} {d : PD} {fv pv : Value} (h : DRep w D p d fv pv) (j : Nat) : w.frozen? ⟨D, j, none⟩ = false := free_at h.head j

/-- The place of a name. -/
def PD.find (d : PD) (s : ByteArray) : Option Nat := d.files.findIdx? (fun f => decide (f.name = s))

theorem PD.find_some {d : PD} {s : ByteArray} {k : Nat} (h : d.find s = some k) : ∃ hk : k < d.files.length, d.files[k].name = s ∧ ∀ j (hj : j < k), d.files[j].name ≠ s := by
  unfold PD.find at h
  rw [List.findIdx?_eq_some_iff_getElem] at h
  obtain ⟨hk, h1, h2⟩ := h
  exact ⟨hk, by simpa using h1, fun j hj => by simpa using h2 j hj⟩
theorem PD.find_none {d : PD} {s : ByteArray} (h : d.find s = none) : ∀ j (hj : j < d.files.length), d.files[j].name ≠ s := by
  unfold PD.find at h
  rw [List.findIdx?_eq_none_iff] at h
  intro j hj
  simpa using h d.files[j] (List.getElem_mem hj)

end Go.Proofs.Ytgbbbjddooiaeaa
