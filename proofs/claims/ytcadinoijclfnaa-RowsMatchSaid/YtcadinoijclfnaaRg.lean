/-
  A range over a function whose elements lie in memory: each element is a fact of the world in which it comes, and the loop's left side may be a box of its own. Nothing here speaks of one program.
-/
import Derived.RangeFuncNested
import Derived.RangeFuncBound
import Derived.RangeFuncCalls
import Derived.RangeFuncLeaves
import Derived.RangeFuncBox
import Derived.Test.YtcadinoijclfnaaLib
namespace Go.Proofs.Ytcadinoijclfnaa
open Go.RowKit
set_option linter.unusedSimpArgs false
set_option linter.unusedVariables false

/-- An iterator, called in any world behind W0: the elements come one by one, each as E says in the world in which it comes; a round may change what Kp lets it. -/
def SeqE {α : Type} (n : Nat) (P : Program) (g : Nat) (lb : Array Value) (encs : α → Array Value) (E : List α → α → World → Prop) (Kp : World → World → Prop) (S : List α → Prop) (N : Nat) (W0 : World) : Prop :=
  ∀ (l : Nat) (J Jx : List α → World → Prop) (W : World), Below W0.heap.size W0 W → (∀ s A B, J s A → Below A.heap.size A B → J s B) →
    (∀ pre x W1, J pre W1 → E pre x W1 → pre.length < N → YieldAt Fence.wide (n - 1) P l (encs x) W1 fun e W' =>
      (e = .returned (.bool true) ∧ J (pre ++ [x]) W' ∧ Kp W1 W') ∨ (e = .returned (.bool false) ∧ Jx (pre ++ [x]) W')) →
    J [] W →
    CallsIn Fence.wide n P g (#[.func (.yield l) #[] #[]] ++ lb) W fun e W' => (∃ v, e = .returned v) ∧ ((∃ xs, S xs ∧ J xs W') ∨ (∃ pre, Jx pre W'))

/-- Of the blocks below n only those of l may have turned. -/
structure FrB (n : Nat) (l : List Nat) (w w' : World) : Prop where
  os : w'.os = w.os
  tape : w'.tape = w.tape
  output : w'.output = w.output
  size : w.heap.size ≤ w'.heap.size
  block : ∀ k, k < n → k ∉ l → w'.heap[k]? = w.heap[k]?
theorem FrB.refl (n : Nat) (l : List Nat) (w : World) : FrB n l w w := ⟨rfl, rfl, rfl, Nat.le_refl _, fun _ _ _ => rfl⟩
theorem FrB.trans {n : Nat} {l : List Nat} {a b c : World} (h : FrB n l a b) (k : FrB n l b c) : FrB n l a c :=
  ⟨k.os.trans h.os, k.tape.trans h.tape, k.output.trans h.output, Nat.le_trans h.size k.size, fun i hi hn => (k.block i hi hn).trans (h.block i hi hn)⟩
theorem FrB.mono {n : Nat} {l l' : List Nat} {a b : World} (h : FrB n l a b) (hl : ∀ x ∈ l, x ∈ l') : FrB n l' a b := ⟨h.os, h.tape, h.output, h.size, fun i hi hn => h.block i hi fun hm => hn (hl i hm)⟩
theorem FrB.of_fr {n : Nat} {l : List Nat} {a b : World} (h : Fr l a b) (hn : n ≤ a.heap.size) : FrB n l a b := ⟨h.os, h.tape, h.output, h.size, fun i hi hm => h.block i (by omega) hm⟩
theorem FrB.of_below {n : Nat} {l : List Nat} {B : Nat} {a b : World} (h : Below B a b) (hn : n ≤ B) : FrB n l a b := ⟨h.os, h.tape, h.output, h.size, fun i hi _ => h.block i (by omega)⟩
theorem FrB.put (n : Nat) (W : World) (L : Nat) (o : Obj) : FrB n [L] W (W.putObj L o) := ⟨rfl, rfl, rfl, by simp, fun k _ hk => World.putObj_heap_other (by simpa using hk)⟩
theorem FrB.below {n : Nat} {l : List Nat} {B : Nat} {a b : World} (h : FrB n l a b) (hB : B ≤ n) (hl : ∀ x ∈ l, B ≤ x) : Below B a b := ⟨h.os, h.tape, h.output, h.size, fun k hk => h.block k (by omega) fun hm => by have := hl k hm; omega⟩

/-- how a round's body may be left -/
def roundE {α : Type} (n : Nat) (bl : List Nat) (I : List α → World → Prop) (Ix : Code → List α → World → Prop) (xs : List α) (W : World) : Exit → Act → World → Prop
  | .normal, _, W' => FrB n bl W W' ∧ I xs W'
  | .ret, _, W' => FrB n bl W W' ∧ Ix .ret xs W'
  | .exit id, _, W' => FrB n bl W W' ∧ Ix (.exit id) xs W'
  | .goto t, _, W' => FrB n bl W W' ∧ Ix (.goto t) xs W'
  | .panic _, _, _ => False
  | .outgrown, _, _ => False

theorem range_E {α : Type} {P : Program} {n : Nat} (h1 : 1 ≤ n) {g : Operand} {ps : Array Tmp} {assign body : Code} {Q : Exit → Act → World → Prop} {a : Act} {w : World} {gf : Nat} {lb : Array Value}
    (hg : a.eval g = .func (.func gf) #[] lb) (eg : ∀ args w, (callFunc gf args).run P w = .ok (.enter gf args) w)
    {encs : α → Array Value} {E : List α → α → World → Prop} {S : List α → Prop} {N : Nat} (bl : List Nat) (hseq : SeqE (n - 1) P gf lb encs E (FrB (w.heap.size + 2) ((w.heap.size + 1) :: bl)) S N w) (hps : ∀ x, (encs x).size = ps.size)
    (I : List α → World → Prop) (Ix : Code → List α → World → Prop)
    (hIb : ∀ s A B, I s A → Below A.heap.size A B → I s B)
    (hIp : ∀ s A o, I s A → w.heap.size + 1 < A.heap.size → I s (A.putObj (w.heap.size + 1) o))
    (hXp : ∀ c s A o, Ix c s A → w.heap.size + 1 < A.heap.size → Ix c s (A.putObj (w.heap.size + 1) o))
    (hb0 : w.heap.size ∉ bl) (hb1 : w.heap.size + 1 ∉ bl) (h0 : I [] w)
    (hround : ∀ pre x W, I pre W → E pre x W → pre.length < N → w.heap.size + 1 < W.heap.size →
      assign.wpIn (Fence.wide.inRound (w.heap.size + 1)) (n - 1 - 1) P (Exit.then (fun a₁ w₁ => Below W.heap.size W w₁ ∧ ∀ o, body.wpIn (Fence.wide.inRound (w.heap.size + 1)) (n - 1 - 1) P (roundE (w.heap.size + 2) bl I Ix (pre ++ [x]) (w₁.putObj (w.heap.size + 1) o)) a₁ (w₁.putObj (w.heap.size + 1) o)) (fun _ _ _ => False))
        { tmps := (ps.zip (encs x)).foldl (fun t (p, v) => t.setIfInBounds p v) a.tmps, defers := [] } W)
    (hdone : ∀ xs W, S xs → I xs W → W.heap[w.heap.size]? = some (.deferred (some [])) → Q .normal { a with defers := { target := .collected w.heap.size, args := #[] } :: a.defers } W)
    (hstop : ∀ c xs W, Ix c xs W → W.heap[w.heap.size]? = some (.deferred (some [])) → c.wpIn Fence.wide n P Q { a with defers := { target := .collected w.heap.size, args := #[] } :: a.defers } W) :
    (Code.rangeFunc g ps assign body).wpIn Fence.wide n P Q a w := by
  refine wpIn_rangeFunc fun fn hfn => ?_
  obtain ⟨L, hL⟩ : ∃ L, L = w.heap.size + 1 := ⟨_, rfl⟩
  rw [← hL] at hseq hIp hXp hb1 hround
  let rc : LoopState → Option Code → Obj := fun st pe => .loop { state := st, pending := pe, fn, tmps := a.tmps, params := ps, assign, body, defers := w.heap.size }
  obtain ⟨W1, hW1⟩ : ∃ W1, W1 = (w.alloc (.deferred (some []))).alloc (rc .ready none) := ⟨_, rfl⟩
  have hB1 : Below w.heap.size w W1 := by rw [hW1]; exact ((Below.refl _ _).alloc (Nat.le_refl _) _).alloc (by simp) _
  have hl1 : W1.heap[L]? = some (rc .ready none) := by
    have := World.alloc_heap_new (w.alloc (.deferred (some []))) (rc .ready none)
    rw [World.size_alloc, ← hL, ← hW1] at this
    exact this
  have hd1 : W1.heap[w.heap.size]? = some (.deferred (some [])) := by
    rw [hW1]
    exact (Below.heap_alloc _ _ _ (by simp)).trans (World.alloc_heap_new w _)
  refine ⟨L, [{ target := .collected w.heap.size, args := #[] }], W1, { target := .fn (.func gf) lb, args := #[.func (.yield L) #[] #[]] }, W1, gf, #[.func (.yield L) #[] #[]] ++ lb, W1, ?_, ?_, ?_, ?_, fun _ => h1, ?_⟩
  · rw [hW1, hL]
    exact run_enterLoop_outer _ _ _ _ _
  · simp only [resolve, hg]
    simp [go_sem]
  · intro f' _
    trivial
  · simp [invoke, go_sem, eg]
  refine (hseq L (fun s A => I s A ∧ A.heap[L]? = some (rc .ready none) ∧ A.heap[w.heap.size]? = some (.deferred (some [])))
    (fun s A => ∃ c, Ix c s A ∧ A.heap[L]? = some (rc .done (some c)) ∧ A.heap[w.heap.size]? = some (.deferred (some []))) W1 hB1 ?_ ?_ ⟨hIb _ _ _ h0 hB1, hl1, hd1⟩).mono ?_
  · rintro s A B ⟨q1, q2, q3⟩ hB
    exact ⟨hIb _ _ _ q1 hB, (hB.block L (Array.getElem?_eq_some_iff.1 q2).1).trans q2, (hB.block _ (Array.getElem?_eq_some_iff.1 q3).1).trans q3⟩
  · rintro pre x A ⟨q1, q2, q3⟩ hE hlen
    have hlt : L < A.heap.size := (Array.getElem?_eq_some_iff.1 q2).1
    refine ⟨fn, _, assign, body, run_yield q2 (hps x), roundIn_of_wpIn hfn (wpIn_mono (hround pre x A q1 hE hlen hlt) ?_)⟩
    rintro e1 a1 A1 hp
    cases e1 with
    | normal =>
      obtain ⟨hB, hbody⟩ := hp
      have hlt1 : L < A1.heap.size := Nat.lt_of_lt_of_le hlt hB.size
      have r1 : A1.heap[L]? = some (rc .ready none) := (hB.block L hlt).trans q2
      have r2 : A1.heap[w.heap.size]? = some (.deferred (some [])) := (hB.block _ (by omega)).trans q3
      refine ⟨A1.putObj L (rc .busy none), run_beginRound r1 rfl, wpIn_mono (hbody (rc .busy none)) ?_⟩
      have s1 : (A1.putObj L (rc .busy none)).heap[L]? = some (rc .busy none) := World.putObj_heap_same hlt1
      have s2 : (A1.putObj L (rc .busy none)).heap[w.heap.size]? = some (.deferred (some [])) := (World.putObj_heap_other (by omega)).trans r2
      have hfin : ∀ (j : Option Code) (A3 : World), FrB (w.heap.size + 2) bl (A1.putObj L (rc .busy none)) A3 → (Instr.endRound L j).run P A3 = .ok (.bool j.isNone) (A3.putObj L (rc (if j.isNone then .ready else .done) j)) ∧ L < A3.heap.size ∧
          (A3.putObj L (rc (if j.isNone then .ready else .done) j)).heap[L]? = some (rc (if j.isNone then .ready else .done) j) ∧ (A3.putObj L (rc (if j.isNone then .ready else .done) j)).heap[w.heap.size]? = some (.deferred (some [])) := fun j A3 hF => by
        have t1 : A3.heap[L]? = some (rc .busy none) := (hF.block L (by omega) hb1).trans s1
        have t0 : L < A3.heap.size := (Array.getElem?_eq_some_iff.1 t1).1
        exact ⟨run_endRound j t1, t0, World.putObj_heap_same t0, (World.putObj_heap_other (by omega)).trans ((hF.block _ (by omega) hb0).trans s2)⟩
      rintro e3 a3 A3 hp3
      cases e3 with
      | normal =>
        obtain ⟨hF, hi⟩ := hp3
        obtain ⟨f1, f0, f2, f3⟩ := hfin none A3 hF
        refine ⟨_, _, f1, .inl ⟨rfl, ⟨hIp _ _ _ hi f0, f2, f3⟩, ?_⟩⟩
        exact (((FrB.of_below hB (by omega)).trans ((FrB.put _ A1 L (rc .busy none)).mono (by simp))).trans (hF.mono (by simp +contextual))).trans ((FrB.put _ A3 L _).mono (by simp))
      | ret =>
        obtain ⟨hF, hi⟩ := hp3
        obtain ⟨f1, f0, f2, f3⟩ := hfin (some .ret) A3 hF
        exact ⟨_, _, f1, .inr ⟨rfl, .ret, hXp _ _ _ _ hi f0, f2, f3⟩⟩
      | exit id =>
        obtain ⟨hF, hi⟩ := hp3
        obtain ⟨f1, f0, f2, f3⟩ := hfin (some (.exit id)) A3 hF
        exact ⟨_, _, f1, .inr ⟨rfl, .exit id, hXp _ _ _ _ hi f0, f2, f3⟩⟩
      | goto t =>
        obtain ⟨hF, hi⟩ := hp3
        obtain ⟨f1, f0, f2, f3⟩ := hfin (some (.goto t)) A3 hF
        exact ⟨_, _, f1, .inr ⟨rfl, .goto t, hXp _ _ _ _ hi f0, f2, f3⟩⟩
      | panic ch => exact hp3.elim
      | outgrown => exact hp3.elim
    | ret => exact hp.elim
    | exit id => exact hp.elim
    | goto t => exact hp.elim
    | panic ch => exact hp.elim
    | outgrown => exact hp.elim
  · rintro e W2 ⟨⟨v, rfl⟩, (⟨xs, hS, hi, q2, q3⟩ | ⟨pre, c, hi, q2, q3⟩)⟩
    · have hlt : L < W2.heap.size := (Array.getElem?_eq_some_iff.1 q2).1
      exact ⟨none, _, run_endLoop q2 (by simp), hdone xs _ hS (hIp _ _ _ hi hlt) ((World.putObj_heap_other (by omega)).trans q3)⟩
    · have hlt : L < W2.heap.size := (Array.getElem?_eq_some_iff.1 q2).1
      exact ⟨some c, _, run_endLoop q2 (by simp), hstop c pre _ (hXp _ _ _ _ hi hlt) ((World.putObj_heap_other (by omega)).trans q3)⟩
end Go.Proofs.Ytcadinoijclfnaa
