/-
  Plain data that came in: its shape ('Dt'), the cells that it lies in, and that it fits its type in a world ('Fits'): ints, bools, strings, structs and slices of these, one in the other. Nothing here speaks of one program.
-/
import Derived.Test.YtiednacpmlilbaaDoorRows
import Derived.WalkKit
import Derived.Below
import Derived.Deep.Slices
import Derived.ChangeSame
import Derived.Deep.Fields
import Derived.SizedLaws
namespace Go.Proofs.YtiednacpmlilbaaDoor
open Go.RowKit Go.ChangeShapes Go.WideShapes Go.Deep
set_option linter.unusedSimpArgs false
set_option linter.unusedVariables false

inductive Dt where
  | int (k : IntKind) (n : Int)
  | bool (b : Bool)
  | str (s : ByteArray)
  | agg (l : List Dt)
  | slice (a : Option Addr) (len cap : Nat) (xs : List Dt)

mutual
def Dt.cells : Dt → List Value
  | .int k n => [.int k n]
  | .bool b => [.bool b]
  | .str s => [.string s]
  | .agg l => Dt.cellsL l
  | .slice a len cap _ => [.slice a len cap]
def Dt.cellsL : List Dt → List Value
  | [] => []
  | x :: l => x.cells ++ Dt.cellsL l
end

inductive Fits (P : Program) (w : World) : TypeId → Dt → Prop
  | int {t : TypeId} {k : IntKind} {n : Int} (ht : P.underlying t = some (.int k)) (h : (Lit.int k n).wf = true) : Fits P w t (.int k n)
  | bool {t : TypeId} {b : Bool} (ht : P.underlying t = some .bool) : Fits P w t (.bool b)
  | str {t : TypeId} {s : ByteArray} (ht : P.underlying t = some .string) (h : s.size ≤ maxLen) (h2 : s.size ≤ 140737488351232) : Fits P w t (.str s)
  | agg {t : TypeId} {fs : Array Field} {l : List Dt} (ht : P.underlying t = some (.struct fs)) (hl : l.length = fs.size)
      (h : ∀ (i : Nat) (f : Field) (x : Dt), fs[i]? = some f → l[i]? = some x → Fits P w f.type x) : Fits P w t (.agg l)
  | slice {t e : TypeId} {a : Option Addr} {len cap : Nat} {xs : List Dt} (ht : P.underlying t = some (.slice e)) (hl : xs.length = len) (hc : len ≤ cap) (hm : cap ≤ maxLen) (hn : a = none → cap = 0)
      (hb : len * P.bytesOf e ≤ 140737488351232)
      (hcell : ∀ ad, a = some ad → ∀ (i : Nat) (x : Dt), xs[i]? = some x → ∀ (j : Nat) (v : Value), x.cells[j]? = some v → w.cell? (ad.add (i * P.cellsOf e + j)) = some v)
      (hlen : ∀ (i : Nat) (x : Dt), xs[i]? = some x → x.cells.length = P.cellsOf e)
      (h : ∀ (i : Nat) (x : Dt), xs[i]? = some x → Fits P w e x) : Fits P w t (.slice a len cap xs)

/-! ### What a type of plain data is -/
def packed (P : Program) : Nat → List Field → Nat → Bool
  | k, [], tot => k == tot
  | k, f :: fs, tot => f.offset == k && packed P (k + P.cellsOf f.type) fs tot

def okTy (P : Program) : Nat → TypeId → Bool
  | 0, _ => false
  | n + 1, t => match P.underlying t with
    | some (.int _) => P.cellsOf t == 1
    | some .bool => P.cellsOf t == 1
    | some .string => P.cellsOf t == 1
    | some (.slice e) => P.cellsOf t == 1 && okTy P n e
    | some (.struct fs) => packed P 0 fs.toList (P.cellsOf t) && fs.toList.all fun f => okTy P n f.type
    | _ => false

theorem dt_all_mem {H : Type} {P : Program} {e : TypeId} : ∀ {l : List (DataW H)} {d : DataW H}, d ∈ l → ∀ n ∈ d.weights P e, n ∈ DataW.weightsAll P e l
  | d0 :: l, d, hd, n, hn => by
    rw [DataW.weightsAll, List.mem_append]
    rcases List.mem_cons.1 hd with rfl | h
    · exact .inl hn
    · exact .inr (dt_all_mem h n hn)

theorem packed_cells (P : Program) (w : World) (cs : List Value) (tot : Nat) (htot : cs.length = tot) : ∀ (fs : List Field) (k : Nat), packed P k fs tot = true →
    (∀ (i : Nat) (f : Field), fs[i]? = some f → ∃ x : Dt, (cs.drop f.offset).take (P.cellsOf f.type) = x.cells ∧ Fits P w f.type x ∧ x.cells.length = P.cellsOf f.type) →
    ∃ l : List Dt, l.length = fs.length ∧ (∀ (i : Nat) (f : Field) (x : Dt), fs[i]? = some f → l[i]? = some x → Fits P w f.type x) ∧ cs.drop k = Dt.cellsL l
  | [], k, hp, _ => by
    refine ⟨[], rfl, fun i f x hi => by simp at hi, ?_⟩
    have : k = tot := by simpa [packed] using hp
    subst this
    rw [List.drop_of_length_le (by omega)]
    rfl
  | f :: fs, k, hp, h => by
    simp only [packed, Bool.and_eq_true, beq_iff_eq] at hp
    obtain ⟨ho, hp⟩ := hp
    obtain ⟨x, hx, hxf, hxl⟩ := h 0 f rfl
    obtain ⟨l, hl, hlf, hlc⟩ := packed_cells P w cs tot htot fs (k + P.cellsOf f.type) hp fun i g hi => h (i + 1) g (by simpa using hi)
    refine ⟨x :: l, by simp [hl], fun i g y hi hy => ?_, ?_⟩
    · cases i with
      | zero =>
        obtain rfl : f = g := by simpa using hi
        obtain rfl : x = y := by simpa using hy
        exact hxf
      | succ i => exact hlf i g y (by simpa using hi) (by simpa using hy)
    · rw [Dt.cellsL, ← hx, ho, ← hlc, ← List.drop_drop]
      exact (List.take_append_drop _ _).symm

section
variable {H : Type} {enc : TypeId × Value → H} {P : Program} {w : World}

theorem fits_of : ∀ (n : Nat) (t : TypeId), okTy P n t = true → ∀ {fuel : Nat} {cs : List Value} {d : DataW H} {p : List MemPlace}, DataW.trod enc P w 0 (fun _ => true) true fuel t cs = some (d, p) →
    (∀ m ∈ d.weights P t, m ≤ reachBytes) → ∃ x : Dt, cs = x.cells ∧ Fits P w t x ∧ x.cells.length = P.cellsOf t
  | 0, _, h0, _, _, _, _, _, _ => by simp [okTy] at h0
  | n + 1, t, h0, fuel, cs, d, p, hf, hw => by
    unfold okTy at h0
    split at h0
    · rename_i k ht
      obtain ⟨z, rfl, _, hz⟩ := DataW.trod_int ht hf
      exact ⟨.int k z, rfl, .int ht hz, (by simpa using h0 : P.cellsOf t = 1).symm⟩
    · rename_i ht
      obtain ⟨b, rfl, _⟩ := DataW.trod_bool ht hf
      exact ⟨.bool b, rfl, .bool ht, (by simpa using h0 : P.cellsOf t = 1).symm⟩
    · rename_i ht
      obtain ⟨s, rfl, hd, hs⟩ := DataW.trod_string ht hf
      have h1 := hw s.size (by rw [(Prod.mk.inj hd).1]; simp only [DataW.weights, List.mem_singleton, Array.length_toList]; rfl)
      simp only [reachBytes] at h1
      exact ⟨.str s, rfl, .str ht hs h1, (by simpa using h0 : P.cellsOf t = 1).symm⟩
    · rename_i e ht
      obtain ⟨hc1, he⟩ : P.cellsOf t = 1 ∧ okTy P n e = true := by simpa using h0
      rcases open_slice ht hf with ⟨rfl, _⟩ | ⟨a, len, cap, m, k, D, Pl, rfl, _, hl, hm, hmm, hx, hi⟩
      · exact ⟨.slice none 0 0 [], rfl, .slice ht rfl (Nat.le_refl _) (Nat.zero_le _) (fun _ => rfl) (by omega) (fun _ h => (nomatch h)) (fun i x hi => by simp at hi) (fun i x hi => by simp at hi), hc1.symm⟩
      · simp only [if_true] at hmm
        have hd : d = .slice ((List.range len).map D) ((List.range (m - len)).map fun j => D (len + j)) := (Prod.mk.inj hx).1
        have hex : ∀ i, ∃ q : Dt, i < len → (∀ (j : Nat) (v : Value), q.cells[j]? = some v → w.cell? (a.add (i * P.cellsOf e + j)) = some v) ∧ Fits P w e q ∧ q.cells.length = P.cellsOf e := fun i => by
          by_cases hil : i < len
          · obtain ⟨cs', hc, ht'⟩ := hi i (by omega)
            obtain ⟨_, hcl, hat⟩ := World.cells?_some hc
            obtain ⟨q, rfl, hq, hql⟩ := fits_of n e he ht' (fun k hk => hw k (by
              rw [hd]
              simp only [DataW.weights, ht, List.mem_cons, List.mem_append]
              exact .inr (.inl (dt_all_mem (List.mem_map.2 ⟨i, List.mem_range.2 hil, rfl⟩) k hk))))
            refine ⟨q, fun _ => ⟨fun j v hv => ?_, hq, hql⟩⟩
            have hj : j < P.cellsOf e := by
              have := (List.getElem?_eq_some_iff.1 hv).1
              omega
            have := hat j hj
            rw [add_add] at this
            rw [this, hv]
          · exact ⟨.bool true, fun h => absurd h hil⟩
        have hg := fun i => Classical.choose_spec (hex i)
        obtain ⟨F, hF⟩ : ∃ F : Nat → Dt, F = fun i => Classical.choose (hex i) := ⟨_, rfl⟩
        have hg : ∀ i, i < len → (∀ (j : Nat) (v : Value), (F i).cells[j]? = some v → w.cell? (a.add (i * P.cellsOf e + j)) = some v) ∧ Fits P w e (F i) ∧ (F i).cells.length = P.cellsOf e := fun i hil => by rw [hF]; exact hg i hil
        have hat : ∀ (i : Nat) (x : Dt), ((List.range len).map F)[i]? = some x → i < len ∧ F i = x := fun i x hx => by
          obtain ⟨hlt, hx⟩ := List.getElem?_eq_some_iff.1 hx
          exact ⟨by simpa using hlt, by simpa using hx⟩
        have hb : len * P.bytesOf e ≤ 140737488351232 := by
          have := hw ((len + (m - len)) * P.bytesOf e) (by rw [hd]; simp [DataW.weights, ht])
          simp only [reachBytes] at this
          exact Nat.le_trans (Nat.mul_le_mul_right _ (by omega)) this
        refine ⟨.slice (some a) len cap ((List.range len).map F), rfl, .slice ht (by simp) hl hm (fun h => (nomatch h)) hb (fun ad ha i x hx => ?_) (fun i x hx => ?_) (fun i x hx => ?_), hc1.symm⟩
        · obtain rfl := Option.some.inj ha
          obtain ⟨hlt, rfl⟩ := hat i x hx
          exact (hg i hlt).1
        · obtain ⟨hlt, rfl⟩ := hat i x hx
          exact (hg i hlt).2.2
        · obtain ⟨hlt, rfl⟩ := hat i x hx
          exact (hg i hlt).2.1
    · rename_i fs ht
      obtain ⟨hp, hall⟩ := Bool.and_eq_true_iff.1 h0
      have hall := List.all_eq_true.1 hall
      obtain ⟨ys, n', _, hx, hcl, hyl, hf'⟩ := DataW.trod_struct ht hf
      have hd : d = .agg (ys.map (·.1)) := (Prod.mk.inj hx).1
      obtain ⟨l, hll, hlf, hlc⟩ := packed_cells P w cs (P.cellsOf t) hcl fs.toList 0 hp fun i f hi => by
        have hi' : fs[i]? = some f := by simpa using hi
        have hlt : i < fs.size := (Array.getElem?_eq_some_iff.1 hi').1
        have h1 := hf' i f hi'
        obtain ⟨y, hy⟩ : ∃ y, ys[i]? = some y := ⟨ys[i]'(by omega), List.getElem?_eq_getElem (by omega)⟩
        rw [hy] at h1
        obtain ⟨q, e1, e2, e3⟩ := fits_of n f.type (hall f (List.mem_of_getElem? hi)) (d := y.1) (p := y.2) h1 fun k hk => hw k (by
          rw [hd]
          have := DataW.weights_mem_each (ts := fs.toList.map (·.type)) (ds := ys.map (·.1)) (j := i) (t := f.type) (d := y.1) (P := P) (by simp [hi']) (by simp [hy]) k hk
          simp only [DataW.weights, ht]
          exact this)
        exact ⟨q, e1, e2, e3⟩
      exact ⟨.agg l, by simpa [Dt.cells] using hlc, .agg ht (by simpa using hll) (fun i f x hi => hlf i f x (by simpa using hi)), by
        have : cs = Dt.cellsL l := by simpa using hlc
        rw [Dt.cells, ← this, hcl]⟩
    · cases h0


theorem Fits.int_inv {t : TypeId} {k : IntKind} {x : Dt} (h : Fits P w t x) (ht : P.underlying t = some (.int k)) : ∃ n, x = .int k n ∧ k.min ≤ n ∧ n ≤ k.max := by
  cases h with
  | int h1 h2 => rw [ht] at h1; injection h1 with h1; injection h1 with h1; subst h1; exact ⟨_, rfl, by simpa [Lit.wf] using h2⟩
  | bool h1 => rw [ht] at h1; cases h1
  | str h1 _ _ => rw [ht] at h1; cases h1
  | agg h1 _ _ => rw [ht] at h1; cases h1
  | slice h1 => rw [ht] at h1; cases h1
theorem Fits.bool_inv {t : TypeId} {x : Dt} (h : Fits P w t x) (ht : P.underlying t = some .bool) : ∃ b, x = .bool b := by
  cases h with
  | int h1 h2 => rw [ht] at h1; cases h1
  | bool h1 => exact ⟨_, rfl⟩
  | str h1 _ _ => rw [ht] at h1; cases h1
  | agg h1 _ _ => rw [ht] at h1; cases h1
  | slice h1 => rw [ht] at h1; cases h1
theorem Fits.str_inv {t : TypeId} {x : Dt} (h : Fits P w t x) (ht : P.underlying t = some .string) : ∃ s : ByteArray, x = .str s ∧ s.size ≤ maxLen ∧ s.size ≤ 140737488351232 := by
  cases h with
  | int h1 h2 => rw [ht] at h1; cases h1
  | bool h1 => rw [ht] at h1; cases h1
  | str h1 h2 h3 => exact ⟨_, rfl, h2, h3⟩
  | agg h1 _ _ => rw [ht] at h1; cases h1
  | slice h1 => rw [ht] at h1; cases h1
theorem Fits.agg_inv {t : TypeId} {fs : Array Field} {x : Dt} (h : Fits P w t x) (ht : P.underlying t = some (.struct fs)) :
    ∃ l, x = .agg l ∧ l.length = fs.size ∧ ∀ (i : Nat) (f : Field), fs[i]? = some f → ∃ y, l[i]? = some y ∧ Fits P w f.type y := by
  cases h with
  | int h1 h2 => rw [ht] at h1; cases h1
  | bool h1 => rw [ht] at h1; cases h1
  | str h1 _ _ => rw [ht] at h1; cases h1
  | agg h1 h2 h3 =>
    rw [ht] at h1
    injection h1 with h1
    injection h1 with h1
    subst h1
    refine ⟨_, rfl, h2, fun i f hi => ?_⟩
    have hlt : i < fs.size := (Array.getElem?_eq_some_iff.1 hi).1
    exact ⟨_, List.getElem?_eq_getElem (by omega), h3 i f _ hi (List.getElem?_eq_getElem (by omega))⟩
  | slice h1 => rw [ht] at h1; cases h1

/-- What a slice that fits is good for. -/
structure SliceFits (P : Program) (w : World) (e : TypeId) (a : Option Addr) (len cap : Nat) (xs : List Dt) : Prop where
  length : xs.length = len
  le : len ≤ cap
  max : cap ≤ maxLen
  nil : a = none → cap = 0
  short : len * P.bytesOf e ≤ 140737488351232
  cell : ∀ ad, a = some ad → ∀ (i : Nat) (x : Dt), xs[i]? = some x → ∀ (j : Nat) (v : Value), x.cells[j]? = some v → w.cell? (ad.add (i * P.cellsOf e + j)) = some v
  each : ∀ (i : Nat) (x : Dt), xs[i]? = some x → Fits P w e x ∧ x.cells.length = P.cellsOf e

theorem Fits.slice_inv {t e : TypeId} {x : Dt} (h : Fits P w t x) (ht : P.underlying t = some (.slice e)) : ∃ a len cap xs, x = .slice a len cap xs ∧ SliceFits P w e a len cap xs := by
  cases h with
  | int h1 h2 => rw [ht] at h1; cases h1
  | bool h1 => rw [ht] at h1; cases h1
  | str h1 _ _ => rw [ht] at h1; cases h1
  | agg h1 _ _ => rw [ht] at h1; cases h1
  | slice h1 h2 h3 h4 h5 h6 h7 h8 h9 =>
    rw [ht] at h1
    injection h1 with h1
    injection h1 with h1
    subst h1
    exact ⟨_, _, _, _, rfl, h2, h3, h4, h5, h6, h7, fun i x hx => ⟨h9 i x hx, h8 i x hx⟩⟩

theorem SliceFits.spot {e : TypeId} {a : Option Addr} {len cap : Nat} {xs : List Dt} (h : SliceFits P w e a len cap xs) (hp : 0 < P.cellsOf e) :
    ∃ b o, (0 < len → a = some ⟨b, o, none⟩ ∧ b < w.heap.size) ∧ ∀ (i : Nat) (x : Dt), xs[i]? = some x → ∀ (j : Nat) (v : Value), x.cells[j]? = some v → w.cell? ⟨b, o + (i * P.cellsOf e + j), none⟩ = some v := by
  by_cases h0 : len = 0
  · refine ⟨0, 0, fun hl => by omega, fun i x hx => ?_⟩
    have := (List.getElem?_eq_some_iff.1 hx).1
    have := h.length
    omega
  · cases ha : a with
    | none => have := h.nil ha; have := h.le; omega
    | some y =>
      obtain ⟨b, o, spot⟩ := y
      have hl := h.length
      obtain ⟨hx, hc⟩ := h.each 0 xs[0] (List.getElem?_eq_getElem (by omega))
      have h1 := h.cell _ ha 0 xs[0] (List.getElem?_eq_getElem (by omega)) 0 xs[0].cells[0] (List.getElem?_eq_getElem (by omega))
      have hsp : spot = none := by simpa [Addr.add] using World.cell?_spot h1
      subst hsp
      have hlt : b < w.heap.size := by
        unfold World.cell? at h1
        rcases Nat.lt_or_ge b w.heap.size with hlt | hge
        · exact hlt
        · simp [Addr.add, Array.getElem?_eq_none hge] at h1
      refine ⟨b, o, fun _ => ⟨rfl, hlt⟩, fun i x hx j v hv => ?_⟩
      have h2 := h.cell _ ha i x hx j v hv
      have e1 : (⟨b, o, none⟩ : Addr).add (i * P.cellsOf e + j) = ⟨b, o + (i * P.cellsOf e + j), none⟩ := by
        unfold Addr.add
        split
        · rename_i hz; simp at hz; simp
        · rfl
      rw [e1] at h2
      exact h2

theorem open_slice_dt (n : Nat) {t e : TypeId} {v : Value} {d : DataW H} {p : List MemPlace} (ht : P.underlying t = some (.slice e)) (hok : okTy P n t = true) {b0 : Nat} (hv : Value.okWide P w .any b0 t v)
    (h : DataW.Trod enc P w 0 (fun _ => true) true t v d p) (hw : ∀ m ∈ d.weights P t, m ≤ reachBytes) : ∃ a len cap xs, v = .slice a len cap ∧ SliceFits P w e a len cap xs := by
  obtain ⟨a, len, cap, rfl⟩ := okWide_slice ht hv
  obtain ⟨fuel, hf⟩ := h
  obtain ⟨x, hx, hfit, _⟩ := fits_of n t hok hf hw
  obtain ⟨a', len', cap', xs, rfl, hs⟩ := hfit.slice_inv ht
  have : (.slice a len cap : Value) = .slice a' len' cap' := by simpa [Value.cells, Dt.cells] using hx
  injection this with e1 e2 e3
  subst e1 e2 e3
  exact ⟨_, _, _, xs, rfl, hs⟩
theorem open_struct_dt (n : Nat) {t : TypeId} {fs : Array Field} {v : Value} {d : DataW H} {p : List MemPlace} (ht : P.underlying t = some (.struct fs)) (hok : okTy P n t = true) {b0 : Nat} (hv : Value.okWide P w .any b0 t v)
    (h : DataW.Trod enc P w 0 (fun _ => true) true t v d p) (hw : ∀ m ∈ d.weights P t, m ≤ reachBytes) : ∃ x, v = .agg x.cells.toArray ∧ Fits P w t x := by
  obtain ⟨cs, rfl, _⟩ := okWide_struct ht hv
  obtain ⟨fuel, hf⟩ := h
  obtain ⟨x, hx, hfit, _⟩ := fits_of n t hok hf hw
  refine ⟨x, ?_, hfit⟩
  have : cs.toList = x.cells := by simpa [Value.cells] using hx
  rw [← this]
end
end Go.Proofs.YtiednacpmlilbaaDoor
