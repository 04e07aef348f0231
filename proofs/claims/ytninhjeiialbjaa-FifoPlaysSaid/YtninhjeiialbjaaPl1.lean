/-
  Slices at an offset of a row of the call's own, with the room behind them: append to them, and their tail.
-/
import Derived.ArgAppend
import Derived.Test.YtninhjeiialbjaaFfd
namespace Go.Proofs.Ytninhjeiialbjaa
open Go.RowKit
set_option linter.unusedSimpArgs false
set_option linter.unusedVariables false

def putL : Array Value → Nat → List Value → Array Value
  | cur, _, [] => cur
  | cur, o, v :: r => putL (cur.setIfInBounds o v) (o + 1) r
theorem putL_size : ∀ (vs : List Value) (cur : Array Value) (o : Nat), (putL cur o vs).size = cur.size
  | [], _, _ => rfl
  | v :: r, cur, o => by rw [putL, putL_size r]; simp
theorem putL_out : ∀ (vs : List Value) (cur : Array Value) (o k : Nat), (k < o ∨ o + vs.length ≤ k) → (putL cur o vs)[k]? = cur[k]?
  | [], _, _, _, _ => rfl
  | v :: r, cur, o, k, h => by
    rw [putL, putL_out r _ _ _ (by simp only [List.length_cons] at h; omega), Array.getElem?_setIfInBounds_ne (by simp only [List.length_cons] at h; omega)]
theorem putL_in : ∀ (vs : List Value) (cur : Array Value) (o j : Nat), o + vs.length ≤ cur.size → j < vs.length → (putL cur o vs)[o + j]? = vs[j]?
  | [], _, _, _, _, h => by simp at h
  | v :: r, cur, o, 0, h, _ => by
    rw [putL, putL_out r _ _ _ (by omega)]
    simp only [List.length_cons] at h
    simp [Array.getElem?_setIfInBounds_self, show o < cur.size by omega]
  | v :: r, cur, o, j + 1, h, hj => by
    simp only [List.length_cons] at h hj
    have := putL_in r (cur.setIfInBounds o v) (o + 1) j (by simp; omega) (by omega)
    rw [putL, show o + (j + 1) = o + 1 + j by omega, this]
    simp
theorem blk_setCells : ∀ (vs : List Value) (W : World) (g o : Nat) (cur : Array Value) (t : TypeId), Blk W g cur t → Blk (W.setCells g o vs) g (putL cur o vs) t
  | [], _, _, _, _, _, h => h
  | v :: r, W, g, o, cur, t, h => blk_setCells r _ g (o + 1) _ t (h.set o v)
theorem grown_setCells : ∀ (vs : List Value) (W : World) (g o : Nat), W.grownBy (W.setCells g o vs) (some g)
  | [], W, g, o => ⟨rfl, rfl, rfl, Nat.le_refl _, fun _ _ _ => rfl⟩
  | v :: r, W, g, o => by
    have h := grown_setCells r (W.setCell ⟨g, o, none⟩ v) g (o + 1)
    have hz : W.heap.size ≤ ((W.setCell ⟨g, o, none⟩ v).setCells g (o + 1) r).heap.size := by have := h.size; simpa using this
    refine ⟨h.os, h.tape, h.output, hz, fun k hk hn => ?_⟩
    exact (h.block k (by simpa using hk) hn).trans (heap_setCell_ne W ⟨g, o, none⟩ v k (fun e => hn (by rw [e])))

/-- cells of a slice at an offset of a block of the call's own, with the room behind it -/
def RowO (W : World) (v : Value) (ob : Option Nat) (t : TypeId) (size n : Nat) (xs : List Value) : Prop :=
  xs.length = n * size ∧ ((v = .slice none 0 0 ∧ ob = none ∧ n = 0) ∨ ∃ g off cap cur, v = .slice (some ⟨g, off, none⟩) n cap ∧ ob = some g ∧ Blk W g cur t ∧ n ≤ cap ∧ cap ≤ maxLen ∧ off + cap * size ≤ cur.size ∧ ∀ j, j < n * size → cur[off + j]? = xs[j]?)
theorem RowO.nil (W : World) (t : TypeId) (size : Nat) : RowO W (.slice none 0 0) none t size 0 [] := ⟨by simp, .inl ⟨rfl, rfl, rfl⟩⟩
theorem RowO.congr {W W' : World} {v : Value} {ob : Option Nat} {t : TypeId} {size n : Nat} {xs : List Value} (h : RowO W v ob t size n xs) (hb : ∀ g, ob = some g → W'.heap[g]? = W.heap[g]?) : RowO W' v ob t size n xs := by
  obtain ⟨h0, h⟩ := h
  refine ⟨h0, ?_⟩
  rcases h with h | ⟨g, off, cap, cur, h1, h2, h3, h4⟩
  · exact .inl h
  · exact .inr ⟨g, off, cap, cur, h1, h2, (hb g h2).trans h3, h4⟩
theorem RowO.lt {W : World} {v : Value} {g : Nat} {t : TypeId} {size n : Nat} {xs : List Value} (h : RowO W v (some g) t size n xs) : g < W.heap.size := by
  rcases h.2 with ⟨_, h1, _⟩ | ⟨g', off, cap, cur, h1, h2, h3, h4⟩
  · cases h1
  · obtain rfl := Option.some.inj h2
    exact h3.lt
theorem RowO.ofRow {W : World} {v : Value} {ob : Option Nat} {t : TypeId} {size n : Nat} {xs : List Value} (h : Row W v ob t size n xs) : RowO W v ob t size n xs := by
  have hl := h.len
  rcases h.cases with ⟨rfl, rfl, rfl, rfl⟩ | ⟨g, cap, cur, rfl, rfl, h3, h4, h5, h6, rfl⟩
  · exact RowO.nil _ _ _
  · refine ⟨hl, .inr ⟨g, 0, cap, cur, rfl, rfl, h3, h4, h5, by omega, fun j hj => ?_⟩⟩
    rw [List.getElem?_take, if_pos hj, Array.getElem?_toList, Nat.zero_add]

theorem wpList_append_rowO {P : Program} {ops : Array Oper} {rest : List Oper} {o : Oper} {a : Act} {Q : Exit → Act → World → Prop} (w : World) (hgd : o.guard = none) (s x : Operand) (t : TypeId)
    (ho : o.op = .call { callee := .builtin .append, args := #[s, x], argTypes := #[t, t] })
    (e : TypeId) (i : TypeInfo) (z : Value) (size bytes : Nat) (ht : P.underlying t = some (.slice e)) (hi : P.info? e = some i) (hz : i.zero = some z)
    (hsize : i.size = size) (hby : i.bytes = bytes) (hzs : z.cells.size = size) (hsz : 0 < size)
    (v : Value) (ob : Option Nat) (n : Nat) (xs : List Value) (hs : a.eval s = v) (hrow : RowO w v ob e size n xs)
    (ad : Addr) (m c : Nat) (news : List Value) (hx : a.eval x = .slice (some ad) m c) (hm : 0 < m) (hl : news.length = m * size) (hnews : ∀ j u, news[j]? = some u → w.cell? (ad.add j) = some u) (h1 : ∀ u ∈ news, u.oneCell' = true)
    (h63 : n + m ≤ maxLen) (hbytes : (n + m) * bytes ≤ 140737488355328)
    (h : ∀ v' ob' w', RowO w' v' (some ob') e size (n + m) (xs ++ news) → w.grownBy w' ob → (ob = some ob' ∨ w.heap.size ≤ ob') → wpList P ops Q rest (a.put o.dst v') w') : wpList P ops Q (o :: rest) a w := by
  obtain ⟨hlen, hcase⟩ := hrow
  rcases hcase with ⟨rfl, rfl, rfl⟩ | ⟨g, off, cap, cur, rfl, rfl, h3, h4, h5, h6, h7⟩
  · obtain rfl : xs = [] := List.eq_nil_of_length_eq_zero (by simpa using hlen)
    exact wpList_append_row w hgd s x t ho e i z size bytes ht hi hz hsize hby hzs hsz _ none 0 [] hs (Row.nil _ _ _) ad m c news hx hm hl hnews h1 h63 hbytes (fun v' ob' w' hr hg ho => h v' ob' w' (RowO.ofRow hr) hg (by rcases ho with h | h; exact .inl h; exact .inr (by omega)))
  · have hfit : n + m ≤ cap → off + n * size + news.length ≤ cur.size := fun hr => by
      have : (n + m) * size ≤ cap * size := Nat.mul_le_mul_right _ hr
      rw [Nat.add_mul] at this
      omega
    refine wpList_append_arg w hgd s x t ho e i z size bytes ht hi hz hsize hby hzs hsz g off n cap xs hs hlen (fun j u hj => ?_) ad m c news hx hl hnews h1 (fun hr j hj => ?_) h63 hbytes (fun hr => ?_) (fun hr v' w' hown hgr => ?_)
    · have hj' : j < n * size := by have := (List.getElem?_eq_some_iff.1 hj).1; omega
      rw [cell_at h3, h7 j hj', hj]
    · have := hfit hr
      refine ⟨?_, free_at h3 _⟩
      rw [cell_at h3, Array.getElem?_eq_getElem (by omega)]
      rfl
    · have hf := hfit hr
      refine h _ g _ ⟨by rw [List.length_append, hlen, hl, Nat.add_mul], .inr ⟨g, off, cap, _, rfl, rfl, blk_setCells news w g (off + n * size) cur e h3, hr, h5, by rw [putL_size]; exact h6, fun j hj => ?_⟩⟩ (grown_setCells _ _ _ _) (.inl rfl)
      rw [List.getElem?_append]
      by_cases hjn : j < n * size
      · rw [if_pos (by omega), putL_out _ _ _ _ (.inl (by omega)), h7 j hjn]
      · rw [Nat.add_mul] at hj
        rw [if_neg (by omega), hlen, show off + j = off + n * size + (j - n * size) by omega, putL_in _ _ _ _ hf (by omega)]
    · obtain ⟨ol, hc⟩ := hown
      rcases hc with ⟨_, hz⟩ | ⟨g', cap', cur', rfl, k2, k3, k4, k5, k6, k7⟩
      · exact absurd hz (by omega)
      · exact h _ g' w' (RowO.ofRow (Row.mk k3 k4 k5 k6 k7)) ⟨hgr.os, hgr.tape, hgr.output, hgr.size, fun k hk _ => hgr.block k hk (by simp)⟩ (.inr k2)
end Go.Proofs.Ytninhjeiialbjaa
