/-
  Texts of this claim, put together: Ffd, Pl1, Pl2, Pl3, Pl4, Pl5, Pl6, Pl7, Pl8, Pl9, Pla, Plb, Plc, Pld.
-/
import Derived.Test.YtoodmocapagapaaDt
import Derived.Test.YtoodmocapagapaaOa1
import Derived.Test.YtoodmocapagapaaOb1
import Derived.ArgAppend
/-
  The law FifoSame, walked.
-/
namespace Go.Proofs.Ytoodmocapagapaa
open Go.RowKit
set_option linter.unusedSimpArgs false
set_option linter.unusedVariables false

theorem eqB_refl (X : Nat → Nat) (n : Nat) : eqB X X n = true := (eqB_iff X X n).2 fun _ _ => rfl
theorem sameP_refl (p : PkE) : sameP p p = true := by unfold sameP markB; simp [eqB_refl]

theorem pkt_inv {W : World} {x : Dt} (h : Fits Try.prog W 53 x) : ∃ (v0_0 : Int) (v0_1 : Int) (v0_2 : Int) (av0_3 : Option Addr) (nv0_3 : Nat) (cv0_3 : Nat) (xv0_3 : List Dt), x.cells = [.int .i64 v0_0, .int .i64 v0_1, .int .i64 v0_2, .slice av0_3 nv0_3 cv0_3] ∧ (-9223372036854775808 ≤ v0_0 ∧ v0_0 ≤ 9223372036854775807) ∧ (-9223372036854775808 ≤ v0_1 ∧ v0_1 ≤ 9223372036854775807) ∧ (-9223372036854775808 ≤ v0_2 ∧ v0_2 ≤ 9223372036854775807) ∧ (SliceFits Try.prog W 5 av0_3 nv0_3 cv0_3 xv0_3) := by
  obtain ⟨l0, rfl, hl0, hf0⟩ := h.agg_inv Try.underlying53
  obtain ⟨y0_0, e0_0, f0_0⟩ := hf0 0 _ rfl
  obtain ⟨y0_1, e0_1, f0_1⟩ := hf0 1 _ rfl
  obtain ⟨y0_2, e0_2, f0_2⟩ := hf0 2 _ rfl
  obtain ⟨y0_3, e0_3, f0_3⟩ := hf0 3 _ rfl
  obtain ⟨v0_0, rfl, gv0_0⟩ := f0_0.int_inv Try.underlying3
  obtain ⟨v0_1, rfl, gv0_1⟩ := f0_1.int_inv Try.underlying3
  obtain ⟨v0_2, rfl, gv0_2⟩ := f0_2.int_inv Try.underlying3
  obtain ⟨av0_3, nv0_3, cv0_3, xv0_3, rfl, gv0_3⟩ := f0_3.slice_inv Try.underlying42
  match l0, hl0 with
  | [z0_0, z0_1, z0_2, z0_3], _ =>
    obtain rfl : z0_0 = _ := by simpa using e0_0
    obtain rfl : z0_1 = _ := by simpa using e0_1
    obtain rfl : z0_2 = _ := by simpa using e0_2
    obtain rfl : z0_3 = _ := by simpa using e0_3
    exact ⟨v0_0, v0_1, v0_2, av0_3, nv0_3, cv0_3, xv0_3, rfl, gv0_0, gv0_1, gv0_2, gv0_3⟩


end Go.Proofs.Ytoodmocapagapaa
namespace Go.Proofs.Ytoodmocapagapaa
open Go.RowKit
set_option linter.unusedSimpArgs false
set_option linter.unusedVariables false

def putL : Array Value → Nat → List Value → Array Value
  | cur, _, [] => cur
  | cur, o, v :: r => putL (cur.setIfInBounds o v) (o + 1) r
theorem putL_size : ∀ (vs : List Value) (cur : Array Value) (o : Nat), (putL cur o vs).size = cur.size
  | [], _, _ => rfl
  | v :: r, cur, o => by rw [putL, putL_size r]; simp
theorem putL_out : ∀ (vs : List Value) (cur : Array Value) (o k : Nat), (k < o ∨ o + vs.length ≤ k) → (putL cur o vs)[k]? = cur[k]?
  | [], _, _, _, _ => rfl
  | v :: r, cur, o, k, h => by
    rw [putL, putL_out r _ _ _ (by simp only [List.length_cons] at h; omega), Array.getElem?_setIfInBounds_ne (by simp only [List.length_cons] at h; omega)]
theorem putL_in : ∀ (vs : List Value) (cur : Array Value) (o j : Nat), o + vs.length ≤ cur.size → j < vs.length → (putL cur o vs)[o + j]? = vs[j]?
  | [], _, _, _, _, h => by simp at h
  | v :: r, cur, o, 0, h, _ => by
    rw [putL, putL_out r _ _ _ (by omega)]
    simp only [List.length_cons] at h
    simp [Array.getElem?_setIfInBounds_self, show o < cur.size by omega]
  | v :: r, cur, o, j + 1, h, hj => by
    simp only [List.length_cons] at h hj
    have := putL_in r (cur.setIfInBounds o v) (o + 1) j (by simp; omega) (by omega)
    rw [putL, show o + (j + 1) = o + 1 + j by omega, this]
    simp
theorem blk_setCells : ∀ (vs : List Value) (W : World) (g o : Nat) (cur : Array Value) (t : TypeId), Blk W g cur t → Blk (W.setCells g o vs) g (putL cur o vs) t
  | [], _, _, _, _, _, h => h
  | v :: r, W, g, o, cur, t, h => blk_setCells r _ g (o + 1) _ t (h.set o v)
theorem grown_setCells : ∀ (vs : List Value) (W : World) (g o : Nat), W.grownBy (W.setCells g o vs) (some g)
  | [], W, g, o => ⟨rfl, rfl, rfl, Nat.le_refl _, fun _ _ _ => rfl⟩
  | v :: r, W, g, o => by
    have h := grown_setCells r (W.setCell ⟨g, o, none⟩ v) g (o + 1)
    have hz : W.heap.size ≤ ((W.setCell ⟨g, o, none⟩ v).setCells g (o + 1) r).heap.size := by have := h.size; simpa using this
    refine ⟨h.os, h.tape, h.output, hz, fun k hk hn => ?_⟩
    exact (h.block k (by simpa using hk) hn).trans (heap_setCell_ne W ⟨g, o, none⟩ v k (fun e => hn (by rw [e])))

/-- cells of a slice at an offset of a block of the call's own, with the room behind it -/
def RowO (W : World) (v : Value) (ob : Option Nat) (t : TypeId) (size n : Nat) (xs : List Value) : Prop :=
  xs.length = n * size ∧ ((v = .slice none 0 0 ∧ ob = none ∧ n = 0) ∨ ∃ g off cap cur, v = .slice (some ⟨g, off, none⟩) n cap ∧ ob = some g ∧ Blk W g cur t ∧ n ≤ cap ∧ cap ≤ maxLen ∧ off + cap * size ≤ cur.size ∧ ∀ j, j < n * size → cur[off + j]? = xs[j]?)
theorem RowO.nil (W : World) (t : TypeId) (size : Nat) : RowO W (.slice none 0 0) none t size 0 [] := ⟨by simp, .inl ⟨rfl, rfl, rfl⟩⟩
theorem RowO.congr {W W' : World} {v : Value} {ob : Option Nat} {t : TypeId} {size n : Nat} {xs : List Value} (h : RowO W v ob t size n xs) (hb : ∀ g, ob = some g → W'.heap[g]? = W.heap[g]?) : RowO W' v ob t size n xs := by
  obtain ⟨h0, h⟩ := h
  refine ⟨h0, ?_⟩
  rcases h with h | ⟨g, off, cap, cur, h1, h2, h3, h4⟩
  · exact .inl h
  · exact .inr ⟨g, off, cap, cur, h1, h2, (hb g h2).trans h3, h4⟩
theorem RowO.lt {W : World} {v : Value} {g : Nat} {t : TypeId} {size n : Nat} {xs : List Value} (h : RowO W v (some g) t size n xs) : g < W.heap.size := by
  rcases h.2 with ⟨_, h1, _⟩ | ⟨g', off, cap, cur, h1, h2, h3, h4⟩
  · cases h1
  · obtain rfl := Option.some.inj h2
    exact h3.lt
theorem RowO.ofRow {W : World} {v : Value} {ob : Option Nat} {t : TypeId} {size n : Nat} {xs : List Value} (h : Row W v ob t size n xs) : RowO W v ob t size n xs := by
  have hl := h.len
  rcases h.cases with ⟨rfl, rfl, rfl, rfl⟩ | ⟨g, cap, cur, rfl, rfl, h3, h4, h5, h6, rfl⟩
  · exact RowO.nil _ _ _
  · refine ⟨hl, .inr ⟨g, 0, cap, cur, rfl, rfl, h3, h4, h5, by omega, fun j hj => ?_⟩⟩
    rw [List.getElem?_take, if_pos hj, Array.getElem?_toList, Nat.zero_add]

theorem wpList_append_rowO {P : Program} {ops : Array Oper} {rest : List Oper} {o : Oper} {a : Act} {Q : Exit → Act → World → Prop} (w : World) (hgd : o.guard = none) (s x : Operand) (t : TypeId)
    (ho : o.op = .call { callee := .builtin .append, args := #[s, x], argTypes := #[t, t] })
    (e : TypeId) (i : TypeInfo) (z : Value) (size bytes : Nat) (ht : P.underlying t = some (.slice e)) (hi : P.info? e = some i) (hz : i.zero = some z)
    (hsize : i.size = size) (hby : i.bytes = bytes) (hzs : z.cells.size = size) (hsz : 0 < size)
    (v : Value) (ob : Option Nat) (n : Nat) (xs : List Value) (hs : a.eval s = v) (hrow : RowO w v ob e size n xs)
    (ad : Addr) (m c : Nat) (news : List Value) (hx : a.eval x = .slice (some ad) m c) (hm : 0 < m) (hl : news.length = m * size) (hnews : ∀ j u, news[j]? = some u → w.cell? (ad.add j) = some u) (h1 : ∀ u ∈ news, u.oneCell' = true)
    (h63 : n + m ≤ maxLen) (hbytes : (n + m) * bytes ≤ 140737488355328)
    (h : ∀ v' ob' w', RowO w' v' (some ob') e size (n + m) (xs ++ news) → w.grownBy w' ob → (ob = some ob' ∨ w.heap.size ≤ ob') → wpList P ops Q rest (a.put o.dst v') w') : wpList P ops Q (o :: rest) a w := by
  obtain ⟨hlen, hcase⟩ := hrow
  rcases hcase with ⟨rfl, rfl, rfl⟩ | ⟨g, off, cap, cur, rfl, rfl, h3, h4, h5, h6, h7⟩
  · obtain rfl : xs = [] := List.eq_nil_of_length_eq_zero (by simpa using hlen)
    exact wpList_append_row w hgd s x t ho e i z size bytes ht hi hz hsize hby hzs hsz _ none 0 [] hs (Row.nil _ _ _) ad m c news hx hm hl hnews h1 h63 hbytes (fun v' ob' w' hr hg ho => h v' ob' w' (RowO.ofRow hr) hg (by rcases ho with h | h; exact .inl h; exact .inr (by omega)))
  · have hfit : n + m ≤ cap → off + n * size + news.length ≤ cur.size := fun hr => by
      have : (n + m) * size ≤ cap * size := Nat.mul_le_mul_right _ hr
      rw [Nat.add_mul] at this
      omega
    refine wpList_append_arg w hgd s x t ho e i z size bytes ht hi hz hsize hby hzs hsz g off n cap xs hs hlen (fun j u hj => ?_) ad m c news hx hl hnews h1 (fun hr j hj => ?_) h63 hbytes (fun hr => ?_) (fun hr v' w' hown hgr => ?_)
    · have hj' : j < n * size := by have := (List.getElem?_eq_some_iff.1 hj).1; omega
      rw [cell_at h3, h7 j hj', hj]
    · have := hfit hr
      refine ⟨?_, free_at h3 _⟩
      rw [cell_at h3, Array.getElem?_eq_getElem (by omega)]
      rfl
    · have hf := hfit hr
      refine h _ g _ ⟨by rw [List.length_append, hlen, hl, Nat.add_mul], .inr ⟨g, off, cap, _, rfl, rfl, blk_setCells news w g (off + n * size) cur e h3, hr, h5, by rw [putL_size]; exact h6, fun j hj => ?_⟩⟩ (grown_setCells _ _ _ _) (.inl rfl)
      rw [List.getElem?_append]
      by_cases hjn : j < n * size
      · rw [if_pos (by omega), putL_out _ _ _ _ (.inl (by omega)), h7 j hjn]
      · rw [Nat.add_mul] at hj
        rw [if_neg (by omega), hlen, show off + j = off + n * size + (j - n * size) by omega, putL_in _ _ _ _ hf (by omega)]
    · obtain ⟨ol, hc⟩ := hown
      rcases hc with ⟨_, hz⟩ | ⟨g', cap', cur', rfl, k2, k3, k4, k5, k6, k7⟩
      · exact absurd hz (by omega)
      · exact h _ g' w' (RowO.ofRow (Row.mk k3 k4 k5 k6 k7)) ⟨hgr.os, hgr.tape, hgr.output, hgr.size, fun k hk _ => hgr.block k hk (by simp)⟩ (.inr k2)
end Go.Proofs.Ytoodmocapagapaa
namespace Go.Proofs.Ytoodmocapagapaa
open Go.RowKit
set_option linter.unusedSimpArgs false
set_option linter.unusedVariables false

theorem wpList_append_bytes {ops : Array Oper} {rest : List Oper} {o : Oper} {a : Act} {Q : Exit → Act → World → Prop} (w : World) (hgd : o.guard = none) (s x : Operand)
    (ho : o.op = .call { callee := .builtin .append, args := #[s, x], argTypes := #[42, 42] }) (hs : a.eval s = .slice none 0 0)
    (xa : Option Addr) (n c b og : Nat) (X : Nat → Nat) (hx : a.eval x = .slice xa n c) (h1 : ByIn w xa n c b og X) (hn : n ≤ 1000000)
    (h : ∀ a' c' b' W', ByIn W' a' n c' b' 0 X → (0 < n → w.heap.size ≤ b') → Below w.heap.size w W' → wpList Try.prog ops Q rest (a.put o.dst (.slice a' n c')) W') : wpList Try.prog ops Q (o :: rest) a w := by
  obtain ⟨i0, hi, hz0, hz1, hz2⟩ := info_parts infoU8'
  have hR0 : Row w (.slice none 0 0) none 5 1 0 (rowV X 0) := Row.nil _ _ _
  by_cases h0 : n = 0
  · subst h0
    refine wpList_append_row_zero _ hgd s x 42 ho 5 i0 1 Try.underlying42 hi _ none 0 _ hs hR0 xa c hx ?_
    exact h none 0 0 w ⟨Nat.le_refl _, by unfold maxLen; omega, fun h => by omega, fun k hk => by omega, h1.bd⟩ (fun h => by omega) (Below.refl _ _)
  · obtain ⟨e0, e1⟩ := h1.at_ (by omega)
    subst e0
    refine wpList_append_row _ hgd s x 42 ho 5 i0 _ 1 1 Try.underlying42 hi hz0 hz1 hz2 rfl (by decide) _ none 0 (rowV X 0) hs hR0 ⟨b, og, none⟩ n c (rowV X n) hx (by omega) (by rw [rowV_len, Nat.mul_one]) ?c1 (rowV_one X n) ?c3 ?c4 ?_
    case c1 =>
      intro j u hu
      have hj : j < n := by have := (List.getElem?_eq_some_iff.1 hu).1; rwa [rowV_len] at this
      rw [rowV_at X n j hj] at hu
      obtain rfl := Option.some.inj hu
      rw [addr_add]
      exact h1.cell j hj
    case c3 => unfold maxLen; omega
    case c4 => omega
    intro v' ob' W3 hrow3 hg3 hob3
    have hB3 : Below w.heap.size w W3 := (Below.refl _ _).grown hg3 (Nat.le_refl _) (fun g e => by cases e)
    have hrow4 : Row W3 v' (some ob') 5 1 n (rowV X n) := by
      first | exact hrow3 | (rw [Nat.zero_add] at hrow3; exact hrow3)
    obtain ⟨a', c', rfl, hby⟩ := row_by hrow4 h1.bd
    refine h a' c' _ W3 hby (fun _ => ?_) hB3
    rcases hob3 with h | h
    · cases h
    · rw [h]; exact Nat.le_refl _

end Go.Proofs.Ytoodmocapagapaa
namespace Go.Proofs.Ytoodmocapagapaa
open Go.RowKit
set_option linter.unusedSimpArgs false
set_option linter.unusedVariables false

theorem run_append_rowO {P : Program} (w : World) (t ty e : TypeId) (i : TypeInfo) (z : Value) (size bytes : Nat) (ht : P.underlying t = some (.slice e)) (hi : P.info? e = some i) (hz : i.zero = some z)
    (hsize : i.size = size) (hby : i.bytes = bytes) (hzs : z.cells.size = size) (hsz : 0 < size)
    (v : Value) (ob : Option Nat) (n : Nat) (xs : List Value) (hrow : RowO w v ob e size n xs)
    (ad : Addr) (m c : Nat) (news : List Value) (hm : 0 < m) (hl : news.length = m * size) (hnews : ∀ j u, news[j]? = some u → w.cell? (ad.add j) = some u) (h1 : ∀ u ∈ news, u.oneCell' = true)
    (h63 : n + m ≤ maxLen) (hbytes : (n + m) * bytes ≤ 140737488355328) :
    ∃ v' ob' w', (Builtin.append_ #[t, t] ty #[v, .slice (some ad) m c]).run P w = .ok v' w' ∧ RowO w' v' (some ob') e size (n + m) (xs ++ news) ∧ w.grownBy w' ob ∧ (ob = some ob' ∨ w.heap.size ≤ ob') := by
  obtain ⟨hlen, hcase⟩ := hrow
  rcases hcase with ⟨rfl, rfl, rfl⟩ | ⟨g, off, cap, cur, rfl, rfl, h3, h4, h5, h6, h7⟩
  · obtain rfl : xs = [] := List.eq_nil_of_length_eq_zero (by simpa using hlen)
    obtain ⟨v', ob', w', hr, h2, h3, h4⟩ := run_append_row (P := P) w t ty e i z size bytes ht hi hz hsize hby hzs hsz _ none 0 [] (Row.nil _ _ _) ad m c news hm hl hnews h1 h63 hbytes
    exact ⟨v', ob', w', hr, RowO.ofRow h2, h3, by rcases h4 with h | h; exact .inl h; exact .inr (by omega)⟩
  · by_cases hr : n + m ≤ cap
    · have hf : off + n * size + news.length ≤ cur.size := by
        have : (n + m) * size ≤ cap * size := Nat.mul_le_mul_right _ hr
        rw [Nat.add_mul] at this
        omega
      subst hsize
      refine ⟨_, g, _, run_append_room_cells (P := P) w t ty e i ht hi g off n cap ad m c news hl hnews h1 hr (fun j hj => ?_) (fun j hj => free_at h3 _), ⟨by rw [List.length_append, hlen, hl, Nat.add_mul], .inr ⟨g, off, cap, _, rfl, rfl, blk_setCells news w g (off + n * i.size) cur e h3, hr, h5, by rw [putL_size]; exact h6, fun j hj => ?_⟩⟩, grown_setCells _ _ _ _, .inl rfl⟩
      · rw [cell_at h3, Array.getElem?_eq_getElem (by omega)]
        rfl
      · rw [List.getElem?_append]
        by_cases hjn : j < n * i.size
        · rw [if_pos (by omega), putL_out _ _ _ _ (.inl (by omega)), h7 j hjn]
        · rw [Nat.add_mul] at hj
          rw [if_neg (by omega), hlen, show off + j = off + n * i.size + (j - n * i.size) by omega, putL_in _ _ _ _ hf (by omega)]
    · obtain ⟨v', w', hrun, ⟨ol, hc⟩, hgr⟩ := run_append_arg_grows (P := P) w t ty e i z size bytes ht hi hz hsize hby hzs hsz ⟨g, off, none⟩ n cap xs hlen (fun j u hj => by
        have hj' : j < n * size := by have := (List.getElem?_eq_some_iff.1 hj).1; omega
        rw [addr_add, cell_at h3, h7 j hj', hj]) ad m c news hl hnews (by omega) h63 hbytes
      rcases hc with ⟨_, hz⟩ | ⟨g', cap', cur', rfl, k2, k3, k4, k5, k6, k7⟩
      · exact absurd hz (by omega)
      · exact ⟨_, g', w', hrun, RowO.ofRow (Row.mk k3 k4 k5 k6 k7), ⟨hgr.os, hgr.tape, hgr.output, hgr.size, fun k hk _ => hgr.block k hk (by simp)⟩, .inr k2⟩

theorem op_append_rowO {P : Program} {o : Oper} {a : Act} {K : Act → World → Prop} {Q : Exit → Act → World → Prop} (w : World) (s x : Operand) (t : TypeId)
    (ho : o.op = .call { callee := .builtin .append, args := #[s, x], argTypes := #[t, t] })
    (e : TypeId) (i : TypeInfo) (z : Value) (size bytes : Nat) (ht : P.underlying t = some (.slice e)) (hi : P.info? e = some i) (hz : i.zero = some z)
    (hsize : i.size = size) (hby : i.bytes = bytes) (hzs : z.cells.size = size) (hsz : 0 < size)
    (v : Value) (ob : Option Nat) (n : Nat) (xs : List Value) (hs : a.eval s = v) (hrow : RowO w v ob e size n xs)
    (ad : Addr) (m c : Nat) (news : List Value) (hx : a.eval x = .slice (some ad) m c) (hm : 0 < m) (hl : news.length = m * size) (hnews : ∀ j u, news[j]? = some u → w.cell? (ad.add j) = some u) (h1 : ∀ u ∈ news, u.oneCell' = true)
    (h63 : n + m ≤ maxLen) (hbytes : (n + m) * bytes ≤ 140737488355328)
    (h : ∀ v' ob' w', RowO w' v' (some ob') e size (n + m) (xs ++ news) → w.grownBy w' ob → (ob = some ob' ∨ w.heap.size ≤ ob') → K (a.put o.dst v') w') : Oper.wp P o a w K Q := by
  obtain ⟨v', ob', w', hr, h2, h3, h4⟩ := run_append_rowO (P := P) w t o.type e i z size bytes ht hi hz hsize hby hzs hsz v ob n xs hrow ad m c news hm hl hnews h1 h63 hbytes
  unfold Oper.wp execOp
  simp only [ho, resolve, invoke, builtin, Sem.run_bind, Sem.run_pure, Result.andThen_ok, List.map_toArray, List.map_cons, List.map_nil, hs, hx, hr]
  exact h v' ob' w' h2 h3 h4

def pL (E : Nat → PkE) (n : Nat) : List Value := (List.range n).flatMap fun k => (E k).cells
theorem pL_succ (E : Nat → PkE) (n : Nat) : pL E (n + 1) = pL E n ++ (E n).cells := by simp [pL, List.range_succ, List.flatMap_append]
theorem pL_len (E : Nat → PkE) : ∀ n : Nat, (pL E n).length = n * 4
  | 0 => by simp [pL]
  | n + 1 => by rw [pL_succ, List.length_append, pL_len E n]; simp [PkE.cells]; omega
theorem pL_congr {E E' : Nat → PkE} : ∀ {n : Nat}, (∀ k, k < n → E k = E' k) → pL E n = pL E' n
  | 0, _ => rfl
  | n + 1, h => by rw [pL_succ, pL_succ, pL_congr (fun k hk => h k (by omega)), h n (by omega)]
theorem pL_at (E : Nat → PkE) : ∀ (n k j : Nat), k < n → j < 4 → (pL E n)[k * 4 + j]? = (E k).cells[j]?
  | 0, _, _, h, _ => by omega
  | n + 1, k, j, h, hj => by
    have hl := pL_len E n
    rw [pL_succ]
    by_cases hk : k < n
    · rw [List.getElem?_append_left (by omega)]
      exact pL_at E n k j hk hj
    · obtain rfl : k = n := by omega
      rw [List.getElem?_append_right (by omega), hl]
      congr 1
      omega

end Go.Proofs.Ytoodmocapagapaa
namespace Go.Proofs.Ytoodmocapagapaa
open Go.RowKit
set_option linter.unusedSimpArgs false
set_option linter.unusedVariables false

theorem infoPkt4 : (Try.prog.info? 53).map (fun i => (i.zero, i.size, i.bytes)) = some (some (.agg #[.int .i64 0, .int .i64 0, .int .i64 0, .slice none 0 0]), 4, 48) := by kernel_rfl

end Go.Proofs.Ytoodmocapagapaa
namespace Go.Proofs.Ytoodmocapagapaa
open Go.RowKit
set_option linter.unusedSimpArgs false
set_option linter.unusedVariables false

theorem RowO.shape {W : World} {v : Value} {ob : Option Nat} {t : TypeId} {size n : Nat} {xs : List Value} (h : RowO W v ob t size n xs) : ∃ a cap, v = .slice a n cap ∧ n ≤ cap ∧ cap ≤ maxLen := by
  rcases h.2 with ⟨h1, h2, h3⟩ | ⟨g, off, cap, cur, h1, h2, h3, h4, h5, h6⟩
  · exact ⟨none, 0, by rw [h1, h3], by omega, Nat.zero_le _⟩
  · exact ⟨_, _, h1, h4, h5⟩

end Go.Proofs.Ytoodmocapagapaa
namespace Go.Proofs.Ytoodmocapagapaa
open Go.RowKit
set_option linter.unusedSimpArgs false
set_option linter.unusedVariables false

end Go.Proofs.Ytoodmocapagapaa
namespace Go.Proofs.Ytoodmocapagapaa
open Go.RowKit
set_option linter.unusedSimpArgs false
set_option linter.unusedVariables false

theorem pL_cons (E : Nat → PkE) : ∀ n : Nat, pL E (n + 1) = (E 0).cells ++ pL (fun j => E (j + 1)) n
  | 0 => by simp [pL]
  | n + 1 => by rw [pL_succ, pL_cons E n, pL_succ, List.append_assoc]

end Go.Proofs.Ytoodmocapagapaa
namespace Go.Proofs.Ytoodmocapagapaa
open Go.RowKit
set_option linter.unusedSimpArgs false
set_option linter.unusedVariables false

end Go.Proofs.Ytoodmocapagapaa
namespace Go.Proofs.Ytoodmocapagapaa
open Go.RowKit
set_option linter.unusedSimpArgs false
set_option linter.unusedVariables false

def sumB (E : Nat → PkE) : Nat → Nat
  | 0 => 0
  | n + 1 => sumB E n + (8 + (E n).n)
theorem sumB_le (E : Nat → PkE) : ∀ n, (∀ j, j < n → (E j).n ≤ 1492) → sumB E n ≤ n * 1500
  | 0, _ => by simp [sumB]
  | n + 1, h => by
    have := sumB_le E n (fun j hj => h j (by omega))
    have := h n (by omega)
    unfold sumB
    omega
theorem sumB_congr {E E' : Nat → PkE} : ∀ {n : Nat}, (∀ k, k < n → (E k).n = (E' k).n) → sumB E n = sumB E' n
  | 0, _ => rfl
  | n + 1, h => by unfold sumB; rw [sumB_congr (fun k hk => h k (by omega)), h n (by omega)]
theorem sumB_cons (E : Nat → PkE) : ∀ n, sumB E (n + 1) = 8 + (E 0).n + sumB (fun j => E (j + 1)) n
  | 0 => by simp [sumB]
  | n + 1 => by
    have := sumB_cons E n
    unfold sumB
    rw [this]
    omega

end Go.Proofs.Ytoodmocapagapaa
namespace Go.Proofs.Ytoodmocapagapaa
open Go.RowKit
set_option linter.unusedSimpArgs false
set_option linter.unusedVariables false

/-- the first packet's cells -/
theorem FqIn.first {W : World} {D R o room f n : Nat} {by_ dr : Int} {E : Nat → PkE} (h : FqIn W D R o room f n by_ dr E) (hn : 0 < n) : R < W.heap.size ∧ ∀ i, i < 4 → W.cell? ⟨R, o + f * 4 + i, none⟩ = (E 0).cells[i]? := by
  obtain ⟨cur, h1, h2, h3⟩ := h.ring
  refine ⟨h1.lt, fun i hi => ?_⟩
  have := h3 0 hn i hi
  rw [Nat.add_zero, Nat.mod_eq_of_lt h.fl] at this
  rw [cell_at h1, this]

set_option maxRecDepth 100000 in
set_option maxHeartbeats 8000000 in
theorem fhead_any (D R o room f n : Nat) (by_ dr : Int) (E : Nat → PkE) (w : World) (hq : FqIn w D R o room f n by_ dr E) (hn : 0 < n) :
    Calls Try.prog 45 #[.pointer (some ⟨D, 0, none⟩)] w fun e w' => ∃ a' c' b', e = .returned (.tuple #[.agg #[.int .i64 (E 0).num, .int .i64 (E 0).t, .int .i64 (E 0).c, .slice a' (E 0).n c'], .bool true]) ∧ ByIn w' a' (E 0).n c' b' 0 (E 0).X ∧ (0 < (E 0).n → w.heap.size ≤ b') ∧ Below w.heap.size w w' := by
  obtain ⟨N, hN⟩ : ∃ N, N = w.heap.size := ⟨_, rfl⟩
  obtain ⟨W1, hW1⟩ : ∃ W1, W1 = w.alloc (.cells #[.int .i64 0, .int .i64 0, .int .i64 0, .slice none 0 0] 53) := ⟨_, rfl⟩
  have hB1 : Below N w W1 := by rw [hW1, hN]; exact (Below.refl _ _).alloc (Nat.le_refl _) _
  have hp : Blk W1 N #[.int .i64 0, .int .i64 0, .int .i64 0, .slice none 0 0] 53 := by rw [hW1, hN]; exact blk_new _ _ _
  have HQ1 := Lib.hid (hq.below (hN ▸ hB1))
  have HP1 := Lib.hid hp
  have HB1 := Lib.hid hB1
  have HN := Lib.hid hN
  have HM := Lib.hid hn
  have HDR : Hid (D < w.heap.size ∧ R < w.heap.size) := Lib.hid ⟨hq.own.lt, (hq.first hn).1⟩
  have HLN := Lib.hid (fun W h => flen_any D R o room f n by_ dr E W h)
  have dn : ((n : Int) == 0) = false := by rw [beq_eq_false_iff_ne]; omega
  have hfr := hq.fl
  have hr64 := hq.r64
  have f1 : (0 : Int) ≤ (f : Int) := by omega
  have f2 : (f : Int) < (room : Int) := by omega
  obtain ⟨x, hx⟩ : ∃ x, x = E 0 := ⟨_, rfl⟩
  have HX := Lib.hid hx
  rw [← hx]
  obtain ⟨xn, xt, xc, xa, xl, xca, xb, xo, xX⟩ := x
  simp only
  clear hq hB1 hp hx hn
  go_enter Try.func45, Try.ntmps45
  go_upto_region 1 with fail
  rw [← hN, ← hW1]
  clear hN hW1
  go_wp2_with fail
  go_at_call 31
  refine (HLN.out _ HQ1.out).mono ?_
  rintro e WL ⟨rfl, rfl⟩
  have hrl := HQ1.out.first HM.out
  have hS : W1.drew.cell? ⟨D, 0, none⟩ = some (.slice (some ⟨R, o, none⟩) room room) ∧ W1.drew.cell? ⟨D, 1, none⟩ = some (.int .i64 (f : Nat)) ∧ W1.drew.cell? ⟨R, o + f * 4, none⟩ = some (.int .i64 xn) ∧ W1.drew.cell? ⟨R, o + f * 4 + 1, none⟩ = some (.int .i64 xt) ∧ W1.drew.cell? ⟨R, o + f * 4 + 2, none⟩ = some (.int .i64 xc) ∧ W1.drew.cell? ⟨R, o + f * 4 + 3, none⟩ = some (.slice xa xl xca) ∧ D < W1.drew.heap.size ∧ R < W1.drew.heap.size := by
    have hc := hrl.2
    rw [← HX.out] at hc
    exact ⟨cell_at HQ1.out.own 0, cell_at HQ1.out.own 1, hc 0 (by omega), hc 1 (by omega), hc 2 (by omega), hc 3 (by omega), HQ1.out.own.lt, hrl.1⟩
  have HL1 : Hid (ByIn W1.drew xa xl xca xb xo xX ∧ xl ≤ 1492) := Lib.hid (by
    have h1 := HQ1.out.ld 0 HM.out
    rw [← HX.out] at h1
    exact ⟨h1.by_.below ((Below.refl _ _).drew : Below W1.heap.size W1 W1.drew), h1.le⟩)
  have HL5 : Hid (xl ≤ 5000) := Lib.hid (by have := HL1.out.2; omega)
  have HB1d : Hid (Below N w W1.drew) := Lib.hid HB1.out.drew
  have HP1d : Hid (Blk W1.drew N #[.int .i64 0, .int .i64 0, .int .i64 0, .slice none 0 0] 53) := Lib.hid HP1.out
  have hnD : N ≠ D ∧ N ≠ R := by
    have h1 := HN.out
    exact ⟨fun e => by have := HDR.out.1; omega, fun e => by have := HDR.out.2; omega⟩
  have HND := Lib.hid hnD
  have HS := Lib.hid hS
  clear hrl hnD
  go_upto_region 3 with fail
  refine wp_region_held_drew (S := fun X => X.cell? ⟨D, 0, none⟩ = some (.slice (some ⟨R, o, none⟩) room room) ∧ X.cell? ⟨D, 1, none⟩ = some (.int .i64 (f : Nat)) ∧ X.cell? ⟨R, o + f * 4, none⟩ = some (.int .i64 xn) ∧ X.cell? ⟨R, o + f * 4 + 1, none⟩ = some (.int .i64 xt) ∧ X.cell? ⟨R, o + f * 4 + 2, none⟩ = some (.int .i64 xc) ∧ X.cell? ⟨R, o + f * 4 + 3, none⟩ = some (.slice xa xl xca) ∧ D < X.heap.size ∧ R < X.heap.size) (by kernel_rfl) HS.out (fun hHeld => ?_)
  clear hS
  ((refine wpAnyH_take (i := 0) (v := ?_) (by (simp only [List.getElem?_toArray, List.getElem?_cons_succ, List.getElem?_cons_zero]); rfl) (by kernel_rfl) (by kernel_rfl) (by kernel_rfl) (by exact fun _ _ _ h => h) (Or.inl ⟨by rfl, ?_⟩) (by assumption) ?_); rotate_left; focus (intro wS hSw; (try dsimp only at hSw); go_simp; first | done | with_reducible rfl); try simp only [Act.put, List.setIfInBounds_toArray, List.set_cons_zero, List.set_cons_succ])
  ((refine wpAnyH_take (i := 1) (v := ?_) (by (simp only [List.getElem?_toArray, List.getElem?_cons_succ, List.getElem?_cons_zero]); rfl) (by kernel_rfl) (by kernel_rfl) (by kernel_rfl) (by exact fun _ _ _ h => h) (Or.inl ⟨by rfl, ?_⟩) (by assumption) ?_); rotate_left; focus (intro wS hSw; (try dsimp only at hSw); go_simp; first | done | with_reducible rfl); try simp only [Act.put, List.setIfInBounds_toArray, List.set_cons_zero, List.set_cons_succ])
  ((refine wpAnyH_take (i := 2) (v := ?_) (by (simp only [List.getElem?_toArray, List.getElem?_cons_succ, List.getElem?_cons_zero]); rfl) (by kernel_rfl) (by kernel_rfl) (by kernel_rfl) (by exact fun _ _ _ h => h) (Or.inl ⟨by rfl, ?_⟩) (by assumption) ?_); rotate_left; focus (intro wS hSw; (try dsimp only at hSw); go_simp; first | done | with_reducible rfl); try simp only [Act.put, List.setIfInBounds_toArray, List.set_cons_zero, List.set_cons_succ])
  ((refine wpAnyH_take (i := 3) (v := ?_) (by (simp only [List.getElem?_toArray, List.getElem?_cons_succ, List.getElem?_cons_zero]); rfl) (by kernel_rfl) (by kernel_rfl) (by kernel_rfl) (by exact fun _ _ _ h => h) (Or.inl ⟨by rfl, ?_⟩) (by assumption) ?_); rotate_left; focus (intro wS hSw; (try dsimp only at hSw); go_simp; first | done | with_reducible rfl); try simp only [Act.put, List.setIfInBounds_toArray, List.set_cons_zero, List.set_cons_succ])
  ((refine wpAnyH_take (i := 4) (v := ?_) (by (simp only [List.getElem?_toArray, List.getElem?_cons_succ, List.getElem?_cons_zero]); rfl) (by kernel_rfl) (by kernel_rfl) (by kernel_rfl) (by exact fun _ _ _ h => h) (Or.inl ⟨by rfl, ?_⟩) (by assumption) ?_); rotate_left; focus (intro wS hSw; (try dsimp only at hSw); go_simp; first | done | with_reducible rfl); try simp only [Act.put, List.setIfInBounds_toArray, List.set_cons_zero, List.set_cons_succ])
  ((refine wpAnyH_take (i := 5) (v := ?_) (by (simp only [List.getElem?_toArray, List.getElem?_cons_succ, List.getElem?_cons_zero]); rfl) (by kernel_rfl) (by kernel_rfl) (by kernel_rfl) (by exact fun _ _ _ h => h) (Or.inl ⟨by rfl, ?_⟩) (by assumption) ?_); rotate_left; focus (intro wS hSw; (try dsimp only at hSw); go_simp; first | done | with_reducible rfl); try simp only [Act.put, List.setIfInBounds_toArray, List.set_cons_zero, List.set_cons_succ])
  ((refine wpAnyH_take (i := 6) (v := ?_) (by (simp only [List.getElem?_toArray, List.getElem?_cons_succ, List.getElem?_cons_zero]); rfl) (by kernel_rfl) (by kernel_rfl) (by kernel_rfl) (by exact fun _ _ _ h => h) (Or.inl ⟨by rfl, ?_⟩) (by assumption) ?_); rotate_left; focus (intro wS hSw; (try dsimp only at hSw); go_simp; first | done | with_reducible rfl); try simp only [Act.put, List.setIfInBounds_toArray, List.set_cons_zero, List.set_cons_succ])
  ((refine wpAnyH_take (i := 7) (v := ?_) (by (simp only [List.getElem?_toArray, List.getElem?_cons_succ, List.getElem?_cons_zero]); rfl) (by kernel_rfl) (by kernel_rfl) (by kernel_rfl) (by exact fun _ _ _ h => h) (Or.inl ⟨by rfl, ?_⟩) (by assumption) ?_); rotate_left; focus (intro wS hSw; (try dsimp only at hSw); go_simp; first | done | with_reducible rfl); try simp only [Act.put, List.setIfInBounds_toArray, List.set_cons_zero, List.set_cons_succ])
  ((refine wpAnyH_take (i := 8) (v := ?_) (by (simp only [List.getElem?_toArray, List.getElem?_cons_succ, List.getElem?_cons_zero]); rfl) (by kernel_rfl) (by kernel_rfl) (by kernel_rfl) (by exact fun _ _ _ h => h) (Or.inl ⟨by rfl, ?_⟩) (by assumption) ?_); rotate_left; focus (intro wS hSw; (try dsimp only at hSw); go_simp; first | done | with_reducible rfl); try simp only [Act.put, List.setIfInBounds_toArray, List.set_cons_zero, List.set_cons_succ])
  ((refine wpAnyH_take (i := 9) (v := ?_) (by (simp only [List.getElem?_toArray, List.getElem?_cons_succ, List.getElem?_cons_zero]); rfl) (by kernel_rfl) (by kernel_rfl) (by kernel_rfl) (by exact fun _ _ _ h => h) (Or.inl ⟨by rfl, ?_⟩) (by assumption) ?_); rotate_left; focus (intro wS hSw; (try dsimp only at hSw); go_simp; first | done | with_reducible rfl); try simp only [Act.put, List.setIfInBounds_toArray, List.set_cons_zero, List.set_cons_succ])
  ((refine wpAnyH_take (i := 10) (v := ?_) (by (simp only [List.getElem?_toArray, List.getElem?_cons_succ, List.getElem?_cons_zero]); rfl) (by kernel_rfl) (by kernel_rfl) (by kernel_rfl) (by exact fun _ _ _ h => h) (Or.inl ⟨by rfl, ?_⟩) (by assumption) ?_); rotate_left; focus (intro wS hSw; (try dsimp only at hSw); go_simp; first | done | with_reducible rfl); try simp only [Act.put, List.setIfInBounds_toArray, List.set_cons_zero, List.set_cons_succ])
  ((refine wpAnyH_take (i := 11) (v := ?_) (by (simp only [List.getElem?_toArray, List.getElem?_cons_succ, List.getElem?_cons_zero]); rfl) (by kernel_rfl) (by kernel_rfl) (by kernel_rfl) (by exact fun _ _ _ h => h) (Or.inl ⟨by rfl, ?_⟩) (by assumption) ?_); rotate_left; focus (intro wS hSw; (try dsimp only at hSw); go_simp; first | done | with_reducible rfl); try simp only [Act.put, List.setIfInBounds_toArray, List.set_cons_zero, List.set_cons_succ])
  ((refine wpAnyH_ready (rs := [12]) (by kernel_rfl) (by simp) ?_); (refine AllReadyH.cons (by (simp only [List.getElem?_toArray, List.getElem?_cons_succ, List.getElem?_cons_zero]); rfl) (fun K hK => ?_) AllReadyH.nil); go_simp; refine Calls.mono (ftwin_any xn xt xc xa xl xca xb xo xX _ HL1.out.1 HL5.out) ?_)
  rintro e W3 ⟨a', c', b', rfl, hby, hfr, hB3⟩
  have hp3 := HP1d.out.step hB3
  have HP3 := Lib.hid hp3
  have hS3 : W3.cell? ⟨D, 0, none⟩ = some (.slice (some ⟨R, o, none⟩) room room) ∧ W3.cell? ⟨D, 1, none⟩ = some (.int .i64 (f : Nat)) ∧ W3.cell? ⟨R, o + f * 4, none⟩ = some (.int .i64 xn) ∧ W3.cell? ⟨R, o + f * 4 + 1, none⟩ = some (.int .i64 xt) ∧ W3.cell? ⟨R, o + f * 4 + 2, none⟩ = some (.int .i64 xc) ∧ W3.cell? ⟨R, o + f * 4 + 3, none⟩ = some (.slice xa xl xca) ∧ D < W3.heap.size ∧ R < W3.heap.size := by
    obtain ⟨h0, h1, h2, h3, h4, h5, h6, h7⟩ := HS.out
    have q := fun i => hB3.cell (p := ⟨D, i, none⟩) h6
    have q' := fun i => hB3.cell (p := ⟨R, i, none⟩) h7
    have := hB3.size
    exact ⟨(q _).trans h0, (q _).trans h1, (q' _).trans h2, (q' _).trans h3, (q' _).trans h4, (q' _).trans h5, by omega, by omega⟩
  have HS3 := Lib.hid hS3
  have HB3 := Lib.hid (HB1d.out.trans (hB3.mono (by have := HP1d.out.lt; omega)))
  have HBY := Lib.hid hby
  have HF : Hid (0 < xl → N < b') := Lib.hid (fun h => by have := hfr h; have := HP1d.out.lt; omega)
  have y0 := free_at hp3 0
  have y1 := free_at hp3 1
  have y2 := free_at hp3 2
  have y3 := free_at hp3 3
  have d0 : W3.cell? ⟨N, 0, none⟩ = some (.int .i64 0) := cell_at hp3 0
  have d1 : W3.cell? ⟨N, 1, none⟩ = some (.int .i64 0) := cell_at hp3 1
  have d2 : W3.cell? ⟨N, 2, none⟩ = some (.int .i64 0) := cell_at hp3 2
  have d3 : W3.cell? ⟨N, 3, none⟩ = some (.slice none 0 0) := cell_at hp3 3
  have hl := hp3.lt
  clear hby hfr hB3 hp3 hS3
  go_wp2_with fail
  refine hK.out _ _ HS3.out (fun hHeld => ?_)
  clear hK K
  try simp only [Act.put, List.setIfInBounds_toArray, List.set_cons_zero, List.set_cons_succ]
  refine wpAnyH_ready (rs := [13]) (by kernel_rfl) (by simp) ?_
  refine AllReadyH.cons (by (simp only [List.getElem?_toArray, List.getElem?_cons_succ, List.getElem?_cons_zero]); rfl) (fun K hK => ?_) AllReadyH.nil
  go_simp
  obtain ⟨WF, hWF⟩ : ∃ WF, WF = (((W3.setCell ⟨N, 0, none⟩ (.int .i64 xn)).setCell ⟨N, 1, none⟩ (.int .i64 xt)).setCell ⟨N, 2, none⟩ (.int .i64 xc)).setCell ⟨N, 3, none⟩ (.slice a' xl c') := ⟨_, rfl⟩
  have k1 : Blk WF N #[.int .i64 xn, .int .i64 xt, .int .i64 xc, .slice a' xl c'] 53 := by rw [hWF]; exact (((HP3.out.set 0 (.int .i64 xn)).set 1 (.int .i64 xt)).set 2 (.int .i64 xc)).set 3 (.slice a' xl c')
  have hBF : Below N w WF := by rw [hWF]; exact (((HB3.out.setCell (p := ⟨N, 0, none⟩) (Nat.le_refl _) _).setCell (p := ⟨N, 1, none⟩) (Nat.le_refl _) _).setCell (p := ⟨N, 2, none⟩) (Nat.le_refl _) _).setCell (p := ⟨N, 3, none⟩) (Nat.le_refl _) _
  have hnb : 0 < xl → b' ≠ N := fun h => by have := HF.out h; omega
  have k2 : ByIn WF a' xl c' b' 0 xX := by rw [hWF]; exact (((HBY.out.ne ⟨N, 0, none⟩ hnb _).ne ⟨N, 1, none⟩ hnb _).ne ⟨N, 2, none⟩ hnb _).ne ⟨N, 3, none⟩ hnb _
  have hne : ∀ k, k ≠ N → WF.heap[k]? = W3.heap[k]? := fun k hk => by rw [hWF]; exact (heap_setCell_ne _ ⟨N, 3, none⟩ _ k hk).trans ((heap_setCell_ne _ ⟨N, 2, none⟩ _ k hk).trans ((heap_setCell_ne _ ⟨N, 1, none⟩ _ k hk).trans (heap_setCell_ne _ ⟨N, 0, none⟩ _ k hk)))
  have hsz : WF.heap.size = W3.heap.size := by rw [hWF]; simp
  rw [← hWF]
  clear hWF y0 y1 y2 y3 d0 d1 d2 d3 hl
  have hSF : WF.cell? ⟨D, 0, none⟩ = some (.slice (some ⟨R, o, none⟩) room room) ∧ WF.cell? ⟨D, 1, none⟩ = some (.int .i64 (f : Nat)) ∧ WF.cell? ⟨R, o + f * 4, none⟩ = some (.int .i64 xn) ∧ WF.cell? ⟨R, o + f * 4 + 1, none⟩ = some (.int .i64 xt) ∧ WF.cell? ⟨R, o + f * 4 + 2, none⟩ = some (.int .i64 xc) ∧ WF.cell? ⟨R, o + f * 4 + 3, none⟩ = some (.slice xa xl xca) ∧ D < WF.heap.size ∧ R < WF.heap.size := by
    obtain ⟨h0, h1, h2, h3, h4, h5, h6, h7⟩ := HS3.out
    have q := fun i => cell_congr (hne D HND.out.1.symm) i
    have q' := fun i => cell_congr (hne R HND.out.2.symm) i
    exact ⟨(q _).trans h0, (q _).trans h1, (q' _).trans h2, (q' _).trans h3, (q' _).trans h4, (q' _).trans h5, by omega, by omega⟩
  have K1 := Lib.hid k1
  have K2 := Lib.hid k2
  have KB := Lib.hid hBF
  have KS := Lib.hid hSF
  clear k1 k2 hBF hSF hne hnb hsz
  refine hK.out _ _ KS.out (fun hHeld => ?_)
  clear hK K
  try simp only [Act.put, List.setIfInBounds_toArray, List.set_cons_zero, List.set_cons_succ]
  ((refine wpAnyH_take (i := 14) (v := ?_) (by (simp only [List.getElem?_toArray, List.getElem?_cons_succ, List.getElem?_cons_zero]); rfl) (by kernel_rfl) (by kernel_rfl) (by kernel_rfl) (by exact fun _ _ _ h => h) (Or.inl ⟨by rfl, ?_⟩) (by assumption) ?_); rotate_left; focus (intro wS hSw; (try dsimp only at hSw); go_simp; first | done | with_reducible rfl); try simp only [Act.put, List.setIfInBounds_toArray, List.set_cons_zero, List.set_cons_succ])
  refine wpAnyH_done (by kernel_rfl) ?_ _
  go_wp2_with fail
  have r0 : WF.cell? ⟨N, 0, none⟩ = some (.int .i64 xn) := cell_at K1.out 0
  have r1 : WF.cell? ⟨N, 1, none⟩ = some (.int .i64 xt) := cell_at K1.out 1
  have r2 : WF.cell? ⟨N, 2, none⟩ = some (.int .i64 xc) := cell_at K1.out 2
  have r3 : WF.cell? ⟨N, 3, none⟩ = some (.slice a' xl c') := cell_at K1.out 3
  exact bodyPost_ret (v := .tuple #[.agg #[.int .i64 xn, .int .i64 xt, .int .i64 xc, .slice a' xl c'], .bool true]) (by simp [results, Try.results45, go_sem, r0, r1, r2, r3]) rfl ⟨a', c', b', rfl, K2.out, (fun h => by have := HF.out h; have := HN.out; omega), HN.out ▸ KB.out⟩
end Go.Proofs.Ytoodmocapagapaa
namespace Go.Proofs.Ytoodmocapagapaa
open Go.RowKit
set_option linter.unusedSimpArgs false
set_option linter.unusedVariables false

set_option maxRecDepth 100000 in
set_option maxHeartbeats 4000000 in
theorem zhead_any (D R o room f : Nat) (by_ dr : Int) (E : Nat → PkE) (w : World) (hq : FqIn w D R o room f 0 by_ dr E) : Calls Try.prog 45 #[.pointer (some ⟨D, 0, none⟩)] w fun e w' => e = .returned (.tuple #[.agg #[.int .i64 0, .int .i64 0, .int .i64 0, .slice none 0 0], .bool false]) ∧ Below w.heap.size w w' := by
  have HQ := Lib.hid (hq.below ((Below.refl w.heap.size w).alloc (Nat.le_refl _) (.cells #[.int .i64 0, .int .i64 0, .int .i64 0, .slice none 0 0] 53)))
  clear hq
  go_enter Try.func45, Try.ntmps45
  go_wp2_with (go_at_call 31; refine (flen_any D R o room f 0 by_ dr E _ HQ.out).mono ?_; rintro e W ⟨rfl, rfl⟩)
  exact bodyPost_ret (v := .tuple #[.agg #[.int .i64 0, .int .i64 0, .int .i64 0, .slice none 0 0], .bool false]) (by simp [results, Try.results45, go_sem]) rfl ⟨rfl, (Below.refl _ _).alloc (Nat.le_refl _) _⟩

theorem FqIn.fr {W W' : World} {D R o room f n : Nat} {by_ dr : Int} {E : Nat → PkE} (h : FqIn W D R o room f n by_ dr E) {l : List Nat} (hF : Fr l W W') (hD : D ∉ l) (hR : R ∉ l) (hb : ∀ j, j < n → 0 < (E j).n → (E j).b ∉ l) : FqIn W' D R o room f n by_ dr E := by
  obtain ⟨cur, h1, h2, h3⟩ := h.ring
  refine ⟨(hF.block D h.own.lt hD).trans h.own, ⟨cur, (hF.block R h1.lt hR).trans h1, h2, h3⟩, h.ne, h.r1, h.r64, h.fl, h.nl, fun j hj => ?_⟩
  have hx := h.ld j hj
  exact ⟨⟨hx.by_.le, hx.by_.max, fun hk => ⟨(hx.by_.at_ hk).1, by have := (hx.by_.at_ hk).2; have := hF.size; omega⟩, fun k hk => (cell_congr (hF.block _ (hx.by_.at_ (by omega)).2 (hb j hj (by omega))) _).trans (hx.by_.cell k hk), hx.by_.bd⟩, hx.le, hx.d, hx.r⟩

/-- the same packet, wherever its load lies -/
def PkE.sim (x y : PkE) : Prop := x.num = y.num ∧ x.t = y.t ∧ x.c = y.c ∧ x.n = y.n ∧ ∀ j, j < x.n → x.X j = y.X j
theorem sameP_sim {x y : PkE} (h : x.sim y) : sameP x y = true := by
  obtain ⟨h1, h2, h3, h4, h5⟩ := h
  unfold sameP markB
  simp only [Bool.and_eq_true, beq_iff_eq]
  exact ⟨⟨h1, h2, h3⟩, h4, (eqB_iff _ _ _).2 h5⟩
end Go.Proofs.Ytoodmocapagapaa
namespace Go.Proofs.Ytoodmocapagapaa
open Go.RowKit
set_option linter.unusedSimpArgs false
set_option linter.unusedVariables false

end Go.Proofs.Ytoodmocapagapaa
namespace Go.Proofs.Ytoodmocapagapaa
open Go.RowKit
set_option linter.unusedSimpArgs false
set_option linter.unusedVariables false

set_option maxRecDepth 100000 in
set_option maxHeartbeats 8000000 in
theorem fpush_any2 (D R o room f n : Nat) (by_ dr : Int) (E : Nat → PkE) (num t c : Int) (a : Option Addr) (ln ca : Nat) (w : World) (hq : FqIn w D R o room f n by_ dr E) (hn : n < room) (b ob : Nat) (X : Nat → Nat) (hl : ByIn w a ln ca b ob X) (h14 : ln ≤ 1492) (hby : 0 ≤ by_ ∧ by_ ≤ 1000000) :
    Calls Try.prog 24 #[.pointer (some ⟨D, 0, none⟩), .agg #[.int .i64 num, .int .i64 t, .int .i64 c, .slice a ln ca]] w fun e w' => e = .returned (.int .i64 0) ∧ (∃ a' c' b', (0 < ln → w.heap.size ≤ b') ∧ FqIn w' D R o room f (n + 1) (by_ + (8 + (ln : Int))) dr (putE E n ⟨num, t, c, a', ln, c', b', 0, X⟩)) ∧ Fr [D, R] w w' := by
  obtain ⟨N, hN⟩ : ∃ N, N = w.heap.size := ⟨_, rfl⟩
  obtain ⟨W1, hW1⟩ : ∃ W1, W1 = w.alloc (.cells #[.int .i64 num, .int .i64 t, .int .i64 c, .slice a ln ca] 53) := ⟨_, rfl⟩
  have hB1 : Below w.heap.size w W1 := by rw [hW1]; exact (Below.refl _ _).alloc (Nat.le_refl _) _
  have hp : Blk W1 N #[.int .i64 num, .int .i64 t, .int .i64 c, .slice a ln ca] 53 := by rw [hW1, hN]; exact blk_new _ _ _
  have hD : D < N := by rw [hN]; exact hq.own.lt
  have hR : R < N := by rw [hN]; obtain ⟨_, h1, _⟩ := hq.ring; exact h1.lt
  have HB1 := Lib.hid hB1
  have HP1 := Lib.hid hp
  have HQ1 := Lib.hid (hq.below hB1)
  have HL1 := Lib.hid (hl.below hB1)
  have HN := Lib.hid hN
  have hnil : ∀ W, (binOp .eql 65 (.pointer (some ⟨D, 0, none⟩)) (.pointer none)).run Try.prog W = .ok (.bool false) W := fun _ => rfl
  have d1 : decide ((1500 : Int) < 8 + ln) = false := by simp; omega
  have p0 : W1.cell? ⟨N, 0, none⟩ = some (.int .i64 num) := cell_at hp 0
  have p1 : W1.cell? ⟨N, 1, none⟩ = some (.int .i64 t) := cell_at hp 1
  have p2 : W1.cell? ⟨N, 2, none⟩ = some (.int .i64 c) := cell_at hp 2
  have p3 : W1.cell? ⟨N, 3, none⟩ = some (.slice a ln ca) := cell_at hp 3
  have hN1 : N < W1.heap.size := hp.lt
  clear hq hl hB1 hp
  go_enter Try.func24, Try.ntmps24
  go_upto_region 3 with fail
  rw [← hN, ← hW1]
  clear hN hW1
  go_wp2_with fail
  go_at_call 42
  refine (fsize_any _ _ _ _ _ _ _ (by omega)).mono ?_
  rintro e W2 ⟨rfl, hB2⟩
  have HB2 := Lib.hid (HB1.out.trans (hB2.mono HB1.out.size))
  have HP2 := Lib.hid (HP1.out.step hB2)
  have HQ2 := Lib.hid (HQ1.out.below hB2)
  have HL2 := Lib.hid (HL1.out.below hB2)
  clear hB2 p0 p1 p2 p3 hN1
  go_upto_region 5 with fail
  have HB2d := Lib.hid (HB2.out.drew)
  have HP2d : Hid (Blk W2.drew N #[.int .i64 num, .int .i64 t, .int .i64 c, .slice a ln ca] 53) := Lib.hid HP2.out
  have HQ2d : Hid (FqIn W2.drew D R o room f n by_ dr E) := Lib.hid (HQ2.out.below ((Below.refl _ _).drew : Below W2.heap.size W2 W2.drew))
  have HL2d : Hid (ByIn W2.drew a ln ca b ob X) := Lib.hid (HL2.out.below ((Below.refl _ _).drew : Below W2.heap.size W2 W2.drew))
  refine wp_region_held_drew (S := fun X => X.cell? ⟨N, 0, none⟩ = some (.int .i64 num) ∧ X.cell? ⟨N, 1, none⟩ = some (.int .i64 t) ∧ X.cell? ⟨N, 2, none⟩ = some (.int .i64 c) ∧ X.cell? ⟨N, 3, none⟩ = some (.slice a ln ca) ∧ N < X.heap.size) (by kernel_rfl) ⟨cell_at HP2d.out 0, cell_at HP2d.out 1, cell_at HP2d.out 2, cell_at HP2d.out 3, HP2d.out.lt⟩ (fun hHeld => ?_)
  ((refine wpAnyH_take (i := 0) (v := ?_) (by (simp only [List.getElem?_toArray, List.getElem?_cons_succ, List.getElem?_cons_zero]); rfl) (by kernel_rfl) (by kernel_rfl) (by kernel_rfl) (by exact fun _ _ _ h => h) (Or.inl ⟨by rfl, ?_⟩) (by assumption) ?_); rotate_left; focus (intro wS hSw; (try dsimp only at hSw); go_simp; first | done | with_reducible rfl); try simp only [Act.put, List.setIfInBounds_toArray, List.set_cons_zero, List.set_cons_succ])
  ((refine wpAnyH_take (i := 1) (v := ?_) (by (simp only [List.getElem?_toArray, List.getElem?_cons_succ, List.getElem?_cons_zero]); rfl) (by kernel_rfl) (by kernel_rfl) (by kernel_rfl) (by exact fun _ _ _ h => h) (Or.inl ⟨by rfl, ?_⟩) (by assumption) ?_); rotate_left; focus (intro wS hSw; (try dsimp only at hSw); go_simp; first | done | with_reducible rfl); try simp only [Act.put, List.setIfInBounds_toArray, List.set_cons_zero, List.set_cons_succ])
  ((refine wpAnyH_take (i := 2) (v := ?_) (by (simp only [List.getElem?_toArray, List.getElem?_cons_succ, List.getElem?_cons_zero]); rfl) (by kernel_rfl) (by kernel_rfl) (by kernel_rfl) (by exact fun _ _ _ h => h) (Or.inl ⟨by rfl, ?_⟩) (by assumption) ?_); rotate_left; focus (intro wS hSw; (try dsimp only at hSw); go_simp; first | done | with_reducible rfl); try simp only [Act.put, List.setIfInBounds_toArray, List.set_cons_zero, List.set_cons_succ])
  ((refine wpAnyH_take (i := 3) (v := ?_) (by (simp only [List.getElem?_toArray, List.getElem?_cons_succ, List.getElem?_cons_zero]); rfl) (by kernel_rfl) (by kernel_rfl) (by kernel_rfl) (by exact fun _ _ _ h => h) (Or.inl ⟨by rfl, ?_⟩) (by assumption) ?_); rotate_left; focus (intro wS hSw; (try dsimp only at hSw); go_simp; first | done | with_reducible rfl); try simp only [Act.put, List.setIfInBounds_toArray, List.set_cons_zero, List.set_cons_succ])
  ((refine wpAnyH_ready (rs := [4]) (by kernel_rfl) (by simp) ?_); (refine AllReadyH.cons (by (simp only [List.getElem?_toArray, List.getElem?_cons_succ, List.getElem?_cons_zero]); rfl) (fun K hK => ?_) AllReadyH.nil); go_simp; refine Calls.mono (ftwin_any num t c a ln ca b ob X _ HL2d.out (by omega)) ?_)
  rintro e W3 ⟨a', c', b', rfl, hby3, hfr3, hB3⟩
  have HB3 := Lib.hid (HB2d.out.trans (hB3.mono HB2d.out.size))
  have HP3 := Lib.hid (HP2d.out.step hB3)
  have HQ3 := Lib.hid (HQ2d.out.below hB3)
  have HL3 : Hid (LdIn W3 D R ⟨num, t, c, a', ln, c', b', 0, X⟩) := Lib.hid ⟨hby3, h14, fun h0 => (by have := hfr3 h0; have := HP2d.out.lt; show b' ≠ D; omega), fun h0 => (by have := hfr3 h0; have := HP2d.out.lt; show b' ≠ R; omega)⟩
  have HFR3 : Hid (0 < ln → w.heap.size ≤ b') := Lib.hid (fun h0 => by have := hfr3 h0; have := HB2d.out.size; omega)
  clear hby3 hfr3 hB3
  go_wp2_with fail
  refine hK.out _ _ ⟨cell_at HP3.out 0, cell_at HP3.out 1, cell_at HP3.out 2, cell_at HP3.out 3, HP3.out.lt⟩ (fun hHeld => ?_)
  clear hK K
  try simp only [Act.put, List.setIfInBounds_toArray, List.set_cons_zero, List.set_cons_succ]
  ((refine wpAnyH_ready (rs := [5]) (by kernel_rfl) (by simp) ?_); (refine AllReadyH.cons (by (simp only [List.getElem?_toArray, List.getElem?_cons_succ, List.getElem?_cons_zero]); rfl) (fun K hK => ?_) AllReadyH.nil); go_simp; refine Calls.mono (ring_push D R o room f n by_ dr E num t c a' ln c' _ HQ3.out hn b' 0 X HL3.out) ?_)
  rintro e W4 ⟨rfl, hq4, hF4⟩
  have HP4 : Hid (Blk W4 N #[.int .i64 num, .int .i64 t, .int .i64 c, .slice a ln ca] 53) := Lib.hid ((hF4.block N HP3.out.lt (by simp; omega)).trans HP3.out)
  have HQ4 := Lib.hid hq4
  have HF4 : Hid (Fr [D, R] w W4) := Lib.hid (((Fr.of_below HB3.out).mono (by simp)).trans hF4 (by simp))
  clear hq4 hF4
  go_wp2_with fail
  refine hK.out _ _ ⟨cell_at HP4.out 0, cell_at HP4.out 1, cell_at HP4.out 2, cell_at HP4.out 3, HP4.out.lt⟩ (fun hHeld => ?_)
  clear hK K
  try simp only [Act.put, List.setIfInBounds_toArray, List.set_cons_zero, List.set_cons_succ]
  ((refine wpAnyH_take (i := 6) (v := ?_) (by (simp only [List.getElem?_toArray, List.getElem?_cons_succ, List.getElem?_cons_zero]); rfl) (by kernel_rfl) (by kernel_rfl) (by kernel_rfl) (by exact fun _ _ _ h => h) (Or.inl ⟨by rfl, ?_⟩) (by assumption) ?_); rotate_left; focus (intro wS hSw; (try dsimp only at hSw); go_simp; first | done | with_reducible rfl); try simp only [Act.put, List.setIfInBounds_toArray, List.set_cons_zero, List.set_cons_succ])
  ((refine wpAnyH_take (i := 7) (v := ?_) (by (simp only [List.getElem?_toArray, List.getElem?_cons_succ, List.getElem?_cons_zero]); rfl) (by kernel_rfl) (by kernel_rfl) (by kernel_rfl) (by exact fun _ _ _ h => h) (Or.inl ⟨by rfl, ?_⟩) (by assumption) ?_); rotate_left; focus (intro wS hSw; (try dsimp only at hSw); go_simp; first | done | with_reducible rfl); try simp only [Act.put, List.setIfInBounds_toArray, List.set_cons_zero, List.set_cons_succ])
  refine wpAnyH_done (by kernel_rfl) ?_ _
  go_upto_region 8 with fail
  have HP5 : Hid (Blk W4.drew N #[.int .i64 num, .int .i64 t, .int .i64 c, .slice a ln ca] 53) := Lib.hid HP4.out
  have HQ5 : Hid (FqIn W4.drew D R o room f (n + 1) by_ dr (putE E n ⟨num, t, c, a', ln, c', b', 0, X⟩)) := Lib.hid (HQ4.out.below ((Below.refl _ _).drew : Below W4.heap.size W4 W4.drew))
  have HF5 : Hid (Fr [D, R] w W4.drew) := Lib.hid HF4.out.drew
  have p0 : W4.cell? ⟨N, 0, none⟩ = some (.int .i64 num) := cell_at HP4.out 0
  have p1 : W4.cell? ⟨N, 1, none⟩ = some (.int .i64 t) := cell_at HP4.out 1
  have p2 : W4.cell? ⟨N, 2, none⟩ = some (.int .i64 c) := cell_at HP4.out 2
  have p3 : W4.cell? ⟨N, 3, none⟩ = some (.slice a ln ca) := cell_at HP4.out 3
  have pN : N < W4.heap.size := HP4.out.lt
  have k3 : W4.cell? ⟨D, 3, none⟩ = some (.int .i64 by_) := cell_at HQ4.out.own 3
  have z3 := free_at HQ4.out.own 3
  have hDW : D < W4.heap.size := HQ4.out.own.lt
  have hnD : D ≠ N := by omega
  have hw : IntKind.i64.wrap (by_ + (8 + (ln : Int))) = by_ + (8 + (ln : Int)) := by rw [IntKind.wrap_i64]; omega
  refine wp_region_held_drew (S := fun X => X.cell? ⟨N, 0, none⟩ = some (.int .i64 num) ∧ X.cell? ⟨N, 1, none⟩ = some (.int .i64 t) ∧ X.cell? ⟨N, 2, none⟩ = some (.int .i64 c) ∧ X.cell? ⟨N, 3, none⟩ = some (.slice a ln ca) ∧ N < X.heap.size) (by kernel_rfl) ⟨cell_at HP5.out 0, cell_at HP5.out 1, cell_at HP5.out 2, cell_at HP5.out 3, HP5.out.lt⟩ (fun hHeld => ?_)
  ((refine wpAnyH_take (i := 0) (v := ?_) (by (simp only [List.getElem?_toArray, List.getElem?_cons_succ, List.getElem?_cons_zero]); rfl) (by kernel_rfl) (by kernel_rfl) (by kernel_rfl) (by exact fun _ _ _ h => h) (Or.inl ⟨by rfl, ?_⟩) (by assumption) ?_); rotate_left; focus (intro wS hSw; (try dsimp only at hSw); go_simp; first | done | with_reducible rfl); try simp only [Act.put, List.setIfInBounds_toArray, List.set_cons_zero, List.set_cons_succ])
  ((refine wpAnyH_take (i := 1) (v := ?_) (by (simp only [List.getElem?_toArray, List.getElem?_cons_succ, List.getElem?_cons_zero]); rfl) (by kernel_rfl) (by kernel_rfl) (by kernel_rfl) (by exact fun _ _ _ h => h) (Or.inl ⟨by rfl, ?_⟩) (by assumption) ?_); rotate_left; focus (intro wS hSw; (try dsimp only at hSw); go_simp; first | done | with_reducible rfl); try simp only [Act.put, List.setIfInBounds_toArray, List.set_cons_zero, List.set_cons_succ])
  ((refine wpAnyH_take (i := 2) (v := ?_) (by (simp only [List.getElem?_toArray, List.getElem?_cons_succ, List.getElem?_cons_zero]); rfl) (by kernel_rfl) (by kernel_rfl) (by kernel_rfl) (by exact fun _ _ _ h => h) (Or.inl ⟨by rfl, ?_⟩) (by assumption) ?_); rotate_left; focus (intro wS hSw; (try dsimp only at hSw); go_simp; first | done | with_reducible rfl); try simp only [Act.put, List.setIfInBounds_toArray, List.set_cons_zero, List.set_cons_succ])
  ((refine wpAnyH_take (i := 4) (v := ?_) (by (simp only [List.getElem?_toArray, List.getElem?_cons_succ, List.getElem?_cons_zero]); rfl) (by kernel_rfl) (by kernel_rfl) (by kernel_rfl) (by exact fun _ _ _ h => h) (Or.inl ⟨by rfl, ?_⟩) (by assumption) ?_); rotate_left; focus (intro wS hSw; (try dsimp only at hSw); go_simp; first | done | with_reducible rfl); try simp only [Act.put, List.setIfInBounds_toArray, List.set_cons_zero, List.set_cons_succ])
  refine wpAnyH_ready (rs := [3, 5]) (by kernel_rfl) (by simp) ?_
  refine AllReadyH.cons (by (simp only [List.getElem?_toArray, List.getElem?_cons_succ, List.getElem?_cons_zero]); rfl) (fun K hK => ?_) (AllReadyH.cons (by (simp only [List.getElem?_toArray, List.getElem?_cons_succ, List.getElem?_cons_zero]); rfl) (fun K hK => ?_) AllReadyH.nil)
  · go_simp
    refine hK.out _ _ ⟨cell_at HP5.out 0, cell_at HP5.out 1, cell_at HP5.out 2, cell_at HP5.out 3, HP5.out.lt⟩ (fun hHeld => ?_)
    clear hK K
    try simp only [Act.put, List.setIfInBounds_toArray, List.set_cons_zero, List.set_cons_succ]
    ((refine wpAnyH_ready (rs := [5]) (by kernel_rfl) (by simp) ?_); (refine AllReadyH.cons (by (simp only [List.getElem?_toArray, List.getElem?_cons_succ, List.getElem?_cons_zero]); rfl) (fun K hK => ?_) AllReadyH.nil); go_simp; refine Calls.mono (fsize_any _ _ _ _ _ _ _ (by omega)) ?_)
    rintro e W6 ⟨rfl, hB6⟩
    have HP6 := Lib.hid (HP5.out.step hB6)
    have HQ6 := Lib.hid (HQ5.out.below hB6)
    have HF6 : Hid (Fr [D, R] w W6) := Lib.hid (HF5.out.trans (Fr.of_below hB6) (by simp))
    have k6 : W6.cell? ⟨D, 3, none⟩ = some (.int .i64 by_) := cell_at HQ6.out.own 3
    have z6 := free_at HQ6.out.own 3
    have hD6 : D < W6.heap.size := HQ6.out.own.lt
    clear hB6
    go_wp2_with fail
    refine hK.out _ _ ⟨cell_at HP6.out 0, cell_at HP6.out 1, cell_at HP6.out 2, cell_at HP6.out 3, HP6.out.lt⟩ (fun hHeld => ?_)
    clear hK K
    try simp only [Act.put, List.setIfInBounds_toArray, List.set_cons_zero, List.set_cons_succ]
    ((refine wpAnyH_take (i := 6) (v := ?_) (by (simp only [List.getElem?_toArray, List.getElem?_cons_succ, List.getElem?_cons_zero]); rfl) (by kernel_rfl) (by kernel_rfl) (by kernel_rfl) (by exact fun _ _ _ h => h) (Or.inl ⟨by rfl, ?_⟩) (by assumption) ?_); rotate_left; focus (intro wS hSw; (try dsimp only at hSw); go_simp; first | done | with_reducible rfl); try simp only [Act.put, List.setIfInBounds_toArray, List.set_cons_zero, List.set_cons_succ])
    ((refine wpAnyH_take (i := 7) (v := ?_) (by (simp only [List.getElem?_toArray, List.getElem?_cons_succ, List.getElem?_cons_zero]); rfl) (by kernel_rfl) (by kernel_rfl) (by kernel_rfl) (by exact fun _ _ _ h => h) (Or.inl ⟨by rfl, ?_⟩) (by assumption) ?_); rotate_left; focus (intro wS hSw; (try dsimp only at hSw); go_simp; first | done | with_reducible rfl); try simp only [Act.put, List.setIfInBounds_toArray, List.set_cons_zero, List.set_cons_succ])
    ((refine wpAnyH_take (i := 8) (v := ?_) (by (simp only [List.getElem?_toArray, List.getElem?_cons_succ, List.getElem?_cons_zero]); rfl) (by kernel_rfl) (by kernel_rfl) (by kernel_rfl) (by exact fun _ _ _ h => h) (Or.inl ⟨by rfl, ?_⟩) (by assumption) ?_); rotate_left; focus (intro wS hSw; (try dsimp only at hSw); go_simp; first | done | with_reducible rfl); try simp only [Act.put, List.setIfInBounds_toArray, List.set_cons_zero, List.set_cons_succ])
    refine wpAnyH_ready (rs := [9]) (by kernel_rfl) (by simp) ?_
    refine AllReadyH.cons (by (simp only [List.getElem?_toArray, List.getElem?_cons_succ, List.getElem?_cons_zero]); rfl) (fun K hK => ?_) AllReadyH.nil
    go_simp
    have HP7 := Lib.hid (HP6.out.ne ⟨D, 3, none⟩ hnD.symm (.int .i64 (by_ + (8 + (ln : Int)))))
    have HQ7 := Lib.hid (HQ6.out.bytes (by_ + (8 + (ln : Int))))
    have HF7 := Lib.hid (HF6.out.setCell ⟨D, 3, none⟩ (.inl (by simp)) (.int .i64 (by_ + (8 + (ln : Int)))))
    refine hK.out _ _ ⟨cell_at HP7.out 0, cell_at HP7.out 1, cell_at HP7.out 2, cell_at HP7.out 3, HP7.out.lt⟩ (fun hHeld => ?_)
    clear hK K
    try simp only [Act.put, List.setIfInBounds_toArray, List.set_cons_zero, List.set_cons_succ]
    refine wpAnyH_done (by kernel_rfl) ?_ _
    go_wp2_with fail
    go_ret
    exact ⟨rfl, ⟨a', c', b', HFR3.out, HQ7.out⟩, HF7.out⟩
  · go_simp
    refine Calls.mono (fsize_any _ _ _ _ _ _ _ (by omega)) ?_
    rintro e W6 ⟨rfl, hB6⟩
    have HP6 := Lib.hid (HP5.out.step hB6)
    have HQ6 := Lib.hid (HQ5.out.below hB6)
    have HF6 : Hid (Fr [D, R] w W6) := Lib.hid (HF5.out.trans (Fr.of_below hB6) (by simp))
    have k6 : W6.cell? ⟨D, 3, none⟩ = some (.int .i64 by_) := cell_at HQ6.out.own 3
    have z6 := free_at HQ6.out.own 3
    have hD6 : D < W6.heap.size := HQ6.out.own.lt
    clear hB6
    go_wp2_with fail
    refine hK.out _ _ ⟨cell_at HP6.out 0, cell_at HP6.out 1, cell_at HP6.out 2, cell_at HP6.out 3, HP6.out.lt⟩ (fun hHeld => ?_)
    clear hK K
    try simp only [Act.put, List.setIfInBounds_toArray, List.set_cons_zero, List.set_cons_succ]
    refine wpAnyH_ready (rs := [3]) (by kernel_rfl) (by simp) ?_
    refine AllReadyH.cons (by (simp only [List.getElem?_toArray, List.getElem?_cons_succ, List.getElem?_cons_zero]); rfl) (fun K hK => ?_) AllReadyH.nil
    go_simp
    refine hK.out _ _ ⟨cell_at HP6.out 0, cell_at HP6.out 1, cell_at HP6.out 2, cell_at HP6.out 3, HP6.out.lt⟩ (fun hHeld => ?_)
    clear hK K
    try simp only [Act.put, List.setIfInBounds_toArray, List.set_cons_zero, List.set_cons_succ]
    ((refine wpAnyH_take (i := 6) (v := ?_) (by (simp only [List.getElem?_toArray, List.getElem?_cons_succ, List.getElem?_cons_zero]); rfl) (by kernel_rfl) (by kernel_rfl) (by kernel_rfl) (by exact fun _ _ _ h => h) (Or.inl ⟨by rfl, ?_⟩) (by assumption) ?_); rotate_left; focus (intro wS hSw; (try dsimp only at hSw); go_simp; first | done | with_reducible rfl); try simp only [Act.put, List.setIfInBounds_toArray, List.set_cons_zero, List.set_cons_succ])
    ((refine wpAnyH_take (i := 7) (v := ?_) (by (simp only [List.getElem?_toArray, List.getElem?_cons_succ, List.getElem?_cons_zero]); rfl) (by kernel_rfl) (by kernel_rfl) (by kernel_rfl) (by exact fun _ _ _ h => h) (Or.inl ⟨by rfl, ?_⟩) (by assumption) ?_); rotate_left; focus (intro wS hSw; (try dsimp only at hSw); go_simp; first | done | with_reducible rfl); try simp only [Act.put, List.setIfInBounds_toArray, List.set_cons_zero, List.set_cons_succ])
    ((refine wpAnyH_take (i := 8) (v := ?_) (by (simp only [List.getElem?_toArray, List.getElem?_cons_succ, List.getElem?_cons_zero]); rfl) (by kernel_rfl) (by kernel_rfl) (by kernel_rfl) (by exact fun _ _ _ h => h) (Or.inl ⟨by rfl, ?_⟩) (by assumption) ?_); rotate_left; focus (intro wS hSw; (try dsimp only at hSw); go_simp; first | done | with_reducible rfl); try simp only [Act.put, List.setIfInBounds_toArray, List.set_cons_zero, List.set_cons_succ])
    refine wpAnyH_ready (rs := [9]) (by kernel_rfl) (by simp) ?_
    refine AllReadyH.cons (by (simp only [List.getElem?_toArray, List.getElem?_cons_succ, List.getElem?_cons_zero]); rfl) (fun K hK => ?_) AllReadyH.nil
    go_simp
    have HP7 := Lib.hid (HP6.out.ne ⟨D, 3, none⟩ hnD.symm (.int .i64 (by_ + (8 + (ln : Int)))))
    have HQ7 := Lib.hid (HQ6.out.bytes (by_ + (8 + (ln : Int))))
    have HF7 := Lib.hid (HF6.out.setCell ⟨D, 3, none⟩ (.inl (by simp)) (.int .i64 (by_ + (8 + (ln : Int)))))
    refine hK.out _ _ ⟨cell_at HP7.out 0, cell_at HP7.out 1, cell_at HP7.out 2, cell_at HP7.out 3, HP7.out.lt⟩ (fun hHeld => ?_)
    clear hK K
    try simp only [Act.put, List.setIfInBounds_toArray, List.set_cons_zero, List.set_cons_succ]
    refine wpAnyH_done (by kernel_rfl) ?_ _
    go_wp2_with fail
    go_ret
    exact ⟨rfl, ⟨a', c', b', HFR3.out, HQ7.out⟩, HF7.out⟩

end Go.Proofs.Ytoodmocapagapaa
