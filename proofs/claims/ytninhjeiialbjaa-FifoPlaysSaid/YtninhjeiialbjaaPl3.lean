/-
  Append as one operation of a held region; the document's queue in memory.
-/
import Derived.Test.YtninhjeiialbjaaPl2
namespace Go.Proofs.Ytninhjeiialbjaa
open Go.RowKit
set_option linter.unusedSimpArgs false
set_option linter.unusedVariables false

theorem run_append_rowO {P : Program} (w : World) (t ty e : TypeId) (i : TypeInfo) (z : Value) (size bytes : Nat) (ht : P.underlying t = some (.slice e)) (hi : P.info? e = some i) (hz : i.zero = some z)
    (hsize : i.size = size) (hby : i.bytes = bytes) (hzs : z.cells.size = size) (hsz : 0 < size)
    (v : Value) (ob : Option Nat) (n : Nat) (xs : List Value) (hrow : RowO w v ob e size n xs)
    (ad : Addr) (m c : Nat) (news : List Value) (hm : 0 < m) (hl : news.length = m * size) (hnews : ∀ j u, news[j]? = some u → w.cell? (ad.add j) = some u) (h1 : ∀ u ∈ news, u.oneCell' = true)
    (h63 : n + m ≤ maxLen) (hbytes : (n + m) * bytes ≤ 140737488355328) :
    ∃ v' ob' w', (Builtin.append_ #[t, t] ty #[v, .slice (some ad) m c]).run P w = .ok v' w' ∧ RowO w' v' (some ob') e size (n + m) (xs ++ news) ∧ w.grownBy w' ob ∧ (ob = some ob' ∨ w.heap.size ≤ ob') := by
  obtain ⟨hlen, hcase⟩ := hrow
  rcases hcase with ⟨rfl, rfl, rfl⟩ | ⟨g, off, cap, cur, rfl, rfl, h3, h4, h5, h6, h7⟩
  · obtain rfl : xs = [] := List.eq_nil_of_length_eq_zero (by simpa using hlen)
    obtain ⟨v', ob', w', hr, h2, h3, h4⟩ := run_append_row (P := P) w t ty e i z size bytes ht hi hz hsize hby hzs hsz _ none 0 [] (Row.nil _ _ _) ad m c news hm hl hnews h1 h63 hbytes
    exact ⟨v', ob', w', hr, RowO.ofRow h2, h3, by rcases h4 with h | h; exact .inl h; exact .inr (by omega)⟩
  · by_cases hr : n + m ≤ cap
    · have hf : off + n * size + news.length ≤ cur.size := by
        have : (n + m) * size ≤ cap * size := Nat.mul_le_mul_right _ hr
        rw [Nat.add_mul] at this
        omega
      subst hsize
      refine ⟨_, g, _, run_append_room_cells (P := P) w t ty e i ht hi g off n cap ad m c news hl hnews h1 hr (fun j hj => ?_) (fun j hj => free_at h3 _), ⟨by rw [List.length_append, hlen, hl, Nat.add_mul], .inr ⟨g, off, cap, _, rfl, rfl, blk_setCells news w g (off + n * i.size) cur e h3, hr, h5, by rw [putL_size]; exact h6, fun j hj => ?_⟩⟩, grown_setCells _ _ _ _, .inl rfl⟩
      · rw [cell_at h3, Array.getElem?_eq_getElem (by omega)]
        rfl
      · rw [List.getElem?_append]
        by_cases hjn : j < n * i.size
        · rw [if_pos (by omega), putL_out _ _ _ _ (.inl (by omega)), h7 j hjn]
        · rw [Nat.add_mul] at hj
          rw [if_neg (by omega), hlen, show off + j = off + n * i.size + (j - n * i.size) by omega, putL_in _ _ _ _ hf (by omega)]
    · obtain ⟨v', w', hrun, ⟨ol, hc⟩, hgr⟩ := run_append_arg_grows (P := P) w t ty e i z size bytes ht hi hz hsize hby hzs hsz ⟨g, off, none⟩ n cap xs hlen (fun j u hj => by
        have hj' : j < n * size := by have := (List.getElem?_eq_some_iff.1 hj).1; omega
        rw [addr_add, cell_at h3, h7 j hj', hj]) ad m c news hl hnews (by omega) h63 hbytes
      rcases hc with ⟨_, hz⟩ | ⟨g', cap', cur', rfl, k2, k3, k4, k5, k6, k7⟩
      · exact absurd hz (by omega)
      · exact ⟨_, g', w', hrun, RowO.ofRow (Row.mk k3 k4 k5 k6 k7), ⟨hgr.os, hgr.tape, hgr.output, hgr.size, fun k hk _ => hgr.block k hk (by simp)⟩, .inr k2⟩

theorem op_append_rowO {P : Program} {o : Oper} {a : Act} {K : Act → World → Prop} {Q : Exit → Act → World → Prop} (w : World) (s x : Operand) (t : TypeId)
    (ho : o.op = .call { callee := .builtin .append, args := #[s, x], argTypes := #[t, t] })
    (e : TypeId) (i : TypeInfo) (z : Value) (size bytes : Nat) (ht : P.underlying t = some (.slice e)) (hi : P.info? e = some i) (hz : i.zero = some z)
    (hsize : i.size = size) (hby : i.bytes = bytes) (hzs : z.cells.size = size) (hsz : 0 < size)
    (v : Value) (ob : Option Nat) (n : Nat) (xs : List Value) (hs : a.eval s = v) (hrow : RowO w v ob e size n xs)
    (ad : Addr) (m c : Nat) (news : List Value) (hx : a.eval x = .slice (some ad) m c) (hm : 0 < m) (hl : news.length = m * size) (hnews : ∀ j u, news[j]? = some u → w.cell? (ad.add j) = some u) (h1 : ∀ u ∈ news, u.oneCell' = true)
    (h63 : n + m ≤ maxLen) (hbytes : (n + m) * bytes ≤ 140737488355328)
    (h : ∀ v' ob' w', RowO w' v' (some ob') e size (n + m) (xs ++ news) → w.grownBy w' ob → (ob = some ob' ∨ w.heap.size ≤ ob') → K (a.put o.dst v') w') : Oper.wp P o a w K Q := by
  obtain ⟨v', ob', w', hr, h2, h3, h4⟩ := run_append_rowO (P := P) w t o.type e i z size bytes ht hi hz hsize hby hzs hsz v ob n xs hrow ad m c news hm hl hnews h1 h63 hbytes
  unfold Oper.wp execOp
  simp only [ho, resolve, invoke, builtin, Sem.run_bind, Sem.run_pure, Result.andThen_ok, List.map_toArray, List.map_cons, List.map_nil, hs, hx, hr]
  exact h v' ob' w' h2 h3 h4

def pL (E : Nat → PkE) (n : Nat) : List Value := (List.range n).flatMap fun k => (E k).cells
theorem pL_succ (E : Nat → PkE) (n : Nat) : pL E (n + 1) = pL E n ++ (E n).cells := by simp [pL, List.range_succ, List.flatMap_append]
theorem pL_len (E : Nat → PkE) : ∀ n : Nat, (pL E n).length = n * 4
  | 0 => by simp [pL]
  | n + 1 => by rw [pL_succ, List.length_append, pL_len E n]; simp [PkE.cells]; omega
theorem pL_congr {E E' : Nat → PkE} : ∀ {n : Nat}, (∀ k, k < n → E k = E' k) → pL E n = pL E' n
  | 0, _ => rfl
  | n + 1, h => by rw [pL_succ, pL_succ, pL_congr (fun k hk => h k (by omega)), h n (by omega)]
theorem pL_at (E : Nat → PkE) : ∀ (n k j : Nat), k < n → j < 4 → (pL E n)[k * 4 + j]? = (E k).cells[j]?
  | 0, _, _, h, _ => by omega
  | n + 1, k, j, h, hj => by
    have hl := pL_len E n
    rw [pL_succ]
    by_cases hk : k < n
    · rw [List.getElem?_append_left (by omega)]
      exact pL_at E n k j hk hj
    · obtain rfl : k = n := by omega
      rw [List.getElem?_append_right (by omega), hl]
      congr 1
      omega

/-- the document's queue: its block D, the slice v of its packets in the block ob -/
structure RQ (W : World) (D : Nat) (room : Int) (n : Nat) (lost : Int) (ob : Option Nat) (v : Value) (E : Nat → PkE) : Prop where
  own : Blk W D #[.int .i64 room, v, .int .i64 lost] 70
  row : RowO W v ob 57 4 n (pL E n)
  ne : ob ≠ some D
  ld : ∀ j, j < n → ByIn W (E j).a (E j).n (E j).ca (E j).b (E j).o (E j).X
  le : ∀ j, j < n → (E j).n ≤ 1492
  d : ∀ j, j < n → 0 < (E j).n → (E j).b ≠ D ∧ ob ≠ some (E j).b
theorem RQ.below {W W' : World} {D : Nat} {room : Int} {n : Nat} {lost : Int} {ob : Option Nat} {v : Value} {E : Nat → PkE} (h : RQ W D room n lost ob v E) (hB : Below W.heap.size W W') : RQ W' D room n lost ob v E :=
  ⟨h.own.step hB, h.row.congr (fun g hg => hB.block g (by have hr := h.row; subst hg; exact hr.lt)), h.ne, fun j hj => (h.ld j hj).below hB, h.le, h.d⟩
theorem RQ.new (w : World) (room : Int) (E : Nat → PkE) : RQ (w.alloc (.cells #[.int .i64 room, .slice none 0 0, .int .i64 0] 70)) w.heap.size room 0 0 none (.slice none 0 0) E :=
  ⟨blk_new _ _ _, RowO.nil _ _ _, by simp, fun j hj => by omega, fun j hj => by omega, fun j hj => by omega⟩
theorem RQ.shape {W : World} {D : Nat} {room : Int} {n : Nat} {lost : Int} {ob : Option Nat} {v : Value} {E : Nat → PkE} (h : RQ W D room n lost ob v E) : ∃ a cap, v = .slice a n cap ∧ n ≤ cap ∧ cap ≤ maxLen := by
  rcases h.row.2 with ⟨h1, h2, h3⟩ | ⟨g, off, cap, cur, h1, h2, h3, h4, h5, h6⟩
  · exact ⟨none, 0, by rw [h1, h3], by omega, Nat.zero_le _⟩
  · exact ⟨_, _, h1, h4, h5⟩
/-- another count of lost ones -/
theorem RQ.lost {W : World} {D : Nat} {room : Int} {n : Nat} {lost : Int} {ob : Option Nat} {v : Value} {E : Nat → PkE} (h : RQ W D room n lost ob v E) (k : Int) : RQ (W.setCell ⟨D, 2, none⟩ (.int .i64 k)) D room n k ob v E :=
  ⟨h.own.set 2 (.int .i64 k), h.row.congr (fun g hg => heap_setCell_ne _ _ _ _ (fun e => h.ne (by rw [hg, e]))), h.ne, fun j hj => (h.ld j hj).ne ⟨D, 2, none⟩ (fun hp => (h.d j hj hp).1) _, h.le, h.d⟩
end Go.Proofs.Ytninhjeiialbjaa
