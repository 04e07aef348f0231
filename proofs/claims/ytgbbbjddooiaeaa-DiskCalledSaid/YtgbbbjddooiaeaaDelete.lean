/-
  slices.Delete of one pointer out of a row of the disk's own: the library's text, walked.
-/
import Derived.Test.YtgbbbjddooiaeaaReadM
import Derived.Lib.SliceRun
namespace Go.Proofs.Ytgbbbjddooiaeaa
open Go.RowKit

/-- append where there is room, as one step of a region that draws its order: the row behind it, and that nothing else has turned. -/
theorem step_append_fr {P : Program} {ops : Array Oper} {o : Oper} {a : Act} {w : World} {K : Act → World → Prop} {Q : Exit → Act → World → Prop} {E : Prop}
    (hg : o.guard = none) (s x : Operand) (t : TypeId) (hop : o.op = Op.call { callee := Callee.builtin Builtin.append, args := #[s, x], argTypes := #[t, t] })
    (e : TypeId) (i : TypeInfo) (h1 : P.underlying t = some (.slice e)) (h2 : P.info? e = some i) (h4 : i.size = 1)
    (g n cap : Nat) (hs : a.eval s = .slice (some ⟨g, 0, none⟩) n cap) (cur : Array Value) (hcur : w.heap[g]? = some (.cells cur e (0, 0)))
    (ad : Addr) (m c : Nat) (news : List Value) (hx : a.eval x = .slice (some ad) m c) (hn : news.length = m) (hc : ∀ j u, news[j]? = some u → w.cell? (ad.add j) = some u) (h1c : ∀ u ∈ news, u.oneCell' = true)
    (hroom : n + m ≤ cap) (hfit : n + news.length ≤ cur.size)
    (hK : ∀ w', Hid (w'.heap[g]? = some (.cells (splice cur.toList n news).toArray e (0, 0))) → Hid (Fr [g] w w') → K (a.put o.dst (.slice (some ⟨g, 0, none⟩) (n + m) cap)) w') :
    if Region.wanted o (yielded ops a.tmps) = true then Oper.wp P o a w K Q else E := by
  have hw : Region.wanted o (yielded ops a.tmps) = true := by simp [Region.wanted, hg]
  rw [if_pos hw]
  have hrun := run_append_room (P := P) w t o.type e i h1 h2 g n cap cur hcur ad m c news (by rw [hn, h4, Nat.mul_one]) hc h1c hroom (by rw [h4, Nat.mul_one]; exact hfit)
  rw [h4, Nat.mul_one] at hrun
  unfold Oper.wp
  simp only [execOp, hop, resolve, invoke, builtin, List.map_toArray, List.map_cons, List.map_nil, hs, hx, Sem.run_bind, Sem.run_pure, Result.andThen_ok, hrun]
  refine hK _ (show _ = _ from ?_) (show Fr _ _ _ from ⟨rfl, rfl, rfl, by simp [World.setRow], fun k hk hn => setRow_other w g k _ (by simpa using hn)⟩)
  have := setRow_heap w g cur (cur.toList.take n ++ news ++ cur.toList.drop (n + news.length)).toArray e _ hcur
  simpa [splice] using this

theorem zeroF (w : World) : (zeroValue 69).run Try.prog w = .ok (.pointer none) w := by kernel_rfl

theorem erase_splice (L : List Value) (k m : Nat) (h : k + m + 1 ≤ L.length) : (splice L k ((L.drop (k + 1)).take m)).take (k + m) = (L.take (k + m + 1)).eraseIdx k := by
  have hn : ((L.drop (k + 1)).take m).length = m := by simp; omega
  apply List.ext_getElem?
  intro j
  rw [List.getElem?_take, List.getElem?_eraseIdx, splice_at _ _ _ (by omega), hn]
  by_cases h1 : j < k
  · simp [h1, show j < k + m by omega, List.getElem?_take, show j < k + m + 1 by omega]
  · by_cases h2 : j < k + m
    · simp only [h1, h2, if_true, if_false]
      rw [List.getElem?_take, if_pos (by omega), List.getElem?_drop, List.getElem?_take, if_pos (by omega)]
      congr 1; omega
    · simp only [h1, h2, if_false]
      rw [List.getElem?_take, if_neg (by omega)]

set_option maxHeartbeats 4000000 in
set_option maxRecDepth 100000 in
theorem delete_any (r cap k m : Nat) (cur : Array Value) (w : World) (hr : w.heap[r]? = some (.cells cur 69 (0, 0))) (hsz : cur.size = cap) (hcap : k + m + 1 ≤ cap) (hmax : cap ≤ maxLen) (hone : ∀ u ∈ cur.toList.take (k + m + 1), u.oneCell' = true) :
    Calls Try.prog 72 #[.slice (some ⟨r, 0, none⟩) (k + m + 1) cap, .int .i64 (k : Nat), .int .i64 ((k : Int) + 1)] w fun e w' => e = .returned (.slice (some ⟨r, 0, none⟩) (k + m) cap) ∧
      ∃ cur', w'.heap[r]? = some (.cells cur' 69 (0, 0)) ∧ cur'.size = cap ∧ cur'.toList.take (k + m) = (cur.toList.take (k + m + 1)).eraseIdx k ∧ Fr [r] w w' := by
  obtain ⟨i0, hi, hz0, hz1, hz2⟩ := info_parts infoF
  obtain ⟨news, hnews⟩ : ∃ news, news = (cur.toList.drop (k + 1)).take m := ⟨_, rfl⟩
  have hnl : news.length = m := by rw [hnews]; simp; omega
  have hsub : ∀ j, j < m → news[j]? = cur[k + 1 + j]? := fun j hj => by rw [hnews, List.getElem?_take, if_pos hj, List.getElem?_drop, Array.getElem?_toList]
  obtain ⟨A, hA, hsrc⟩ : ∃ A : Addr, (if cap = k + 1 then some (⟨r, 0, none⟩ : Addr) else some ⟨r, k + 1, none⟩) = some A ∧ Hid (∀ j u, news[j]? = some u → w.drew.cell? (A.add j) = some u) := by
    by_cases h : cap = k + 1
    · refine ⟨_, if_pos h, fun j u hu => ?_⟩
      have h0 : news = [] := List.eq_nil_of_length_eq_zero (by omega)
      rw [h0] at hu; cases hu
    · refine ⟨_, if_neg h, fun j u hu => ?_⟩
      have hj : j < m := by
        have := (List.getElem?_eq_some_iff.1 hu).1
        omega
      rw [hsub j hj] at hu
      rw [addr_plain]
      exact (cell_at hr _).trans hu
  have hnone : Hid (∀ u ∈ news, u.oneCell' = true) := by
    intro u hu
    rw [hnews] at hu
    obtain ⟨j, hj, rfl⟩ := List.mem_iff_getElem.1 hu
    have hj' : j < m := by rw [← hnl, hnews]; exact hj
    refine hone _ ?_
    rw [List.mem_iff_getElem?]
    refine ⟨k + 1 + j, ?_⟩
    rw [List.getElem?_take, if_pos (by omega), List.getElem_take, List.getElem_drop]
    exact List.getElem?_eq_getElem _
  have HR := Lib.hid hr
  have HN := Lib.hid hnl
  have HI := Lib.hid hi
  have hfit : k + news.length ≤ cur.size := by omega
  have HF := Lib.hid hfit
  have hE := erase_splice cur.toList k m (by rw [Array.length_toList]; omega)
  rw [← hnews] at hE
  have HE := Lib.hid hE
  have HZ := Lib.hid hsz
  have hm9 : cap ≤ 9223372036854775807 := by unfold maxLen at hmax; omega
  have hk1 : k ≤ cap := by omega
  have hk2 : k + 1 ≤ cap := by omega
  have hk3 : (0 : Int) ≤ (k : Int) + 1 := by omega
  have hk4 : (k : Int) ≤ (k : Int) + (m : Int) := by omega
  clear hr hnl hi hfit hE hnews hone hsub hsz hmax
  go_enter Try.func72, Try.ntmps72
  go_wp2_with fail
  go_region_law (refine step_append_fr rfl (.tmp 22) (.tmp 25) 63 rfl 69 i0 Try.underlying63 HI.out hz1 r k cap (by simp [Act.eval, Act.put]) cur HR.out A m (cap - (k + 1)) news (by simp [Act.eval, Act.put]) HN.out hsrc.out hnone.out (by omega) HF.out ?_; intro w2 HG2 HF2)
  obtain ⟨cur2, hcur2⟩ : ∃ c, c = (splice cur.toList k news).toArray := ⟨_, rfl⟩
  have hG := HG2.out
  rw [← hcur2] at hG
  have hs2 : cur2.size = cap := by
    rw [hcur2, List.size_toArray, length_splice _ _ _ (by rw [Array.length_toList]; exact HF.out), Array.length_toList, HZ.out]
  have hcl : ∀ ty, (Builtin.clear_ #[63] ty #[.slice (some ⟨r, k + m, none⟩) 1 (cap - (k + m))]).run Try.prog w2 = .ok (.tuple #[]) (w2.setCell ⟨r, k + m, none⟩ (.pointer none)) := fun ty =>
    Lib.run_clear_slice w2 _ _ ty _ Try.underlying63 zeroF rfl rfl r (k + m) 1 _ (by omega) (fun j hj => by rw [cell_at hG, Array.getElem?_eq_getElem (by omega)]; rfl) (fun j hj => free_at hG _)
  have hfin : Hid ((w2.setCell ⟨r, k + m, none⟩ (.pointer none)).heap[r]? = some (.cells (cur2.setIfInBounds (k + m) (.pointer none)) 69 (0, 0))) := heap_setCell_same hG _ _
  have htk : Hid ((cur2.setIfInBounds (k + m) (.pointer none)).toList.take (k + m) = (cur.toList.take (k + m + 1)).eraseIdx k) := by
    show _ = _
    rw [Array.toList_setIfInBounds, List.take_set, List.set_eq_of_length_le (by simp; omega), hcur2]
    exact HE.out
  have HS2 := Lib.hid hs2
  have HFr : Hid (Fr [r] w (w2.setCell ⟨r, k + m, none⟩ (.pointer none))) := Fr.setCell (a := w) (l := [r]) ⟨HF2.out.os, HF2.out.tape, HF2.out.output, HF2.out.size, HF2.out.block⟩ _ (.inl (by simp)) _
  clear hG hcur2 hs2
  have hc2 : k + m + 1 ≤ cap := hcap
  have hk5 : k + m ≤ cap := by omega
  have hk6 : ¬ cap = k + m := by omega
  go_wp2
  go_ret
  refine ⟨rfl, _, hfin.out, by rw [Array.size_setIfInBounds]; exact HS2.out, htk.out, HFr.out⟩

end Go.Proofs.Ytgbbbjddooiaeaa
