/-
  Delete of tables.
-/
import Derived.Test.YthmjlomlceljkaaHi8
import Derived.Deep.DeepFit
import Derived.Lib.AppendZeros
import Derived.Deep.RegionLaw
import Derived.Deep.RegionWith
import Derived.Lib.EndianBits
import Derived.Deep.MidRow
namespace Go.Proofs.Ythmjlomlceljkaa
open Go.RowKit
set_option linter.unusedSimpArgs false
set_option linter.unusedVariables false

theorem step_append_in {P : Program} {ops : Array Oper} {o : Oper} {a : Act} {w : World} {K : Act → World → Prop} {Q : Exit → Act → World → Prop} {E : Prop}
    (hg : o.guard = none) (s x : Operand) (t : TypeId) (hop : o.op = Op.call { callee := Callee.builtin Builtin.append, args := #[s, x], argTypes := #[t, t] })
    (e : TypeId) (i : TypeInfo) (h1 : P.underlying t = some (.slice e)) (h2 : P.info? e = some i) (size : Nat) (h4 : i.size = size)
    (g n cap : Nat) (hs : a.eval s = .slice (some ⟨g, 0, none⟩) n cap) (cur : Array Value) (hcur : w.heap[g]? = some (.cells cur e (0, 0)))
    (ad : Addr) (m c : Nat) (news : List Value) (hx : a.eval x = .slice (some ad) m c) (hn : news.length = m * size) (hc : ∀ j u, news[j]? = some u → w.cell? (ad.add j) = some u) (h1c : ∀ u ∈ news, u.oneCell' = true)
    (hroom : n + m ≤ cap) (hfit : n * size + news.length ≤ cur.size)
    (hK : ∀ w', Hid (w' = w.setCells g (n * size) news) → K (a.put o.dst (.slice (some ⟨g, 0, none⟩) (n + m) cap)) w') :
    if Region.wanted o (yielded ops a.tmps) = true then Oper.wp P o a w K Q else E := by
  have hw : Region.wanted o (yielded ops a.tmps) = true := by simp [Region.wanted, hg]
  rw [if_pos hw]
  subst h4
  have hrun := run_append_room_cells (P := P) (w := w) t o.type e i h1 h2 g 0 n cap ad m c news hn hc h1c hroom (fun j hj => by rw [cell_at hcur, Array.getElem?_eq_getElem (by omega)]; rfl) (fun j hj => free_at hcur _)
  rw [Nat.zero_add] at hrun
  unfold Oper.wp
  simp only [execOp, hop, resolve, invoke, builtin, List.map_toArray, List.map_cons, List.map_nil, hs, hx, Sem.run_bind, Sem.run_pure, Result.andThen_ok, hrun]
  exact hK _ rfl

theorem llFc_erase : ∀ (L : List FcE) (k : Nat), k < L.length → llFc (L.eraseIdx k) = (llFc L).take (k * 4) ++ (llFc L).drop ((k + 1) * 4)
  | [], k, h => by simp at h
  | m :: l, 0, _ => by
    have hc : m.cells.length = 4 := by simp [FcE.cells]
    show llFc l = (m.cells ++ llFc l).take 0 ++ (m.cells ++ llFc l).drop (1 * 4)
    rw [List.take_zero, List.nil_append, Nat.one_mul, ← hc, List.drop_left]
  | m :: l, k + 1, h => by
    have hc : m.cells.length = 4 := by simp [FcE.cells]
    have ih := llFc_erase l k (by simpa using h)
    show m.cells ++ llFc (l.eraseIdx k) = (m.cells ++ llFc l).take ((k + 1) * 4) ++ (m.cells ++ llFc l).drop ((k + 1 + 1) * 4)
    have t1 : (m.cells ++ llFc l).take ((k + 1) * 4) = m.cells ++ (llFc l).take (k * 4) := by
      rw [List.take_append, hc, show (k + 1) * 4 - 4 = k * 4 by omega]
      congr 1
      exact List.take_of_length_le (by rw [hc]; omega)
    have t2 : (m.cells ++ llFc l).drop ((k + 1 + 1) * 4) = (llFc l).drop ((k + 1) * 4) := by
      rw [List.drop_append, hc, show (k + 1 + 1) * 4 - 4 = (k + 1) * 4 by omega]
      have : m.cells.drop ((k + 1 + 1) * 4) = [] := List.eq_nil_of_length_eq_zero (by rw [List.length_drop, hc]; omega)
      rw [this, List.nil_append]
    rw [ih, t1, t2, List.append_assoc]
def zerosF : List Value := [.int .i64 0, .int .i64 0, .int .i64 0, .int .i64 0]
theorem zeroFc (w : World) : (zeroValue 87).run Try.prog w = .ok (.agg #[.int .i64 0, .int .i64 0, .int .i64 0, .int .i64 0]) w := by kernel_rfl
theorem run_clear_fc {w : World} {r o c : Nat} {cur : Array Value} (h : w.heap[r]? = some (.cells cur 87 (0, 0))) (ho : o + 4 ≤ cur.size) (ty : TypeId) :
    (Builtin.clear_ #[48] ty #[.slice (some ⟨r, o, none⟩) 1 c]).run Try.prog w = .ok (.tuple #[]) (w.setCells r o zerosF) := by
  have hz4 : zerosF.length = 4 := rfl
  have hst := Go.run_storeCells_cells (P := Try.prog) r o zerosF 0 w (fun j hj => by
    simp only [Nat.add_zero]
    rw [cell_at h, Array.getElem?_eq_getElem (by omega)]
    rfl) (fun j _ => by simp only [Nat.add_zero]; exact free_at h _) (fun v hv => (List.all_eq_true (p := fun u : Value => u.oneCell')).1 rfl v hv)
  have hz : ∀ w, (zeroValue 87).run Try.prog w = .ok (.agg #[.int .i64 0, .int .i64 0, .int .i64 0, .int .i64 0]) w := zeroFc
  have hzc : (Builtin.zeroCells (Value.agg #[.int .i64 0, .int .i64 0, .int .i64 0, .int .i64 0]).cells 1).toList = zerosF := by kernel_rfl
  simp only [Nat.add_zero] at hst
  simp [Builtin.clear_, run_underlying Try.underlying48, hz, hzc, hst]

set_option maxHeartbeats 8000000 in
set_option maxRecDepth 100000 in
theorem deleteF_any (r cap k m : Nat) (L : List FcE) (w : World) (hrow : Row w (.slice (some ⟨r, 0, none⟩) (k + m + 1) cap) (some r) 87 4 (k + m + 1) (llFc L)) (hL : L.length = k + m + 1) :
    Calls Try.prog 47 #[.slice (some ⟨r, 0, none⟩) (k + m + 1) cap, .int .i64 (k : Nat), .int .i64 ((k : Int) + 1)] w fun e w' => e = .returned (.slice (some ⟨r, 0, none⟩) (k + m) cap) ∧
      Row w' (.slice (some ⟨r, 0, none⟩) (k + m) cap) (some r) 87 4 (k + m) (llFc (L.eraseIdx k)) ∧ Fr [r] w w' := by
  obtain ⟨i0, hi, hz0, hz1, hz2⟩ := info_parts fcZero
  rcases hrow.cases with ⟨e, _⟩ | ⟨g', cap', cur, e, e2, hr, hcap, hmax, hsz, htk⟩
  · cases e
  obtain rfl := Option.some.inj e
  injection e2 with _ _ e3
  subst e3
  obtain ⟨news, hnews⟩ : ∃ news, news = (llFc L).drop ((k + 1) * 4) := ⟨_, rfl⟩
  have hml : (llFc L).length = (k + m + 1) * 4 := by rw [llFc_len, hL]
  have hnl : news.length = m * 4 := by rw [hnews, List.length_drop, hml]; omega
  have hsub : ∀ j u, news[j]? = some u → cur[(k + 1) * 4 + j]? = some u := fun j u hu => by
    have hj : j < m * 4 := by have := (List.getElem?_eq_some_iff.1 hu).1; omega
    rw [hnews, List.getElem?_drop, ← htk, List.getElem?_take, if_pos (by omega), Array.getElem?_toList] at hu
    exact hu
  obtain ⟨A, hA, hsrc⟩ : ∃ A : Addr, (if cap = k + 1 then some (⟨r, 0, none⟩ : Addr) else some ⟨r, (k + 1) * 4, none⟩) = some A ∧ Hid (∀ j u, news[j]? = some u → w.drew.cell? (A.add j) = some u) := by
    by_cases h : cap = k + 1
    · refine ⟨_, if_pos h, fun j u hu => ?_⟩
      have h0 : news = [] := List.eq_nil_of_length_eq_zero (by omega)
      rw [h0] at hu; cases hu
    · refine ⟨_, if_neg h, fun j u hu => ?_⟩
      have h3 : (⟨r, (k + 1) * 4, none⟩ : Addr).add j = ⟨r, (k + 1) * 4 + j, none⟩ := by unfold Addr.add; split <;> simp_all
      rw [h3]
      exact (cell_at hr _).trans (hsub j u hu)
  have hnone : Hid (∀ u ∈ news, u.oneCell' = true) := Lib.hid (fun u hu => llFc_ones L u (by rw [hnews] at hu; exact List.mem_of_mem_drop hu))
  have HR := Lib.hid hr
  have HN := Lib.hid hnl
  have HI := Lib.hid hi
  have hfit : k * 4 + news.length ≤ cur.size := by omega
  have HF := Lib.hid hfit
  have HTK := Lib.hid htk
  have HNW := Lib.hid hnews
  have HSZ := Lib.hid hsz
  have HML := Lib.hid hml
  have HLL := Lib.hid hL
  have HMX := Lib.hid hmax
  have hm9 : cap ≤ 9223372036854775807 := by unfold maxLen at hmax; omega
  have hk1 : k ≤ cap := by omega
  have hk2 : k + 1 ≤ cap := by omega
  have hk3 : (0 : Int) ≤ (k : Int) + 1 := by omega
  have hk4 : (k : Int) ≤ (k : Int) + (m : Int) := by omega
  clear hrow hr hnl hi hfit hnews hsz hmax hsub htk hml hL hz0 hz2
  go_enter Try.func47, Try.ntmps47
  go_wp2_with fail
  go_region_law (refine step_append_in rfl (.tmp 22) (.tmp 25) 48 rfl 87 i0 Try.underlying48 HI.out 4 hz1 r k cap (by simp [Act.eval, Act.put]) cur HR.out A m (cap - (k + 1)) news (by simp [Act.eval, Act.put]) HN.out hsrc.out hnone.out (by omega) HF.out ?_; intro w2 HG2)
  have hH : Blk w.drew r cur 87 := HR.out
  obtain ⟨cur2, hG, s2, p1, p2, p3⟩ := stC_pt news (k * 4) hH HF.out
  rw [← HG2.out] at hG
  have hs2 : cur2.size = cap * 4 := s2.trans HSZ.out
  have htk2 : cur2.toList.take ((k + m) * 4) = llFc (L.eraseIdx k) := by
    rw [llFc_erase L k (by rw [HLL.out]; omega)]
    apply List.ext_getElem?
    intro j
    rw [List.getElem?_take, Array.getElem?_toList, List.getElem?_append, List.length_take, HML.out, Nat.min_eq_left (by omega)]
    have hmsl : ∀ i, i < (k + m + 1) * 4 → (llFc L)[i]? = cur[i]? := fun i hi => by rw [← HTK.out, List.getElem?_take, if_pos hi, Array.getElem?_toList]
    by_cases hj1 : j < k * 4
    · rw [if_pos (by omega), if_pos hj1, p1 j hj1, List.getElem?_take, if_pos hj1, hmsl j (by omega)]
    · rw [if_neg hj1, List.getElem?_drop]
      obtain ⟨i, rfl⟩ : ∃ i, j = k * 4 + i := ⟨j - k * 4, by omega⟩
      rw [show k * 4 + i - k * 4 = i by omega]
      by_cases hj2 : k * 4 + i < (k + m) * 4
      · rw [if_pos hj2, p2 i (by rw [HN.out]; omega), HNW.out, List.getElem?_drop]
      · rw [if_neg hj2, List.getElem?_eq_none (by rw [HML.out]; omega)]
  have hfr2 : Fr [r] w w2 := by
    have := stC_fr r news (k * 4) w.drew
    rw [← HG2.out] at this
    exact ⟨this.os, this.tape, this.output, this.size, this.block⟩
  have hcl : ∀ ty, (Builtin.clear_ #[48] ty #[.slice (some ⟨r, (k + m) * 4, none⟩) 1 (cap - (k + m))]).run Try.prog w2 = .ok (.tuple #[]) (w2.setCells r ((k + m) * 4) zerosF) := fun ty => run_clear_fc hG (by rw [hs2]; omega) ty
  obtain ⟨cur3, hG3, s3, v1, v2, v3⟩ := stC_pt zerosF ((k + m) * 4) hG (by rw [hs2]; show _ + 4 ≤ _; omega)
  have hfr3 := stC_fr r zerosF ((k + m) * 4) w2
  obtain ⟨W3, hW3⟩ : ∃ W3, W3 = w2.setCells r ((k + m) * 4) zerosF := ⟨_, rfl⟩
  rw [← hW3] at hG3 hfr3 hcl
  have htk3 : cur3.toList.take ((k + m) * 4) = llFc (L.eraseIdx k) := by
    rw [← htk2]
    apply List.ext_getElem?
    intro j
    rw [List.getElem?_take, List.getElem?_take, Array.getElem?_toList, Array.getElem?_toList]
    by_cases hj : j < (k + m) * 4
    · rw [if_pos hj, if_pos hj, v1 j hj]
    · rw [if_neg hj, if_neg hj]
  have HRW := Lib.hid (Row.mk (n := k + m) hG3 (by omega) HMX.out (by rw [s3, hs2]) htk3)
  have HFR := Lib.hid (hfr2.trans hfr3 (fun x hx => .inl hx))
  have hk5 : k + m ≤ cap := by omega
  have hk6 : ¬ cap = k + m := by omega
  clear hG hs2 htk2 hfr2 hG3 s3 v1 v2 v3 hfr3 htk3 hW3 s2 p1 p2 p3 hH
  go_wp2_with fail
  go_ret
  exact ⟨rfl, HRW.out, HFR.out⟩
end Go.Proofs.Ythmjlomlceljkaa
