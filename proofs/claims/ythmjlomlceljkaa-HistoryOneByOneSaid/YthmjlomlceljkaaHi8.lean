/-
  Insert into tables.
-/
import Derived.Test.YthmjlomlceljkaaHi3
import Derived.Deep.DeepFit
import Derived.Lib.AppendZeros
import Derived.Deep.RegionLaw
import Derived.Deep.RegionWith
import Derived.Lib.EndianBits
import Derived.Deep.MidRow
import Derived.Lib.AppendZerosOnto
import Derived.Laws.IdiomCopy
import Derived.Laws.NewBlocks
import Derived.Lib.Overlaps
import Derived.Laws.Externs
namespace Go.Proofs.Ythmjlomlceljkaa
open Go.RowKit
set_option linter.unusedSimpArgs false
set_option linter.unusedVariables false

theorem llFc_drop (L : List FcE) (i : Nat) (hi : i ≤ L.length) : (llFc L).drop (i * 4) = llFc (L.drop i) := by
  have h : llFc L = llFc (L.take i) ++ llFc (L.drop i) := by rw [← llFc_append, List.take_append_drop]
  rw [h, List.drop_append_of_le_length (by rw [llFc_len, List.length_take, Nat.min_eq_left hi]; exact Nat.le_refl _), List.drop_of_length_le (by rw [llFc_len, List.length_take, Nat.min_eq_left hi]; exact Nat.le_refl _), List.nil_append]
theorem fc_cells_len (e : FcE) : e.cells.length = 4 := rfl
theorem ins_row {W : World} {N G n k : Nat} {cur : Array Value} {L : List FcE} {e : FcE} (hB : Blk W N cur 87) (hsz : cur.size = G * 4) (hn : L.length = n) (hk : k < n) (hG : n + 1 ≤ G) (hGm : G ≤ maxLen)
    (hp0 : ∀ j, j < k * 4 → cur[j]? = (llFc L)[j]?) (hp1 : ∀ j, j < 4 → cur[k * 4 + j]? = e.cells[j]?) (hp2 : ∀ j, j < (n - k) * 4 → cur[(k + 1) * 4 + j]? = (llFc L)[k * 4 + j]?) :
    Row W (.slice (some ⟨N, 0, none⟩) (n + 1) G) (some N) 87 4 (n + 1) (llFc (L.take k ++ [e] ++ L.drop k)) := by
  refine Row.mk hB hG hGm hsz ?_
  rw [llFc_append, llFc_append, llFc_one, ← llFc_take L k (by omega), ← llFc_drop L k (by omega)]
  have hl := llFc_len L
  apply List.ext_getElem?
  intro j
  rw [List.getElem?_take, Array.getElem?_toList]
  by_cases h1 : j < k * 4
  · rw [if_pos (by omega), hp0 j h1, List.append_assoc, List.getElem?_append_left (by rw [List.length_take]; omega), List.getElem?_take, if_pos h1]
  · obtain ⟨i, rfl⟩ : ∃ i, j = k * 4 + i := ⟨j - k * 4, by omega⟩
    rw [List.append_assoc, List.getElem?_append_right (by rw [List.length_take]; omega), show k * 4 + i - ((llFc L).take (k * 4)).length = i by rw [List.length_take]; omega]
    by_cases h2 : i < 4
    · rw [if_pos (by omega), hp1 i h2, List.getElem?_append_left (by rw [fc_cells_len]; omega)]
    · obtain ⟨q, rfl⟩ : ∃ q, i = 4 + q := ⟨i - 4, by omega⟩
      rw [List.getElem?_append_right (by rw [fc_cells_len]; omega), show 4 + q - e.cells.length = q by rw [fc_cells_len]; omega, List.getElem?_drop]
      by_cases h3 : q < (n - k) * 4
      · rw [if_pos (by omega), ← hp2 q h3]
        congr 1
        omega
      · rw [if_neg (by omega), List.getElem?_eq_none (by omega)]
theorem run_copy_rows {P : Program} (w : World) (dT sT ty elem : TypeId) (b o dLen dCap : Nat) (a : Addr) (sLen sCap : Nat) (cs : List Value) (size q : Nat)
    (hu : P.underlying dT = some (.slice elem)) (hs : (P.info? elem).map (·.size) = some size) (hq : q = Nat.min sLen dLen) (hn : cs.length = q * size)
    (hsrc : ∀ j v, cs[j]? = some v → w.cell? (a.add j) = some v) (hc : ∀ j, j < cs.length → (w.cell? ⟨b, o + j, none⟩).isSome = true) (hf : ∀ j, j < cs.length → w.frozen? ⟨b, o + j, none⟩ = false) (h1 : ∀ v ∈ cs, v.oneCell' = true) :
    (Builtin.copy_ #[dT, sT] ty #[.slice (some ⟨b, o, none⟩) dLen dCap, .slice (some a) sLen sCap]).run P w = .ok (goInt q) (w.setCells b o cs) := by
  have hfc := run_firstCells_some (P := P) w size q a sLen sCap cs hn hsrc
  have hst := run_storeCells_cells (P := P) b o cs 0 w (by simpa using hc) (by simpa using hf) h1
  cases hq2 : P.info? elem with
  | none => simp [hq2] at hs
  | some i =>
    have hi : i.size = size := by simpa [hq2] using hs
    simp [Builtin.copy_, run_underlying hu, Builtin.lenOf, sizeOf, typeInfo, hq2, hi, ← hq, hfc, hst]
theorem isSome_setC (b : Nat) (vs : List Value) (o : Nat) (w : World) (h : ∀ j, j < vs.length → (w.cell? ⟨b, o + j, none⟩).isSome = true) (k : Nat) (hk : (w.cell? ⟨b, k, none⟩).isSome = true) : ((w.setCells b o vs).cell? ⟨b, k, none⟩).isSome = true := by
  by_cases hin : o ≤ k ∧ k < o + vs.length
  · have := World.cell?_setCells_in b vs o w h (k - o) (by omega)
    rw [show o + (k - o) = k by omega] at this
    rw [this]
    rfl
  · rw [World.cell?_setCells_out b vs o w ⟨b, k, none⟩ (fun _ _ => by show k < o ∨ o + vs.length ≤ k; omega)]
    exact hk
theorem wpList_copy_runI {P : Program} (w : World) {ops : Array Oper} {rest : List Oper} {o : Oper} {a : Act} {Q : Exit → Act → World → Prop} (hgd : o.guard = none) (d s : Operand) (t t' : TypeId)
    (ho : o.op = .call { callee := .builtin .copy, args := #[d, s], argTypes := #[t, t'] }) (v u : Value) (hd : a.eval d = v) (hs : a.eval s = u) {v' : Value} {w' : World}
    (hr : (Builtin.copy_ #[t, t'] o.type #[v, u]).run P w = .ok v' w') (h : wpList P ops Q rest (a.put o.dst v') w') : wpList P ops Q (o :: rest) a w := by
  refine wpList_plain hgd fun K hK => ?_
  unfold Oper.wp execOp
  simp only [ho, resolve, invoke, builtin, Sem.run_bind, Sem.run_pure, Result.andThen_ok, List.map_toArray, List.map_cons, List.map_nil, hd, hs, hr]
  exact hK _ _ h
theorem step_copy_runI {P : Program} {ops : Array Oper} {o : Oper} {a : Act} {w : World} {K : Act → World → Prop} {Q : Exit → Act → World → Prop} {E : Prop}
    (hg : o.guard = none) (d x : Operand) (dT sT : TypeId) (hop : o.op = Op.call { callee := Callee.builtin Builtin.copy, args := #[d, x], argTypes := #[dT, sT] })
    (v u : Value) (hd : a.eval d = v) (hx : a.eval x = u) {v' : Value} {w' : World} (hr : (Builtin.copy_ #[dT, sT] o.type #[v, u]).run P w = .ok v' w') (hK : K (a.put o.dst v') w') :
    if Region.wanted o (yielded ops a.tmps) = true then Oper.wp P o a w K Q else E := by
  have hw : Region.wanted o (yielded ops a.tmps) = true := by simp [Region.wanted, hg]
  rw [if_pos hw]
  unfold Oper.wp
  simp [execOp, hop, resolve, invoke, builtin, hd, hx, hr, Result.andThen]
  exact hK
set_option maxRecDepth 100000 in
set_option maxHeartbeats 8000000 in
theorem insert_end (e : FcE) (M b1 : Nat) (v : Value) (ob : Option Nat) (L : List FcE) (w : World) (h : FcO M w v ob L) (hb : Blk w b1 #[.int .i64 e.tick, .int .i64 e.tenant, .int .i64 e.rate, .int .i64 e.burst] 87) (hM : M ≤ w.heap.size) (hn : L.length ≤ 1000) (he : e.ok) :
    Calls Try.prog 46 #[v, .int .i64 (L.length : Nat), .slice (some ⟨b1, 0, none⟩) 1 1] w fun ex w' => ∃ v' ob', ex = .returned v' ∧ FcO M w' v' ob' (L ++ [e]) ∧ Below M w w' := by
  obtain ⟨v3, ob3, W3, hrun, hor, hBM⟩ := fc_app (ty := 48) h (fcv_one hb he) hM (by simp; omega)
  have HRUN := Lib.hid hrun
  have HOR := Lib.hid hor
  have HB3 := Lib.hid hBM
  obtain ⟨a, n, cap, rfl, HN, m1, m2⟩ := h.v.sh
  rw [← HN.out]
  rw [← HN.out] at hn
  clear hrun hor hBM h hb
  by_cases hc : cap = n
  all_goals
    go_enter Try.func46, Try.ntmps46
    go_wp2_with (at_builtin; refine Lib.wpList_append_run _ rfl (.tmp 23) (.tmp 24) 48 48 rfl _ _ rfl rfl _ _ HRUN.out ?_)
    go_ret
    exact ⟨_, _, rfl, HOR.out, HB3.out⟩
set_option maxRecDepth 100000 in
set_option maxHeartbeats 8000000 in
theorem insert_grow (e : FcE) (g b1 k n : Nat) (cur : Array Value) (L : List FcE) (w : World) (hcur : Blk w g cur 87) (hL : L.length = n) (hsz : cur.size = n * 4) (htk : cur.toList.take (n * 4) = llFc L) (hb : Blk w b1 #[.int .i64 e.tick, .int .i64 e.tenant, .int .i64 e.rate, .int .i64 e.burst] 87) (hk : k < n) (hn : n ≤ 1000) :
    Calls Try.prog 46 #[.slice (some ⟨g, 0, none⟩) n n, .int .i64 (k : Nat), .slice (some ⟨b1, 0, none⟩) 1 1] w fun ex w' => ∃ v' ob', ex = .returned v' ∧ Row w' v' (some ob') 87 4 (n + 1) (llFc (L.take k ++ [e] ++ L.drop k)) ∧ w.heap.size ≤ ob' ∧ Below w.heap.size w w' := by
  obtain ⟨i0, hi, hz0, hz1, hz2⟩ := info_parts fcZero
  have hsz4 : (Try.prog.info? 87).map (·.size) = some 4 := by rw [hi]; simp [hz1]
  have hl := llFc_len L
  rw [hL] at hl
  have hcell : ∀ j u, (llFc L)[j]? = some u → w.cell? ⟨g, j, none⟩ = some u := fun j u hu => by
    rw [cell_at hcur, ← Array.getElem?_toList]
    rw [← htk, List.getElem?_take] at hu
    split at hu
    · exact hu
    · cases hu
  have hold : (Builtin.firstCells i0.size k (.slice (some ⟨g, 0, none⟩) k n)).run Try.prog w.drew = .ok ((llFc L).take (k * 4)).toArray w.drew := by
    rw [hz1]
    exact run_firstCells_some w.drew 4 k ⟨g, 0, none⟩ k n _ (by rw [List.length_take]; omega) (fun j u hj => by
      rw [addr_add, Nat.zero_add]
      rw [List.getElem?_take] at hj
      split at hj
      · exact hcell j u hj
      · cases hj)
  have hrz : ∀ ty, (Builtin.append_ #[48, 3] ty #[.slice (some ⟨g, 0, none⟩) k n, .int .i64 ((n : Int) + 1 - (k : Int))]).run Try.prog w =
      .ok (.slice (some ⟨w.heap.size, 0, none⟩) (n + 1) (grownCap w (n + 1) n 87)) (w.drew.alloc (.cells (((llFc L).take (k * 4)).toArray ++ Builtin.zeroCells (Value.agg #[.int .i64 0, .int .i64 0, .int .i64 0, .int .i64 0]).cells (n + 1 - k) ++ Builtin.zeroCells (Value.agg #[.int .i64 0, .int .i64 0, .int .i64 0, .int .i64 0]).cells (grownCap w (n + 1) n 87 - (n + 1))) 87)) := fun ty => by
    have h := Lib.run_append_grow_zeros w 48 3 ty 87 i0 _ .i64 .i64 Try.underlying48 Try.underlying3 hi hz0 (some ⟨g, 0, none⟩) k n ((llFc L).take (k * 4)) hold (n + 1 - k) (by omega) (by omega) (by omega) (by omega) (by rw [hz2]; omega) (by rw [hz2, show k + (n + 1 - k) = n + 1 by omega]; exact growslice_fits (by omega) (by omega))
    rw [show k + (n + 1 - k) = n + 1 by omega] at h
    rw [show (n : Int) + 1 - (k : Int) = ((n + 1 - k : Nat) : Int) by omega]
    exact h
  obtain ⟨G, hG⟩ : ∃ G, G = grownCap w (n + 1) n 87 := ⟨_, rfl⟩
  rw [← hG] at hrz
  have hGn : n + 1 ≤ G := by rw [hG]; exact grownCap_ge w _ _ _
  have hGm : G ≤ maxLen := by rw [hG]; exact grownCap_le_maxLen w (n + 1) n 87 (by unfold maxLen; omega)
  have hG63 : G ≤ 9223372036854775807 := by unfold maxLen at hGm; exact hGm
  obtain ⟨ROW, hROW⟩ : ∃ ROW : Array Value, ROW = ((llFc L).take (k * 4)).toArray ++ Builtin.zeroCells (Value.agg #[.int .i64 0, .int .i64 0, .int .i64 0, .int .i64 0]).cells (n + 1 - k) ++ Builtin.zeroCells (Value.agg #[.int .i64 0, .int .i64 0, .int .i64 0, .int .i64 0]).cells (G - (n + 1)) := ⟨_, rfl⟩
  rw [← hROW] at hrz
  have hRs : ROW.size = G * 4 := by
    rw [hROW]
    have hc4 : (Value.agg #[.int .i64 0, .int .i64 0, .int .i64 0, .int .i64 0]).cells.size = 4 := by kernel_rfl
    simp only [Array.size_append, List.size_toArray, List.length_take, size_zeroCells, hc4]
    omega
  have hR0 : ∀ j, j < k * 4 → ROW[j]? = (llFc L)[j]? := fun j hj => by
    rw [hROW, Array.append_assoc, Array.getElem?_append_left (by simp only [List.size_toArray, List.length_take]; omega), List.getElem?_toArray, List.getElem?_take, if_pos hj]
  clear hold hROW hi hz0 hz1 hz2
  obtain ⟨N, hN⟩ : ∃ N, N = w.heap.size := ⟨_, rfl⟩
  have hgN : g < N := by rw [hN]; exact hcur.lt
  have hbN : b1 < N := by rw [hN]; exact hb.lt
  obtain ⟨W1, hW1⟩ : ∃ W1, W1 = w.drew.alloc (.cells ROW 87) := ⟨_, rfl⟩
  have hK1 : Blk W1 N ROW 87 := by rw [hW1, hN]; exact blk_new w.drew ROW _
  have hB1 : Below N w W1 := by rw [hW1, hN]; exact ((Below.refl _ _).drew).alloc (Nat.le_refl _) _
  obtain ⟨cur2, hK2, s2, p1, p2, p3⟩ := stC_pt e.cells (k * 4) hK1 (by rw [hRs, fc_cells_len]; omega)
  obtain ⟨W2, hW2⟩ : ∃ W2, W2 = W1.setCells N (k * 4) e.cells := ⟨_, rfl⟩
  have hF2 := stC_fr N e.cells (k * 4) W1
  rw [← hW2] at hK2 hF2
  obtain ⟨cur3, hK3, s3, q1, q2, q3⟩ := stC_pt ((llFc L).drop (k * 4)) ((k + 1) * 4) (show Blk W2.drew N cur2 87 from hK2) (by rw [s2, hRs, List.length_drop]; omega)
  obtain ⟨W3, hW3⟩ : ∃ W3, W3 = W2.drew.setCells N ((k + 1) * 4) ((llFc L).drop (k * 4)) := ⟨_, rfl⟩
  have hF3 := stC_fr N ((llFc L).drop (k * 4)) ((k + 1) * 4) W2.drew
  rw [← hW3] at hK3 hF3
  have hlt1 : N < W1.heap.size := hK1.lt
  have hB3 : Below N w W3 := hB1.trans ((hF2.below (by omega) (by simp)).trans (((Below.refl N W2).drew).trans (hF3.below (by have := hK2.lt; show N ≤ W2.heap.size; omega) (by simp))))
  have hRES : Row W3 (.slice (some ⟨N, 0, none⟩) (n + 1) G) (some N) 87 4 (n + 1) (llFc (L.take k ++ [e] ++ L.drop k)) := by
    refine ins_row hK3 (by rw [s3, s2, hRs]) hL hk hGn hGm (fun j hj => ?_) (fun j hj => ?_) (fun j hj => ?_)
    · rw [q1 j (by omega), p1 j hj, hR0 j hj]
    · rw [q1 _ (by omega), p2 j (by rw [fc_cells_len]; omega)]
    · rw [q2 j (by rw [List.length_drop]; omega), List.getElem?_drop]
  have hcA : ∀ (W : World), (∀ x, W.cell? x = W1.cell? x) → (∀ x, W.frozen? x = W1.frozen? x) → ∀ ty dc, (Builtin.copy_ #[48, 48] ty #[.slice (some ⟨N, k * 4, none⟩) (n + 1 - k) dc, .slice (some ⟨b1, 0, none⟩) 1 1]).run Try.prog W = .ok (goInt (1 : Nat)) (W.setCells N (k * 4) e.cells) := fun W hWc hWf ty dc =>
    run_copy_rows W _ _ ty 87 N (k * 4) (n + 1 - k) dc ⟨b1, 0, none⟩ 1 1 e.cells 4 1 Try.underlying48 hsz4 (by simp only [Nat.min_def]; split <;> omega) rfl
      (fun j u hj => by
        rw [addr_add, hWc, Nat.zero_add]
        have hj4 : j < 4 := (List.getElem?_eq_some_iff.1 hj).1
        have h9 : Blk W1 b1 #[.int .i64 e.tick, .int .i64 e.tenant, .int .i64 e.rate, .int .i64 e.burst] 87 := (hB1.block b1 hbN).trans hb
        rw [cell_at h9, ← hj]
        show (List.toArray e.cells)[j]? = _
        rw [List.getElem?_toArray])
      (fun j hj => by rw [fc_cells_len] at hj; rw [hWc, cell_at hK1, Array.getElem?_eq_getElem (by omega)]; rfl) (fun j hj => by rw [hWf]; exact free_at hK1 _) (fun u hu => by
        have : e.cells.all (fun u => u.oneCell') = true := rfl
        exact List.all_eq_true.1 this u hu)
  have hcB : ∀ ty dc sc, (Builtin.copy_ #[48, 48] ty #[.slice (some ⟨N, (k + 1) * 4, none⟩) (n + 1 - (k + 1)) dc, .slice (some ⟨g, k * 4, none⟩) (n - k) sc]).run Try.prog W2.drew = .ok (goInt (n - k : Nat)) W3 := fun ty dc sc => by
    rw [hW3]
    exact run_copy_rows W2.drew _ _ ty 87 N ((k + 1) * 4) (n + 1 - (k + 1)) dc ⟨g, k * 4, none⟩ (n - k) sc ((llFc L).drop (k * 4)) 4 (n - k) Try.underlying48 hsz4 (by simp only [Nat.min_def]; split <;> omega) (by rw [List.length_drop]; omega)
      (fun j u hj => by
        rw [addr_add]
        rw [List.getElem?_drop] at hj
        have h9 : Blk W2 g cur 87 := (hF2.block g (by omega) (by simp; omega)).trans ((hB1.block g hgN).trans hcur)
        have h8 := hcell _ u hj
        rw [cell_at hcur] at h8
        exact (cell_at (show Blk W2.drew g cur 87 from h9) _).trans h8)
      (fun j hj => by rw [List.length_drop] at hj; rw [cell_at (show Blk W2.drew N cur2 87 from hK2), Array.getElem?_eq_getElem (by omega)]; rfl) (fun j hj => free_at (show Blk W2.drew N cur2 87 from hK2) _) (fun u hu => llFc_ones L u (List.mem_of_mem_drop hu))
  have HRES := Lib.hid hRES
  have HB3 := Lib.hid hB3
  have HNW := Lib.hid (show w.heap.size ≤ N by omega)
  rw [← hN, ← hW1] at hrz
  have hcA1 : ∀ ty dc, (Builtin.copy_ #[48, 48] ty #[.slice (some ⟨N, k * 4, none⟩) (n + 1 - k) dc, .slice (some ⟨b1, 0, none⟩) 1 1]).run Try.prog W1 = .ok (goInt (1 : Nat)) W2 := fun ty dc => by rw [hW2]; exact hcA W1 (fun _ => rfl) (fun _ => rfl) ty dc
  rw [← hN]
  clear hRES hB3 hcA hW1 hW2 hW3 hF2 hF3 hK1 hK2 hK3 s2 s3 p1 p2 p3 q1 q2 q3 hR0 hRs hcell hb hcur hsz htk hN hB1 hG hl hL hsz4 hgN hbN hlt1 hGm
  have hz2 : ¬ ((k : Int) = (n : Int)) := by omega
  have hz3 : (n : Int) < (n : Int) + 1 := by omega
  have hw1 : IntKind.i64.wrap ((k : Int) + 1) = (k : Int) + 1 := IntWalk.i64_in _ (by omega)
  have hw2 : IntKind.i64.wrap ((n : Int) + 1) = (n : Int) + 1 := IntWalk.i64_in _ (by omega)
  have hw3 : IntKind.i64.wrap ((n : Int) + 1 - (k : Int)) = (n : Int) + 1 - (k : Int) := IntWalk.i64_in _ (by omega)
  have hb1 : (0 : Int) ≤ (k : Int) + 1 := by omega
  have hb3 : (k : Int) ≤ (n : Int) := by omega
  have hb4 : k ≤ n := by omega
  have hb5 : k + 1 ≤ n + 1 := by omega
  have htn : ((k : Int) + 1).toNat = k + 1 := by omega
  have hGi : ¬ (G = k) := by omega
  have hGim : ¬ (G = k + 1) := by omega
  have hci : ¬ (n = k) := by omega
  go_enter Try.func46, Try.ntmps46
  go_wp2_with (first
    | (at_builtin; refine Lib.wpList_append_run _ rfl (.tmp 34) (.tmp 39) 48 3 rfl _ _ rfl rfl _ _ (hrz _) ?_)
    | (at_builtin; refine wpList_copy_runI _ rfl (.tmp 43) (.tmp 44) 48 48 rfl _ _ rfl rfl (hcA1 _ _) ?_))
  go_region_law (refine step_copy_runI rfl (.tmp 50) (.tmp 53) 48 48 rfl (.slice (some ⟨N, (k + 1) * 4, none⟩) (n + 1 - (k + 1)) (G - (k + 1))) (.slice (some ⟨g, k * 4, none⟩) (n - k) (n - k)) (by simp [Act.eval, Act.put]) (by simp [Act.eval, Act.put]) (hcB _ _ _) ?_)
  go_wp2_with fail
  go_ret
  exact ⟨_, _, rfl, HRES.out, by omega, HB3.out⟩
set_option maxRecDepth 100000 in
set_option maxHeartbeats 8000000 in
theorem insert_room (e : FcE) (g b1 k n cap : Nat) (cur : Array Value) (L : List FcE) (w : World) (hcur : Blk w g cur 87) (hL : L.length = n) (hsz : cur.size = cap * 4) (hcm : cap ≤ maxLen) (htk : cur.toList.take (n * 4) = llFc L) (hb : Blk w b1 #[.int .i64 e.tick, .int .i64 e.tenant, .int .i64 e.rate, .int .i64 e.burst] 87) (hne : g ≠ b1) (hk : k < n) (hcap : n + 1 ≤ cap) :
    Calls Try.prog 46 #[.slice (some ⟨g, 0, none⟩) n cap, .int .i64 (k : Nat), .slice (some ⟨b1, 0, none⟩) 1 1] w fun ex w' => ∃ v', ex = .returned v' ∧ Row w' v' (some g) 87 4 (n + 1) (llFc (L.take k ++ [e] ++ L.drop k)) ∧ Fr [g] w w' := by
  have hc63 : cap ≤ 9223372036854775807 := by unfold maxLen at hcm; exact hcm
  obtain ⟨i0, hi, hz0, hz1, hz2⟩ := info_parts fcZero
  have hsz4 : (Try.prog.info? 87).map (·.size) = some 4 := by rw [hi]; simp [hz1]
  have hl := llFc_len L
  rw [hL] at hl
  have hcell : ∀ j u, (llFc L)[j]? = some u → cur[j]? = some u := fun j u hu => by
    rw [← Array.getElem?_toList]
    rw [← htk, List.getElem?_take] at hu
    split at hu
    · exact hu
    · cases hu
  have hshape : ∀ (b : Nat) (cs : Array Value) (t : TypeId), Blk w b cs t → w.shape? b = some (t, cs.size) := fun b cs t h => by
    have h' : w.heap[b]? = some (.cells cs t (0, 0)) := h
    simp [World.shape?, h']
  have hov : ∀ lb cb, (callFunc 68 #[.slice (some ⟨b1, 0, none⟩) 1 1, .slice (some ⟨g, (k + 1) * 4, none⟩) lb cb]).run Try.prog w = .ok (.value (.bool false)) w := fun lb cb => by
    rw [run_callFunc_extern Try.func68 (by kernel_rfl) (by kernel_rfl) (by kernel_rfl) (e := Extern.SlicesOverlaps.overlaps #[48, 48] #[4]) (by kernel_rfl),
      Lib.run_overlaps_apart w 48 4 87 Try.underlying48 4 (fun w => by simp [sizeOf, typeInfo, hi, hz1]) ⟨b1, 0, none⟩ ⟨g, (k + 1) * 4, none⟩ 1 1 lb cb (fun h => hne h.symm) _ _ _ _ (hshape _ _ _ hb) (hshape _ _ _ hcur) (by omega) (free_at hb _) (free_at hb _)]
    rfl
  obtain ⟨cur2, hK2, s2, p1, p2, p3⟩ := stC_pt ((llFc L).drop (k * 4)) ((k + 1) * 4) (show Blk w.drew g cur 87 from hcur) (by rw [hsz, List.length_drop]; omega)
  obtain ⟨W2, hW2⟩ : ∃ W2, W2 = w.drew.setCells g ((k + 1) * 4) ((llFc L).drop (k * 4)) := ⟨_, rfl⟩
  have hF2 := stC_fr g ((llFc L).drop (k * 4)) ((k + 1) * 4) w.drew
  rw [← hW2] at hK2 hF2
  obtain ⟨cur3, hK3, s3, q1, q2, q3⟩ := stC_pt e.cells (k * 4) hK2 (by rw [s2, hsz, fc_cells_len]; omega)
  obtain ⟨W3, hW3⟩ : ∃ W3, W3 = W2.setCells g (k * 4) e.cells := ⟨_, rfl⟩
  have hF3 := stC_fr g e.cells (k * 4) W2
  rw [← hW3] at hK3 hF3
  have hFR : Fr [g] w W3 := ((Fr.refl [g] w).drew.trans hF2 (by simp)).trans hF3 (by simp)
  have hRES : Row W3 (.slice (some ⟨g, 0, none⟩) (n + 1) cap) (some g) 87 4 (n + 1) (llFc (L.take k ++ [e] ++ L.drop k)) := by
    refine ins_row hK3 (by rw [s3, s2, hsz]) hL hk hcap hcm (fun j hj => ?_) (fun j hj => ?_) (fun j hj => ?_)
    · rw [q1 j hj, p1 j (by omega), hcell j _ (List.getElem?_eq_getElem (show j < (llFc L).length by omega)), List.getElem?_eq_getElem]
    · rw [q2 j (by rw [fc_cells_len]; omega)]
    · rw [q3 _ (by rw [fc_cells_len]; omega), p2 j (by rw [List.length_drop]; omega), List.getElem?_drop]
  have hcA : ∀ ty dc sc, (Builtin.copy_ #[48, 48] ty #[.slice (some ⟨g, (k + 1) * 4, none⟩) (n - k) dc, .slice (some ⟨g, k * 4, none⟩) (n + 1 - k) sc]).run Try.prog w.drew = .ok (goInt (n - k : Nat)) W2 := fun ty dc sc => by
    rw [hW2]
    exact run_copy_rows w.drew _ _ ty 87 g ((k + 1) * 4) (n - k) dc ⟨g, k * 4, none⟩ (n + 1 - k) sc ((llFc L).drop (k * 4)) 4 (n - k) Try.underlying48 hsz4 (by simp only [Nat.min_def]; split <;> omega) (by rw [List.length_drop]; omega)
      (fun j u hj => by
        rw [addr_add]
        rw [List.getElem?_drop] at hj
        exact (cell_at (show Blk w.drew g cur 87 from hcur) _).trans (hcell _ u hj))
      (fun j hj => by rw [List.length_drop] at hj; rw [cell_at (show Blk w.drew g cur 87 from hcur), Array.getElem?_eq_getElem (by omega)]; rfl) (fun j hj => free_at (show Blk w.drew g cur 87 from hcur) _) (fun u hu => llFc_ones L u (List.mem_of_mem_drop hu))
  have hcB : ∀ ty dc, (Builtin.copy_ #[48, 48] ty #[.slice (some ⟨g, k * 4, none⟩) (n + 1 - k) dc, .slice (some ⟨b1, 0, none⟩) 1 1]).run Try.prog W2 = .ok (goInt (1 : Nat)) W3 := fun ty dc => by
    rw [hW3]
    exact run_copy_rows W2 _ _ ty 87 g (k * 4) (n + 1 - k) dc ⟨b1, 0, none⟩ 1 1 e.cells 4 1 Try.underlying48 hsz4 (by simp only [Nat.min_def]; split <;> omega) rfl
      (fun j u hj => by
        rw [addr_add, Nat.zero_add]
        have h9 : Blk W2 b1 #[.int .i64 e.tick, .int .i64 e.tenant, .int .i64 e.rate, .int .i64 e.burst] 87 := (hF2.block b1 hb.lt (by simp; exact fun h => hne h.symm)).trans hb
        rw [cell_at h9, ← hj]
        show (List.toArray e.cells)[j]? = _
        rw [List.getElem?_toArray])
      (fun j hj => by rw [fc_cells_len] at hj; rw [cell_at hK2, Array.getElem?_eq_getElem (by omega)]; rfl) (fun j hj => free_at hK2 _) (fun u hu => by
        have : e.cells.all (fun u => u.oneCell') = true := rfl
        exact List.all_eq_true.1 this u hu)
  have HRES := Lib.hid hRES
  have HFR := Lib.hid hFR
  clear hRES hFR hW2 hW3 hF2 hF3 hK2 hK3 s2 s3 p1 p2 p3 q1 q2 q3 hcell hb hcur hsz htk hl hL hsz4 hshape hi hz0 hz1 hz2 hcm
  have hz2 : ¬ ((k : Int) = (n : Int)) := by omega
  have hz3 : ¬ ((cap : Int) < (n : Int) + 1) := by omega
  have hw1 : IntKind.i64.wrap ((k : Int) + 1) = (k : Int) + 1 := IntWalk.i64_in _ (by omega)
  have hw2 : IntKind.i64.wrap ((n : Int) + 1) = (n : Int) + 1 := IntWalk.i64_in _ (by omega)
  have hb1 : (0 : Int) ≤ (k : Int) + 1 := by omega
  have hb3 : (k : Int) ≤ (n : Int) := by omega
  have hb4 : k ≤ n := by omega
  have hb5 : k + 1 ≤ n + 1 := by omega
  have htn : ((k : Int) + 1).toNat = k + 1 := by omega
  have hb6 : (k : Int) ≤ (n : Int) + 1 := by omega
  have hb7 : k ≤ n + 1 := by omega
  have htn2 : ((n : Int) + 1).toNat = n + 1 := by omega
  have hGi : ¬ (cap = k) := by omega
  have hGim : ¬ (cap = k + 1) := by omega
  go_enter Try.func46, Try.ntmps46
  go_wp2_with (simp only [hov])
  go_region_law (refine step_copy_runI rfl (.tmp 73) (.tmp 76) 48 48 rfl _ _ (by simp [Act.eval, Act.put]) (by simp [Act.eval, Act.put]) (hcA _ _ _) ?_)
  go_wp2_with (at_builtin; refine wpList_copy_runI _ rfl (.tmp 80) (.tmp 81) 48 48 rfl _ _ rfl rfl (hcB _ _) ?_)
  go_ret
  exact ⟨_, rfl, HRES.out, HFR.out⟩
theorem insert_any (e : FcE) (M b1 k : Nat) (v : Value) (ob : Option Nat) (L : List FcE) (w : World) (h : FcO M w v ob L) (hb : Blk w b1 #[.int .i64 e.tick, .int .i64 e.tenant, .int .i64 e.rate, .int .i64 e.burst] 87) (hne : ∀ g, ob = some g → g ≠ b1) (hk : k ≤ L.length) (hM : M ≤ w.heap.size) (hn : L.length ≤ 1000) (he : e.ok) :
    Calls Try.prog 46 #[v, .int .i64 (k : Nat), .slice (some ⟨b1, 0, none⟩) 1 1] w fun ex w' => ∃ v' ob', ex = .returned v' ∧ FcO M w' v' ob' (L.take k ++ [e] ++ L.drop k) ∧ Below M w w' := by
  have hok : okFc (L.take k ++ [e] ++ L.drop k) := fun x hx => by
    rcases List.mem_append.1 hx with hx | hx
    · rcases List.mem_append.1 hx with hx | hx
      · exact h.2.1 x (List.mem_of_mem_take hx)
      · simp at hx; subst hx; exact he
    · exact h.2.1 x (List.mem_of_mem_drop hx)
  have hlen : (L.take k ++ [e] ++ L.drop k).length = L.length + 1 := by simp; omega
  rcases Nat.lt_or_ge k L.length with hlt | hge
  · obtain ⟨h1, h2, h3⟩ := h
    rcases h1.cases with ⟨rfl, rfl, h4, h5⟩ | ⟨g, cap, cur, rfl, rfl, h4, h5, h6, h7, h8⟩
    · omega
    · rcases Nat.lt_or_ge L.length cap with hc | hc
      · refine Calls.mono (insert_room e g b1 k L.length cap cur L w h4 rfl h7 h6 h8 hb (hne g rfl) hlt hc) ?_
        rintro ex w' ⟨v', rfl, hr, hf⟩
        exact ⟨v', some g, rfl, ⟨by rw [hlen]; exact hr, hok, h3⟩, hf.below hM (by simp; exact h3 g rfl)⟩
      · obtain rfl : cap = L.length := by omega
        refine Calls.mono (insert_grow e g b1 k L.length cur L w h4 rfl h7 h8 hb hlt hn) ?_
        rintro ex w' ⟨v', ob', rfl, hr, hg, hf⟩
        exact ⟨v', some ob', rfl, ⟨by rw [hlen]; exact hr, hok, fun g' e' => by obtain rfl := Option.some.inj e'; omega⟩, hf.mono hM⟩
  · obtain rfl : k = L.length := by omega
    rw [List.take_length, List.drop_length, List.append_nil]
    exact insert_end e M b1 v ob L w h hb hM hn he
end Go.Proofs.Ythmjlomlceljkaa
