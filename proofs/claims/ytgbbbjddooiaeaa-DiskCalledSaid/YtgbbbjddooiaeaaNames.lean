/-
  Names of package disk: all names, rising; the library's sort by its contract.
-/
import Derived.Test.YtgbbbjddooiaeaaWakes
import Derived.Test.YtgbbbjddooiaeaaShelf
namespace Go.Proofs.Ytgbbbjddooiaeaa
open Go.RowKit
open Go.Sort hiding Below

def PD.names (d : PD) : List (List UInt8) := if d.down then [] else (d.files.map (·.name.data.toList)).mergeSort fun x y => decide (x ≤ y)

theorem infoS : (Try.prog.info? 9).map (fun i => (i.zero, i.size, i.bytes)) = some (some (.string ⟨#[]⟩), 1, 16) := by kernel_rfl

theorem encStr_name (b : ByteArray) : encStr b.data.toList = .string b := by cases b; simp [encStr]

/-- What the library's sort does to a row of strings. -/
theorem sorted_row {w w' : World} {g q : Nat} {cur : Array Value} {d : Array (List UInt8)} {os : Array Obj} (h : w.heap[g]? = some (.cells cur 9 (0, 0))) (hw : w' = grow (putRow encStr (Go.Sort.ahead w q) g 0 d) os) :
    w'.heap[g]? = some (.cells (putCells encStr 0 d cur) 9 (0, 0)) ∧ Fr [g] w w' := by
  subst hw
  have hlt := lt_of_block h
  have hm : ∀ k, (mapBlock (Go.Sort.ahead w q) g (putCells encStr 0 d)).heap[k]? = if g = k then (w.heap[k]?).map (onCells (putCells encStr 0 d)) else w.heap[k]? := fun k => by
    simp only [mapBlock, Go.Sort.ahead, Array.getElem?_modify]
  have hsz : (mapBlock (Go.Sort.ahead w q) g (putCells encStr 0 d)).heap.size = w.heap.size := by simp [mapBlock, Go.Sort.ahead]
  have hg : ∀ k, k < w.heap.size → (grow (putRow encStr (Go.Sort.ahead w q) g 0 d) os).heap[k]? = (mapBlock (Go.Sort.ahead w q) g (putCells encStr 0 d)).heap[k]? := fun k hk => by
    show ((mapBlock (Go.Sort.ahead w q) g (putCells encStr 0 d)).heap ++ os)[k]? = _
    rw [Array.getElem?_append_left (by rw [hsz]; exact hk)]
  refine ⟨?_, rfl, rfl, rfl, ?_, fun k hk hn => ?_⟩
  · rw [hg g hlt, hm, if_pos rfl, h]; rfl
  · show w.heap.size ≤ ((mapBlock (Go.Sort.ahead w q) g (putCells encStr 0 d)).heap ++ os).size
    rw [Array.size_append, hsz]; omega
  · rw [hg k hk, hm, if_neg (by simpa using fun e => hn (by simp [e]))]

theorem putCells_take (d : Array (List UInt8)) (cur : Array Value) (h : d.size ≤ cur.size) : (putCells encStr 0 d cur).toList.take d.size = d.toList.map encStr := by
  apply List.ext_getElem?
  intro j
  rw [List.getElem?_take, List.getElem?_map, Array.getElem?_toList, Array.getElem?_toList]
  by_cases hj : j < d.size
  · rw [if_pos hj, putCells, Array.getElem?_mapIdx, Array.getElem?_eq_getElem (show j < cur.size by omega), Option.map_some, if_pos ⟨by omega, by omega⟩, Array.getElem?_eq_getElem hj]
    simp [getElem!_pos d j hj]
  · rw [if_neg hj, Array.getElem?_eq_none (by omega)]; rfl

set_option maxHeartbeats 2000000 in
set_option maxRecDepth 100000 in
theorem names_any {w : World} {D : Nat} {l : List Nat} {d : PD} (h : Disk w D l d) :
    Calls Try.prog 18 #[.pointer (some ⟨D, 0, none⟩)] w fun r w' => ∃ v, r = .returned v ∧ w'.ownsRow w.heap.size 9 1 v d.names.length (d.names.map encStr) ∧ Below w.heap.size w w' := by
  obtain ⟨p, fv, pv, h, rfl⟩ := h
  have hl := lost_d h
  cases hd : d.down with
  | true =>
    have e : d.names = [] := by simp [PD.names, hd]
    rw [e]
    rw [word_down hd] at hl
    clear e hd h
    go_enter Try.func18, Try.ntmps18
    go_wp2_with (go_at_call 46; refine hl.mono ?_; rintro e w1 ⟨rfl, hB⟩; clear hl)
    go_ret
    exact ⟨_, rfl, World.ownsRow_nil _ _ _ _, hB⟩
  | false =>
    rw [word_up hd] at hl
    obtain ⟨N, hN⟩ : ∃ N, N = w.heap.size := ⟨_, rfl⟩
    obtain ⟨ns, hns⟩ : ∃ ns, ns = d.files.map (·.name.data.toList) := ⟨_, rfl⟩
    obtain ⟨es, hes⟩ : ∃ es : List Value, es = ns.map encStr := ⟨_, rfl⟩
    have e : d.names = ns.mergeSort fun x y => decide (x ≤ y) := by simp [PD.names, hd, hns]
    have HE := Lib.hid e
    have hlen := h.files.length
    have h64 := h.few
    obtain ⟨a, cap, rfl, _, _, hav⟩ := h.row.shape
    have HAV := Lib.hid hav
    obtain ⟨n, hn⟩ : ∃ n, n = p.files.length := ⟨_, rfl⟩
    have hnl : ns.length = n := by rw [hns, List.length_map, hn, hlen]
    have hn64 : n ≤ 64 := by omega
    have hc0 : w.cell? ⟨D, 0, none⟩ = some (.slice a n cap) := by rw [hn]; exact h.cells.1
    have hDlt := h.lts.1
    have hF : ∀ j, j < n → ∃ R F, a = some ⟨R, 0, none⟩ ∧ R < w.heap.size ∧ F < w.heap.size ∧ w.cell? ⟨R, j, none⟩ = some (.pointer (some ⟨F, 0, none⟩)) ∧ w.cell? ⟨F, 0, none⟩ = some (es.getD j (.string ⟨#[]⟩)) := fun j hj => by
      obtain ⟨R, hR, hc, _⟩ := h.row.cell j (by omega)
      have hF := h.files.get j (by omega) (by omega)
      refine ⟨R, p.files[j].1, by rw [hav, hR]; rfl, h.lts.2.1 R (by simp [hR]), hF.lt _ (by simp [foot1]), ?_, ?_⟩
      · rw [hc]
        simp [ptrs, List.getElem?_eq_getElem (show j < p.files.length by omega)]
      · have hnj : es.getD j (.string ⟨#[]⟩) = .string d.files[j].name := by
          simp [hes, hns, List.getD, List.getElem?_eq_getElem (show j < d.files.length by omega), encStr_name]
        rw [hnj]
        exact FRep.cell0 (F := p.files[j].1) (g := p.files[j].2) hF
    obtain ⟨i0, hi, hz0, hz1, hz2⟩ := info_parts infoS
    have HI := Lib.hid hi
    have HNL := Lib.hid hnl
    have HES := Lib.hid hes
    rw [← hN] at hF ⊢
    have HNe := Lib.hid hN
    rw [← hN] at hDlt
    clear e hd h hns hlen h64 hav hn hi hnl hes hN
    go_enter Try.func18, Try.ntmps18
    go_wp2_with (go_at_call 46; refine hl.mono ?_; rintro e w1 ⟨rfl, hB⟩; rw [← HNe.out] at hB; have hc1 := (hB.cell (p := ⟨D, 0, none⟩) hDlt).trans hc0; clear hl)
    go_loopw [3, 5, 14] (fun v _ i wr => ∃ k : Nat, k ≤ n ∧ i = .int .i64 k ∧ wr.ownsRow N 9 1 v k (es.take k) ∧ Below N w wr) (fun _ _ i _ => n - (intOf i).toNat)
    case atStart => exact ⟨0, Nat.zero_le _, rfl, World.ownsRow_nil _ _ _ _, hB⟩
    case round =>
      obtain ⟨k, hk, rfl, hown, hBr⟩ := hrel
      by_cases hlt : k < n
      · obtain ⟨R, F, rfl, hRl, hFl, hcR, hcF⟩ := hF k hlt
        have hcR' := (hBr.cell (p := ⟨R, k, none⟩) hRl).trans hcR
        have hcF' := (hBr.cell (p := ⟨F, 0, none⟩) hFl).trans hcF
        obtain ⟨x, hx⟩ : ∃ x, x = es.getD k (.string ⟨#[]⟩) := ⟨_, rfl⟩
        have hel : k < es.length := by rw [HES.out, List.length_map]; have := HNL.out; omega
        have hxs : ∃ s, x = .string s := by
          rw [hx, HES.out]
          simp [List.getD, List.getElem?_eq_getElem (show k < ns.length by have := HNL.out; omega)]
        have hstep : Hid (es.take k ++ [x] = es.take (k + 1)) := by
          show _ = _
          rw [List.take_add_one, hx]
          simp [List.getD, List.getElem?_eq_getElem hel]
        rw [← hx] at hcF'
        obtain ⟨s, rfl⟩ := hxs
        have hNr : N ≤ wr.heap.size := by have := hBr.size; have := HNe.out; omega
        clear hF hcR hcF hx hc0 hc1 hel
        go_wp2_with (at_builtin; refine wpList_append_own _ rfl (.tmp 18) (.tmp 23) 42 rfl N 9 i0 (.string ⟨#[]⟩) 1 16 Try.underlying42 HI.out hz0 hz1 hz2 rfl (by decide) _ _ _ rfl (hown.alloc _) ⟨wr.heap.size, 0, none⟩ 1 1 [.string s] rfl rfl ?c1 ?c2 ?c3 ?c4 ?c5 ?_)
        case c1 =>
          intro j u hj
          match j, hj with
          | 0, hj => simp at hj; subst hj; simp [Addr.add]
        case c2 => intro u hu; simp at hu; subst hu; rfl
        case c3 => unfold maxLen; omega
        case c4 => omega
        case c5 => simp; omega
        intro v' w2 hown' hgrow _
        have hB2 : Below N w w2 := (hBr.alloc hNr _).grown hgrow (by simp; omega) (fun j e => (hown.lt j e).1)
        rw [hstep.out] at hown'
        obtain ⟨g', cap', rfl⟩ : ∃ g cap, v' = .slice (some ⟨g, 0, none⟩) (k + 1) cap := by
          obtain ⟨_, ⟨_, h0⟩ | ⟨g, cap, cur, h0, _⟩⟩ := hown'
          · omega
          · exact ⟨g, cap, h0⟩
        clear hgrow hown
        go_wp2
        go_roundw
        case rel => exact ⟨k + 1, by omega, by go_num, hown', hB2⟩
        case measure => simp [intOf]; omega
      · obtain rfl : k = n := by omega
        clear hF hc0 hc1
        rw [List.take_of_length_le (by rw [HES.out, List.length_map]; have := HNL.out; omega)] at hown
        obtain ⟨hxl, ⟨rfl, rfl⟩ | ⟨g, cap', cur, rfl, hgN, hg, hnc, hcm, hcs, htk⟩⟩ := hown
        · go_wp2_with (go_at_call 48; refine (Try.slices_Sort_string_none none 0 wr).mono ?_; rintro e w2 ⟨rfl, rfl⟩)
          go_ret
          have h0 : ns = [] := List.eq_nil_of_length_eq_zero HNL.out
          refine ⟨_, rfl, ?_, hBr⟩
          rw [HE.out, h0, List.mergeSort_nil]
          exact World.ownsRow_nil _ _ _ _
        · have hcell : ∀ j, j < k → cur[j]? = some (encStr (ns.getD j [])) := fun j hj => by
            have : (cur.toList.take (k * 1))[j]? = (ns.map encStr)[j]? := by rw [htk, HES.out]
            rw [List.getElem?_take, if_pos (by omega), Array.getElem?_toList] at this
            rw [this]
            simp [List.getD, List.getElem?_eq_getElem (show j < ns.length by have := HNL.out; omega)]
          have hso := Try.slices_Sort_string g 0 cap' ns wr (fun j hj => by
            have hj' : j < ns.length := by simpa using hj
            refine ⟨?_, free_at hg _⟩
            rw [Nat.zero_add, cell_at hg, hcell j (by have := HNL.out; omega)]
            simp [List.getD, List.getElem?_eq_getElem hj', getElem!_pos ns.toArray j hj]) (lt_of_block hg) (by have := HNL.out; omega)
          rw [HNL.out] at hso
          have HG := Lib.hid hg
          have HCS := Lib.hid hcs
          clear hg hcell htk hcs hxl
          go_wp2_with (go_at_call 48; refine hso.mono ?_; rintro e w2 ⟨rfl, q, os, hw2⟩; have HW2 := Lib.hid hw2; clear hso hw2)
          go_ret
          obtain ⟨hs1, hs2⟩ := sorted_row HG.out HW2.out
          have hml : (ns.mergeSort fun x y => decide (x ≤ y)).length = k := by rw [List.length_mergeSort, HNL.out]
          refine ⟨_, rfl, ?_, hBr.trans (hs2.below (by have := hBr.size; have := HNe.out; omega) (by simpa using hgN))⟩
          rw [HE.out, hml]
          refine ⟨by simp [HNL.out], .inr ⟨g, cap', _, rfl, hgN, hs1, hnc, hcm, ?_, ?_⟩⟩
          · simp only [putCells, Array.size_mapIdx]; exact HCS.out
          · have := putCells_take (ns.mergeSort fun x y => decide (x ≤ y)).toArray cur (by rw [List.size_toArray, hml, HCS.out]; omega)
            rw [List.size_toArray, hml] at this
            rw [Nat.mul_one]
            exact this

end Go.Proofs.Ytgbbbjddooiaeaa
