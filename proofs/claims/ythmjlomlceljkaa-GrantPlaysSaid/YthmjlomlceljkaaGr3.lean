/-
  Which leases are over: gathered, and sorted by the library's contract.
-/
import Derived.Test.YthmjlomlceljkaaGr2
import Derived.Test.YthmjlomlceljkaaShelf
import Derived.OwnWalkIn
import Derived.TacticsInMore
import Derived.LoopNIn
import Derived.LoopIn
import Derived.Maps.AppendAt
namespace Go.Proofs.Ythmjlomlceljkaa
open Go.RowKit
set_option linter.unusedSimpArgs false
set_option linter.unusedVariables false
open Go.Sort hiding Below Holds

def valsI (l : List Int) : List Value := l.map fun x => .int .i64 x

/-- what putting values into a row's block makes of the world -/
theorem put_row {w w' : World} {g q : Nat} {cur : Array Value} {d : Array Int} {os : Array Obj} (h : w.heap[g]? = some (.cells cur 3 (0, 0))) (hw : w' = grow (putRow (Value.int .i64) (Go.Sort.ahead w q) g 0 d) os) :
    w'.heap[g]? = some (.cells (putCells (Value.int .i64) 0 d cur) 3 (0, 0)) ∧ Fr [g] w w' := by
  subst hw
  have hlt := lt_of_block h
  have hm : ∀ k, (mapBlock (Go.Sort.ahead w q) g (putCells (Value.int .i64) 0 d)).heap[k]? = if g = k then (w.heap[k]?).map (onCells (putCells (Value.int .i64) 0 d)) else w.heap[k]? := fun k => by
    simp only [mapBlock, Go.Sort.ahead, Array.getElem?_modify]
  have hsz : (mapBlock (Go.Sort.ahead w q) g (putCells (Value.int .i64) 0 d)).heap.size = w.heap.size := by simp [mapBlock, Go.Sort.ahead]
  have hg : ∀ k, k < w.heap.size → (grow (putRow (Value.int .i64) (Go.Sort.ahead w q) g 0 d) os).heap[k]? = (mapBlock (Go.Sort.ahead w q) g (putCells (Value.int .i64) 0 d)).heap[k]? := fun k hk => by
    show ((mapBlock (Go.Sort.ahead w q) g (putCells (Value.int .i64) 0 d)).heap ++ os)[k]? = _
    rw [Array.getElem?_append_left (by rw [hsz]; exact hk)]
  refine ⟨?_, rfl, rfl, rfl, ?_, fun k hk hn => ?_⟩
  · rw [hg g hlt, hm, if_pos rfl, h]; rfl
  · show w.heap.size ≤ ((mapBlock (Go.Sort.ahead w q) g (putCells (Value.int .i64) 0 d)).heap ++ os).size
    rw [Array.size_append, hsz]; omega
  · rw [hg k hk, hm, if_neg (by simpa using fun e => hn (by simp [e]))]

theorem put_take (d : Array Int) (cur : Array Value) (h : d.size ≤ cur.size) : (putCells (Value.int .i64) 0 d cur).toList.take d.size = d.toList.map (Value.int .i64) := by
  apply List.ext_getElem?
  intro j
  rw [List.getElem?_take, List.getElem?_map, Array.getElem?_toList, Array.getElem?_toList]
  by_cases hj : j < d.size
  · rw [if_pos hj, putCells, Array.getElem?_mapIdx, Array.getElem?_eq_getElem (show j < cur.size by omega), Option.map_some, if_pos ⟨by omega, by omega⟩, Array.getElem?_eq_getElem hj]
    simp [getElem!_pos d j hj]
  · rw [if_neg hj, Array.getElem?_eq_none (by omega)]; rfl
theorem put_size (d : Array Int) (cur : Array Value) : (putCells (Value.int .i64) 0 d cur).size = cur.size := by simp [putCells]

/-- a row of ints holds them, in the library's words -/
theorem row_holds {w : World} {v : Value} {g n : Nat} {l : List Int} (h : Row w v (some g) 3 1 n (valsI l)) : Go.Sort.Holds (Value.int .i64) w g 0 l.toArray := by
  intro j hj
  have hl := h.len
  simp only [valsI, List.length_map] at hl
  simp only [List.size_toArray] at hj
  obtain ⟨g', e, hc, hf⟩ := h.cell j (by omega)
  obtain rfl := Option.some.inj e
  rw [Nat.zero_add]
  refine ⟨?_, hf⟩
  rw [hc]
  simp [valsI, List.getElem?_eq_getElem hj]

theorem put_back {w w' : World} {g cap : Nat} {l d : List Int} {q : Nat} {os : Array Obj} (h : Row w (.slice (some ⟨g, 0, none⟩) l.length cap) (some g) 3 1 l.length (valsI l)) (hd : d.length = l.length) (hw : w' = grow (putRow (Value.int .i64) (Go.Sort.ahead w q) g 0 d.toArray) os) :
    Row w' (.slice (some ⟨g, 0, none⟩) l.length cap) (some g) 3 1 l.length (valsI d) ∧ Fr [g] w w' := by
  rcases h.cases with ⟨e, _⟩ | ⟨g', cap', cur, e, e2, h3, h4, h5, h6, h7⟩
  · cases e
  · obtain rfl := Option.some.inj e
    injection e2 with _ _ e3
    subst e3
    obtain ⟨p1, p2⟩ := put_row h3 hw
    refine ⟨Row.mk p1 h4 h5 (by rw [put_size]; exact h6) ?_, p2⟩
    have := put_take d.toArray cur (by simp; omega)
    simp only [List.size_toArray] at this
    rw [← hd, Nat.mul_one, this]
    rfl

def sortedI (l : List Int) : List Int := l.mergeSort fun x y => decide (x ≤ y)

theorem sort_row {w : World} {g cap : Nat} {l : List Int} (h : Row w (.slice (some ⟨g, 0, none⟩) l.length cap) (some g) 3 1 l.length (valsI l)) (hl : l.length ≤ 4096) :
    Calls Try.prog 36 #[.slice (some ⟨g, 0, none⟩) l.length cap] w fun e w' => e = .returned (.tuple #[]) ∧ Row w' (.slice (some ⟨g, 0, none⟩) l.length cap) (some g) 3 1 l.length (valsI (sortedI l)) ∧ Fr [g] w w' := by
  refine (Try.slices_Sort_int g 0 cap l w (row_holds h) h.lt (by omega)).mono ?_
  rintro e w' ⟨rfl, n, os, hw⟩
  exact ⟨rfl, put_back h (List.length_mergeSort _) hw⟩

/-- the leases that are over, among the first k -/
def ovL (B : Int → Bool) (F : Nat → LeE) : Nat → List Int
  | 0 => []
  | k + 1 => ovL B F k ++ if B (F k).id then [(F k).id] else []
theorem ovL_len (B : Int → Bool) (F : Nat → LeE) : ∀ k : Nat, (ovL B F k).length ≤ k
  | 0 => by simp [ovL]
  | k + 1 => by have := ovL_len B F k; simp only [ovL, List.length_append]; split <;> simp <;> omega
theorem drewQ {P : Program} {f : FuncId} {args : Array Value} {w : World} {n : Nat} {v : Value}
    (h : Calls P f args (w.drewN n) fun e w' => e = .returned v ∧ ∃ m, w' = (w.drewN n).drewN m) : Calls P f args (w.drewN n) fun e w'' => e = .returned v ∧ ∃ m, w'' = w.drewN m :=
  h.mono fun _ _ ⟨he, m, hm⟩ => ⟨he, n + m, by rw [hm, World.drewN_drewN]⟩
def fitD (el now : Int) (M : Int → Option Int) : Prop := ∀ id, -9223372036854775808 ≤ now - (M id).getD el ∧ now - (M id).getD el ≤ 9223372036854775807

set_option maxRecDepth 100000 in
set_option maxHeartbeats 2000000 in
theorem over1_grant (x : LeE) (p g b : Nat) (el now la : Int) (M : Int → Option Int) (w : World) (hp : Blk w p #[.pointer (some ⟨g, 0, none⟩)] 24) (hd : DkIn w g b el now la M) (hf : fitD el now M) :
    Calls Try.prog 34 #[.agg #[.int .i64 x.id, .int .i64 x.tenant, .int .i64 x.shaper, .int .i64 x.epoch, .int .i64 x.number, .int .i64 x.size, .int .i64 x.spent], .pointer (some ⟨p, 0, none⟩)] w fun e w' => e = .returned (.tuple #[.int .i64 x.id, .bool (overB el now la M x.id)]) ∧ Below w.heap.size w w' := by
  obtain ⟨W1, hW1⟩ : ∃ W1, W1 = w.alloc (.cells #[.int .i64 x.id, .int .i64 x.tenant, .int .i64 x.shaper, .int .i64 x.epoch, .int .i64 x.number, .int .i64 x.size, .int .i64 x.spent] 36) := ⟨_, rfl⟩
  have hB1 : Below w.heap.size w W1 := by rw [hW1]; exact (Below.refl _ _).alloc (Nat.le_refl _) _
  have hb1 : Blk W1 w.heap.size #[.int .i64 x.id, .int .i64 x.tenant, .int .i64 x.shaper, .int .i64 x.epoch, .int .i64 x.number, .int .i64 x.size, .int .i64 x.spent] 36 := by rw [hW1]; exact blk_new _ _ _
  obtain ⟨N, hN⟩ : ∃ N, N = w.heap.size := ⟨_, rfl⟩
  rw [← hN] at hb1
  have c0 : W1.cell? ⟨N, 0, none⟩ = some (.int .i64 x.id) := cell_at hb1 0
  have c1 : W1.cell? ⟨p, 0, none⟩ = some (.pointer (some ⟨g, 0, none⟩)) := cell_at (hp.step hB1) 0
  have HD := Lib.hid (hd.below hB1)
  have HF := Lib.hid (hf x.id)
  have HB1 := Lib.hid hB1
  have hl := hb1.lt
  clear hd hf hp hb1 hB1
  go_enter Try.func34, Try.ntmps34
  go_upto_region 1 with fail
  rw [← hN, ← hW1]
  clear hW1 hN
  go_wp2_with fail
  go_quiet ((go_at_call 35; exact drewQ (isOver_any _ _ _ _ _ _ _ _ (HD.out.below (belowN (Below.refl _ _) _)) HF.out)))
  go_wp2
  go_ret2
  exact ⟨rfl, belowN HB1.out _⟩

theorem grInt : (Try.prog.info? 3).map (fun i => (i.zero, i.size, i.bytes)) = some (some (.int .i64 0), 1, 8) := by kernel_rfl

set_option maxRecDepth 100000 in
set_option maxHeartbeats 4000000 in
theorem gather_any (a : Option Addr) (n cap bl o : Nat) (F : Nat → LeE) (p g b : Nat) (el now la : Int) (M : Int → Option Int) (w : World) (hs : LeIn w a n cap bl o F) (hn : n ≤ 4096) (hp : Blk w p #[.pointer (some ⟨g, 0, none⟩)] 24) (hd : DkIn w g b el now la M) (hf : fitD el now M) :
    Calls Try.prog 33 #[.slice a n cap, .func (.func 34) #[] #[.pointer (some ⟨p, 0, none⟩)]] w fun e w' => ∃ v ob, e = .returned v ∧ Row w' v ob 3 1 (ovL (overB el now la M) F n).length (valsI (ovL (overB el now la M) F n)) ∧ (∀ g, ob = some g → w.heap.size ≤ g) ∧ Below w.heap.size w w' := by
  have m1 := hs.le
  have m2 := hs.max
  unfold maxLen at m2
  obtain ⟨i0, hi, hz0, hz1, hz2⟩ := info_parts grInt
  have HI := Lib.hid hi
  have HZ0 := Lib.hid hz0
  have HZ1 := Lib.hid hz1
  have HZ2 := Lib.hid hz2
  obtain ⟨B, hB⟩ : ∃ B, B = overB el now la M := ⟨_, rfl⟩
  have CL := Lib.hid (fun x W (h : Below w.heap.size w W) => over1_grant x p g b el now la M W (hp.step h) (hd.below h) hf)
  rw [← hB] at CL ⊢
  have HS := Lib.hid hs
  clear hi hz0 hz1 hz2 hs hp hd hf hB
  go_enter Try.func33, Try.ntmps33
  go_wp2_with fail
  go_loopw [5, 12] (fun v i wr => ∃ (k : Nat) (ob : Option Nat), k ≤ n ∧ i = .int .i64 k ∧ Row wr v ob 3 1 (ovL B F k).length (valsI (ovL B F k)) ∧ (∀ g, ob = some g → w.heap.size ≤ g) ∧ Below w.heap.size w wr) (fun _ i _ => n - (intOf i).toNat)
  case atStart => exact ⟨0, none, Nat.zero_le _, rfl, Row.nil _ _ _, (fun _ h => by cases h), Below.refl _ _⟩
  case round =>
    obtain ⟨k, ob, hk, rfl, hrow, hg, hB⟩ := hrel
    by_cases hlt : k < n
    · have hsr := HS.out.below hB
      obtain ⟨e0, e1⟩ := hsr.at_ (by omega)
      subst e0
      obtain ⟨c0, c1, c2, c3, c4, c5, c6⟩ := hsr.cell k hlt
      obtain ⟨x, hx⟩ : ∃ x, x = F k := ⟨_, rfl⟩
      rw [← hx] at c0 c1 c2 c3 c4 c5 c6
      obtain ⟨W2, hW2⟩ : ∃ W2, W2 = wr.alloc (.cells #[.int .i64 x.id, .int .i64 x.tenant, .int .i64 x.shaper, .int .i64 x.epoch, .int .i64 x.number, .int .i64 x.size, .int .i64 x.spent] 36) := ⟨_, rfl⟩
      have hBW : Below wr.heap.size wr W2 := by rw [hW2]; exact (Below.refl _ _).alloc (Nat.le_refl _) _
      obtain ⟨N, hN⟩ : ∃ N, N = wr.heap.size := ⟨_, rfl⟩
      have hb2 : Blk W2 N #[.int .i64 x.id, .int .i64 x.tenant, .int .i64 x.shaper, .int .i64 x.epoch, .int .i64 x.number, .int .i64 x.size, .int .i64 x.spent] 36 := by rw [hW2, hN]; exact blk_new _ _ _
      have HROW := Lib.hid (hrow.congr (w' := W2) (fun g' e => by obtain rfl := e; exact hBW.block g' hrow.lt))
      have HG := Lib.hid hg
      have HB2 := Lib.hid (hB.trans (hBW.mono hB.size))
      have hsz : w.heap.size ≤ N := by rw [hN]; exact hB.size
      have HX := Lib.hid hx
      have C0 := cell_at hb2 0
      have C1 := cell_at hb2 1
      have C2 := cell_at hb2 2
      have C3 := cell_at hb2 3
      have C4 := cell_at hb2 4
      have C5 := cell_at hb2 5
      have C6 := cell_at hb2 6
      simp only [List.getElem?_toArray, List.getElem?_cons_zero, List.getElem?_cons_succ] at C0 C1 C2 C3 C4 C5 C6
      have hl2 := hb2.lt
      have hm : ovL B F (k + 1) = ovL B F k ++ if B x.id then [x.id] else [] := by rw [hx]; rfl
      have HM := Lib.hid hm
      have CX := Lib.hid (CL.out x)
      obtain ⟨L, hL⟩ : ∃ L, L = ovL B F k := ⟨_, rfl⟩
      have hLn : L.length ≤ k := by rw [hL]; exact ovL_len B F k
      rw [← hL] at HROW HM
      clear hB hrow hg hsr hx hb2 hBW hm hL
      go_upto_region 5 with fail
      rw [← hN, ← hW2]
      clear hN hW2 c0 c1 c2 c3 c4 c5 c6
      go_wp2_with fail
      go_at_call 34
      refine Calls.mono (CX.out _ HB2.out) ?_
      rintro e W3 ⟨rfl, hB3⟩
      have HROW3 := Lib.hid (HROW.out.congr (w' := W3) (fun g' e => by obtain rfl := e; exact hB3.block g' HROW.out.lt))
      have HB3 := Lib.hid (HB2.out.trans (hB3.mono HB2.out.size))
      clear hB3 C0 C1 C2 C3 C4 C5 C6 HROW HB2
      by_cases hb : B x.id = true
      · rw [if_pos hb] at HM
        go_wp2_with (at_builtin; refine wpList_append_row _ rfl (.tmp 23) (.tmp 25) 33 rfl 3 i0 _ 1 8 Try.underlying33 HI.out HZ0.out HZ1.out HZ2.out rfl (by decide) _ ob L.length (valsI L) rfl (HROW3.out.alloc _) ⟨W3.heap.size, 0, none⟩ 1 1 [.int .i64 x.id] rfl (by decide) rfl ?c1 ?c2 ?c3 ?c4 ?_)
        case c1 =>
          intro j u hu
          have hj : j = 0 := by have := (List.getElem?_eq_some_iff.1 hu).1; simpa using this
          subst hj
          obtain rfl : Value.int .i64 x.id = u := by simpa using hu
          exact cell_at (heap_alloc_new W3 _) 0
        case c2 => intro u hu; exact (List.all_eq_true (p := fun u : Value => u.oneCell')).1 rfl u hu
        case c3 => unfold maxLen; omega
        case c4 => omega
        intro v' ob' W4 hrow4 hg4 hob4
        have hs9 := HB3.out.size
        go_wp2_with fail
        go_roundw
        case rel =>
          refine ⟨k + 1, some ob', by omega, by go_num, ?_, ?_, (HB3.out.alloc HB3.out.size _).grown hg4 (by simp; omega) (fun g e => HG.out g e)⟩
          · rw [HM.out, List.length_append]
            unfold valsI
            rw [List.map_append]
            exact hrow4
          · intro g e
            obtain rfl := Option.some.inj e
            have hs9 := HB3.out.size
            rcases hob4 with h | h
            · exact HG.out _ h
            · first | omega | (simp at h; omega)
        case measure => first | (simp [intOf]; done) | (simp [intOf]; omega)
      · rw [if_neg hb, List.append_nil] at HM
        have hb9 : B x.id = false := by simpa using hb
        go_wp2_with fail
        go_roundw
        case rel => exact ⟨k + 1, ob, by omega, by go_num, by rw [HM.out]; exact HROW3.out, HG.out, HB3.out⟩
        case measure => first | (simp [intOf]; done) | (simp [intOf]; omega)
    · obtain rfl : k = n := by omega
      have HROW := Lib.hid hrow
      have HG := Lib.hid hg
      have HB := Lib.hid hB
      clear hB hrow hg
      go_wp2_with fail
      go_ret
      exact ⟨_, _, rfl, HROW.out, HG.out, HB.out⟩
end Go.Proofs.Ythmjlomlceljkaa
