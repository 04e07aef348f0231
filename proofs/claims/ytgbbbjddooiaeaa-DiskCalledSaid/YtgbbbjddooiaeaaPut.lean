/-
  put: bytes laid behind a file's text, whatever they are and wherever they come from.
-/
import Derived.Test.YtgbbbjddooiaeaaArms
namespace Go.Proofs.Ytgbbbjddooiaeaa
open Go.RowKit

/-- A file whose last block has room, in a world. -/
structure Ready (w : World) (F g M cap u : Nat) (f : PF) (t : List UInt8) (cur : Array Value) : Prop where
  head : w.heap[F]? = some (.cells #[.string f.name, .slice (some ⟨g, 0, none⟩) (M + 1) cap, .int .i64 (f.sure : Nat)] 76 (0, 0))
  row : w.heap[g]? = some (.cells cur 92 (0, 0))
  size : cur.size = cap * 513
  le : M + 1 ≤ cap
  max : cap ≤ maxLen
  room : Room (cur.toList.take ((M + 1) * 513)) (M + 1) u t

theorem Ready.used {w : World} {F g M cap u : Nat} {f : PF} {t : List UInt8} {cur : Array Value} (h : Ready w F g M cap u f t cur) : cur[M * 513]? = some (.int .i64 (u : Nat)) := by
  have h1 := h.room.used M (by omega)
  rw [List.getElem?_take, if_pos (by omega), Array.getElem?_toList, Nat.mul_comm 513 M] at h1
  rw [h1]
  have e1 := h.room.len
  have e2 := h.room.lt
  simp only [Nat.add_sub_cancel] at e1
  rw [show min 512 (t.length - 512 * M) = u by omega]

theorem Ready.fit {w : World} {F g M cap u m : Nat} {f : PF} {t : List UInt8} {cur : Array Value} (h : Ready w F g M cap u f t cur) (hm : u + m ≤ 512) : M * 513 + 1 + u + m ≤ cur.size := by
  have := h.size
  have := h.le
  have : (M + 1) * 513 ≤ cap * 513 := Nat.mul_le_mul_right _ h.le
  omega

/-- The row behind the copy: the count's cell is as it was. -/
theorem Ready.count {w w2 : World} {F g M cap u : Nat} {f : PF} {t : List UInt8} {cur : Array Value} (h : Ready w F g M cap u f t cur) (bs : List UInt8) (hm : u + bs.length ≤ 512)
    (h2 : w2.heap[g]? = some (.cells (splice cur.toList (M * 513 + 1 + u) (bytesV bs)).toArray 92 (0, 0))) : w2.cell? ⟨g, M * 513, none⟩ = some (.int .i64 (u : Nat)) := by
  rw [cell_at h2, List.getElem?_toArray, splice_at _ _ _ (by rw [bytesV_length, Array.length_toList]; exact h.fit hm), if_pos (by omega), Array.getElem?_toList, h.used]

/-- Behind the copy and the count. -/
theorem Ready.put {w w2 : World} {F g M cap u m : Nat} {f : PF} {t : List UInt8} {cur : Array Value} (h : Ready w F g M cap u f t cur) (bs : List UInt8) (hb : bs.length = m) (h1 : 1 ≤ m) (hm : u + m ≤ 512) (hFg : F ≠ g)
    (h2 : w2.heap[g]? = some (.cells (splice cur.toList (M * 513 + 1 + u) (bytesV bs)).toArray 92 (0, 0))) (h3 : Fr [g] w w2)
    (hok : PF.ok { f with text := t ++ bs }) :
    FRep (w2.setCell ⟨g, M * 513, none⟩ (.int .i64 ((u : Int) + (m : Int)))) (F, some g) { f with text := t ++ bs } := by
  subst hb
  rw [← Int.natCast_add]
  have hlt := lt_of_block h.head
  have hle : (M + 1) * 513 ≤ cap * 513 := Nat.mul_le_mul_right _ h.le
  have hfit := h.fit hm
  refine ⟨.slice (some ⟨g, 0, none⟩) (M + 1) cap, M + 1, _, ?_, Row.mk (heap_setCell_same h2 _ _) h.le h.max ?_ rfl, ?_, hok⟩
  · rw [heap_setCell_ne _ _ _ _ hFg, h3.block F hlt (by simpa using hFg)]; exact h.head
  · rw [Array.size_setIfInBounds, List.size_toArray, length_splice _ _ _ (by rw [bytesV_length, Array.length_toList]; exact hfit), Array.length_toList, h.size]
  · have := h.room.put bs h1 hm
    simp only [Nat.add_sub_cancel] at this
    rw [Array.toList_setIfInBounds, List.take_set, take_splice _ _ _ _ (by rw [bytesV_length]; omega) (by rw [Array.length_toList, h.size]; exact hle)]
    exact this

/-- A file whose last block is not full. -/
theorem FRep.ready {w : World} {F : Nat} {g : Option Nat} {f : PF} {v : Value} {n : Nat} {xs : List Value} (h1 : w.heap[F]? = some (.cells #[.string f.name, v, .int .i64 (f.sure : Nat)] 76 (0, 0)))
    (h2 : Row w v g 92 513 n xs) (h3 : Blocks xs n f.text) (hT : f.text.length ≠ 512 * n) : ∃ g0 cap cur M, g = some g0 ∧ n = M + 1 ∧ v = .slice (some ⟨g0, 0, none⟩) (M + 1) cap ∧ Ready w F g0 M cap (f.text.length - 512 * M) f f.text cur := by
  have hr := h3.room h2.len hT
  rcases h2.cases with ⟨rfl, rfl, rfl, rfl⟩ | ⟨g0, cap, cur, rfl, rfl, h4, h5, h6, h7, rfl⟩
  · exact absurd hr.pos (by omega)
  · obtain ⟨M, rfl⟩ : ∃ M, n = M + 1 := ⟨n - 1, by have := hr.pos; omega⟩
    exact ⟨g0, cap, cur, M, rfl, rfl, rfl, h1, h4, h7, h5, h6, hr⟩

/-- A file whose blocks are full, behind an append of an empty one. -/
theorem FRep.grown {w w1 w2 : World} {F : Nat} {g : Option Nat} {f : PF} {v v' : Value} {n ob' : Nat} {xs : List Value} (h1 : w.heap[F]? = some (.cells #[.string f.name, v, .int .i64 (f.sure : Nat)] 76 (0, 0)))
    (h2 : Row w v g 92 513 n xs) (h3 : Blocks xs n f.text) (hT : f.text.length = 512 * n) (hFg : g ≠ some F) (hw : w1.heap = w.heap)
    (h4 : Row w2 v' (some ob') 92 513 (n + 1) (xs ++ zb.toList)) (h5 : (w1.alloc (.cells zb 92)).grownBy w2 g) (h6 : g = some ob' ∨ ob' = w.heap.size + 1) :
    ∃ cap cur, v' = .slice (some ⟨ob', 0, none⟩) (n + 1) cap ∧ ob' ≠ F ∧ w2.heap[F]? = some (.cells #[.string f.name, v, .int .i64 (f.sure : Nat)] 76 (0, 0)) ∧ Ready (w2.setCell ⟨F, 1, none⟩ v') F ob' n cap 0 f f.text cur := by
  have hFlt := lt_of_block h1
  have hne : ob' ≠ F := by
    rintro rfl
    rcases h6 with h6 | h6
    · exact hFg h6
    · omega
  have hF2 : w2.heap[F]? = some (.cells #[.string f.name, v, .int .i64 (f.sure : Nat)] 76 (0, 0)) := by
    rw [h5.block F (by simp [hw]; omega) (fun e => hFg e.symm), Below.heap_alloc _ _ _ (by rw [hw]; exact hFlt), hw]
    exact h1
  have hr := h3.grow h2.len hT
  rcases h4.cases with ⟨e, _⟩ | ⟨g0, cap, cur, e, rfl, h7, h8, h9, h10, h11⟩
  · cases e
  · obtain rfl := Option.some.inj e
    refine ⟨cap, cur, rfl, hne, hF2, ?_, ?_, h10, h8, h9, by rw [h11]; exact hr⟩
    · have := heap_setCell_same hF2 1 (.slice (some ⟨ob', 0, none⟩) (n + 1) cap)
      simpa using this
    · rw [heap_setCell_ne _ _ _ _ hne]; exact h7

theorem addr_plain (b o j : Nat) : (⟨b, o, none⟩ : Addr).add j = ⟨b, o + j, none⟩ := by simp [Addr.add]
theorem sl_under : Try.prog.underlying 35 = some (.slice (Try.prog.elem 35)) := by kernel_rfl
theorem sl_elem (w : World) : (sizeOf (Try.prog.elem 35)).run Try.prog w = .ok 1 w := by kernel_rfl

/-- What is cut off the bytes behind a copy. -/
theorem cut_rest (bb o r c m : Nat) (h1 : m ≤ r) (h2 : r ≤ c) : ∃ A c', (m < r → A = (⟨bb, o + m, none⟩ : Addr)) ∧ r - m ≤ c' ∧
    (∀ W : World, (Instr.slice 35 (.slice (some ⟨bb, o, none⟩) r c) (some (.int .i64 (m : Nat))) none none).run Try.prog W = .ok (.slice (some A) (r - m) c') W) := by
  refine ⟨if c = m then ⟨bb, o, none⟩ else ⟨bb, o + m, none⟩, c - m, fun h => if_neg (by omega), by omega, fun W => ?_⟩
  rw [run_slice_l (P := Try.prog) W 35 (some ⟨bb, o, none⟩) r c sl_under .i64 (m : Nat) (by omega) (by omega), sl_elem]
  simp only [Result.andThen, sliced, Int.toNat_natCast, Nat.mul_one, Option.map_some]
  by_cases hc : c = m
  · simp [hc]
  · simp [hc, Addr.add]

def slen : Value → Nat | .slice _ n _ => n | _ => 0

set_option maxHeartbeats 4000000 in
set_option maxRecDepth 100000 in
theorem put_any {w : World} {F : Nat} {g : Option Nat} {f : PF} (hf : FRep w (F, g) f) (bb bo len cap : Nat) (ao : Option Addr) (bs : List UInt8) (hbs : bs.length = len) (hcap : len ≤ cap) (ha : 0 < len → ao = some ⟨bb, bo, none⟩)
    (hsrc : ∀ j, j < len → w.cell? ⟨bb, bo + j, none⟩ = some (.int .u8 ((bs.getD j 0).toNat : Nat))) (hbb : bb < w.heap.size) (hF : bb ≠ F) (hg : g ≠ some bb) (hgF : g ≠ some F) (hfit : f.text.length + len ≤ 1048576) :
    Calls Try.prog 57 #[.pointer (some ⟨F, 0, none⟩), .slice ao len cap] w fun r w' => r = .returned (.tuple #[]) ∧ ∃ g', FRep w' (F, g') { f with text := f.text ++ bs } ∧ Fr (foot1 (F, g)) w w' ∧ (∀ x, g' = some x → g = some x ∨ w.heap.size ≤ x) := by
  go_enter Try.func57, Try.ntmps57
  go_wp2_with fail
  go_loopw [1] (fun v wr => ∃ k g' a c, k ≤ len ∧ v = .slice a (len - k) c ∧ len - k ≤ c ∧ (k < len → a = some ⟨bb, bo + k, none⟩) ∧ FRep wr (F, g') { f with text := f.text ++ bs.take k } ∧ Fr (foot1 (F, g)) w wr ∧ (∀ x, g' = some x → g = some x ∨ w.heap.size ≤ x))
    (fun v _ => slen v)
  case atStart => exact ⟨0, g, ao, cap, by omega, rfl, hcap, by simpa using ha, by simpa using hf, Fr.refl _ _, fun x hx => .inl hx⟩
  case round =>
  obtain ⟨k, g', a, c, hk, rfl, hc, hak, hfr, hFr, hgn⟩ := hrel
  obtain ⟨r, hr⟩ : ∃ r, r = len - k := ⟨_, rfl⟩
  rw [← hr]
  by_cases hr0 : 0 < r
  · obtain ⟨t, ht⟩ : ∃ t, t = f.text ++ bs.take k := ⟨_, rfl⟩
    rw [← ht] at hfr
    obtain ⟨v0, n, xs, hb, hrow, hbl, hok⟩ := hfr
    obtain rfl := hak (by omega)
    have hrc : r ≤ c := by omega
    have htl : t.length = f.text.length + k := by rw [ht, List.length_append, List.length_take]; omega
    have hbW : bb < wr.heap.size := by have := hFr.size; omega
    have hgbb : g' ≠ some bb := fun e => by rcases hgn _ e with e | e <;> first | exact hg e | omega
    have hgF' : g' ≠ some F := fun e => by have := hf.lt F (by simp [foot1]); rcases hgn _ e with e | e <;> first | exact hgF e | omega
    have hs := fun nq => size_some (w := wr.drewN nq) (p := (F, g')) (f := { f with text := t }) ⟨v0, n, xs, hb, hrow.congr fun _ _ => rfl, hbl, hok⟩
    obtain ⟨L, hL⟩ : ∃ L, L = t.length := ⟨_, rfl⟩
    simp only [← hL] at hs
    have hc1 : wr.cell? ⟨F, 1, none⟩ = some v0 := cell_at hb 1
    have hsz : n ≤ 2048 := by have := hbl.lo; simp only at this; omega
    have hsrcW : ∀ j, j < len → wr.cell? ⟨bb, bo + j, none⟩ = some (.int .u8 ((bs.getD j 0).toNat : Nat)) := fun j hj => by
      rw [← hsrc j hj]; exact World.cell?_of_block (hFr.block bb hbb (by simp [foot1, hF]; exact fun e => hg e))
    by_cases hLn : L = 512 * n
    · obtain ⟨i0, hi, hz0, hz1, hz2⟩ := info_parts infoB
      have Hi : Hid (Try.prog.info? 92 = some i0) := hi
      have Hz0 : Hid (i0.zero = some (.agg zb)) := hz0
      have Hz1 : Hid (i0.size = 513) := hz1
      have Hz2 : Hid (i0.bytes = 520) := hz2
      clear hi hz0 hz1 hz2
      have hT : ((L : Int) == (n : Int) * 512) = true := by simp; omega
      obtain ⟨av, cv, rfl, hcv, hcm, hav⟩ := hrow.shape
      have HAV : Hid (av = g'.map (fun g => ⟨g, 0, none⟩)) := hav
      have HFlt : F < wr.heap.size := lt_of_block hb
      have hLt : t.length = 512 * n := by omega
      obtain ⟨m, hm⟩ : ∃ m, m = min r 512 := ⟨_, rfl⟩
      obtain ⟨bs1, hbs1⟩ : ∃ b, b = (bs.drop k).take m := ⟨_, rfl⟩
      have hb1 : bs1.length = m := by rw [hbs1]; simp; omega
      have hm1 : 1 ≤ m := by omega
      have hum : 0 + m ≤ 512 := by omega
      have hum' : 0 + bs1.length ≤ 512 := by omega
      obtain ⟨A, c', hA, hc', hcut⟩ := cut_rest bb (bo + k) r c m (by omega) (by omega)
      have HN : Hid ((bytesV bs1).length = Nat.min r (512 - 0)) := by show _ = _; rw [bytesV_length, hb1, hm]
      have HS0 : Hid (∀ W : World, (∀ j, j < len → W.cell? ⟨bb, bo + j, none⟩ = wr.cell? ⟨bb, bo + j, none⟩) → ∀ j v, (bytesV bs1)[j]? = some v → W.cell? ((⟨bb, bo + k, none⟩ : Addr).add j) = some v) := by
        intro W hW j v hv
        have hj : j < m := by
          rcases Nat.lt_or_ge j m with h | h
          · exact h
          · rw [List.getElem?_eq_none (by rw [bytesV_length]; omega)] at hv; cases hv
        rw [bytesV_at _ _ (by omega)] at hv
        obtain rfl := Option.some.inj hv
        rw [addr_plain, Nat.add_assoc, hW (k + j) (by omega), hsrcW (k + j) (by omega), hbs1]
        congr 4
        simp only [List.getD]
        rw [List.getElem?_take, if_pos hj, List.getElem?_drop]
      have HB : Hid (bs1.length = m) := hb1
      have HM : Hid (m = min r (512 - 0)) := hm
      have HBm : Hid ((bytesV bs1).length = m) := by show _ = _; rw [bytesV_length, hb1]
      have hmr : m ≤ r := by omega
      have HT : Hid (t ++ bs1 = f.text ++ bs.take (k + m)) := by show _ = _; rw [ht, hbs1, List.take_add, List.append_assoc]
      have HOK : Hid (PF.ok { f with text := t ++ bs1 }) := ⟨hok.1, by have := hok.2.1; simp only at this ⊢; rw [List.length_append]; omega, by simp only; rw [List.length_append, hb1]; omega⟩
      have HR : Hid (r = len - k) := hr
      have HL : Hid (L = t.length) := hL
      have HLt : Hid (t.length = 512 * n) := hLt
      have HBF : Hid (wr.heap[F]? = some (.cells #[.string f.name, .slice av n cv, .int .i64 (f.sure : Nat)] 76 (0, 0))) := hb
      clear hsrcW hsrc hb hb1 hm hbs1 htl ht hok hf hr hL hLn hLt hav
      go_wp2_with fail
      go_quiet ((go_at_call 56; exact keepsQ (hs _)))
      clear hs
      go_wp2_with (first
        | (with_reducible refine wpList_build_to rfl 92 #[] rfl rfl zb built_zb ?_)
        | (with_reducible refine wpList_slice_one rfl 74 92 (.tmp 23) rfl zb rfl i0 Try.underlying74 Hi.out Hz0.out (by rw [Hz1.out, zb_size]) (by rw [zb_size]; decide) (by rw [zb_size]; decide) ?_)
        | (at_builtin; refine wpList_append_row _ rfl (.tmp 22) (.tmp 24) 74 rfl 92 i0 (.agg zb) 513 520 Try.underlying74 Hi.out Hz0.out Hz1.out Hz2.out zb_size (by decide) _ g' n xs rfl ?c0 ⟨wr.heap.size, 0, none⟩ 1 1 zb.toList rfl (by decide) ?cz ?c1 zb_one ?c3 ?c4 ?_))
      case c0 => exact (hrow.congr (w' := wr.drewN _) fun _ _ => rfl).alloc _
      case cz => rw [Array.length_toList, zb_size]
      case c1 =>
        intro j u hj
        rw [addr_plain, World.cell?_alloc_at _ _ _ _ (by simp), Nat.zero_add, ← Array.getElem?_toList]
        exact hj
      case c3 => unfold maxLen; omega
      case c4 => omega
      intro v' ob' w3 hrow3 hg3 hob3
      have hG := FRep.grown (f := { f with text := t }) HBF.out hrow hbl HLt.out hgF' (by rfl) hrow3 hg3 (by simpa using hob3)
      obtain ⟨cap2, cur, rfl, hobF, hF3, hRdy⟩ := hG
      have hcF := cell_at hF3 1
      have hfF := free_at hF3 1
      have hFr3 : Fr (foot1 (F, g)) w w3 := by
        refine Fr.trans (l' := foot1 (F, g')) hFr ⟨hg3.os, hg3.tape, hg3.output, by have h9 := hg3.size; rw [World.size_alloc] at h9; exact Nat.le_trans (Nat.le_succ _) h9, fun i hi hn => ?_⟩ ?_
        · rw [hg3.block i (by simp; omega) (fun e => hn (by simp [foot1, ← e])), Below.heap_alloc _ _ _ (by simpa using hi)]; rfl
        · intro x hx
          simp only [foot1, List.mem_cons, Option.mem_toList] at hx ⊢
          rcases hx with rfl | hx
          · exact .inl (.inl rfl)
          · rcases hgn x hx with e | e
            · exact .inl (.inr e)
            · exact .inr e
      have hgn3 : ∀ x, some ob' = some x → g = some x ∨ w.heap.size ≤ x := by
        intro x hx
        obtain rfl := Option.some.inj hx
        rcases hob3 with e | e
        · exact hgn ob' e
        · have h9 := hFr.size; exact .inr (by first | (simp at e; omega) | omega)
      have hbb3 : ob' ≠ bb := by
        rintro rfl
        rcases hgn3 _ rfl with e | e
        · exact hg e
        · omega
      have hW3 : ∀ j, j < len → w3.cell? ⟨bb, bo + j, none⟩ = wr.cell? ⟨bb, bo + j, none⟩ := fun j hj => by
        refine World.cell?_of_block ?_
        rw [hg3.block bb (by simp; omega) (fun e => hgbb e.symm), Below.heap_alloc _ _ _ (by simpa using hbW)]; rfl
      have hFr4 : Fr (foot1 (F, g)) w (w3.setCell ⟨F, 1, none⟩ (.slice (some ⟨ob', 0, none⟩) (n + 1) cap2)) := hFr3.setCell _ (.inl (by simp [foot1])) _
      have hW4 : ∀ j, j < len → (w3.setCell ⟨F, 1, none⟩ (.slice (some ⟨ob', 0, none⟩) (n + 1) cap2)).cell? ⟨bb, bo + j, none⟩ = wr.cell? ⟨bb, bo + j, none⟩ := fun j hj => by
        rw [← hW3 j hj]
        exact World.cell?_of_block (heap_setCell_ne _ _ _ _ hF)
      have HS : Hid _ := HS0.out _ hW4
      have hF4 := heap_setCell_same hF3 1 (.slice (some ⟨ob', 0, none⟩) (n + 1) cap2)
      obtain ⟨wx, hwx⟩ : ∃ wx, wx = w3.setCell ⟨F, 1, none⟩ (.slice (some ⟨ob', 0, none⟩) (n + 1) cap2) := ⟨_, rfl⟩
      rw [← hwx] at hRdy hFr4 HS
      have HWX : Hid (wx = w3.setCell ⟨F, 1, none⟩ (.slice (some ⟨ob', 0, none⟩) (n + 1) cap2)) := hwx
      clear hrow3 hg3 hob3 hrow hbl hF3 hFr3 hW3 hW4 hwx hF4 HS0 HBF Hi Hz0 Hz1 Hz2 HAV
      go_wp2_with fail
      rw [← HWX.out]
      have hcx : wx.cell? ⟨F, 1, none⟩ = some (.slice (some ⟨ob', 0, none⟩) (n + 1) cap2) := cell_at hRdy.head 1
      have huse : wx.cell? ⟨ob', n * 513, none⟩ = some (.int .i64 0) := by rw [cell_at hRdy.row, hRdy.used]; rfl
      have HRow : Hid (wx.heap[ob']? = some (.cells cur 92 (0, 0))) := hRdy.row
      have hsl := slice_block_from ob' (n * 513 + 1) 0 (by omega)
      have HFit : Hid (n * 513 + 1 + 0 + (bytesV bs1).length ≤ cur.size) := by show _ ≤ _; rw [HBm.out]; exact hRdy.fit hum
      have HFg : Hid (F ≠ ob') := fun e => hobF e.symm
      clear hcF hfF hobF HWX hc1
      go_quiet (fail)
      go_wp2_with fail
      go_region_law (refine step_copy_fr rfl (.tmp 46) (.tmp 47) 35 35 rfl 5 Try.underlying35 (by kernel_rfl) ob' (n * 513 + 1 + 0) (512 - 0) (512 - 0) ⟨bb, bo + k, none⟩ r c rfl rfl cur 92 HRow.out (bytesV bs1) HN.out HS.out HFit.out (bytesV_one bs1) ?_; intro w2 HG2 HF2; have hcnt := hRdy.count bs1 hum' HG2.out; have hfrz := free_at HG2.out (n * 513); have hbm := HBm.out)
      go_wp2_with fail
      go_roundw
      case rel =>
        have hF3 : Fr [ob'] wx w2 := ⟨HF2.out.os, HF2.out.tape, HF2.out.output, HF2.out.size, HF2.out.block⟩
        have hP := hRdy.put (f := { f with text := t }) bs1 HB.out hm1 hum HFg.out HG2.out hF3 HOK.out
        simp only [Int.natCast_zero, Int.zero_add] at hP
        refine ⟨k + m, some ob', some A, c', by have := HR.out; omega, by rw [HR.out, Nat.sub_sub], by have := HR.out; omega, fun h => by rw [hA (by have := HR.out; omega), Nat.add_assoc], by rw [← HT.out]; exact hP, ?_, hgn3⟩
        refine Fr.setCell (hFr4.trans hF3 fun x hx => ?_) _ ?_ _
        · simp only [List.mem_singleton] at hx
          subst hx
          rcases hgn3 _ rfl with e | e
          · exact .inl (by simp [foot1, e])
          · exact .inr e
        · rcases hgn3 _ rfl with e | e
          · exact .inl (by simp [foot1, e])
          · exact .inr e
      case measure => simp [slen]; omega
    · obtain ⟨g0, cap2, cur, M, rfl, rfl, rfl, hRdy⟩ := FRep.ready (f := { f with text := t }) hb hrow hbl (by simp only; omega)
      have hT : ((L : Int) == ((M : Int) + 1) * 512) = false := by simp; omega
      simp only at hRdy
      obtain ⟨u, hu⟩ : ∃ u, u = t.length - 512 * M := ⟨_, rfl⟩
      rw [← hu] at hRdy
      have hul := hRdy.room.lt
      have hlu := hRdy.room.len
      simp only [Nat.add_sub_cancel] at hlu
      obtain ⟨m, hm⟩ : ∃ m, m = min r (512 - u) := ⟨_, rfl⟩
      obtain ⟨bs1, hbs1⟩ : ∃ b, b = (bs.drop k).take m := ⟨_, rfl⟩
      have hb1 : bs1.length = m := by rw [hbs1]; simp; omega
      have hm1 : 1 ≤ m := by omega
      have hum : u + m ≤ 512 := by omega
      have hum' : u + bs1.length ≤ 512 := by omega
      obtain ⟨A, c', hA, hc', hcut⟩ := cut_rest bb (bo + k) r c m (by omega) (by omega)
      have huse : wr.cell? ⟨g0, M * 513, none⟩ = some (.int .i64 (u : Nat)) := by rw [cell_at hRdy.row, hRdy.used]
      have HRow : Hid (wr.heap[g0]? = some (.cells cur 92 (0, 0))) := hRdy.row
      have hsl := slice_block_from g0 (M * 513 + 1) u hul
      have HN : Hid ((bytesV bs1).length = Nat.min r (512 - u)) := by show _ = _; rw [bytesV_length, hb1, hm]
      have HS : Hid (∀ j v, (bytesV bs1)[j]? = some v → wr.cell? ((⟨bb, bo + k, none⟩ : Addr).add j) = some v) := by
        intro j v hv
        have hj : j < m := by
          rcases Nat.lt_or_ge j m with h | h
          · exact h
          · rw [List.getElem?_eq_none (by rw [bytesV_length]; omega)] at hv; cases hv
        rw [bytesV_at _ _ (by omega)] at hv
        obtain rfl := Option.some.inj hv
        rw [addr_plain, Nat.add_assoc, hsrcW (k + j) (by omega), hbs1]
        congr 4
        simp only [List.getD]
        rw [List.getElem?_take, if_pos hj, List.getElem?_drop]
      have HFit : Hid (M * 513 + 1 + u + (bytesV bs1).length ≤ cur.size) := by show _ ≤ _; rw [bytesV_length, hb1]; exact hRdy.fit hum
      have HB : Hid (bs1.length = m) := hb1
      have HM : Hid (m = min r (512 - u)) := hm
      have HBm : Hid ((bytesV bs1).length = m) := by show _ = _; rw [bytesV_length, hb1]
      have hmr : m ≤ r := by omega
      have HT : Hid (t ++ bs1 = f.text ++ bs.take (k + m)) := by show _ = _; rw [ht, hbs1, List.take_add, List.append_assoc]
      have HOK : Hid (PF.ok { f with text := t ++ bs1 }) := ⟨hok.1, by have := hok.2.1; simp only at this ⊢; rw [List.length_append]; omega, by simp only; rw [List.length_append, hb1]; omega⟩
      have HFg : Hid (F ≠ g0) := fun e => hgF' (by rw [e])
      have hM2 : M ≤ 2048 := by omega
      have HR : Hid (r = len - k) := hr
      have HL : Hid (L = t.length) := hL
      clear hsrcW hsrc hb hrow hbl hb1 hm hbs1 hlu hu htl ht hok hf hr hL hLn
      go_wp2_with fail
      go_quiet ((go_at_call 56; exact keepsQ (hs _)))
      clear hs
      go_wp2_with fail
      go_quiet (fail)
      go_wp2_with fail
      go_region_law (refine step_copy_fr rfl (.tmp 46) (.tmp 47) 35 35 rfl 5 Try.underlying35 (by kernel_rfl) g0 (M * 513 + 1 + u) (512 - u) (512 - u) ⟨bb, bo + k, none⟩ r c rfl rfl cur 92 HRow.out (bytesV bs1) HN.out HS.out HFit.out (bytesV_one bs1) ?_; intro w2 HG2 HF2; have hcnt := hRdy.count bs1 hum' HG2.out; have hfrz := free_at HG2.out (M * 513); have hbm := HBm.out)
      go_wp2_with fail
      go_roundw
      case rel =>
        have hF3 : Fr [g0] wr w2 := ⟨HF2.out.os, HF2.out.tape, HF2.out.output, HF2.out.size, HF2.out.block⟩
        have hP := hRdy.put (f := { f with text := t }) bs1 HB.out hm1 hum HFg.out HG2.out hF3 HOK.out
        refine ⟨k + m, some g0, some A, c', by have := HR.out; omega, by rw [HR.out, Nat.sub_sub], by have := HR.out; omega, fun h => by rw [hA (by have := HR.out; omega), Nat.add_assoc], by rw [← HT.out]; exact hP, ?_, hgn⟩
        refine Fr.setCell (hFr.trans hF3 fun x hx => ?_) _ ?_ _
        · simp only [List.mem_singleton] at hx
          subst hx
          rcases hgn _ rfl with e | e
          · exact .inl (by simp [foot1, e])
          · exact .inr e
        · rcases hgn _ rfl with e | e
          · exact .inl (by simp [foot1, e])
          · exact .inr e
      case measure => simp [slen]; omega
  · have hr1 : r = 0 := by omega
    subst hr1
    have hkl : Hid (k = len) := show _ = _ by omega
    clear hsrc hak hr
    go_wp2
    go_end0
    refine ⟨rfl, g', ?_, hFr, hgn⟩
    rw [hkl.out, List.take_of_length_le (by omega)] at hfr
    exact hfr

end Go.Proofs.Ytgbbbjddooiaeaa
