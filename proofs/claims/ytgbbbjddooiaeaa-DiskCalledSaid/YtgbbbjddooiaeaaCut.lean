/-
  cut: a file's text cut down to its first bytes, all of them sure.
-/
import Derived.Test.YtgbbbjddooiaeaaPlan
namespace Go.Proofs.Ytgbbbjddooiaeaa
open Go.RowKit

theorem Blocks.cut {xs : List Value} {n k q : Nat} {t : List UInt8} (h : Blocks xs n t) (hs : xs.length = n * 513) (hk : k ≤ t.length) (hq : q = (k + 511) / 512) (hq1 : 1 ≤ q) :
    Blocks ((xs.take (q * 513)).set ((q - 1) * 513) (.int .i64 (k - 512 * (q - 1) : Nat))) q (t.take k) := by
  have hlo := h.lo
  have hhi := h.hi
  have hqn : q ≤ n := by omega
  have hqs : q * 513 ≤ xs.length := by rw [hs]; exact Nat.mul_le_mul_right _ hqn
  have hl : (t.take k).length = k := by simp; omega
  refine ⟨by omega, by omega, fun i hi => ?_, fun j hj => ?_, fun v hv => ?_⟩
  · rw [hl]
    by_cases hin : i = q - 1
    · subst hin
      rw [show 513 * (q - 1) = (q - 1) * 513 by omega, List.getElem?_set_self (by simp; omega)]
      congr 3; omega
    · rw [List.getElem?_set_ne (by omega), List.getElem?_take, if_pos (by omega), h.used i (by omega)]
      congr 3; omega
  · rw [hl] at hj
    rw [List.getElem?_set_ne (by omega), List.getElem?_take, if_pos (by omega), h.byte j (by omega)]
    simp [List.getD, List.getElem?_take, hj]
  · rcases List.mem_or_eq_of_mem_set hv with hv | rfl
    · exact h.one v (List.mem_of_mem_take hv)
    · rfl

theorem bl_under : Try.prog.underlying 74 = some (.slice (Try.prog.elem 74)) := by kernel_rfl
theorem bl_elem (w : World) : (sizeOf (Try.prog.elem 74)).run Try.prog w = .ok 513 w := by kernel_rfl

theorem slice_blocks (a : Option Addr) (n cap q : Nat) (hq : q ≤ cap) (w : World) : (Instr.slice 74 (.slice a n cap) none (some (.int .i64 (q : Nat))) none).run Try.prog w = .ok (.slice a q cap) w := by
  rw [run_slice_h (P := Try.prog) w 74 a n cap bl_under .i64 (q : Nat) (by omega) (by omega), bl_elem]
  cases a <;> simp [Result.andThen, sliced, Addr.add]

/-- What cut leaves of a file. -/
def PF.cut (f : PF) (k : Nat) : PF := { f with text := f.text.take k, sure := k }
theorem PF.cut_ok {f : PF} {k : Nat} (h : f.ok) (hk : k ≤ f.text.length) : (f.cut k).ok := by
  obtain ⟨h1, h2, h3⟩ := h
  refine ⟨h1, ?_, ?_⟩ <;> simp [PF.cut] <;> omega

set_option maxHeartbeats 1000000 in
set_option maxRecDepth 100000 in
theorem cut_any {w : World} {F : Nat} {g : Option Nat} {f : PF} (hf : FRep w (F, g) f) (k : Nat) (hk : k ≤ f.text.length) (hgF : g ≠ some F) :
    Calls Try.prog 62 #[.pointer (some ⟨F, 0, none⟩), .int .i64 (k : Nat)] w fun r w' => r = .returned (.tuple #[]) ∧ FRep w' (F, g) (f.cut k) ∧ Fr (foot1 (F, g)) w w' := by
  obtain ⟨v, n, xs, hb, hrow, hbl, hok⟩ := hf
  have hok' := PF.cut_ok hok hk
  obtain ⟨a, cap, rfl, hcap, hmax, ha⟩ := hrow.shape
  have hlo := hbl.lo
  have hhi := hbl.hi
  have h20 := hok.2.2
  obtain ⟨q, hq⟩ : ∃ q, q = (k + 511) / 512 := ⟨_, rfl⟩
  have hqn : q ≤ n := by omega
  have hk20 : k ≤ 1048576 := by omega
  have hsl := slice_blocks a n cap q (by omega)
  have hc1 : w.cell? ⟨F, 1, none⟩ = some (.slice a n cap) := cell_at hb 1
  have hf1 := free_at hb 1
  have hf2 := free_at hb 2
  have hc2 : w.cell? ⟨F, 2, none⟩ = some (.int .i64 (f.sure : Nat)) := cell_at hb 2
  have hFlt := lt_of_block hb
  have hq' : ((k : Int) + 511) / 512 = (q : Nat) := by omega
  have HQ : Hid (q = (k + 511) / 512) := hq
  have HA : Hid (a = g.map (fun g => ⟨g, 0, none⟩)) := ha
  clear hq ha
  go_enter Try.func62, Try.ntmps62
  by_cases hq1 : 1 ≤ q
  · obtain ⟨Q, rfl⟩ : ∃ Q, q = Q + 1 := ⟨q - 1, by omega⟩
    obtain ⟨g0, cap', cur, rfl, hv, hg, hnc, hcm, hcs, hxs⟩ : ∃ g0 cap' cur, g = some g0 ∧ Value.slice a n cap = .slice (some ⟨g0, 0, none⟩) n cap' ∧ w.heap[g0]? = some (.cells cur 92 (0, 0)) ∧ n ≤ cap' ∧ cap' ≤ maxLen ∧ cur.size = cap' * 513 ∧ cur.toList.take (n * 513) = xs := by
      rcases hrow.cases with ⟨_, _, h0, _⟩ | h
      · omega
      · exact h
    simp only [Value.slice.injEq] at hv
    obtain ⟨rfl, _, rfl⟩ := hv
    have hgF' : g0 ≠ F := fun e => hgF (by rw [e])
    have hfg := free_at hg (Q * 513)
    have hQb : Q < n := by omega
    obtain ⟨u0, hu0⟩ : ∃ u0, cur[Q * 513]? = some u0 := ⟨_, Array.getElem?_eq_getElem (show Q * 513 < cur.size by rw [hcs]; exact Nat.lt_of_lt_of_le (show Q * 513 < n * 513 by omega) (Nat.mul_le_mul_right _ hnc))⟩
    have hcg : w.cell? ⟨g0, Q * 513, none⟩ = some u0 := by rw [cell_at hg, hu0]
    have hglt := lt_of_block hg
    have hE : FRep (((w.setCell ⟨F, 1, none⟩ (.slice (some ⟨g0, 0, none⟩) (Q + 1) cap)).setCell ⟨g0, Q * 513, none⟩ (.int .i64 ((k : Int) - (Q : Int) * 512))).setCell ⟨F, 2, none⟩ (.int .i64 (k : Nat))) (F, some g0) (f.cut k) := by
      have e1 := HQ.out
      have e2 : (k : Int) - (Q : Int) * 512 = ((k - 512 * (Q + 1 - 1) : Nat) : Int) := by omega
      rw [e2]
      refine ⟨.slice (some ⟨g0, 0, none⟩) (Q + 1) cap, Q + 1, _, ?_, Row.mk (cur := cur.setIfInBounds (Q * 513) (.int .i64 (k - 512 * (Q + 1 - 1) : Nat))) ?_ (by omega) hcm (by simpa using hcs) rfl, ?_, hok'⟩
      · have h1 := heap_setCell_same hb 1 (.slice (some ⟨g0, 0, none⟩) (Q + 1) cap)
        have h2 := (heap_setCell_ne (w.setCell ⟨F, 1, none⟩ (.slice (some ⟨g0, 0, none⟩) (Q + 1) cap)) ⟨g0, Q * 513, none⟩ (.int .i64 (k - 512 * (Q + 1 - 1) : Nat)) F (fun e => hgF' e.symm)).trans h1
        have h3 := heap_setCell_same h2 2 (.int .i64 (k : Nat))
        simpa [PF.cut] using h3
      · rw [heap_setCell_ne _ _ _ _ hgF']
        exact heap_setCell_same ((heap_setCell_ne _ _ _ _ hgF').trans hg) _ _
      · rw [Array.toList_setIfInBounds, List.take_set]
        have := hbl.cut hrow.len hk e1 (by omega)
        rw [← hxs, List.take_take, Nat.min_eq_left (Nat.mul_le_mul_right _ hqn)] at this
        simpa [PF.cut] using this
    have hFr : Fr (foot1 (F, some g0)) w (((w.setCell ⟨F, 1, none⟩ (.slice (some ⟨g0, 0, none⟩) (Q + 1) cap)).setCell ⟨g0, Q * 513, none⟩ (.int .i64 ((k : Int) - (Q : Int) * 512))).setCell ⟨F, 2, none⟩ (.int .i64 (k : Nat))) :=
      (((Fr.refl _ _).setCell _ (.inl (by simp [foot1])) _).setCell _ (.inl (by simp [foot1])) _).setCell _ (.inl (by simp [foot1])) _
    have hqN : (k + 511) / 512 = Q + 1 := HQ.out.symm
    clear hok hok' hb hrow hbl hg hxs hcs hu0 hlo hhi
    go_wp2
    go_end0
    exact ⟨rfl, hE, hFr⟩
  · obtain rfl : q = 0 := by omega
    have hk0 : k = 0 := by have := HQ.out; omega
    subst hk0
    have hE : FRep ((w.setCell ⟨F, 1, none⟩ (.slice a 0 cap)).setCell ⟨F, 2, none⟩ (.int .i64 0)) (F, g) (f.cut 0) := by
      refine ⟨.slice a 0 cap, 0, [], ?_, ?_, ⟨by simp [PF.cut], by simp [PF.cut], by simp, by simp [PF.cut], by simp⟩, hok'⟩
      · have h3 := heap_setCell_same (heap_setCell_same hb 1 (.slice a 0 cap)) 2 (.int .i64 0)
        simpa [PF.cut] using h3
      · rcases hrow.cases with ⟨rfl, h1, rfl, rfl⟩ | ⟨g0, cap', cur, rfl, h1, h2, h3, h4, h5, h6⟩
        · simp only [Value.slice.injEq] at h1
          obtain ⟨rfl, _, rfl⟩ := h1
          exact Row.nil _ _ _
        · simp only [Value.slice.injEq] at h1
          obtain ⟨rfl, _, rfl⟩ := h1
          have hgF' : g0 ≠ F := fun e => hgF (by rw [e])
          exact Row.mk (cur := cur) (by rw [heap_setCell_ne _ _ _ _ hgF', heap_setCell_ne _ _ _ _ hgF']; exact h2) (by omega) h4 h5 (by simp)
    have hFr : Fr (foot1 (F, g)) w ((w.setCell ⟨F, 1, none⟩ (.slice a 0 cap)).setCell ⟨F, 2, none⟩ (.int .i64 0)) :=
      ((Fr.refl _ _).setCell _ (.inl (by simp [foot1])) _).setCell _ (.inl (by simp [foot1])) _
    clear hok hok' hb hrow hbl hlo hhi hq'
    go_wp2
    go_end0
    exact ⟨rfl, hE, hFr⟩

end Go.Proofs.Ytgbbbjddooiaeaa
