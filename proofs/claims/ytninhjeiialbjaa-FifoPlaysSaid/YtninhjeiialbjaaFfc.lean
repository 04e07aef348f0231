/-
  told, over no queue: nothing comes.
-/
import Derived.RangeFuncNested
import Derived.RangeFuncBound
import Derived.RangeFuncCalls
import Derived.RangeFuncLeaves
import Derived.RangeFuncBox
import Derived.Shelf.Abstract
import Derived.OwnWalkIn
import Derived.TacticsInMore
import Derived.LoopNIn
import Derived.LoopIn
import Derived.Maps.AppendAt
import Derived.Test.YtninhjeiialbjaaFfb
import Derived.Test.YtninhjeiialbjaaRg
namespace Go.Proofs.Ytninhjeiialbjaa
open Go.RowKit Go.Shelf
set_option linter.unusedSimpArgs false
set_option linter.unusedVariables false

attribute [local go_sem] Oper.semAt_some

set_option maxRecDepth 100000 in
theorem nall_any (w : World) : Calls Try.prog 76 #[.pointer none] w fun e w' => e = .returned (.func (.func 107) #[] #[.pointer (some ⟨w.heap.size, 0, none⟩)]) ∧ w.alloc (.cells #[.slice none 0 0] 68) = w' := by
  have hmf : ∀ (fn : Fn) (first cap : Array Value) (w : World), (Instr.makeFunc fn first cap).run Try.prog w = .ok (.func fn first cap) w := fun _ _ _ _ => rfl
  have hp : ∀ W, (binOp .neq 60 (.pointer none) (.pointer none)).run Try.prog W = .ok (.bool false) W := fun _ => rfl
  go_enter Try.func76, Try.ntmps76
  go_wp2
  go_ret
  exact ⟨rfl, rfl⟩

def encPk (x : PkE) : Array Value := #[.agg #[.int .i64 x.num, .int .i64 x.t, .int .i64 x.c, .slice x.a x.n x.ca]]

set_option maxRecDepth 100000 in
set_option maxHeartbeats 2000000 in
theorem all1_none (nn : Nat) (l Bs n₀ : Nat) (J Jx : List PkE → World → Prop) (W : World) (hBs : W.cell? ⟨Bs, 0, none⟩ = some (.slice none 0 0)) (hlt : Bs < W.heap.size) (h0 : J [] W) :
    CallsIn Fence.wide nn Try.prog 107 #[.func (.yield l) #[] #[], .pointer (some ⟨Bs, 0, none⟩)] W fun e W' => (∃ v, e = .returned v) ∧
      ((∃ ys, ys = [] ∧ J ys W') ∨ (∃ pre, False ∧ Jx pre W')) := by
  refine callsIn_of_wp Try.func107 rfl trivial ?_ rfl
  simp only [Try.ntmps107, List.size_toArray, List.length_cons, List.length_nil, Nat.reduceAdd, Nat.reduceSub, Array.replicate_succ, Array.replicate_zero, List.push_toArray, List.append_toArray, List.nil_append, List.cons_append]
  gi_wp2
  gi_loopw [7] (fun i wr => i = .int .i64 0 ∧ W = wr) (fun _ _ => 0)
  case atStart => exact ⟨rfl, rfl⟩
  case round =>
    obtain ⟨rfl, rfl⟩ := hrel
    gi_wp2
    go_end0
    exact ⟨⟨_, rfl⟩, .inl ⟨[], rfl, h0⟩⟩

theorem all1_seq (nn : Nat) {Kp : World → World → Prop} {w : World} (Bs : Nat) (hBs : Bs < w.heap.size) (hc : w.cell? ⟨Bs, 0, none⟩ = some (.slice none 0 0)) :
    SeqE nn Try.prog 107 #[.pointer (some ⟨Bs, 0, none⟩)] encPk (fun _ _ _ => False) Kp (fun ys => ys = []) 0 w := by
  intro l J Jx W hW hJ hY h0
  refine (all1_none nn l Bs 0 J Jx W ((hW.cell (p := ⟨Bs, 0, none⟩) hBs).trans hc) (by have := hW.size; omega) h0).mono ?_
  rintro e W' ⟨h1, h2 | ⟨_, h, _⟩⟩
  · exact ⟨h1, .inl h2⟩
  · exact h.elim

set_option maxRecDepth 100000 in
set_option maxHeartbeats 2000000 in
theorem told_none (w : World) : Calls Try.prog 42 #[.pointer none, .slice none 0 0, .int .i64 0] w fun e w' => e = .returned (.bool true) ∧ Below w.heap.size w w' := by
  refine (callsIn_wide (n := 9)).1 ?_
  have hnf : ∀ (fn : Fn) (first cap : Array Value) (w : World), (binOp .eql 116 (.func fn first cap) .nilFunc).run Try.prog w = .ok (.bool false) w := fun _ _ _ _ => rfl
  refine callsIn_of_wp_marks Try.func42 rfl trivial ?_ rfl
  simp only [Try.ntmps42, List.size_toArray, List.length_cons, List.length_nil, Nat.reduceAdd, Nat.reduceSub, Array.replicate_succ, Array.replicate_zero, List.push_toArray, List.append_toArray, List.nil_append, List.cons_append]
  gi_wp2_with (first
    | (refine ⟨trivial, ?_⟩; gi_at_call 76; refine (callsIn_wide.2 (nall_any _)).mono ?_; rintro e w2 ⟨rfl, rfl⟩)
    | fail)
  obtain ⟨N, hN⟩ : ∃ N, N = w.heap.size := ⟨_, rfl⟩
  rw [← hN]
  obtain ⟨W0, hW0⟩ : ∃ W0, W0 = ((((w.alloc (.cells #[.slice none 0 0] 68)).alloc (.cells #[.int .i64 0] 3)).alloc (.cells #[.bool false] 4)).alloc (.cells #[.int .i64 0] 3)).alloc (.cells #[.slice none 0 0] 68) := ⟨_, rfl⟩
  have hs0 : W0.heap.size = N + 5 := by rw [hW0, hN]; simp
  have hB0 : Below N w W0 := by rw [hW0, hN]; exact (((((Below.refl _ _).alloc (Nat.le_refl _) _).alloc (by simp) _).alloc (by simp; omega) _).alloc (by simp; omega) _).alloc (by simp; omega) _
  have b0 : Blk W0 N #[.slice none 0 0] 68 := by rw [hW0, hN]; exact ((((blk_new _ _ _).alloc _).alloc _).alloc _).alloc _
  have bx : ∀ (A : World) (k : Nat) (hk : A.heap.size = k) (cs : Array Value) (t : TypeId), Blk (A.alloc (.cells cs t)) k cs t := fun A k hk cs t => by rw [← hk]; exact blk_new _ _ _
  have b1 : Blk W0 (N + 1) #[.int .i64 0] 3 := by rw [hW0]; exact (((bx _ _ (by simp [hN]) _ _).alloc _).alloc _).alloc _
  have b2 : Blk W0 (N + 1 + 1) #[.bool false] 4 := by rw [hW0]; exact ((bx _ _ (by simp [hN]) _ _).alloc _).alloc _
  have b3 : Blk W0 (N + 1 + 1 + 1) #[.int .i64 0] 3 := by rw [hW0]; exact (bx _ _ (by simp [hN]) _ _).alloc _
  have b4 : Blk W0 (N + 1 + 1 + 1 + 1) #[.slice none 0 0] 68 := by rw [hW0]; exact bx _ _ (by simp [hN]) _ _
  rw [← hW0]
  have HN := Lib.hid hN
  clear hN hW0 bx
  refine range_E (by omega) (gf := 107) (lb := #[.pointer (some ⟨N + 1 + 1 + 1 + 1, 0, none⟩)]) rfl (enters_of Try.func107 (by kernel_rfl) rfl) [] (all1_seq 8 (N + 1 + 1 + 1 + 1) (by omega) (cell_at b4 0)) (fun _ => rfl)
    (fun _ W => Blk W N #[.slice none 0 0] 68 ∧ Blk W (N + 1) #[.int .i64 0] 3 ∧ Blk W (N + 1 + 1) #[.bool false] 4 ∧ Blk W (N + 1 + 1 + 1) #[.int .i64 0] 3 ∧ Below N w W) (fun _ _ _ => False)
    (fun _ A B h hB => ⟨h.1.step hB, h.2.1.step hB, h.2.2.1.step hB, h.2.2.2.1.step hB, h.2.2.2.2.trans (hB.mono (by have := h.2.2.2.2.size; have := HN.out; omega))⟩) ?_ (fun _ _ _ _ h _ => h.elim) (by simp) (by simp) ⟨b0, b1, b2, b3, hB0⟩ (fun _ _ _ _ h _ _ => h.elim) ?_ (fun _ _ _ h _ => h.elim)
  · rintro s A o ⟨h0, h1, h2, h3, h4⟩ hlt
    exact ⟨(World.putObj_heap_other (by omega)).trans h0, (World.putObj_heap_other (by omega)).trans h1, (World.putObj_heap_other (by omega)).trans h2, (World.putObj_heap_other (by omega)).trans h3, h4.trans ⟨rfl, rfl, rfl, by simp, fun k hk => World.putObj_heap_other (by omega)⟩⟩
  · rintro xs W rfl ⟨h0, h1, h2, h3, h4⟩ hK
    have c0 := cell_at h0 0
    have c1 := cell_at h1 0
    have c2 := cell_at h2 0
    have c3 := cell_at h3 0
    have z2 := free_at h2 0
    have l2 := h2.lt
    simp at c0 c1 c2 c3
    have HK := Lib.hid hK
    have H4 := Lib.hid h4
    have H2 := Lib.hid h2
    clear h0 h1 h2 h3 h4 hK
    gi_wp2_with fail
    obtain ⟨W9, hW9⟩ : ∃ W9, W9 = W.setCell ⟨N + 1 + 1, 0, none⟩ (.bool true) := ⟨_, rfl⟩
    have hK9 : W9.heap[W0.heap.size]? = some (.deferred (some [])) := by rw [hW9]; exact (heap_setCell_ne _ _ _ _ (by simp only; omega)).trans HK.out
    have hB9 : Below N w W9 := by rw [hW9]; exact H4.out.setCell (p := ⟨N + 1 + 1, 0, none⟩) (by simp only; omega) _
    have hb9 : Blk W9 (N + 1 + 1) #[.bool true] 4 := by rw [hW9]; exact H2.out.set 0 _
    rw [← hW9]
    refine ⟨by simp, .inl ⟨_, _, rfl, run_takeDeferred hK9, ?_⟩⟩
    have hbX : Blk (W9.putObj W0.heap.size (.deferred none)) (N + 1 + 1) #[.bool true] 4 := (World.putObj_heap_other (by omega)).trans hb9
    have hcX := cell_at hbX 0
    simp at hcX
    refine ⟨.bool true, (by simp [results, Try.results42, go_sem, hcX]), rfl, ?_⟩
    rw [← HN.out]
    exact hB9.trans ⟨rfl, rfl, rfl, by simp, fun k hk => World.putObj_heap_other (by omega)⟩
end Go.Proofs.Ytninhjeiialbjaa
