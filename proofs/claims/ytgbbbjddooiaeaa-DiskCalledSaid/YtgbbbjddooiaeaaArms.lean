/-
  Laws for the walk: a struct literal and a slice literal whose cells nobody reckons; a copy that says all that it leaves; a callee that changes nothing inside a region that draws its order.
-/
import Derived.Test.YtgbbbjddooiaeaaMake
import Derived.Test.YtgbbbjddooiaeaaPutPure
import Derived.Great.BuildSlice
import Derived.Deep.QuietTactic
import Derived.BigQuiet
import Derived.Deep.RegionLaw
namespace Go.Proofs.Ytgbbbjddooiaeaa
open Go.RowKit

theorem built_zb : Try.prog.built 92 [] = some zb := by kernel_rfl
theorem infoB : (Try.prog.info? 92).map (fun i => (i.zero, i.size, i.bytes)) = some (some (.agg zb), 513, 520) := by kernel_rfl

theorem wpList_build_to {P : Program} {ops : Array Oper} {rest : List Oper} {o : Oper} {a : Act} {w : World} {Q : Exit → Act → World → Prop} (hg : o.guard = none) (t : TypeId) (parts : Array (Nat × Operand)) (ho : o.op = .build t parts)
    (hp : parts = #[]) (cells : Array Value) (hf : P.built t [] = some cells)
    (h : wpList P ops Q rest (a.put o.dst (.agg cells)) w) : wpList P ops Q (o :: rest) a w := by
  subst hp
  have hf' : P.built t ((#[] : Array (Nat × Operand)).map fun (i, x) => (i, a.eval x)).toList = some cells := by simpa using hf
  exact wpList_build hg t #[] ho (by rw [hf']; rfl) (by rw [hf']; exact h)

/-- A slice literal of one struct. -/
theorem wpList_slice_one {P : Program} {ops : Array Oper} {rest : List Oper} {o : Oper} {a : Act} {w : World} {Q : Exit → Act → World → Prop} (hg : o.guard = none) (t e : TypeId) (x : Operand) (ho : o.op = .buildSlice t 1 #[(0, x)])
    (cells : Array Value) (hx : a.eval x = .agg cells) (ie : TypeInfo) (hu : P.underlying t = some (.slice e)) (hie : P.info? e = some ie) (hz : ie.zero = some (.agg cells)) (hs : ie.size = cells.size) (hp : 0 < cells.size) (hsm : cells.size ≤ 1000)
    (h : wpList P ops Q rest (a.put o.dst (.slice (some ⟨w.heap.size, 0, none⟩) 1 1)) (w.alloc (.cells cells e))) : wpList P ops Q (o :: rest) a w := by
  refine wpList_buildSlice hg t e 1 #[(0, x)] ho cells ie (.agg cells) hu hie hz (by omega) (by omega) ?_ h
  have := Great.fill_whole (s := ie.size) (by omega) [.agg cells] ((Array.range (1 * ie.size)).map ((Value.agg cells).cells[· % (Value.agg cells).cells.size]!)) (by simp [Value.cells, hs]) (by simp)
  simpa [hx, Value.cells] using this

theorem keepsQ {P : Program} {f : FuncId} {args : Array Value} {w : World} {n : Nat} {v : Value} (h : Calls P f args (w.drewN n) fun e w' => e = .returned v ∧ w.drewN n = w') :
    Calls P f args (w.drewN n) fun e w' => e = .returned v ∧ ∃ m, w' = w.drewN m := h.mono fun _ _ hh => ⟨hh.1, n, hh.2.symm⟩
theorem keepsQ2 {P : Program} {f : FuncId} {args : Array Value} {w : World} {k n : Nat} {v : Value} (h : Calls P f args (w.drewN (k + n)) fun e w' => e = .returned v ∧ w.drewN (k + n) = w') :
    Calls P f args (w.drewN (k + n)) fun e w' => e = .returned v ∧ ∃ m, w' = w.drewN (k + m) := h.mono fun _ _ hh => ⟨hh.1, n, hh.2.symm⟩

/-- copy into a row, as one step of a region that draws its order: the row behind it, and that nothing else has turned. -/
theorem step_copy_fr {P : Program} {ops : Array Oper} {o : Oper} {a : Act} {w : World} {K : Act → World → Prop} {Q : Exit → Act → World → Prop} {E : Prop} (hgd : o.guard = none) (d s : Operand) (dT sT : TypeId)
    (ho : o.op = .call { callee := .builtin .copy, args := #[d, s], argTypes := #[dT, sT] }) (elem : TypeId) (hu : P.underlying dT = some (.slice elem)) (hsz : (P.info? elem).map (·.size) = some 1)
    (g off dLen dCap : Nat) (ad : Addr) (sLen sCap : Nat) (hd : a.eval d = .slice (some ⟨g, off, none⟩) dLen dCap) (hs : a.eval s = .slice (some ad) sLen sCap)
    (cur : Array Value) (t : TypeId) (hg : w.heap[g]? = some (.cells cur t (0, 0))) (cs : List Value) (hn : cs.length = Nat.min sLen dLen)
    (hsrc : ∀ j v, cs[j]? = some v → w.cell? (ad.add j) = some v) (hfit : off + cs.length ≤ cur.size) (h1 : ∀ v ∈ cs, v.oneCell' = true)
    (h : ∀ w', Hid (w'.heap[g]? = some (.cells (splice cur.toList off cs).toArray t (0, 0))) → Hid (Fr [g] w w') → K (a.put o.dst (goInt cs.length)) w') :
    if Region.wanted o (yielded ops a.tmps) = true then Oper.wp P o a w K Q else E := by
  have hw : Region.wanted o (yielded ops a.tmps) = true := by simp [Region.wanted, hgd]
  rw [if_pos hw]
  have hrun := run_copy_row (P := P) w dT sT o.type elem g off dLen dCap ad sLen sCap cur t cs hu hsz hg hn hsrc hfit h1
  unfold Oper.wp
  simp only [execOp, ho, resolve, invoke, builtin, List.map_toArray, List.map_cons, List.map_nil, hd, hs, Sem.run_bind, Sem.run_pure, Result.andThen_ok, hrun]
  refine h _ (show _ = _ from ?_) (show Fr _ _ _ from ⟨rfl, rfl, rfl, by simp [World.setRow], fun k hk hn => setRow_other w g k _ (by simpa using hn)⟩)
  have := setRow_heap w g cur (cur.toList.take off ++ cs ++ cur.toList.drop (off + cs.length)).toArray t _ hg
  simpa [splice] using this

theorem arr512 : Try.prog.arrayLen 90 = 512 := by kernel_rfl
theorem arr512_elem (w : World) : (sizeOf (Try.prog.elem 90)).run Try.prog w = .ok 1 w := by kernel_rfl
theorem arr512_under : Try.prog.underlying 90 = some (.array (Try.prog.arrayLen 90) (Try.prog.elem 90)) := by kernel_rfl

/-- '&last.bytes' cut: [u:] and [:u]. -/
theorem slice_block_from (g o u : Nat) (hu : u < 512) (w : World) : (Instr.sliceAt 90 (.pointer (some ⟨g, o, none⟩)) (some (.int .i64 (u : Nat))) none none).run Try.prog w = .ok (.slice (some ⟨g, o + u, none⟩) (512 - u) (512 - u)) w := by
  rw [run_sliceAt_array_l (P := Try.prog) w 90 ⟨g, o, none⟩ arr512_under .i64 (u : Nat) (by omega) (by rw [arr512]; omega), arr512_elem, arr512]
  simp only [Result.andThen, slicedAt, Int.toNat_natCast, Nat.mul_one]
  rw [if_neg (by omega)]
  simp [Addr.add]
theorem slice_block_to (g o u : Nat) (hu : u ≤ 512) (w : World) : (Instr.sliceAt 90 (.pointer (some ⟨g, o, none⟩)) none (some (.int .i64 (u : Nat))) none).run Try.prog w = .ok (.slice (some ⟨g, o, none⟩) u 512) w := by
  rw [run_sliceAt_array_h (P := Try.prog) w 90 ⟨g, o, none⟩ arr512_under .i64 (u : Nat) (by omega) (by rw [arr512]; omega), arr512_elem, arr512]
  simp [Result.andThen, slicedAt, Addr.add]

end Go.Proofs.Ytgbbbjddooiaeaa
