/-
  The program's desk with its map told once each: New, Made, Gone.
-/
import Derived.Test.YthmjlomlceljkaaGp6
import Derived.Test.YthmjlomlceljkaaGr2
namespace Go.Proofs.Ythmjlomlceljkaa
open Go.RowKit Go.ChangeMaps
set_option linter.unusedSimpArgs false
set_option linter.unusedVariables false

structure DkS (W : World) (g b : Nat) (el now la : Int) (M : Int → Option Int) : Prop where
  blk : Blk W g #[.int .i64 el, .int .i64 now, .int .i64 la, .map (some b)] 73
  map : MapS W b (fun x => (M x).map encI)
  ne : g ≠ b
theorem DkS.o {W : World} {g b : Nat} {el now la : Int} {M : Int → Option Int} (h : DkS W g b el now la M) : DkIn W g b el now la M := ⟨h.blk, h.map.o, h.ne⟩
theorem DkS.below {W W' : World} {g b : Nat} {el now la : Int} {M : Int → Option Int} (h : DkS W g b el now la M) (hB : Below W.heap.size W W') : DkS W' g b el now la M := ⟨h.blk.step hB, h.map.congr (hB.block b h.map.lt), h.ne⟩
/-- what the desk's contracts tell of its blocks, the map's untouched -/
theorem DkS.of {W W' : World} {g b : Nat} {el now now' la : Int} {M : Int → Option Int} (h : DkS W g b el now la M) (h' : DkIn W' g b el now' la M) (hf : Fr [g] W W') : DkS W' g b el now' la M := ⟨h'.blk, h.map.congr (hf.block b h.map.lt (by simpa using fun e => h.ne e.symm)), h.ne⟩

set_option maxRecDepth 100000 in
set_option maxHeartbeats 1000000 in
theorem snew_ok (ticks rho now : Int) (h0 : 1 ≤ ticks) (h1 : ticks ≤ 1099511627776) (r0 : 0 ≤ rho) (r1 : rho ≤ 200) (n0 : 0 ≤ now) (w : World) :
    Calls Try.prog 10 #[.int .i64 ticks, .int .i64 rho, .int .i64 now] w fun e w' => ∃ g b, e = .returned (.tuple #[.pointer (some ⟨g, 0, none⟩), .int .i64 0]) ∧ DkS w' g b now now (overS ticks rho) (fun _ => none) ∧ w.heap.size ≤ g ∧ w.heap.size ≤ b ∧ Below w.heap.size w w' := by
  have OV := Lib.hid (fun W => over_any ticks rho W)
  obtain ⟨la, hla⟩ : ∃ la, la = overS ticks rho := ⟨_, rfl⟩
  rw [← hla] at OV ⊢
  clear hla
  have hmm := fun w => run_makeMap_none (P := Try.prog) Try.underlying71 w
  go_enter Try.func10, Try.ntmps10
  go_wp2_with fail
  go_at_call 30
  refine Calls.mono (OV.out _) ?_
  rintro e w1 ⟨rfl, hB1⟩
  have HB1 := Lib.hid hB1
  clear hB1 OV
  go_wp2_with fail
  refine bodyPost_ret (v := .tuple #[.pointer (some ⟨w1.heap.size + 1, 0, none⟩), .int .i64 0]) (by simp [results, Try.results10, go_sem]) rfl ⟨w1.heap.size + 1, w1.heap.size, rfl, ⟨?_, ?_, by omega⟩, by have := HB1.out.size; omega, HB1.out.size, ?_⟩
  · have := blk_new (w1.alloc (.map #[] 0)) #[.int .i64 now, .int .i64 now, .int .i64 la, .map (some w1.heap.size)] 73
    rw [World.size_alloc] at this
    exact this
  · exact ((MapS.new w1).congr (Below.heap_alloc _ _ _ (by simp)))
  · exact (HB1.out.alloc HB1.out.size _).alloc (by have := HB1.out.size; simp; omega) _
/-- may a desk be made? -/
def newB (ticks rho now : Int) : Bool := decide (1 ≤ ticks) && decide (ticks ≤ 1099511627776) && decide (0 ≤ rho) && decide (rho ≤ 200) && decide (0 ≤ now)
set_option maxRecDepth 100000 in
set_option maxHeartbeats 1000000 in
theorem snew_no (ticks rho now : Int) (h : newB ticks rho now = false) (w : World) :
    Calls Try.prog 10 #[.int .i64 ticks, .int .i64 rho, .int .i64 now] w fun e w' => e = .returned (.tuple #[.pointer none, .int .i64 2]) ∧ w = w' := by
  have h' : ticks < 1 ∨ 1099511627776 < ticks ∨ rho < 0 ∨ 200 < rho ∨ now < 0 := by
    unfold newB at h
    simp at h
    omega
  clear h
  go_enter Try.func10, Try.ntmps10
  by_cases c1 : ticks < 1
  · go_wp2_with fail
    exact bodyPost_ret (v := .tuple #[.pointer none, .int .i64 2]) (by simp [results, Try.results10, go_sem]) rfl ⟨rfl, rfl⟩
  by_cases c2 : 1099511627776 < ticks
  · go_wp2_with fail
    exact bodyPost_ret (v := .tuple #[.pointer none, .int .i64 2]) (by simp [results, Try.results10, go_sem]) rfl ⟨rfl, rfl⟩
  by_cases c3 : rho < 0
  · go_wp2_with fail
    exact bodyPost_ret (v := .tuple #[.pointer none, .int .i64 2]) (by simp [results, Try.results10, go_sem]) rfl ⟨rfl, rfl⟩
  by_cases c4 : 200 < rho
  · go_wp2_with fail
    exact bodyPost_ret (v := .tuple #[.pointer none, .int .i64 2]) (by simp [results, Try.results10, go_sem]) rfl ⟨rfl, rfl⟩
  have c5 : now < 0 := by omega
  go_wp2_with fail
  exact bodyPost_ret (v := .tuple #[.pointer none, .int .i64 2]) (by simp [results, Try.results10, go_sem]) rfl ⟨rfl, rfl⟩
set_option maxRecDepth 100000 in
set_option maxHeartbeats 1000000 in
theorem rnew_no (ticks rho now : Int) (h : newB ticks rho now = false) (w : World) :
    Calls Try.prog 11 #[.int .i64 ticks, .int .i64 rho, .int .i64 now] w fun e w' => e = .returned (.tuple #[.pointer none, .int .i64 2]) ∧ w = w' := by
  have h' : ticks < 1 ∨ 1099511627776 < ticks ∨ rho < 0 ∨ 200 < rho ∨ now < 0 := by
    unfold newB at h
    simp at h
    omega
  clear h
  go_enter Try.func11, Try.ntmps11
  by_cases c1 : ticks < 1
  · go_wp2_with fail
    exact bodyPost_ret (v := .tuple #[.pointer none, .int .i64 2]) (by simp [results, Try.results11, go_sem]) rfl ⟨rfl, rfl⟩
  by_cases c2 : 1099511627776 < ticks
  · go_wp2_with fail
    exact bodyPost_ret (v := .tuple #[.pointer none, .int .i64 2]) (by simp [results, Try.results11, go_sem]) rfl ⟨rfl, rfl⟩
  by_cases c3 : rho < 0
  · go_wp2_with fail
    exact bodyPost_ret (v := .tuple #[.pointer none, .int .i64 2]) (by simp [results, Try.results11, go_sem]) rfl ⟨rfl, rfl⟩
  by_cases c4 : 200 < rho
  · go_wp2_with fail
    exact bodyPost_ret (v := .tuple #[.pointer none, .int .i64 2]) (by simp [results, Try.results11, go_sem]) rfl ⟨rfl, rfl⟩
  have c5 : now < 0 := by omega
  go_wp2_with fail
  exact bodyPost_ret (v := .tuple #[.pointer none, .int .i64 2]) (by simp [results, Try.results11, go_sem]) rfl ⟨rfl, rfl⟩
set_option maxRecDepth 100000 in
set_option maxHeartbeats 1000000 in
theorem rnew_ok (ticks rho now : Int) (h0 : 1 ≤ ticks) (h1 : ticks ≤ 1099511627776) (r0 : 0 ≤ rho) (r1 : rho ≤ 200) (n0 : 0 ≤ now) (M : Nat) (w : World) (hM : M ≤ w.heap.size) :
    Calls Try.prog 11 #[.int .i64 ticks, .int .i64 rho, .int .i64 now] w fun e w' => ∃ g, e = .returned (.tuple #[.pointer (some ⟨g, 0, none⟩), .int .i64 0]) ∧ RDk M w' g ticks rho now now (.slice none 0 0) (.slice none 0 0) none none [] [] ∧ w.heap.size ≤ g ∧ Below w.heap.size w w' := by
  go_enter Try.func11, Try.ntmps11
  go_wp2_with fail
  refine bodyPost_ret (v := .tuple #[.pointer (some ⟨w.heap.size, 0, none⟩), .int .i64 0]) (by simp [results, Try.results11, go_sem]) rfl ⟨w.heap.size, rfl, ⟨blk_new _ _ _, ino_nil _ _, ino_nil _ _, hM, by simp⟩, Nat.le_refl _, (Below.refl _ _).alloc (Nat.le_refl _) _⟩
set_option maxRecDepth 100000 in
set_option maxHeartbeats 2000000 in
theorem smade_ok (lease t : Int) (g b : Nat) (el now la : Int) (M : Int → Option Int) (w : World) (hd : DkS w g b el now la M) (h0 : 1 ≤ lease) (h1 : el ≤ t) :
    Calls Try.prog 12 #[.pointer (some ⟨g, 0, none⟩), .int .i64 lease, .int .i64 t] w fun e w' => e = .returned (.int .i64 0) ∧ DkS w' g b el (max now t) la (madeM M lease t) ∧ Fr [g, b] w w' := by
  have c0 : w.cell? ⟨g, 0, none⟩ = some (.int .i64 el) := cell_at hd.blk 0
  have c1 : w.cell? ⟨g, 1, none⟩ = some (.int .i64 now) := cell_at hd.blk 1
  have c3 : w.cell? ⟨g, 3, none⟩ = some (.map (some b)) := cell_at hd.blk 3
  have z1 := free_at hd.blk 1
  have hl := hd.blk.lt
  obtain ⟨N, hN⟩ : ∃ N, N = max now t := ⟨_, rfl⟩
  have e1 : (if now < t then t else now) = N := by rw [hN]; split <;> omega
  have e2 : max now t = N := hN.symm
  rw [← hN]
  obtain ⟨W1, hW1⟩ : ∃ W1, W1 = w.setCell ⟨g, 1, none⟩ (.int .i64 N) := ⟨_, rfl⟩
  have hd1 : DkS W1 g b el N la M := ⟨by rw [hW1]; exact hd.blk.set 1 _, hd.map.congr (by rw [hW1]; exact heap_setCell_ne _ _ _ _ (fun e => hd.ne e.symm)), hd.ne⟩
  have hf1 : Fr [g, b] w W1 := by rw [hW1]; exact (Fr.refl _ _).setCell ⟨g, 1, none⟩ (.inl (by simp)) _
  have hlk := dk_look hd1.o lease
  have a3 : W1.cell? ⟨g, 3, none⟩ = some (.map (some b)) := cell_at hd1.blk 3
  have hl1 := hd1.blk.lt
  obtain ⟨B, hB⟩ : ∃ B, B = (M lease).isSome := ⟨_, rfl⟩
  obtain ⟨y, hy⟩ : ∃ y, y = (M lease).getD 0 := ⟨_, rfl⟩
  rw [← hB, ← hy] at hlk
  obtain ⟨W2, hup, hm2, hf2, hz2⟩ := hd1.map.put key_i Try.underlying71 lease (.int .i64 t)
  have HD1 := Lib.hid hd1
  have HF1 := Lib.hid hf1
  have HM2 := Lib.hid hm2
  have HF2 := Lib.hid hf2
  have HB := Lib.hid hB
  clear hd hd1 hf1 hm2 hf2 hz2 hB hy hN
  unfold encI at hup
  have hnil : ∀ (W : World) (r : Option Nat), (binOp .eql 71 (.map r) (.map none)).run Try.prog W = .ok (.bool r.isNone) W := fun W r => run_eql_map_nil W _ _ _ r Try.underlying71
  cases B
  · go_enter Try.func12, Try.ntmps12
    go_upto_region 6 with fail
    rw [← hW1]
    clear hW1
    go_wp2_with fail
    go_ret
    refine ⟨rfl, ⟨(HF2.out.block g hl1 (by simpa using HD1.out.ne)).trans HD1.out.blk, HM2.out.fun_eq (fun x => ?_), HD1.out.ne⟩, HF1.out.trans HF2.out (by simp)⟩
    unfold madeM
    rw [← HB.out]
    by_cases hx : x = lease <;> simp [hx, encI]
  · clear hup
    go_enter Try.func12, Try.ntmps12
    go_upto_region 6 with fail
    rw [← hW1]
    clear hW1
    go_wp2_with fail
    go_ret
    refine ⟨rfl, ⟨HD1.out.blk, HD1.out.map.fun_eq (fun x => ?_), HD1.out.ne⟩, HF1.out⟩
    unfold madeM
    rw [← HB.out]
    by_cases hx : x = lease <;> simp [hx]
set_option maxRecDepth 100000 in
set_option maxHeartbeats 1000000 in
theorem smade_no (lease t : Int) (g b : Nat) (el now la : Int) (M : Int → Option Int) (w : World) (hd : DkS w g b el now la M) (h : lease < 1 ∨ t < el) :
    Calls Try.prog 12 #[.pointer (some ⟨g, 0, none⟩), .int .i64 lease, .int .i64 t] w fun e w' => e = .returned (.int .i64 2) ∧ w = w' := by
  have c0 : w.cell? ⟨g, 0, none⟩ = some (.int .i64 el) := cell_at hd.blk 0
  clear hd
  go_enter Try.func12, Try.ntmps12
  by_cases c1 : lease < 1
  · go_wp2_with fail
    go_ret
    exact ⟨rfl, rfl⟩
  have c2 : t < el := by omega
  clear h
  go_wp2_with fail
  go_ret
  exact ⟨rfl, rfl⟩
set_option maxRecDepth 100000 in
set_option maxHeartbeats 1000000 in
theorem smade_nil (lease t : Int) (w : World) :
    Calls Try.prog 12 #[.pointer none, .int .i64 lease, .int .i64 t] w fun e w' => e = .returned (.int .i64 1) ∧ w = w' := by
  go_enter Try.func12, Try.ntmps12
  go_wp2_with fail
  go_ret
  exact ⟨rfl, rfl⟩
set_option maxRecDepth 100000 in
set_option maxHeartbeats 1000000 in
theorem sgone_nil (v : Value) (w : World) :
    Calls Try.prog 13 #[.pointer none, v] w fun e w' => e = .returned (.int .i64 1) ∧ w = w' := by
  go_enter Try.func13, Try.ntmps13
  go_wp2_with fail
  go_ret
  exact ⟨rfl, rfl⟩
set_option maxRecDepth 100000 in
set_option maxHeartbeats 1000000 in
theorem sclone_ok (b : Nat) (M : Int → Option Value) (w : World) (h : MapS w b M) :
    Calls Try.prog 31 #[.map (some b)] w fun e w' => e = .returned (.map (some w.heap.size)) ∧ MapS w' w.heap.size M ∧ Below w.heap.size w w' ∧ w'.heap.size = w.heap.size + 1 := by
  obtain ⟨L, c, h1, h2⟩ := h
  have hnil : ∀ (W : World) (r : Option Nat), (binOp .eql 71 (.map r) (.map none)).run Try.prog W = .ok (.bool r.isNone) W := fun W r => run_eql_map_nil W _ _ _ r Try.underlying71
  have hcl : (Extern.MapsClone.clone #[.iface 71 (.map (some b))]).run Try.prog w = .ok (.iface 71 (.map (some w.heap.size))) (w.alloc (.map (ents encI L).toArray c)) := by
    have e : Extern.MapsClone.clone #[.iface 71 (.map (some b))] = (getObj b >>= fun o => match o with
        | .map entries clock => (newObj (.map entries clock) >>= fun n => pure (.iface 71 (.map (some n))))
        | _ => stuck "maps.clone: a map expected") := rfl
    rw [e]
    simp [MapKept.run_getObj_map h1, Result.andThen, go_sem]
  have hta : ∀ (W : World) (n : Nat), (Instr.typeAssert (.iface 71 (.map (some n))) 20 71 false).run Try.prog W = .ok (.map (some n)) W := fun W n => by
    simp [Instr.typeAssert, run_underlying Try.underlying71, go_sem, Result.andThen]
  go_enter Try.func31, Try.ntmps31
  go_wp2
  rw [run_callFunc_extern Try.func63 (by kernel_rfl) (by kernel_rfl) (by kernel_rfl) (e := Extern.MapsClone.clone) (by kernel_rfl), hcl]
  simp only [Result.andThen]
  rw [Oper.upon_value]
  go_wp2
  go_ret
  exact ⟨rfl, ⟨L, c, heap_alloc_new w _, h2⟩, (Below.refl _ _).alloc (Nat.le_refl _) _, by simp⟩
end Go.Proofs.Ythmjlomlceljkaa
