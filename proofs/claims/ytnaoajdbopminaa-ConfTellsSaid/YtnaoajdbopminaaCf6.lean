/-
  weirlaw12: what the document says of three servers, and of one more.
-/
import Derived.Test.YtnaoajdbopminaaCf5
namespace Go.Proofs.Ytnaoajdbopminaa
open Go.RowKit Go.Shelf
set_option linter.unusedSimpArgs false
set_option linter.unusedVariables false

attribute [local go_sem] Oper.semAt_some

theorem members_any (s : Int) (w : World) : Calls Try.prog 27 #[.int .u8 s] w fun e w' => e = .returned (.func (.func 67) #[] #[.pointer (some ⟨w.heap.size, 0, none⟩)]) ∧ w.alloc (.cells #[.int .u8 s] 5) = w' := by
  have hmf : ∀ (fn : Fn) (first cap : Array Value) (w : World), (Instr.makeFunc fn first cap).run Try.prog w = .ok (.func fn first cap) w := fun _ _ _ _ => rfl
  go_enter Try.func27, Try.ntmps27
  go_wp2
  go_ret
  exact ⟨rfl, rfl⟩
theorem members_stops (nn : Nat) (hnn : 1 ≤ nn) {w : World} {s : Int} (Bs n₀ : Nat) (hBs : Bs < w.heap.size) (hc : w.cell? ⟨Bs, 0, none⟩ = some (.int .u8 s)) :
    SeqStopsK Fence.wide nn Try.prog 67 #[.pointer (some ⟨Bs, 0, none⟩)] encN (KpB n₀ Bs) (fun ys => ys.map (·.1) = mems s 7) (fun pre => ∃ k, k ≤ 7 ∧ pre.map (·.1) = mems s k ∧ pre ≠ []) 7 w := by
  intro l J Jx W hW hJ hJx hY h0
  exact members1_in nn hnn l Bs n₀ s J Jx hY W ((hW.cell (p := ⟨Bs, 0, none⟩) hBs).trans hc) h0

def sumN (l : List Nd) : Nat := (l.map (·.1)).sum
theorem sumN_snoc (l : List Nd) (x : Nd) : sumN (l ++ [x]) = sumN l + x.1 := by simp [sumN]
theorem sumN_le (l : List Nd) : sumN l ≤ 7 * l.length := by
  induction l with
  | nil => simp [sumN]
  | cons x l ih => have := x.2; simp only [sumN, List.map_cons, List.sum_cons, List.length_cons] at ih ⊢; omega

set_option maxRecDepth 100000 in
set_option maxHeartbeats 1000000 in
theorem cwakes_any (w : World) : Calls Try.prog 38 #[] w fun e w' => e = .returned (.bool true) ∧ Below w.heap.size w w' := by
  refine (callsIn_wide (n := 9)).1 ?_
  have A1 : Hid (∀ w, Calls Try.prog 39 #[.int .u8 7, .int .i64 4] w fun e w' => e = .returned (.tuple #[.int .u8 15, .int .i64 0]) ∧ w = w') := Lib.hid (fun w => add_any 7 4 w)
  have hnf : ∀ (fn : Fn) (first cap : Array Value) (w : World), (binOp .eql 52 (.func fn first cap) .nilFunc).run Try.prog w = .ok (.bool false) w := fun _ _ _ _ => rfl
  refine callsIn_of_wp_marks Try.func38 rfl trivial ?_ rfl
  simp only [Try.ntmps38, List.size_toArray, List.length_cons, List.length_nil, Nat.reduceAdd, Nat.reduceSub, Array.replicate_succ, Array.replicate_zero, List.push_toArray, List.append_toArray, List.nil_append, List.cons_append]
  gi_wp2_with (first
    | (refine ⟨trivial, ?_⟩; gi_at_call 39; refine (callsIn_wide.2 (A1.out _)).mono ?_; rintro e w1 ⟨rfl, rfl⟩)
    | (refine ⟨trivial, ?_⟩; gi_at_call 27; refine (callsIn_wide.2 (members_any _ _)).mono ?_; rintro e w2 ⟨rfl, rfl⟩)
    | fail)
  obtain ⟨N, hN⟩ : ∃ N, N = w.heap.size := ⟨_, rfl⟩
  rw [← hN]
  obtain ⟨W0, hW0⟩ : ∃ W0, W0 = (w.alloc (.cells #[.int .i64 0] 3)).alloc (.cells #[.int .u8 15] 5) := ⟨_, rfl⟩
  have hs0 : W0.heap.size = N + 2 := by rw [hW0, hN]; simp
  have bO : Boxed W0 N 3 (.int .i64 0) := by
    rw [hW0, hN]
    show _ = _
    rw [Below.heap_alloc _ _ _ (by simp)]
    exact heap_alloc_new w _
  have bM : Boxed W0 (N + 1) 5 (.int .u8 15) := by
    rw [hW0, hN]
    show _ = _
    rw [← World.size_alloc w (.cells #[.int .i64 0] 3)]
    exact heap_alloc_new _ _
  have hB0 : Below N w W0 := by rw [hW0, hN]; exact ((Below.refl _ _).alloc (Nat.le_refl _) _).alloc (by simp) _
  rw [← hW0]
  have HN := Lib.hid hN
  clear hN hW0
  refine wpIn_rangeFunc_ownF rfl (by omega) (gf := 67) (lb := #[.pointer (some ⟨N + 1, 0, none⟩)]) rfl trivial (enters_of Try.func67 (by kernel_rfl) rfl)
    (members_stops 8 (by omega) (w := W0) (s := 15) (N + 1) N (by omega) bM.cell)
    (fun h k => ⟨h.1.trans k.1, k.2.trans h.2⟩) (fun W l o o' hl ho hc hw => ⟨belowK_b (w := W0) (by omega) W l o o' hl ho hc hw, World.putObj_heap_other (by omega)⟩) (Below.refl _ _) (fun _ => rfl)
    (fun pre W => Boxed W N 3 (.int .i64 (sumN pre : Nat)) ∧ (Boxed W (N + 1) 5 (.int .u8 15) ∧ Below N w W))
    (fun _ _ _ => False)
    (OwnFrom.and (Own.from (boxed_own _ _ _) _) (OwnFrom.and (Own.from (boxed_own _ _ _) _) (ownFrom_below (by first | omega | (rw [HN.out]; omega)) (by omega))))
    (fun _ _ _ _ _ hs _ _ => hs)
    ⟨bO, bM, hB0⟩
    (fun x => { tmps := #[.bool false, .int .u8 15, .int .i64 0, .pointer (some ⟨N, 0, none⟩), .func (.func 67) #[] #[.pointer (some ⟨N + 1, 0, none⟩)], .int .i64 (x.1 : Nat), .tuple #[.int .u8 15, .int .i64 0], .tuple #[.int .u8 15, .int .i64 0], .int .u8 15, .int .i64 0, .int .u8 15, .func (.func 67) #[] #[.pointer (some ⟨N + 1, 0, none⟩)], .func (.func 67) #[] #[.pointer (some ⟨N + 1, 0, none⟩)], .bool false, .func (.func 67) #[] #[.pointer (some ⟨N + 1, 0, none⟩)], .int .i64 (x.1 : Nat), undef, undef, undef, undef, undef, undef, undef, undef, undef, undef, undef, undef, undef, undef, undef, undef, undef, undef, undef, undef, undef, undef, undef, undef, undef, undef, undef, undef, undef, undef, undef], defers := [] }) ?assign ?body ?done ?stop
  case assign =>
    intro l x W K hK
    dsimp only [encN]
    gi_wp2
    exact hK
  case body =>
    rintro l pre x W ⟨hb, hbx, hBW⟩ hlt
    have hle := sumN_le pre
    have hx := x.2
    have hsn := sumN_snoc pre x
    obtain ⟨m, hm⟩ : ∃ m, m = sumN pre := ⟨_, rfl⟩
    obtain ⟨n, hn⟩ : ∃ n, n = x.1 := ⟨_, rfl⟩
    rw [← hm] at hb hle hsn
    rw [← hn] at hx hsn ⊢
    have hc := hb.cell
    have hf : W.frozen? ⟨N, 0, none⟩ = false := free_at hb 0
    have HS := Lib.hid hsn
    clear hm hn hsn
    gi_wp2
    have h1 : Boxed (W.setCell ⟨N, 0, none⟩ (.int .i64 ((m : Int) + n))) N 3 (.int .i64 ((m : Int) + n)) := hb.set _
    have h2 : (W.setCell ⟨N, 0, none⟩ (.int .i64 ((m : Int) + n))).heap[N + 1]? = W.heap[N + 1]? := heap_setCell_ne _ _ _ _ (by simp only; omega)
    refine ⟨KeepsOthers.setCell _ _ _, ⟨(Below.refl N W).setCell (p := ⟨N, 0, none⟩) (Nat.le_refl _) _, h2⟩, ?_, h2.trans hbx, hBW.setCell (p := ⟨N, 0, none⟩) (Nat.le_refl _) _⟩
    rw [HS.out]
    exact h1
  case done =>
    rintro D ys W hD hys ⟨hb, hbx, hBW⟩ hK
    have hsum : sumN ys = 10 := by unfold sumN; rw [hys]; decide +kernel
    rw [hsum] at hb
    have hc := hb.cell
    have M1 : Hid (∀ w, Calls Try.prog 36 #[.int .u8 7, .int .u8 15] w fun e w' => e = .returned (.bool true) ∧ w = w') := Lib.hid (fun w => meets_any 7 15 w)
    have M2 : Hid (∀ w, Calls Try.prog 36 #[.int .u8 7, .int .u8 25] w fun e w' => e = .returned (.bool false) ∧ w = w') := Lib.hid (fun w => meets_any 7 25 w)
    have M3 : Hid (∀ w, Calls Try.prog 34 #[.int .u8 7, .int .u8 3] w fun e w' => e = .returned (.bool true) ∧ w = w') := Lib.hid (fun w => most_any 7 3 w)
    have M4 : Hid (∀ w, Calls Try.prog 34 #[.int .u8 7, .int .u8 4] w fun e w' => e = .returned (.bool false) ∧ w = w') := Lib.hid (fun w => most_any 7 4 w)
    have M5 : Hid (∀ w, Calls Try.prog 33 #[.int .u8 7] w fun e w' => e = .returned (.int .i64 3) ∧ w = w') := Lib.hid (fun w => sizeP_any 7 w)
    have HK := Lib.hid hK
    have HBW := Lib.hid hBW
    clear hK hBW hys hsum hbx hb
    gi_wp2_with (first
      | (refine ⟨trivial, ?_⟩; gi_at_call 36; with_reducible refine CallsIn.mono (callsIn_wide.2 (M1.out _)) ?_; rintro e w1 ⟨rfl, rfl⟩)
      | (refine ⟨trivial, ?_⟩; gi_at_call 36; with_reducible refine CallsIn.mono (callsIn_wide.2 (M2.out _)) ?_; rintro e w1 ⟨rfl, rfl⟩)
      | (refine ⟨trivial, ?_⟩; gi_at_call 34; with_reducible refine CallsIn.mono (callsIn_wide.2 (M3.out _)) ?_; rintro e w1 ⟨rfl, rfl⟩)
      | (refine ⟨trivial, ?_⟩; gi_at_call 34; with_reducible refine CallsIn.mono (callsIn_wide.2 (M4.out _)) ?_; rintro e w1 ⟨rfl, rfl⟩)
      | (refine ⟨trivial, ?_⟩; gi_at_call 33; with_reducible refine CallsIn.mono (callsIn_wide.2 (M5.out _)) ?_; rintro e w1 ⟨rfl, rfl⟩)
      | fail)
    refine ⟨by simp, .inl ⟨_, _, rfl, run_takeDeferred HK.out, ?_⟩⟩
    refine ⟨_, results_tmp rfl _ _ _, rfl, ?_⟩
    rw [← HN.out]
    exact HBW.out.trans (belowK_b (w := W0) (by omega) W D _ _ hD HK.out rfl rfl)
  case stop =>
    rintro D c pre W _ _ h _
    exact h.elim
end Go.Proofs.Ytnaoajdbopminaa
