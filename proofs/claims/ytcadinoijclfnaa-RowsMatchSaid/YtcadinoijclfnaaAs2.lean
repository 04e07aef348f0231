/-
  rows.twin, rows.twins: entries copied.
-/
import Derived.Test.YtcadinoijclfnaaAs1
namespace Go.Proofs.Ytcadinoijclfnaa
open Go.RowKit
set_option linter.unusedSimpArgs false
set_option linter.unusedVariables false

set_option maxRecDepth 100000 in
set_option maxHeartbeats 8000000 in
theorem etwin_any (x : DE) (w : World) (h1 : x.by_ w) (hn : x.dl ≤ 1000000) :
    Calls Try.prog 50 #[.agg #[.int .i64 x.t, .int .i8 x.k, .int .i64 x.s, .int .u8 x.st, .slice x.da x.dl x.dc]] w fun e w' => ∃ a' c' b', e = .returned (.agg #[.int .i64 x.t, .int .i8 x.k, .int .i64 x.s, .int .u8 x.st, .slice a' x.dl c']) ∧ ByIn w' a' x.dl c' b' 0 x.X ∧ (0 < x.dl → w.heap.size ≤ b') ∧ Below w.heap.size w w' := by
  obtain ⟨xt, xk, xs, xst, a, n, ca, b, o, X⟩ := x
  simp only at hn ⊢
  have HS : Hid (ByIn w a n ca b o X) := Lib.hid h1
  clear h1
  obtain ⟨N, hN⟩ : ∃ N, N = w.heap.size := ⟨_, rfl⟩
  have HN := Lib.hid hN
  obtain ⟨W0, hW0⟩ : ∃ W0, W0 = (w.alloc (.cells #[.int .i64 xt, .int .i8 xk, .int .i64 xs, .int .u8 xst, .slice a n ca] 47)).alloc (.cells #[.int .i64 0, .int .i8 0, .int .i64 0, .int .u8 0, .slice none 0 0] 47) := ⟨_, rfl⟩
  have bx : ∀ (A : World) (k : Nat) (hk : A.heap.size = k) (cs : Array Value) (t : TypeId), Blk (A.alloc (.cells cs t)) k cs t := fun A k hk cs t => by rw [← hk]; exact blk_new _ _ _
  have HB0 : Hid (Below N w W0) := Lib.hid (by rw [hW0, hN]; exact ((Below.refl _ _).alloc (Nat.le_refl _) _).alloc (by simp) _)
  have HP : Hid (Blk W0 N #[.int .i64 xt, .int .i8 xk, .int .i64 xs, .int .u8 xst, .slice a n ca] 47) := Lib.hid (by rw [hW0]; exact (bx _ _ hN.symm _ _).alloc _)
  have HR : Hid (Blk W0 (N + 1) #[.int .i64 0, .int .i8 0, .int .i64 0, .int .u8 0, .slice none 0 0] 47) := Lib.hid (by rw [hW0]; exact bx _ _ (by simp [hN]) _ _)
  have hs0 : W0.heap.size = N + 2 := by rw [hW0]; simp [hN]
  have p0 : W0.cell? ⟨N, 4, none⟩ = some (.slice a n ca) := cell_at HP.out 4
  have pl := HP.out.lt
  go_enter Try.func50, Try.ntmps50
  go_upto_region 1 with fail
  rw [← hN, ← hW0]
  clear hN hW0 bx
  go_wp2_with fail
  go_at_call 59
  refine (clone_any _ _ _ _ _ _ _ (HS.out.below (HN.out ▸ HB0.out)) hn).mono ?_
  rintro e W1 ⟨a', c', b', rfl, hby, hfr, hB1⟩
  have HB1 := Lib.hid (HB0.out.trans (hB1.mono (by omega)))
  have HP1 := Lib.hid (HP.out.step hB1)
  have HR1 := Lib.hid (HR.out.step hB1)
  have HBY := Lib.hid hby
  have HF : Hid (0 < n → N + 2 ≤ b') := Lib.hid (fun hp => by have := hfr hp; omega)
  clear hby hfr hB1 HB0 HP HR p0 pl hs0
  have c0 : W1.cell? ⟨N, 0, none⟩ = some (.int .i64 xt) := cell_at HP1.out 0
  have c1 : W1.cell? ⟨N, 1, none⟩ = some (.int .i8 xk) := cell_at HP1.out 1
  have c2 : W1.cell? ⟨N, 2, none⟩ = some (.int .i64 xs) := cell_at HP1.out 2
  have c3 : W1.cell? ⟨N, 3, none⟩ = some (.int .u8 xst) := cell_at HP1.out 3
  have c4 : W1.cell? ⟨N, 4, none⟩ = some (.slice a n ca) := cell_at HP1.out 4
  have z4 := free_at HP1.out 4
  have d0 : W1.cell? ⟨N + 1, 0, none⟩ = some (.int .i64 0) := cell_at HR1.out 0
  have d1 : W1.cell? ⟨N + 1, 1, none⟩ = some (.int .i8 0) := cell_at HR1.out 1
  have d2 : W1.cell? ⟨N + 1, 2, none⟩ = some (.int .i64 0) := cell_at HR1.out 2
  have d3 : W1.cell? ⟨N + 1, 3, none⟩ = some (.int .u8 0) := cell_at HR1.out 3
  have d4 : W1.cell? ⟨N + 1, 4, none⟩ = some (.slice none 0 0) := cell_at HR1.out 4
  have y0 := free_at HR1.out 0
  have y1 := free_at HR1.out 1
  have y2 := free_at HR1.out 2
  have y3 := free_at HR1.out 3
  have y4 := free_at HR1.out 4
  have hl1 : N < W1.heap.size := HP1.out.lt
  have hl2 : N + 1 < W1.heap.size := HR1.out.lt
  go_wp2_with fail
  obtain ⟨WF, hWF⟩ : ∃ WF, WF = (((((W1.setCell ⟨N, 4, none⟩ (.slice a' n c')).setCell ⟨N + 1, 0, none⟩ (.int .i64 xt)).setCell ⟨N + 1, 1, none⟩ (.int .i8 xk)).setCell ⟨N + 1, 2, none⟩ (.int .i64 xs)).setCell ⟨N + 1, 3, none⟩ (.int .u8 xst)).setCell ⟨N + 1, 4, none⟩ (.slice a' n c') := ⟨_, rfl⟩
  have k1 : Blk WF (N + 1) #[.int .i64 xt, .int .i8 xk, .int .i64 xs, .int .u8 xst, .slice a' n c'] 47 := by rw [hWF]; exact (((((HR1.out.ne ⟨N, 4, none⟩ (by simp) _).set 0 (.int .i64 xt)).set 1 (.int .i8 xk)).set 2 (.int .i64 xs)).set 3 (.int .u8 xst)).set 4 (.slice a' n c')
  have hn1 : 0 < n → b' ≠ N := fun hp => by have := HF.out hp; omega
  have hn2 : 0 < n → b' ≠ N + 1 := fun hp => by have := HF.out hp; omega
  have k2 : ByIn WF a' n c' b' 0 X := by rw [hWF]; exact (((((HBY.out.ne ⟨N, 4, none⟩ hn1 _).ne ⟨N + 1, 0, none⟩ hn2 _).ne ⟨N + 1, 1, none⟩ hn2 _).ne ⟨N + 1, 2, none⟩ hn2 _).ne ⟨N + 1, 3, none⟩ hn2 _).ne ⟨N + 1, 4, none⟩ hn2 _
  have hBF : Below N w WF := by
    rw [hWF]
    exact (((((HB1.out.setCell (p := ⟨N, 4, none⟩) (Nat.le_refl _) _).setCell (p := ⟨N + 1, 0, none⟩) (by simp only; omega) _).setCell (p := ⟨N + 1, 1, none⟩) (by simp only; omega) _).setCell (p := ⟨N + 1, 2, none⟩) (by simp only; omega) _).setCell (p := ⟨N + 1, 3, none⟩) (by simp only; omega) _).setCell (p := ⟨N + 1, 4, none⟩) (by simp only; omega) _
  rw [← hWF]
  have r0 : WF.cell? ⟨N + 1, 0, none⟩ = some (.int .i64 xt) := cell_at k1 0
  have r1 : WF.cell? ⟨N + 1, 1, none⟩ = some (.int .i8 xk) := cell_at k1 1
  have r2 : WF.cell? ⟨N + 1, 2, none⟩ = some (.int .i64 xs) := cell_at k1 2
  have r3 : WF.cell? ⟨N + 1, 3, none⟩ = some (.int .u8 xst) := cell_at k1 3
  have r4 : WF.cell? ⟨N + 1, 4, none⟩ = some (.slice a' n c') := cell_at k1 4
  exact bodyPost_ret (v := .agg #[.int .i64 xt, .int .i8 xk, .int .i64 xs, .int .u8 xst, .slice a' n c']) (by simp [results, Try.results50, go_sem, r0, r1, r2, r3, r4]) rfl ⟨a', c', b', rfl, k2, (fun hp => by have := HF.out hp; have := HN.out; omega), HN.out ▸ hBF⟩

def dL (E : Nat → DE) (n : Nat) : List Value := (List.range n).flatMap fun k => (E k).cells
theorem dL_succ (E : Nat → DE) (n : Nat) : dL E (n + 1) = dL E n ++ (E n).cells := by simp [dL, List.range_succ, List.flatMap_append]
theorem dL_len (E : Nat → DE) : ∀ n : Nat, (dL E n).length = n * 5
  | 0 => by simp [dL]
  | n + 1 => by rw [dL_succ, List.length_append, dL_len E n]; simp [DE.cells]; omega
theorem dL_congr {E E' : Nat → DE} : ∀ {n : Nat}, (∀ k, k < n → E k = E' k) → dL E n = dL E' n
  | 0, _ => rfl
  | n + 1, h => by rw [dL_succ, dL_succ, dL_congr (fun k hk => h k (by omega)), h n (by omega)]
theorem dL_at (E : Nat → DE) : ∀ (n k j : Nat), k < n → j < 5 → (dL E n)[k * 5 + j]? = (E k).cells[j]?
  | 0, _, _, h, _ => by omega
  | n + 1, k, j, h, hj => by
    have hl := dL_len E n
    rw [dL_succ]
    by_cases hk : k < n
    · rw [List.getElem?_append_left (by omega)]
      exact dL_at E n k j hk hj
    · obtain rfl : k = n := by omega
      rw [List.getElem?_append_right (by omega), hl]
      congr 1
      omega
/-- entries copied so far: the row, and each one's data apart from it -/
structure CopyD (W : World) (v : Value) (ob : Option Nat) (k : Nat) (E F : Nat → DE) : Prop where
  row : Row W v ob 47 5 k (dL F k)
  sim : ∀ j, j < k → (E j).sim (F j)
  by_ : ∀ j, j < k → (F j).by_ W
  ap : ∀ j, j < k → 0 < (F j).dl → ob ≠ some (F j).b
theorem CopyD.done {W : World} {v : Value} {ob : Option Nat} {k : Nat} {E F : Nat → DE} (h : CopyD W v ob k E F) : ∃ a c g, v = .slice a k c ∧ DIn W a k c g 0 F := by
  obtain ⟨a, c, rfl, h1, h2, h3⟩ := h.row.shape
  refine ⟨a, c, ob.getD 0, rfl, h1, h2, fun hk => ?_, fun j hj i hi => ?_, h.by_⟩
  · obtain ⟨g, hg, _⟩ := h.row.cell 0 (by omega)
    have hr := h.row
    subst hg
    exact ⟨h3, hr.lt⟩
  · obtain ⟨g, hg, hc, _⟩ := h.row.cell (j * 5 + i) (by omega)
    subst hg
    rw [Option.getD_some, Nat.zero_add, hc, dL_at F k j i hj hi]
theorem CopyD.below {W W' : World} {v : Value} {ob : Option Nat} {k : Nat} {E F : Nat → DE} (h : CopyD W v ob k E F) (hB : Below W.heap.size W W') : CopyD W' v ob k E F :=
  ⟨h.row.congr fun g hg => hB.block g (by have hr := h.row; subst hg; exact hr.lt), h.sim, fun j hj => ByIn.below (h.by_ j hj) hB, h.ap⟩
/-- one more, behind a growth of the row -/
theorem CopyD.snoc {W W2 W' : World} {v v' : Value} {ob : Option Nat} {ob' k : Nat} {E F : Nat → DE} {y : DE} (h : CopyD W2 v ob k E F) (hy : y.by_ W2) (hya : 0 < y.dl → ob ≠ some y.b) (hs : (E k).sim y)
    (hr : Row W' v' (some ob') 47 5 (k + 1) (dL F k ++ y.cells)) (hA : ∀ b, b < W2.heap.size → ob ≠ some b → W'.heap[b]? = W2.heap[b]?) (hz : W2.heap.size ≤ W'.heap.size) (ho : ob = some ob' ∨ W2.heap.size ≤ ob') : CopyD W' v' (some ob') (k + 1) E (fun j => if j = k then y else F j) := by
  have hby : ∀ x : DE, x.by_ W2 → (0 < x.dl → ob ≠ some x.b) → x.by_ W' := fun x hx hxa =>
    ⟨hx.le, hx.max, fun hk => ⟨(hx.at_ hk).1, by have := (hx.at_ hk).2; omega⟩, fun j hj => by
      have hb := (hx.at_ (by omega)).2
      exact (cell_congr (hA x.b hb (hxa (by omega))) _).trans (hx.cell j hj), hx.bd⟩
  have hap : ∀ x : DE, x.by_ W2 → (0 < x.dl → ob ≠ some x.b) → 0 < x.dl → some ob' ≠ some x.b := fun x hx hxa hd e => by
    have hb := (hx.at_ hd).2
    rcases ho with h1 | h1
    · exact hxa hd (h1.trans e)
    · obtain rfl := Option.some.inj e; omega
  refine ⟨?_, fun j hj => ?_, fun j hj => ?_, fun j hj hd => ?_⟩
  · rw [dL_succ, dL_congr (E' := F) (fun j hj => if_neg (by omega)), if_pos rfl]
    exact hr
  · show (E j).sim (if j = k then y else F j)
    split
    · next e => rw [e]; exact hs
    · exact h.sim j (by omega)
  · show DE.by_ W' (if j = k then y else F j)
    split
    · exact hby y hy hya
    · exact hby _ (h.by_ j (by omega)) (h.ap j (by omega))
  · show some ob' ≠ some (if j = k then y else F j).b
    have hd' : 0 < (if j = k then y else F j).dl := hd
    split at hd'
    · next e => rw [if_pos e]; exact hap y hy hya hd'
    · next e => rw [if_neg e]; exact hap _ (h.by_ j (by omega)) (h.ap j (by omega)) hd'
theorem entZero : (Try.prog.info? 47).map (fun i => (i.zero, i.size, i.bytes)) = some (some (.agg #[.int .i64 0, .int .i8 0, .int .i64 0, .int .u8 0, .slice none 0 0]), 5, 56) := by kernel_rfl
theorem fw_cells (W : World) (xs : List Value) (e : TypeId) (j : Nat) (u : Value) (h : xs[j]? = some u) : (W.alloc (.cells xs.toArray e)).cell? ((⟨W.heap.size, 0, none⟩ : Addr).add j) = some u := by
  have h1 : (W.alloc (.cells xs.toArray e)).heap[W.heap.size]? = some (.cells xs.toArray e (0, 0)) := heap_alloc_new W _
  have h2 := cell_at h1 j
  have h3 : ((⟨W.heap.size, 0, none⟩ : Addr).add j) = ⟨W.heap.size, j, none⟩ := by
    simp only [Addr.add, Nat.zero_add]
    split
    · next h => rw [h]
    · rfl
  rw [h3, h2]
  simpa using h

end Go.Proofs.Ytcadinoijclfnaa
