/-
  Tables: the same ones, copies.
-/
import Derived.Test.YthmjlomlceljkaaHi3
import Derived.Deep.DeepFit
import Derived.Lib.AppendZeros
import Derived.Deep.RegionLaw
import Derived.Deep.RegionWith
import Derived.Lib.EndianBits
import Derived.Deep.MidRow
import Derived.Laws.StructEq
namespace Go.Proofs.Ythmjlomlceljkaa
open Go.RowKit
set_option linter.unusedSimpArgs false
set_option linter.unusedVariables false

theorem fc_neq (x y : FcE) (w : World) : (binOp .neq 87 (.agg #[.int .i64 x.tick, .int .i64 x.tenant, .int .i64 x.rate, .int .i64 x.burst]) (.agg #[.int .i64 y.tick, .int .i64 y.tenant, .int .i64 y.rate, .int .i64 y.burst])).run Try.prog w = .ok (.bool (!decide (x = y))) w := by
  have hg : Try.prog.fieldsOf 87 = #[⟨"Tick", 3, 0, false, "", "", 0⟩, ⟨"Tenant", 3, 1, false, "", "", 8⟩, ⟨"Rate", 3, 2, false, "", "", 16⟩, ⟨"Burst", 3, 3, false, "", "", 24⟩] := by kernel_rfl
  have e1 : ∀ (d : Nat) (a b : Int), (Op.equalIn (d + 1) 3 (.int .i64 a) (.int .i64 b)).run Try.prog w = .ok (a == b) w := fun d a b => run_equalIn_int w d _ .i64 .i64 a b (by kernel_rfl)
  have e4 : (Op.equal 87 (.agg #[.int .i64 x.tick, .int .i64 x.tenant, .int .i64 x.rate, .int .i64 x.burst]) (.agg #[.int .i64 y.tick, .int .i64 y.tenant, .int .i64 y.rate, .int .i64 y.burst])).run Try.prog w = .ok (decide (x = y)) w := by
    show (Op.equalIn (9998 + 1 + 1) _ _ _).run _ w = _
    rw [run_equalIn_struct w _ _ _ _ (by kernel_rfl) (by kernel_rfl), hg]
    obtain ⟨a, b, c, d⟩ := x
    obtain ⟨a', b', c', d'⟩ := y
    by_cases h1 : a = a' <;> by_cases h2 : b = b' <;> by_cases h3 : c = c' <;> by_cases h4 : d = d' <;> simp [Op.eqFields, part, e1, go_sem, h1, h2, h3, h4]
  simp only [binOp]
  simp [e4, Result.andThen]
theorem an_neq (p q r s t p' q' r' s' t' : Int) (w : World) : (binOp .neq 54 (.agg #[.int .i64 p, .int .i64 q, .int .i64 r, .int .i64 s, .int .i64 t]) (.agg #[.int .i64 p', .int .i64 q', .int .i64 r', .int .i64 s', .int .i64 t'])).run Try.prog w = .ok (.bool (!(decide (p = p') && decide (q = q') && decide (r = r') && decide (s = s') && decide (t = t')))) w := by
  have hf : Try.prog.fieldsOf 54 = #[⟨"E", 25, 0, false, "", "", 0⟩, ⟨"Rate", 3, 1, false, "", "", 8⟩, ⟨"Burst", 3, 2, false, "", "", 16⟩, ⟨"Lease", 3, 3, false, "", "", 24⟩, ⟨"Size", 3, 4, false, "", "", 32⟩] := by kernel_rfl
  have e1 : ∀ (d : Nat) (a b : Int), (Op.equalIn (d + 1) 3 (.int .i64 a) (.int .i64 b)).run Try.prog w = .ok (a == b) w := fun d a b => run_equalIn_int w d _ .i64 .i64 a b (by kernel_rfl)
  have e2 : ∀ a b : Int, (Op.equalIn (9998 + 1) 25 (.int .i64 a) (.int .i64 b)).run Try.prog w = .ok (a == b) w := fun a b => run_equalIn_int w 9998 _ .i64 .i64 a b (by kernel_rfl)
  have e4 : (Op.equal 54 (.agg #[.int .i64 p, .int .i64 q, .int .i64 r, .int .i64 s, .int .i64 t]) (.agg #[.int .i64 p', .int .i64 q', .int .i64 r', .int .i64 s', .int .i64 t'])).run Try.prog w = .ok (decide (p = p') && decide (q = q') && decide (r = r') && decide (s = s') && decide (t = t')) w := by
    show (Op.equalIn (9998 + 1 + 1) _ _ _).run _ w = _
    rw [run_equalIn_struct w _ _ _ _ (by kernel_rfl) (by kernel_rfl), hf]
    by_cases h1 : p = p' <;> by_cases h2 : q = q' <;> by_cases h3 : r = r' <;> by_cases h4 : s = s' <;> by_cases h5 : t = t' <;> simp [Op.eqFields, part, e1, e2, go_sem, h1, h2, h3, h4, h5]
  simp only [binOp]
  simp [e4, Result.andThen]
theorem dec_step {A B : List FcE} {k n : Nat} (hA : n = A.length) (hB : n = B.length) (h : k < n) : decide (A.drop k = B.drop k) = (decide (gFc A k = gFc B k) && decide (A.drop (k + 1) = B.drop (k + 1))) := by
  rw [List.drop_eq_getElem_cons (show k < A.length by omega), List.drop_eq_getElem_cons (show k < B.length by omega), show gFc A k = A[k] from gFc_of (List.getElem?_eq_getElem (by omega)), show gFc B k = B[k] from gFc_of (List.getElem?_eq_getElem (by omega)), ← Bool.decide_and, decide_eq_decide]
  exact List.cons_eq_cons
theorem dec_end {A B : List FcE} (n : Nat) (hA : n = A.length) (hB : n = B.length) : decide (A.drop n = B.drop n) = true := by rw [hA, List.drop_length, ← hA, hB, List.drop_length]; rfl
set_option maxRecDepth 100000 in
set_option maxHeartbeats 8000000 in
theorem same_any (v1 v2 : Value) (A B : List FcE) (w : World) (h1 : FcV w v1 A) (h2 : FcV w v2 B) : Calls Try.prog 70 #[v1, v2] w fun e w' => e = .returned (.bool (decide (A = B))) ∧ Below w.heap.size w w' := by
  obtain ⟨a, n, cap, rfl, HN, m1, m2⟩ := h1.sh
  obtain ⟨a2, n2, cap2, rfl, HN2, l1, l2⟩ := h2.sh
  have H1 := Lib.hid h1
  have H2 := Lib.hid h2
  clear h1 h2
  by_cases hl : n = n2
  rotate_left
  · have d1 : ((n : Int) != (n2 : Int)) = true := by simp; omega
    go_enter Try.func70, Try.ntmps70
    go_wp2_with fail
    go_ret
    exact ⟨ret_bool (decide_eq_false (by intro e; have := HN.out; have := HN2.out; rw [e] at *; omega)).symm, Below.refl _ _⟩
  have HNB : Hid (n = B.length) := Lib.hid (by rw [hl]; exact HN2.out)
  subst hl
  go_enter Try.func70, Try.ntmps70
  go_wp2_with fail
  go_loopw [5] (fun i wr => ∃ k : Nat, k ≤ n ∧ i = .int .i64 k ∧ decide (A.drop k = B.drop k) = decide (A = B) ∧ Below w.heap.size w wr) (fun i _ => n - (intOf i).toNat)
  case atStart => exact ⟨0, Nat.zero_le _, rfl, rfl, Below.refl _ _⟩
  case round =>
    obtain ⟨k, hk, rfl, hc, hB⟩ := hrel
    have HB := Lib.hid hB
    have HC := Lib.hid hc
    clear hB hc
    by_cases hlt : k < n
    · obtain ⟨g, o, x, ea, g1, hx, c0, c1, c2, c3⟩ := (H1.out.below HB.out).at k hlt
      obtain ⟨g', o', y, ea', g1', hy, z0, z1, z2, z3⟩ := (H2.out.below HB.out).at k hlt
      subst ea
      subst ea'
      have HST : Hid (decide (A = B) = (decide (x = y) && decide (A.drop (k + 1) = B.drop (k + 1)))) := Lib.hid (by rw [← HC.out, ← gFc_of hx, ← gFc_of hy]; exact dec_step HN.out HNB.out hlt)
      have hq := fun W => fc_neq x y W
      obtain ⟨q, hqe⟩ : ∃ q, q = decide (x = y) := ⟨_, rfl⟩
      rw [← hqe] at HST hq
      clear hx hy HC hqe
      have ww5 : IntKind.i64.wrap ((k : Int) + 1) = (k : Int) + 1 := IntWalk.i64_in _ (by omega)
      have b9 : ((k : Int) < (n : Int)) = True := eq_true (by omega)
      have bk1 : (k < n) = True := eq_true hlt
      cases q
      · go_wp2_with fail
        (refine wp_region_quiet_lit (by kernel_rfl) (by kernel_rfl) ?_; (repeat (first | go_big_quiet_step (fail) | (refine BigFrame.wpQuiet_skip (by rfl) ?_; try simp only [Act.put, List.setIfInBounds_toArray, List.set_cons_zero, List.set_cons_succ]))); refine wpQuiet_nil ?_; intro _ hw9; obtain ⟨nq, hw8⟩ := hw9; subst hw8)
        go_wp2_with fail
        go_ret
        exact ⟨ret_bool (by rw [HST.out]; rfl), HB.out.trans ((dN _ _).mono HB.out.size)⟩
      · go_wp2_with fail
        (refine wp_region_quiet_lit (by kernel_rfl) (by kernel_rfl) ?_; (repeat (first | go_big_quiet_step (fail) | (refine BigFrame.wpQuiet_skip (by rfl) ?_; try simp only [Act.put, List.setIfInBounds_toArray, List.set_cons_zero, List.set_cons_succ]))); refine wpQuiet_nil ?_; intro _ hw9; obtain ⟨nq, hw8⟩ := hw9; subst hw8)
        go_wp2_with fail
        go_roundw
        case rel => exact ⟨k + 1, by omega, by go_num, by rw [HST.out, Bool.true_and], HB.out.trans ((dN _ _).mono HB.out.size)⟩
        case measure => first | (simp [intOf]; done) | (simp [intOf]; omega)
    · obtain rfl : k = n := by omega
      have hE : decide (A = B) = true := by rw [← HC.out]; exact dec_end _ HN.out HNB.out
      go_wp2_with fail
      go_ret
      exact ⟨ret_bool hE.symm, HB.out⟩
set_option maxRecDepth 100000 in
set_option maxHeartbeats 8000000 in
theorem table_any (v1 v2 : Value) (A B : List FcE) (w : World) (h1 : FcV w v1 A) (h2 : FcV w v2 B) : Calls Try.prog 22 #[v1, v2] w fun e w' => e = .returned (.bool (decide (A = B))) ∧ Below w.heap.size w w' := by
  obtain ⟨a, n, cap, rfl, HN, m1, m2⟩ := h1.sh
  obtain ⟨a2, n2, cap2, rfl, HN2, l1, l2⟩ := h2.sh
  have H1 := Lib.hid h1
  have H2 := Lib.hid h2
  clear h1 h2
  by_cases hl : n = n2
  rotate_left
  · have d1 : ((n : Int) != (n2 : Int)) = true := by simp; omega
    go_enter Try.func22, Try.ntmps22
    go_wp2_with fail
    go_ret
    exact ⟨ret_bool (decide_eq_false (by intro e; have := HN.out; have := HN2.out; rw [e] at *; omega)).symm, Below.refl _ _⟩
  have HNB : Hid (n = B.length) := Lib.hid (by rw [hl]; exact HN2.out)
  subst hl
  go_enter Try.func22, Try.ntmps22
  go_wp2_with fail
  go_loopw [5, 13] (fun _ i wr => ∃ k : Nat, k ≤ n ∧ i = .int .i64 k ∧ decide (A.drop k = B.drop k) = decide (A = B) ∧ Below w.heap.size w wr) (fun _ i _ => n - (intOf i).toNat)
  case atStart => exact ⟨0, Nat.zero_le _, rfl, rfl, Below.refl _ _⟩
  case round =>
    obtain ⟨k, hk, rfl, hc, hB⟩ := hrel
    have HB := Lib.hid hB
    have HC := Lib.hid hc
    clear hB hc
    by_cases hlt : k < n
    · obtain ⟨g, o, x, ea, g1, hx, c0, c1, c2, c3⟩ := (H1.out.below HB.out).at k hlt
      obtain ⟨g', o', y, ea', g1', hy, z0, z1, z2, z3⟩ := (H2.out.below HB.out).at k hlt
      subst ea
      subst ea'
      have HST : Hid (decide (A = B) = (decide (x = y) && decide (A.drop (k + 1) = B.drop (k + 1)))) := Lib.hid (by rw [← HC.out, ← gFc_of hx, ← gFc_of hy]; exact dec_step HN.out HNB.out hlt)
      have hq := fun W => fc_neq x y W
      obtain ⟨q, hqe⟩ : ∃ q, q = decide (x = y) := ⟨_, rfl⟩
      rw [← hqe] at HST hq
      clear hx hy HC hqe
      have ww5 : IntKind.i64.wrap ((k : Int) + 1) = (k : Int) + 1 := IntWalk.i64_in _ (by omega)
      have b9 : ((k : Int) < (n : Int)) = True := eq_true (by omega)
      have bk1 : (k < n) = True := eq_true hlt
      cases q
      · go_wp2_with fail
        (refine wp_region_quiet_lit (by kernel_rfl) (by kernel_rfl) ?_; (repeat (first | go_big_quiet_step (fail) | (refine BigFrame.wpQuiet_skip (by rfl) ?_; try simp only [Act.put, List.setIfInBounds_toArray, List.set_cons_zero, List.set_cons_succ]))); refine wpQuiet_nil ?_; intro _ hw9; obtain ⟨nq, hw8⟩ := hw9; subst hw8)
        go_wp2_with fail
        go_ret
        exact ⟨ret_bool (by rw [HST.out]; rfl), HB.out.trans ((dN _ _).mono HB.out.size)⟩
      · go_wp2_with fail
        (refine wp_region_quiet_lit (by kernel_rfl) (by kernel_rfl) ?_; (repeat (first | go_big_quiet_step (fail) | (refine BigFrame.wpQuiet_skip (by rfl) ?_; try simp only [Act.put, List.setIfInBounds_toArray, List.set_cons_zero, List.set_cons_succ]))); refine wpQuiet_nil ?_; intro _ hw9; obtain ⟨nq, hw8⟩ := hw9; subst hw8)
        go_wp2_with fail
        go_roundw
        case rel => exact ⟨k + 1, by omega, by go_num, by rw [HST.out, Bool.true_and], HB.out.trans ((dN _ _).mono HB.out.size)⟩
        case measure => first | (simp [intOf]; done) | (simp [intOf]; omega)
    · obtain rfl : k = n := by omega
      have hE : decide (A = B) = true := by rw [← HC.out]; exact dec_end _ HN.out HNB.out
      go_wp2_with fail
      go_ret
      exact ⟨ret_bool hE.symm, HB.out⟩
set_option maxRecDepth 100000 in
set_option maxHeartbeats 4000000 in
theorem copied_any (v : Value) (L : List FcE) (w : World) (h : FcV w v L) (hn : L.length ≤ 5000) :
    Calls Try.prog 50 #[v] w fun e w' => ∃ v' ob, e = .returned v' ∧ FcO w.heap.size w' v' ob L ∧ Below w.heap.size w w' := by
  obtain ⟨v3, ob3, W3, hrun, hor, hBM⟩ := fc_app (ty := 48) (fco_nil w w.heap.size) h (Nat.le_refl _) (by simp; omega)
  rw [List.nil_append] at hor
  have HRUN := Lib.hid hrun
  have HOR := Lib.hid hor
  have HB3 := Lib.hid hBM
  obtain ⟨a, n, cap, rfl, HN, m1, m2⟩ := h.sh
  clear hrun hor hBM h
  go_enter Try.func50, Try.ntmps50
  go_wp2_with (at_builtin; refine Lib.wpList_append_run _ rfl (.tmp 4) (.tmp 5) 48 48 rfl _ _ rfl rfl _ _ HRUN.out ?_)
  go_ret
  exact ⟨_, _, rfl, HOR.out, HB3.out⟩
end Go.Proofs.Ythmjlomlceljkaa
