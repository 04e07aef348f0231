/-
  Package judge: sums, walked.
-/
import Derived.Deep.DeepCutAuto
import Derived.Test.YtcimcmfibinehaaJd7
namespace Go.Proofs.Ytcimcmfibinehaa
open Go.RowKit
set_option linter.unusedSimpArgs false
set_option linter.unusedVariables false

theorem new_at (W : World) (l : List Value) (e : TypeId) : ∀ (j : Nat) (u : Value), l[j]? = some u → (W.alloc (.cells l.toArray e)).cell? ((⟨W.heap.size, 0, none⟩ : Addr).add j) = some u := by
  intro j u h
  have e1 : (⟨W.heap.size, 0, none⟩ : Addr).add j = ⟨W.heap.size, j, none⟩ := by unfold Addr.add; split <;> simp_all
  rw [e1, cell_at (heap_alloc_new W _) j, List.getElem?_toArray]
  exact h

set_option maxRecDepth 100000 in
set_option maxHeartbeats 8000000 in
theorem sums_any (T : Int) (a : Option Addr) (n c b o : Nat) (L : Nat → SentE) (w : World) (hs : SentIn w a n c b o L) (hch : chkS L n = true) (hn : n ≤ 60) :
    Calls Try.prog 19 #[.slice a n c, .int .i64 T] w fun e w' => ∃ v ob, e = .returned v ∧ Row w' v ob 76 2 (sumC L T n).1 (sumL (sumC L T n).2 (sumC L T n).1) ∧ (∀ g, ob = some g → w.heap.size ≤ g) ∧ Below w.heap.size w w' := by
  obtain ⟨i0, hi, hz0, hz1, hz2⟩ := info_parts infoSum
  have HI := Lib.hid hi
  have HZ0 := Lib.hid hz0
  have HZ1 := Lib.hid hz1
  have HZ2 := Lib.hid hz2
  have hm := hs.max
  have hl := hs.le
  unfold maxLen at hm
  have HS := Lib.hid hs
  have HC := Lib.hid hch
  clear hs hch hi hz0 hz1 hz2
  go_enter Try.func19, Try.ntmps19
  go_wp2_with fail
  go_loopw [5, 11] (fun v i wr => ∃ (k : Nat) (ob : Option Nat), k ≤ n ∧ i = .int .i64 k ∧ Row wr v ob 76 2 (sumC L T k).1 (sumL (sumC L T k).2 (sumC L T k).1) ∧ (∀ g, ob = some g → w.heap.size ≤ g) ∧ Below w.heap.size w wr) (fun _ i _ => n - (intOf i).toNat)
  case atStart => exact ⟨0, none, Nat.zero_le _, rfl, Row.nil _ _ _, (fun _ h => by cases h), Below.refl _ _⟩
  case round =>
    obtain ⟨k, ob, hk, rfl, hr, hob, hB⟩ := hrel
    obtain ⟨av, cv, hv, hcv1, hcv2, hav⟩ := hr.shape
    unfold maxLen at hcv2
    have hcl := sumC_le L T k
    by_cases hlt : k < n
    · obtain ⟨e0, e1⟩ := HS.out.at_ (by omega)
      subst e0
      obtain ⟨c0, c1, c2, c3, c4, c5⟩ := (HS.out.below hB).cell k hlt
      have hsz := chkS_le HC.out k hlt
      have HBD := Lib.hid (sumC_bd (T := T) (chkS_pre HC.out k (by omega)))
      have HN : Hid (sumC L T (k + 1) = if (L k).ten = T then
          (if 0 < (sumC L T k).1 ∧ ((sumC L T k).2 ((sumC L T k).1 - 1)).t = (L k).t then ((sumC L T k).1, upd (sumC L T k).2 ((sumC L T k).1 - 1) ⟨((sumC L T k).2 ((sumC L T k).1 - 1)).t, ((sumC L T k).2 ((sumC L T k).1 - 1)).sz + (L k).sz⟩)
          else ((sumC L T k).1 + 1, upd (sumC L T k).2 (sumC L T k).1 ⟨(L k).t, (L k).sz⟩)) else sumC L T k) := Lib.hid rfl
      obtain ⟨p, hp⟩ : ∃ p, p = sumC L T k := ⟨_, rfl⟩
      rw [← hp] at hr hcl HN HBD hcv1 hv
      obtain ⟨m, f⟩ := p
      dsimp only at hr hcl HN HBD hcv1 hv
      obtain ⟨x, hx⟩ : ∃ x, x = L k := ⟨_, rfl⟩
      rw [← hx] at c0 c1 c2 c3 c4 c5 hsz HN
      obtain ⟨xt, xsh, xten, xfl, xsz, xpk⟩ := x
      dsimp only at c0 c1 c2 c3 c4 c5 hsz HN
      obtain ⟨hz1, hz2, _⟩ := hsz
      have HR := Lib.hid hr
      have HO := Lib.hid hob
      have HB := Lib.hid hB
      have HAV := Lib.hid hav
      subst hv
      obtain ⟨W1, hW1⟩ : ∃ W1, W1 = wr.alloc (.cells #[.int .i64 xt, .int .i64 xsh, .int .i64 xten, .int .i64 xfl, .int .i64 xsz, .int .i64 xpk] 34) := ⟨_, rfl⟩
      have HX := Lib.hid (blk_new wr #[.int .i64 xt, .int .i64 xsh, .int .i64 xten, .int .i64 xfl, .int .i64 xsz, .int .i64 xpk] 34)
      have HB1 : Hid (Below w.heap.size w W1) := Lib.hid (by rw [hW1]; exact HB.out.alloc HB.out.size _)
      have HR1 : Hid (Row W1 (.slice av m cv) ob 76 2 m (sumL f m)) := Lib.hid (by rw [hW1]; exact HR.out.alloc _)
      have hbw1 : Below wr.heap.size wr W1 := by rw [hW1]; exact (Below.refl _ _).alloc (Nat.le_refl _) _
      rw [← hW1] at HX
      have HW := Lib.hid hW1
      have HS1 : Hid (W1.heap.size = wr.heap.size + 1) := Lib.hid (by rw [hW1]; simp)
      clear hr hob hB hav hp hx hW1 HR HB hbw1
      by_cases hT : xten = T
      · have d1 : (xten != T) = false := by simpa using hT
        have HN2 := Lib.hid (HN.out.trans (if_pos hT))
        clear HN hT
        go_upto_region 7 with fail
        rw [← HW.out]
        clear HW c0 c1 c2 c3 c4 c5
        have x0 : W1.cell? ⟨wr.heap.size, 0, none⟩ = some (.int .i64 xt) := cell_at HX.out 0
        have x4 : W1.cell? ⟨wr.heap.size, 4, none⟩ = some (.int .i64 xsz) := cell_at HX.out 4
        by_cases hm0 : m = 0
        · have b0 : decide (0 < m) = false := by simp; omega
          have HQ : Hid (sumC L T (k + 1) = (m + 1, upd f m ⟨xt, xsz⟩)) := Lib.hid (by rw [HN2.out, if_neg (by omega)])
          clear hm0
          (refine wp_region_quiet_lit (by kernel_rfl) (by kernel_rfl) ?_; (repeat (first | go_big_quiet_step (fail) | (refine BigFrame.wpQuiet_skip (by rfl) ?_; try simp only [Act.put, List.setIfInBounds_toArray, List.set_cons_zero, List.set_cons_succ]))); refine wpQuiet_nil ?_; intro _ hw9; obtain ⟨nq, hw8⟩ := hw9; subst hw8)
          obtain ⟨W2, hW2⟩ : ∃ W2, W2 = W1.drewN nq := ⟨_, rfl⟩
          have HR2 : Hid (Row W2 (.slice av m cv) ob 76 2 m (sumL f m)) := Lib.hid (by rw [hW2]; exact HR1.out.congr fun _ _ => rfl)
          have HB2 : Hid (Below w.heap.size w W2) := Lib.hid (by rw [hW2]; exact below_drewN HB1.out _)
          have y0 : W2.cell? ⟨wr.heap.size, 0, none⟩ = some (.int .i64 xt) := by rw [hW2]; exact x0
          have y4 : W2.cell? ⟨wr.heap.size, 4, none⟩ = some (.int .i64 xsz) := by rw [hW2]; exact x4
          rw [← hW2]
          clear hW2 x0 x4
          have hb8 : ((m : Int) + 1) * 16 ≤ 140737488355328 := by omega
          go_wp2_with (at_builtin; refine wpList_append_row _ rfl (.tmp 45) (.tmp 51) 55 rfl 76 i0 _ 2 16 Try.underlying55 HI.out HZ0.out HZ1.out HZ2.out rfl (by decide) _ ob m (sumL f m) rfl (HR2.out.alloc _) ⟨W2.heap.size, 0, none⟩ 1 1 [.int .i64 xt, .int .i64 xsz] rfl (by decide) rfl ?c1 ?c2 ?c3 ?c4 ?_)
          case c1 => exact new_at W2 [.int .i64 xt, .int .i64 xsz] _
          case c2 => intro u hu; exact (List.all_eq_true (p := fun u : Value => u.oneCell')).1 rfl u hu
          case c3 => unfold maxLen; omega
          case c4 => omega
          intro v1' ob1' W3 hrow3 hg3 hob3
          have hzA : (W2.alloc (.cells #[.int .i64 xt, .int .i64 xsz] 76)).heap.size = W2.heap.size + 1 := by simp
          have hob1 : w.heap.size ≤ ob1' := by
            rcases hob3 with h | h
            · exact HO.out _ h
            · have := HB2.out.size; omega
          have HB3 : Hid (Below w.heap.size w W3) := Lib.hid ((HB2.out.alloc HB2.out.size _).grown hg3 (by have := HB2.out.size; omega) (fun g e => HO.out _ e))
          have HR3 : Hid (Row W3 v1' (some ob1') 76 2 (m + 1) (sumL (upd f m ⟨xt, xsz⟩) (m + 1))) := Lib.hid (by
            rw [sumL_succ, upd_same, sumL_congr (E' := f) (fun j hj => upd_ne _ _ (by omega))]
            exact hrow3)
          have HO3 := Lib.hid hob1
          clear hg3 hob3 hrow3 hob1
          go_wp2_with fail
          go_roundw
          case rel => exact ⟨k + 1, some ob1', by omega, by go_num, by rw [HQ.out]; exact HR3.out, (fun g e => by obtain rfl := Option.some.inj e; exact HO3.out), HB3.out⟩
          case measure => first | (simp [intOf]; done) | (simp [intOf]; omega)
        · have b0 : decide (0 < m) = true := by simp; omega
          obtain ⟨j, hj⟩ : ∃ j, m = j + 1 := ⟨m - 1, by omega⟩
          have b1 : (m : Int) - 1 = (j : Int) := by omega
          have b2 : IntKind.i64.wrap (j : Int) = (j : Int) := IntWalk.i64_in _ (by omega)
          have b3 : j < m := by omega
          obtain ⟨g, hg, hq0, hf0⟩ := HR1.out.cell (j * 2) (by omega)
          obtain ⟨g', hg', hq1, hf1⟩ := HR1.out.cell (j * 2 + 1) (by omega)
          obtain rfl : g = g' := Option.some.inj (hg.symm.trans hg')
          have hbd := HBD.out j b3
          rw [show j * 2 = j * 2 + 0 by omega, sumL_at f m j 0 (by omega) (by omega)] at hq0
          rw [sumL_at f m j 1 (by omega) (by omega)] at hq1
          have q0 : W1.cell? ⟨g, j * 2, none⟩ = some (.int .i64 (f j).t) := by rw [Nat.add_zero] at hq0; exact hq0
          have q1 : W1.cell? ⟨g, j * 2 + 1, none⟩ = some (.int .i64 (f j).sz) := hq1
          have hav := HAV.out
          rw [hg] at hav
          simp only [Option.map_some] at hav
          have hgl := (HR1.out.congr (w' := W1) fun _ _ => rfl)
          rw [hg] at hgl
          have hgl := hgl.lt
          have HM1 : Hid (m - 1 = j) := Lib.hid (by omega)
          obtain ⟨ft, hft⟩ : ∃ z, z = (f j).t := ⟨_, rfl⟩
          obtain ⟨fz, hfz⟩ : ∃ z, z = (f j).sz := ⟨_, rfl⟩
          rw [← hft] at q0
          rw [← hfz] at q1 hbd
          have HFT := Lib.hid hft
          have HFZ := Lib.hid hfz
          have HG := Lib.hid hg
          obtain ⟨⟨hb1, hb2⟩, _⟩ := hbd
          clear hj hm0 hg hg' hq0 hq1 hf0 hft hfz
          by_cases he : ft = xt
          · have d2 : (ft == xt) = true := by simpa using he
            have HQ : Hid (sumC L T (k + 1) = (m, upd f j ⟨ft, fz + xsz⟩)) := Lib.hid (by
              rw [HN2.out, HM1.out, if_pos ⟨by omega, by rw [← HFT.out, he]⟩, ← HFT.out, ← HFZ.out])
            clear he
            subst hav
            have hb3 : fz ≤ 90000 := by omega
            have ws : IntKind.i64.wrap (fz + xsz) = fz + xsz := IntWalk.i64_in _ (by omega)
            clear hgl hb2
            (refine wp_region_quiet_lit (by kernel_rfl) (by kernel_rfl) ?_; (repeat (first | go_big_quiet_step (fail) | (refine BigFrame.wpQuiet_skip (by rfl) ?_; try simp only [Act.put, List.setIfInBounds_toArray, List.set_cons_zero, List.set_cons_succ]))); refine wpQuiet_nil ?_; intro _ hw9; obtain ⟨nq, hw8⟩ := hw9; subst hw8)
            obtain ⟨W2, hW2⟩ : ∃ W2, W2 = W1.drewN nq := ⟨_, rfl⟩
            have HR2 : Hid (Row W2 (.slice (some ⟨g, 0, none⟩) m cv) (some g) 76 2 m (sumL f m)) := Lib.hid (by rw [hW2, ← HG.out]; exact HR1.out.congr fun _ _ => rfl)
            have HB2 : Hid (Below w.heap.size w W2) := Lib.hid (by rw [hW2]; exact below_drewN HB1.out _)
            have y4 : W2.cell? ⟨wr.heap.size, 4, none⟩ = some (.int .i64 xsz) := by rw [hW2]; exact x4
            have y1 : W2.cell? ⟨g, j * 2 + 1, none⟩ = some (.int .i64 fz) := by rw [hW2]; exact q1
            have z1 : W2.frozen? ⟨g, j * 2 + 1, none⟩ = false := by rw [hW2]; exact hf1
            have gl : g < W2.heap.size := HR2.out.lt
            have HGO : Hid (w.heap.size ≤ g) := Lib.hid (HO.out _ HG.out)
            rw [← hW2]
            clear hW2 x0 x4 q0 q1 hf1
            go_wp2_with fail
            go_still_tail 11, (by kernel_rfl)
            change wpList _ _ _ _ _ W2.drew
            go_wp2_with fail
            go_roundw
            case rel =>
              refine ⟨k + 1, some g, by omega, by go_num, ?_, (fun g2 e => by obtain rfl := Option.some.inj e; exact HGO.out), ?_⟩
              · rw [HQ.out]
                have h := row_put HR2.out (j * 2 + 1) (by omega) (.int .i64 (fz + xsz))
                rw [sumL_set f m j b3, ← HFT.out] at h
                exact h.congr fun _ _ => rfl
              · exact (HB2.out.setCell (p := ⟨g, j * 2 + 1, none⟩) HGO.out _).drew
            case measure => first | (simp [intOf]; done) | (simp [intOf]; omega)
          · have d2 : (ft == xt) = false := by simpa using he
            have HQ : Hid (sumC L T (k + 1) = (m + 1, upd f m ⟨xt, xsz⟩)) := Lib.hid (by
              rw [HN2.out, HM1.out, if_neg (fun h => he (by rw [HFT.out]; exact h.2))])
            clear he
            subst hav
            (refine wp_region_quiet_lit (by kernel_rfl) (by kernel_rfl) ?_; (repeat (first | go_big_quiet_step (fail) | (refine BigFrame.wpQuiet_skip (by rfl) ?_; try simp only [Act.put, List.setIfInBounds_toArray, List.set_cons_zero, List.set_cons_succ]))); refine wpQuiet_nil ?_; intro _ hw9; obtain ⟨nq, hw8⟩ := hw9; subst hw8)
            obtain ⟨W2, hW2⟩ : ∃ W2, W2 = W1.drewN nq := ⟨_, rfl⟩
            have HR2 : Hid (Row W2 (.slice (some ⟨g, 0, none⟩) m cv) ob 76 2 m (sumL f m)) := Lib.hid (by rw [hW2]; exact HR1.out.congr fun _ _ => rfl)
            have HB2 : Hid (Below w.heap.size w W2) := Lib.hid (by rw [hW2]; exact below_drewN HB1.out _)
            have y0 : W2.cell? ⟨wr.heap.size, 0, none⟩ = some (.int .i64 xt) := by rw [hW2]; exact x0
            have y4 : W2.cell? ⟨wr.heap.size, 4, none⟩ = some (.int .i64 xsz) := by rw [hW2]; exact x4
            rw [← hW2]
            clear hW2 x0 x4
            have hb8 : ((m : Int) + 1) * 16 ≤ 140737488355328 := by omega
            go_wp2_with (at_builtin; refine wpList_append_row _ rfl (.tmp 45) (.tmp 51) 55 rfl 76 i0 _ 2 16 Try.underlying55 HI.out HZ0.out HZ1.out HZ2.out rfl (by decide) _ ob m (sumL f m) rfl (HR2.out.alloc _) ⟨W2.heap.size, 0, none⟩ 1 1 [.int .i64 xt, .int .i64 xsz] rfl (by decide) rfl ?c1 ?c2 ?c3 ?c4 ?_)
            case c1 => exact new_at W2 [.int .i64 xt, .int .i64 xsz] _
            case c2 => intro u hu; exact (List.all_eq_true (p := fun u : Value => u.oneCell')).1 rfl u hu
            case c3 => unfold maxLen; omega
            case c4 => omega
            intro v1' ob1' W3 hrow3 hg3 hob3
            have hzA : (W2.alloc (.cells #[.int .i64 xt, .int .i64 xsz] 76)).heap.size = W2.heap.size + 1 := by simp
            have hob1 : w.heap.size ≤ ob1' := by
              rcases hob3 with h | h
              · exact HO.out _ h
              · have := HB2.out.size; omega
            have HB3 : Hid (Below w.heap.size w W3) := Lib.hid ((HB2.out.alloc HB2.out.size _).grown hg3 (by have := HB2.out.size; omega) (fun g e => HO.out _ e))
            have HR3 : Hid (Row W3 v1' (some ob1') 76 2 (m + 1) (sumL (upd f m ⟨xt, xsz⟩) (m + 1))) := Lib.hid (by
              rw [sumL_succ, upd_same, sumL_congr (E' := f) (fun j hj => upd_ne _ _ (by omega))]
              exact hrow3)
            have HO3 := Lib.hid hob1
            clear hg3 hob3 hrow3 hob1
            go_wp2_with fail
            go_roundw
            case rel => exact ⟨k + 1, some ob1', by omega, by go_num, by rw [HQ.out]; exact HR3.out, (fun g e => by obtain rfl := Option.some.inj e; exact HO3.out), HB3.out⟩
            case measure => first | (simp [intOf]; done) | (simp [intOf]; omega)
      · have d1 : (xten != T) = true := by simpa using hT
        have HN2 := Lib.hid (HN.out.trans (if_neg hT))
        clear HN hT
        go_wp2_with fail
        rw [← HW.out]
        go_roundw
        case rel => exact ⟨k + 1, ob, by omega, by go_num, by rw [HN2.out]; exact HR1.out, HO.out, HB1.out⟩
        case measure => first | (simp [intOf]; done) | (simp [intOf]; omega)
    · obtain rfl : k = n := by omega
      subst hv
      have HR := Lib.hid hr
      have HO := Lib.hid hob
      have HB := Lib.hid hB
      clear hr hob hB hav
      go_wp2_with fail
      go_ret
      exact ⟨_, ob, rfl, HR.out, HO.out, HB.out⟩
end Go.Proofs.Ytcimcmfibinehaa
