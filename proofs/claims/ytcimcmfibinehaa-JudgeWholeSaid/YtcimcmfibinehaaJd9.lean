/-
  Package judge: spans: a tenant's policies, each till its next one.
-/
import Derived.Test.YtcimcmfibinehaaJd8
namespace Go.Proofs.Ytcimcmfibinehaa
open Go.RowKit
set_option linter.unusedSimpArgs false
set_option linter.unusedVariables false

theorem spanL_set (E : Nat → SpanE) (n k : Nat) (hk : k < n) (z : Int) : (spanL E n).set (k * 4 + 1) (.int .i64 z) = spanL (upd E k ⟨(E k).b, z, (E k).r, (E k).u⟩) n := by
  refine List.ext_getElem? fun i => ?_
  have hl := spanL_len E n
  have hl' := spanL_len (upd E k ⟨(E k).b, z, (E k).r, (E k).u⟩) n
  rw [List.getElem?_set]
  by_cases hi : i < n * 4
  · have h1 := spanL_at E n (i / 4) (i % 4) (by omega) (by omega)
    have h2 := spanL_at (upd E k ⟨(E k).b, z, (E k).r, (E k).u⟩) n (i / 4) (i % 4) (by omega) (by omega)
    rw [show i / 4 * 4 + i % 4 = i by omega] at h1 h2
    rw [h1, h2]
    by_cases e : k * 4 + 1 = i
    · rw [if_pos e, if_pos (by omega), show i / 4 = k by omega, show i % 4 = 1 by omega, upd_same]
      rfl
    · rw [if_neg e]
      by_cases ek : i / 4 = k
      · rw [ek, upd_same]
        have h3 : i % 4 = 0 ∨ i % 4 = 2 ∨ i % 4 = 3 := by omega
        rcases h3 with h3 | h3 | h3 <;> rw [h3] <;> rfl
      · rw [upd_ne _ _ ek]
  · rw [if_neg (by omega), List.getElem?_eq_none (by omega), List.getElem?_eq_none (by omega)]

/-- the last one ends -/
def endAt (p : Nat × (Nat → SpanE)) (t : Int) : Nat → SpanE := if 0 < p.1 then upd p.2 (p.1 - 1) ⟨(p.2 (p.1 - 1)).b, t, (p.2 (p.1 - 1)).r, (p.2 (p.1 - 1)).u⟩ else p.2
/-- how many spans, and which -/
def spanC (F : Nat → ForceE) (T : Int) : Nat → Nat × (Nat → SpanE)
  | 0 => (0, fun _ => ⟨0, 0, 0, 0⟩)
  | n + 1 => if (F n).ten = T then ((spanC F T n).1 + 1, upd (endAt (spanC F T n) (F n).t) (spanC F T n).1 ⟨(F n).t, 9223372036854775807, (F n).r, (F n).b⟩) else spanC F T n
theorem spanC_le (F : Nat → ForceE) (T : Int) : ∀ n, (spanC F T n).1 ≤ n
  | 0 => by simp [spanC]
  | n + 1 => by
    have := spanC_le F T n
    simp only [spanC]
    split
    · simp only; omega
    · omega
theorem chkF_le {F : Nat → ForceE} : ∀ {n : Nat}, chkF F n = true → ∀ k, k < n → lastF F k ≤ (F k).t ∧ (F k).t ≤ 1099511627776 ∧ (1 ≤ (F k).ten ∧ (F k).ten ≤ 16) ∧ 0 ≤ (F k).r ∧ (F k).r ≤ 1000000 ∧ 0 ≤ (F k).b ∧ (F k).b ≤ 1000000
  | 0, _, k, hk => by omega
  | n + 1, h, k, hk => by
    unfold chkF at h
    obtain ⟨h1, h2⟩ := Bool.and_eq_true_iff.1 h
    by_cases e : k = n
    · subst e
      obtain ⟨d1, d2, d3, d4⟩ := forceOk_yes h2
      have a1 : 1 ≤ (F k).ten ∧ (F k).ten ≤ 16 := by simpa [isT] using d3
      have a2 : 0 ≤ (F k).r ∧ (F k).r ≤ 1000000 ∧ 0 ≤ (F k).b ∧ (F k).b ≤ 1000000 := by simpa [mayB] using d4
      exact ⟨d1, d2, a1, a2⟩
    · exact chkF_le h1 k (by omega)
theorem chkF_pre {F : Nat → ForceE} : ∀ {n : Nat}, chkF F n = true → ∀ k, k ≤ n → chkF F k = true
  | 0, h, k, hk => by obtain rfl : k = 0 := by omega
                      rfl
  | n + 1, h, k, hk => by
    by_cases e : k = n + 1
    · rw [e]; exact h
    · unfold chkF at h
      exact chkF_pre (Bool.and_eq_true_iff.1 h).1 k (by omega)
theorem lastF_0 {F : Nat → ForceE} {n : Nat} (h : chkF F n = true) : ∀ m, m ≤ n → 0 ≤ lastF F m := by
  intro m
  induction m with
  | zero => intro _; simp [lastF]
  | succ m im => intro hm; rw [lastF_succ]; have := (chkF_le h m (by omega)).1; have := im (by omega); omega
def SpanE.fine (x : SpanE) : Prop := 0 ≤ x.b ∧ x.b ≤ 1099511627776 ∧ 0 ≤ x.e ∧ x.e ≤ 9223372036854775807 ∧ 0 ≤ x.r ∧ x.r ≤ 1000000 ∧ 0 ≤ x.u ∧ x.u ≤ 1000000
theorem spanC_fine {F : Nat → ForceE} {T : Int} : ∀ {n : Nat}, chkF F n = true → ∀ k, k < (spanC F T n).1 → ((spanC F T n).2 k).fine
  | 0, _, k, hk => by simp [spanC] at hk
  | n + 1, h, k, hk => by
    have ih := spanC_fine (T := T) (chkF_pre h n (by omega))
    have hn := chkF_le h n (by omega)
    have hl := lastF_0 h n (by omega)
    simp only [spanC] at hk ⊢
    split at hk
    · rename_i e1
      rw [if_pos e1]
      simp only at hk ⊢
      by_cases e : k = (spanC F T n).1
      · subst e
        rw [upd_same]
        unfold SpanE.fine
        simp only
        omega
      · rw [upd_ne _ _ e]
        unfold endAt
        rw [if_pos (by omega)]
        have i1 := ih k (by omega)
        by_cases e2 : k = (spanC F T n).1 - 1
        · subst e2
          rw [upd_same]
          unfold SpanE.fine at i1 ⊢
          simp only
          omega
        · rw [upd_ne _ _ e2]
          exact i1
    · rename_i e1
      rw [if_neg e1]
      exact ih k hk
theorem infoSpan : (Try.prog.info? 65).map (fun i => (i.zero, i.size, i.bytes)) = some (some (.agg #[.int .i64 0, .int .i64 0, .int .i64 0, .int .i64 0]), 4, 32) := by kernel_rfl

set_option maxRecDepth 100000 in
set_option maxHeartbeats 8000000 in
theorem spans_any (T : Int) (a : Option Addr) (n c b o : Nat) (F : Nat → ForceE) (w : World) (hs : ForceIn w a n c b o F) (hn : n ≤ 60) :
    Calls Try.prog 20 #[.slice a n c, .int .i64 T] w fun e w' => ∃ v ob, e = .returned v ∧ Row w' v ob 65 4 (spanC F T n).1 (spanL (spanC F T n).2 (spanC F T n).1) ∧ (∀ g, ob = some g → w.heap.size ≤ g) ∧ Below w.heap.size w w' := by
  obtain ⟨i0, hi, hz0, hz1, hz2⟩ := info_parts infoSpan
  have HI := Lib.hid hi
  have HZ0 := Lib.hid hz0
  have HZ1 := Lib.hid hz1
  have HZ2 := Lib.hid hz2
  have hm := hs.max
  have hl := hs.le
  unfold maxLen at hm
  have HS := Lib.hid hs
  clear hs hi hz0 hz1 hz2
  go_enter Try.func20, Try.ntmps20
  go_wp2_with fail
  go_loopw [5, 11] (fun v i wr => ∃ (k : Nat) (ob : Option Nat), k ≤ n ∧ i = .int .i64 k ∧ Row wr v ob 65 4 (spanC F T k).1 (spanL (spanC F T k).2 (spanC F T k).1) ∧ (∀ g, ob = some g → w.heap.size ≤ g) ∧ Below w.heap.size w wr) (fun _ i _ => n - (intOf i).toNat)
  case atStart => exact ⟨0, none, Nat.zero_le _, rfl, Row.nil _ _ _, (fun _ h => by cases h), Below.refl _ _⟩
  case round =>
    obtain ⟨k, ob, hk, rfl, hr, hob, hB⟩ := hrel
    obtain ⟨av, cv, hv, hcv1, hcv2, hav⟩ := hr.shape
    unfold maxLen at hcv2
    have hcl := spanC_le F T k
    by_cases hlt : k < n
    · obtain ⟨e0, e1⟩ := HS.out.at_ (by omega)
      subst e0
      obtain ⟨c0, c1, c2, c3⟩ := (HS.out.below hB).cell k hlt
      have HN : Hid (spanC F T (k + 1) = if (F k).ten = T then ((spanC F T k).1 + 1, upd (endAt (spanC F T k) (F k).t) (spanC F T k).1 ⟨(F k).t, 9223372036854775807, (F k).r, (F k).b⟩) else spanC F T k) := Lib.hid rfl
      obtain ⟨p, hp⟩ : ∃ p, p = spanC F T k := ⟨_, rfl⟩
      rw [← hp] at hr hcl HN hcv1 hv
      obtain ⟨m, f⟩ := p
      dsimp only at hr hcl HN hcv1 hv
      obtain ⟨x, hx⟩ : ∃ x, x = F k := ⟨_, rfl⟩
      rw [← hx] at c0 c1 c2 c3 HN
      obtain ⟨xt, xten, xr, xb⟩ := x
      dsimp only at c0 c1 c2 c3 HN
      have HR := Lib.hid hr
      have HO := Lib.hid hob
      have HB := Lib.hid hB
      have HAV := Lib.hid hav
      subst hv
      obtain ⟨W1, hW1⟩ : ∃ W1, W1 = wr.alloc (.cells #[.int .i64 xt, .int .i64 xten, .int .i64 xr, .int .i64 xb] 36) := ⟨_, rfl⟩
      have HX := Lib.hid (blk_new wr #[.int .i64 xt, .int .i64 xten, .int .i64 xr, .int .i64 xb] 36)
      have HB1 : Hid (Below w.heap.size w W1) := Lib.hid (by rw [hW1]; exact HB.out.alloc HB.out.size _)
      have HR1 : Hid (Row W1 (.slice av m cv) ob 65 4 m (spanL f m)) := Lib.hid (by rw [hW1]; exact HR.out.alloc _)
      rw [← hW1] at HX
      have HGW : Hid (∀ g, ob = some g → g < wr.heap.size) := Lib.hid (fun g e => by subst e; exact HR.out.lt)
      have HW := Lib.hid hW1
      clear hr hob hB hav hp hx hW1 HR HB
      by_cases hT : xten = T
      · have d1 : (xten != T) = false := by simpa using hT
        have HN2 := Lib.hid (HN.out.trans (if_pos hT))
        clear HN hT
        go_upto_region 7 with fail
        rw [← HW.out]
        clear HW c0 c1 c2 c3
        by_cases hm0 : m = 0
        · have b0 : decide (0 < m) = false := by simp; omega
          obtain ⟨f2, hf2⟩ : ∃ f2, f2 = f := ⟨_, rfl⟩
          have HQ : Hid (spanC F T (k + 1) = (m + 1, upd f2 m ⟨xt, 9223372036854775807, xr, xb⟩)) := Lib.hid (by rw [HN2.out, endAt, if_neg (by simp only; omega), hf2])
          obtain ⟨W2, hW2⟩ : ∃ W2, W2 = W1 := ⟨_, rfl⟩
          rw [← hW2] at HX HR1 HB1 ⊢
          have HR2 : Hid (Row W2 (.slice av m cv) ob 65 4 m (spanL f2 m)) := Lib.hid (by rw [hf2]; exact HR1.out)
          have HB2 := HB1
          have x0 : W2.cell? ⟨wr.heap.size, 0, none⟩ = some (.int .i64 xt) := cell_at HX.out 0
          have x2 : W2.cell? ⟨wr.heap.size, 2, none⟩ = some (.int .i64 xr) := cell_at HX.out 2
          have x3 : W2.cell? ⟨wr.heap.size, 3, none⟩ = some (.int .i64 xb) := cell_at HX.out 3
          clear hm0 hf2 hW2
          go_upto_region 9 with fail
          clear HX
          have hb8 : ((m : Int) + 1) * 32 ≤ 140737488355328 := by omega
          go_wp2_with (at_builtin; refine wpList_append_row _ rfl (.tmp 30) (.tmp 38) 57 rfl 65 i0 _ 4 32 Try.underlying57 HI.out HZ0.out HZ1.out HZ2.out rfl (by decide) _ ob m (spanL f2 m) rfl (HR2.out.alloc _) ⟨W2.heap.size, 0, none⟩ 1 1 [.int .i64 xt, .int .i64 9223372036854775807, .int .i64 xr, .int .i64 xb] rfl (by decide) rfl ?c1 ?c2 ?c3 ?c4 ?_)
          case c1 => exact new_at W2 [.int .i64 xt, .int .i64 9223372036854775807, .int .i64 xr, .int .i64 xb] _
          case c2 => intro u hu; exact (List.all_eq_true (p := fun u : Value => u.oneCell')).1 rfl u hu
          case c3 => unfold maxLen; omega
          case c4 => omega
          intro v1' ob1' W3 hrow3 hg3 hob3
          have hzA : (W2.alloc (.cells #[.int .i64 xt, .int .i64 9223372036854775807, .int .i64 xr, .int .i64 xb] 65)).heap.size = W2.heap.size + 1 := by simp
          have hob1 : w.heap.size ≤ ob1' := by
            rcases hob3 with h | h
            · exact HO.out _ (by first | exact h | rw [h])
            · have := HB2.out.size; omega
          have HB3 : Hid (Below w.heap.size w W3) := Lib.hid ((HB2.out.alloc HB2.out.size _).grown hg3 (by have := HB2.out.size; omega) (fun g e => HO.out _ e))
          have HR3 : Hid (Row W3 v1' (some ob1') 65 4 (m + 1) (spanL (upd f2 m ⟨xt, 9223372036854775807, xr, xb⟩) (m + 1))) := Lib.hid (by
            rw [spanL_succ, upd_same, spanL_congr (E' := f2) (fun j hj => upd_ne _ _ (by omega))]
            exact hrow3)
          have HO3 := Lib.hid hob1
          clear hg3 hob3 hrow3 hob1
          go_wp2_with fail
          go_roundw
          case rel => exact ⟨k + 1, some ob1', by omega, by go_num, by rw [HQ.out]; exact HR3.out, (fun g e => by obtain rfl := Option.some.inj e; exact HO3.out), HB3.out⟩
          case measure => first | (simp [intOf]; done) | (simp [intOf]; omega)
        · have b0 : decide (0 < m) = true := by simp; omega
          obtain ⟨j, hj⟩ : ∃ j, m = j + 1 := ⟨m - 1, by omega⟩
          have b1 : (m : Int) - 1 = (j : Int) := by omega
          have b2 : IntKind.i64.wrap (j : Int) = (j : Int) := IntWalk.i64_in _ (by omega)
          have b3 : j < m := by omega
          obtain ⟨g, hg, hq1, hf1⟩ := HR1.out.cell (j * 4 + 1) (by omega)
          rw [spanL_at f m j 1 (by omega) (by omega)] at hq1
          have q1 : W1.cell? ⟨g, j * 4 + 1, none⟩ = some (.int .i64 (f j).e) := hq1
          have hav := HAV.out
          rw [hg] at hav
          simp only [Option.map_some] at hav
          have gl2 := HGW.out g hg
          have HM1 : Hid (m - 1 = j) := Lib.hid (by omega)
          obtain ⟨f2, hf2⟩ : ∃ f2, f2 = upd f j ⟨(f j).b, xt, (f j).r, (f j).u⟩ := ⟨_, rfl⟩
          have HQ : Hid (spanC F T (k + 1) = (m + 1, upd f2 m ⟨xt, 9223372036854775807, xr, xb⟩)) := Lib.hid (by
            rw [HN2.out, endAt, if_pos (by simp only; omega)]
            simp only
            rw [HM1.out, hf2])
          subst hg
          subst hav
          have hgl := HR1.out.lt
          obtain ⟨W2, hW2⟩ : ∃ W2, W2 = W1.setCell ⟨g, j * 4 + 1, none⟩ (.int .i64 xt) := ⟨_, rfl⟩
          have HR2 : Hid (Row W2 (.slice (some ⟨g, 0, none⟩) m cv) (some g) 65 4 m (spanL f2 m)) := Lib.hid (by
            rw [hW2, hf2, ← spanL_set f m j b3]
            exact row_put HR1.out _ (by omega) _)
          have HB2 : Hid (Below w.heap.size w W2) := Lib.hid (by rw [hW2]; exact HB1.out.setCell (p := ⟨g, j * 4 + 1, none⟩) (HO.out _ rfl) _)
          have HX2 : Hid (Blk W2 wr.heap.size #[.int .i64 xt, .int .i64 xten, .int .i64 xr, .int .i64 xb] 36) := Lib.hid (by rw [hW2]; exact HX.out.ne _ (by simp only; omega) _)
          have y0 : W1.cell? ⟨wr.heap.size, 0, none⟩ = some (.int .i64 xt) := cell_at HX.out 0
          clear hj hm0 hq1 hf2
          go_upto_region 9 with fail
          rw [← hW2]
          clear y0 q1 hf1 hW2 hgl gl2 HX
          have HX := HX2
          have x0 : W2.cell? ⟨wr.heap.size, 0, none⟩ = some (.int .i64 xt) := cell_at HX.out 0
          have x2 : W2.cell? ⟨wr.heap.size, 2, none⟩ = some (.int .i64 xr) := cell_at HX.out 2
          have x3 : W2.cell? ⟨wr.heap.size, 3, none⟩ = some (.int .i64 xb) := cell_at HX.out 3
          clear HX2
          clear HX
          have hb8 : ((m : Int) + 1) * 32 ≤ 140737488355328 := by omega
          go_wp2_with (at_builtin; refine wpList_append_row _ rfl (.tmp 30) (.tmp 38) 57 rfl 65 i0 _ 4 32 Try.underlying57 HI.out HZ0.out HZ1.out HZ2.out rfl (by decide) _ (some g) m (spanL f2 m) rfl (HR2.out.alloc _) ⟨W2.heap.size, 0, none⟩ 1 1 [.int .i64 xt, .int .i64 9223372036854775807, .int .i64 xr, .int .i64 xb] rfl (by decide) rfl ?c1 ?c2 ?c3 ?c4 ?_)
          case c1 => exact new_at W2 [.int .i64 xt, .int .i64 9223372036854775807, .int .i64 xr, .int .i64 xb] _
          case c2 => intro u hu; exact (List.all_eq_true (p := fun u : Value => u.oneCell')).1 rfl u hu
          case c3 => unfold maxLen; omega
          case c4 => omega
          intro v1' ob1' W3 hrow3 hg3 hob3
          have hzA : (W2.alloc (.cells #[.int .i64 xt, .int .i64 9223372036854775807, .int .i64 xr, .int .i64 xb] 65)).heap.size = W2.heap.size + 1 := by simp
          have hob1 : w.heap.size ≤ ob1' := by
            rcases hob3 with h | h
            · exact HO.out _ (by first | exact h | rw [h])
            · have := HB2.out.size; omega
          have HB3 : Hid (Below w.heap.size w W3) := Lib.hid ((HB2.out.alloc HB2.out.size _).grown hg3 (by have := HB2.out.size; omega) (fun g e => HO.out _ e))
          have HR3 : Hid (Row W3 v1' (some ob1') 65 4 (m + 1) (spanL (upd f2 m ⟨xt, 9223372036854775807, xr, xb⟩) (m + 1))) := Lib.hid (by
            rw [spanL_succ, upd_same, spanL_congr (E' := f2) (fun j hj => upd_ne _ _ (by omega))]
            exact hrow3)
          have HO3 := Lib.hid hob1
          clear hg3 hob3 hrow3 hob1
          go_wp2_with fail
          go_roundw
          case rel => exact ⟨k + 1, some ob1', by omega, by go_num, by rw [HQ.out]; exact HR3.out, (fun g e => by obtain rfl := Option.some.inj e; exact HO3.out), HB3.out⟩
          case measure => first | (simp [intOf]; done) | (simp [intOf]; omega)
      · have d1 : (xten != T) = true := by simpa using hT
        have HN2 := Lib.hid (HN.out.trans (if_neg hT))
        clear HN hT
        go_wp2_with fail
        rw [← HW.out]
        go_roundw
        case rel => exact ⟨k + 1, ob, by omega, by go_num, by rw [HN2.out]; exact HR1.out, HO.out, HB1.out⟩
        case measure => first | (simp [intOf]; done) | (simp [intOf]; omega)
    · obtain rfl : k = n := by omega
      subst hv
      have HR := Lib.hid hr
      have HO := Lib.hid hob
      have HB := Lib.hid hB
      clear hr hob hB hav
      go_wp2_with fail
      go_ret
      exact ⟨_, ob, rfl, HR.out, HO.out, HB.out⟩
end Go.Proofs.Ytcimcmfibinehaa
