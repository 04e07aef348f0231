/-
  Those that are gone swept: the document.
-/
import Derived.Test.YtpgpcgpecpimlaaPoq
import Derived.Test.YtpgpcgpecpimlaaPo2
import Derived.Deep.RegionLaw
namespace Go.Proofs.Ytpgpcgpecpimlaa
open Go.RowKit
set_option linter.unusedSimpArgs false
set_option linter.unusedVariables false

set_option maxRecDepth 100000 in
set_option maxHeartbeats 8000000 in
theorem rsweep_any (v : Value) (L : List TnE) (oa : Option Addr) (on oc ob oo : Nat) (T : Nat → Int) (w : World) (h : TV w v L) (hI : IntsIn w oa on oc ob oo T) (hn5 : L.length ≤ 200) : Calls Try.prog 56 #[v, .slice oa on oc] w fun e w' => ∃ v', e = .returned v' ∧ TV w' v' (swL on T L) ∧ Below w.heap.size w w' := by
  have HVW := Lib.hid h
  have HOK := Lib.hid h.ok
  have HII := Lib.hid hI
  have om1 := hI.le
  have om2 := hI.max
  unfold maxLen at om2
  obtain ⟨C, hC⟩ : ∃ C, C = chk L := ⟨_, rfl⟩
  have HC := Lib.hid hC
  obtain ⟨Y, hY⟩ : ∃ Y, Y = swL on T L := ⟨_, rfl⟩
  rw [← hY]
  have HY := Lib.hid hY
  have HCK := Lib.hid (rcheck_any v L w h)
  rw [← hC] at HCK
  clear hC hY
  obtain ⟨i0, hi, hz0, hz1, hz2⟩ := info_parts tnZero
  have HI := Lib.hid hi
  have HZ0 := Lib.hid hz0
  have HZ1 := Lib.hid hz1
  have HZ2 := Lib.hid hz2
  clear hi hz0 hz1 hz2 hI
  cases C
  · have hYx : Y = L := by rw [HY.out]; unfold swL; rw [← HC.out]; rfl
    have HYX := Lib.hid hYx
    clear hYx h
    go_enter Try.func56, Try.ntmps56
    go_wp2_with fail
    go_at_call 46
    refine Calls.mono HCK.out ?_
    rintro e W2 ⟨rfl, hB⟩
    have HB2 := Lib.hid hB
    clear hB
    go_wp2_with fail
    go_ret
    exact ⟨_, rfl, by rw [HYX.out]; exact HVW.out.below HB2.out, HB2.out⟩
  · have hYx : Y = L.filter fun x => !swB on T x := by rw [HY.out]; unfold swL; rw [← HC.out]; rfl
    have HYX := Lib.hid hYx
    clear hYx
    obtain ⟨a, b, o, cap, rfl, h⟩ := h
    have m1 := h.le
    have m2 := h.max
    unfold maxLen at m2
    have H1 := Lib.hid h
    clear h
    obtain ⟨n, hn⟩ : ∃ n, n = L.length := ⟨_, rfl⟩
    have HN := Lib.hid hn
    rw [← hn] at m1 H1 hn5 HCK HVW
    rw [← hn]
    clear hn
    go_enter Try.func56, Try.ntmps56
    go_wp2_with fail
    go_at_call 46
    refine Calls.mono HCK.out ?_
    rintro e W2 ⟨rfl, hB⟩
    have HB2 := Lib.hid hB
    clear hB HCK
    go_wp2_with fail
    go_loopw [5, 6] (fun u i wr => ∃ (k : Nat) (ob : Option Nat) (A : List TnE), k ≤ n ∧ i = .int .i64 k ∧ Row wr u ob 72 5 A.length (listL A) ∧ A = (L.take k).filter (fun y => !swB on T y) ∧ (∀ g, ob = some g → w.heap.size ≤ g) ∧ Below w.heap.size w wr) (fun _ i _ => n - (intOf i).toNat)
    case atStart => exact ⟨0, none, [], Nat.zero_le _, rfl, Row.nil _ _ _, rfl, (fun g e => by cases e), HB2.out⟩
    case round =>
      obtain ⟨k, ob9, A, hk, rfl, hrow, hA, hg, hB⟩ := hrel
      have hAl : A.length ≤ k := by rw [hA]; exact Nat.le_trans (List.length_filter_le _ _) (by simp; omega)
      have HROW := Lib.hid hrow
      have HG := Lib.hid hg
      have HB := Lib.hid hB
      have HA := Lib.hid hA
      obtain ⟨va, vc, rfl, v1, v2, _⟩ := hrow.shape
      unfold maxLen at v2
      clear hrow hg hB hA
      by_cases hlt : k < n
      · have hs1 := H1.out.below HB.out
        obtain ⟨e0, e1⟩ := hs1.at_ (by omega)
        subst e0
        obtain ⟨c0, c1, c2, c3, c4⟩ := hs1.cell k hlt
        have hgm : gt L k ∈ L := List.mem_of_getElem? (gt_lt (by rw [← HN.out]; exact hlt))
        have hid1 := chk_id HC.out.symm hgm
        have hid2 := (HOK.out _ hgm).1.2
        have hfs : (L.take (k + 1)).filter (fun y => !swB on T y) = A ++ (if swB on T (gt L k) then [] else [gt L k]) := by
          rw [HA.out, List.take_add_one, gt_lt (by rw [← HN.out]; exact hlt), List.filter_append]
          cases hsw : swB on T (gt L k) <;> simp [hsw]
        obtain ⟨y, hy⟩ : ∃ y, y = gt L k := ⟨_, rfl⟩
        rw [← hy] at c0 c1 c2 c3 c4 hfs hid1 hid2
        have HFS := Lib.hid hfs
        clear hs1 hy hfs hgm
        obtain ⟨q, hq⟩ : ∃ q : Nat, y.id = (q : Int) + 1 := ⟨(y.id - 1).toNat, by omega⟩
        have HO : Hid (outN on T y = if q < on then T q else 0) := Lib.hid (by unfold outN; rw [hq]; simp only [Int.add_sub_cancel, Int.toNat_natCast]; by_cases hh : q < on <;> simp [hh])
        have hw : IntKind.i64.wrap (q : Int) = (q : Int) := IntWalk.i64_in _ (by omega)
        obtain ⟨yi, yr, yb, yk, yg⟩ := y
        simp only at hq c0 c1 c2 c3 c4
        subst hq
        by_cases hqo : q < on
        · obtain ⟨oe0, oe1⟩ := (HII.out.below HB.out).at_ (by omega)
          subst oe0
          have o0 := (HII.out.below HB.out).cell q hqo
          obtain ⟨t, ht⟩ : ∃ t, t = T q := ⟨_, rfl⟩
          rw [← ht] at o0
          have HT := Lib.hid (HO.out.trans (by rw [if_pos hqo, ← ht]) : outN on T ⟨(q : Int) + 1, yr, yb, yk, yg⟩ = t)
          have d1 : ((q : Int) < on) = True := eq_true (by omega)
          have d2 : (q < on) = True := eq_true hqo
          clear ht HO
          have hcs : (yg = true ∧ t ≤ 0) ∨ (yg = false) ∨ (yg = true ∧ 0 < t) := by cases yg <;> simp <;> omega
          rcases hcs with ⟨rfl, g1⟩ | rfl | ⟨rfl, g1⟩
          · have HF2 : Hid ((L.take (k + 1)).filter (fun y => !swB on T y) = A) := Lib.hid (by rw [HFS.out, show swB on T ⟨(q : Int) + 1, yr, yb, yk, true⟩ = true by unfold swB; rw [HT.out]; simp [g1]]; simp)
            have t1 : decide (0 < t) = false := decide_eq_false (by omega)
            go_wp2_with fail
            go_roundw
            case rel => exact ⟨k + 1, ob9, A, by omega, by go_num, HROW.out, HF2.out.symm, HG.out, HB.out⟩
            case measure => first | (simp [intOf]; done) | (simp [intOf]; omega)
          · have HF2 : Hid ((L.take (k + 1)).filter (fun y => !swB on T y) = A ++ [⟨(q : Int) + 1, yr, yb, yk, false⟩]) := Lib.hid (by rw [HFS.out, show swB on T ⟨(q : Int) + 1, yr, yb, yk, false⟩ = false by unfold swB; simp]; simp)
            go_upto_region 11 with fail
            obtain ⟨y, hy⟩ : ∃ y : TnE, y = ⟨(q : Int) + 1, yr, yb, yk, false⟩ := ⟨_, rfl⟩
            have b0 : wr.cell? ⟨b, o + k * 5, none⟩ = some (.int .i64 y.id) := by rw [hy]; exact c0
            have b1 : wr.cell? ⟨b, o + k * 5 + 1, none⟩ = some (.int .i64 y.rate) := by rw [hy]; exact c1
            have b2 : wr.cell? ⟨b, o + k * 5 + 2, none⟩ = some (.int .i64 y.burst) := by rw [hy]; exact c2
            have b3 : wr.cell? ⟨b, o + k * 5 + 3, none⟩ = some (.int .i64 y.bkt) := by rw [hy]; exact c3
            have b4 : wr.cell? ⟨b, o + k * 5 + 4, none⟩ = some (.bool y.gone) := by rw [hy]; exact c4
            rw [← hy] at HF2
            clear c0 c1 c2 c3 c4 hy
            go_wp2_with (at_builtin; refine wpList_append_row _ rfl (.tmp 46) (.tmp 51) 60 rfl 72 i0 _ 5 40 Try.underlying60 HI.out HZ0.out HZ1.out HZ2.out rfl (by decide) _ ob9 A.length (listL A) rfl (HROW.out.alloc _) ⟨wr.heap.size, 0, none⟩ 1 1 (y).cells rfl (by decide) rfl ?c1 ?c2 ?c3 ?c4 ?_)
            case c1 => first | exact one_tn wr y _ | (intro j u hj; simpa [TnE.cells] using hj)
            case c2 => exact tnc_one y
            case c3 => (unfold maxLen; omega)
            case c4 => omega
            intro v3q ob3q W3q hrow3 hg3 hob3
            have hG := grow2 (A := A) (y := y) HB.out HG.out (by first | exact hrow3 | simpa using hrow3) _ hg3 (by first | exact hob3 | (rcases hob3 with h | h; exact .inl (by rw [h]); exact .inr h))
            obtain ⟨va3q, vc3q, hv3, v13q, _, h39⟩ := hG.1.shape
            have h49 : va3q = some ⟨ob3q, 0, none⟩ := h39
            subst hv3 h49
            have HR3q := Lib.hid hG.1
            have HG3q := Lib.hid hG.2.1
            have HB3q := Lib.hid hG.2.2
            clear hG hrow3 hg3 hob3 h39
            go_wp2_with fail
            go_roundw
            case rel => exact ⟨k + 1, some ob3q, A ++ [y], by omega, by go_num, HR3q.out, HF2.out.symm, HG3q.out, HB3q.out⟩
            case measure => first | (simp [intOf]; done) | (simp [intOf]; omega)
          · have HF2 : Hid ((L.take (k + 1)).filter (fun y => !swB on T y) = A ++ [⟨(q : Int) + 1, yr, yb, yk, true⟩]) := Lib.hid (by rw [HFS.out, show swB on T ⟨(q : Int) + 1, yr, yb, yk, true⟩ = false by unfold swB; rw [HT.out]; simp; omega]; simp)
            have t1 : decide (0 < t) = true := decide_eq_true g1
            go_upto_region 11 with fail
            obtain ⟨y, hy⟩ : ∃ y : TnE, y = ⟨(q : Int) + 1, yr, yb, yk, true⟩ := ⟨_, rfl⟩
            have b0 : wr.cell? ⟨b, o + k * 5, none⟩ = some (.int .i64 y.id) := by rw [hy]; exact c0
            have b1 : wr.cell? ⟨b, o + k * 5 + 1, none⟩ = some (.int .i64 y.rate) := by rw [hy]; exact c1
            have b2 : wr.cell? ⟨b, o + k * 5 + 2, none⟩ = some (.int .i64 y.burst) := by rw [hy]; exact c2
            have b3 : wr.cell? ⟨b, o + k * 5 + 3, none⟩ = some (.int .i64 y.bkt) := by rw [hy]; exact c3
            have b4 : wr.cell? ⟨b, o + k * 5 + 4, none⟩ = some (.bool y.gone) := by rw [hy]; exact c4
            rw [← hy] at HF2
            clear c0 c1 c2 c3 c4 hy
            go_wp2_with (at_builtin; refine wpList_append_row _ rfl (.tmp 46) (.tmp 51) 60 rfl 72 i0 _ 5 40 Try.underlying60 HI.out HZ0.out HZ1.out HZ2.out rfl (by decide) _ ob9 A.length (listL A) rfl (HROW.out.alloc _) ⟨wr.heap.size, 0, none⟩ 1 1 (y).cells rfl (by decide) rfl ?c1 ?c2 ?c3 ?c4 ?_)
            case c1 => first | exact one_tn wr y _ | (intro j u hj; simpa [TnE.cells] using hj)
            case c2 => exact tnc_one y
            case c3 => (unfold maxLen; omega)
            case c4 => omega
            intro v3q ob3q W3q hrow3 hg3 hob3
            have hG := grow2 (A := A) (y := y) HB.out HG.out (by first | exact hrow3 | simpa using hrow3) _ hg3 (by first | exact hob3 | (rcases hob3 with h | h; exact .inl (by rw [h]); exact .inr h))
            obtain ⟨va3q, vc3q, hv3, v13q, _, h39⟩ := hG.1.shape
            have h49 : va3q = some ⟨ob3q, 0, none⟩ := h39
            subst hv3 h49
            have HR3q := Lib.hid hG.1
            have HG3q := Lib.hid hG.2.1
            have HB3q := Lib.hid hG.2.2
            clear hG hrow3 hg3 hob3 h39
            go_wp2_with fail
            go_roundw
            case rel => exact ⟨k + 1, some ob3q, A ++ [y], by omega, by go_num, HR3q.out, HF2.out.symm, HG3q.out, HB3q.out⟩
            case measure => first | (simp [intOf]; done) | (simp [intOf]; omega)
        · have HT := Lib.hid (HO.out.trans (by rw [if_neg hqo]) : outN on T ⟨(q : Int) + 1, yr, yb, yk, yg⟩ = 0)
          obtain ⟨t, ht⟩ : ∃ t, t = (0 : Int) := ⟨_, rfl⟩
          rw [← ht] at HT
          have HT0 := Lib.hid ht
          have d1 : ((q : Int) < on) = False := eq_false (by omega)
          have d2 : (q < on) = False := eq_false hqo
          clear HO
          have hcs : (yg = true ∧ t ≤ 0) ∨ (yg = false) ∨ (yg = true ∧ 0 < t) := by cases yg <;> simp <;> omega
          rcases hcs with ⟨rfl, g1⟩ | rfl | ⟨rfl, g1⟩
          · have HF2 : Hid ((L.take (k + 1)).filter (fun y => !swB on T y) = A) := Lib.hid (by rw [HFS.out, show swB on T ⟨(q : Int) + 1, yr, yb, yk, true⟩ = true by unfold swB; rw [HT.out]; simp [g1]]; simp)
            have t1 : decide (0 < t) = false := decide_eq_false (by omega)
            subst ht
            go_wp2_with fail
            go_roundw
            case rel => exact ⟨k + 1, ob9, A, by omega, by go_num, HROW.out, HF2.out.symm, HG.out, HB.out⟩
            case measure => first | (simp [intOf]; done) | (simp [intOf]; omega)
          · have HF2 : Hid ((L.take (k + 1)).filter (fun y => !swB on T y) = A ++ [⟨(q : Int) + 1, yr, yb, yk, false⟩]) := Lib.hid (by rw [HFS.out, show swB on T ⟨(q : Int) + 1, yr, yb, yk, false⟩ = false by unfold swB; simp]; simp)
            subst ht
            go_upto_region 11 with fail
            obtain ⟨y, hy⟩ : ∃ y : TnE, y = ⟨(q : Int) + 1, yr, yb, yk, false⟩ := ⟨_, rfl⟩
            have b0 : wr.cell? ⟨b, o + k * 5, none⟩ = some (.int .i64 y.id) := by rw [hy]; exact c0
            have b1 : wr.cell? ⟨b, o + k * 5 + 1, none⟩ = some (.int .i64 y.rate) := by rw [hy]; exact c1
            have b2 : wr.cell? ⟨b, o + k * 5 + 2, none⟩ = some (.int .i64 y.burst) := by rw [hy]; exact c2
            have b3 : wr.cell? ⟨b, o + k * 5 + 3, none⟩ = some (.int .i64 y.bkt) := by rw [hy]; exact c3
            have b4 : wr.cell? ⟨b, o + k * 5 + 4, none⟩ = some (.bool y.gone) := by rw [hy]; exact c4
            rw [← hy] at HF2
            clear c0 c1 c2 c3 c4 hy
            go_wp2_with (at_builtin; refine wpList_append_row _ rfl (.tmp 46) (.tmp 51) 60 rfl 72 i0 _ 5 40 Try.underlying60 HI.out HZ0.out HZ1.out HZ2.out rfl (by decide) _ ob9 A.length (listL A) rfl (HROW.out.alloc _) ⟨wr.heap.size, 0, none⟩ 1 1 (y).cells rfl (by decide) rfl ?c1 ?c2 ?c3 ?c4 ?_)
            case c1 => first | exact one_tn wr y _ | (intro j u hj; simpa [TnE.cells] using hj)
            case c2 => exact tnc_one y
            case c3 => (unfold maxLen; omega)
            case c4 => omega
            intro v3q ob3q W3q hrow3 hg3 hob3
            have hG := grow2 (A := A) (y := y) HB.out HG.out (by first | exact hrow3 | simpa using hrow3) _ hg3 (by first | exact hob3 | (rcases hob3 with h | h; exact .inl (by rw [h]); exact .inr h))
            obtain ⟨va3q, vc3q, hv3, v13q, _, h39⟩ := hG.1.shape
            have h49 : va3q = some ⟨ob3q, 0, none⟩ := h39
            subst hv3 h49
            have HR3q := Lib.hid hG.1
            have HG3q := Lib.hid hG.2.1
            have HB3q := Lib.hid hG.2.2
            clear hG hrow3 hg3 hob3 h39
            go_wp2_with fail
            go_roundw
            case rel => exact ⟨k + 1, some ob3q, A ++ [y], by omega, by go_num, HR3q.out, HF2.out.symm, HG3q.out, HB3q.out⟩
            case measure => first | (simp [intOf]; done) | (simp [intOf]; omega)
          · exact absurd ht (by omega)
      · obtain rfl : k = n := by omega
        have hAY : A = Y := by rw [HYX.out, HA.out, HN.out, List.take_length]
        have HAY := Lib.hid hAY
        have HOKY : Hid (okL Y) := Lib.hid (by rw [HYX.out]; exact fun x hx => HOK.out x (List.mem_filter.1 hx).1)
        clear hAY
        go_wp2_with fail
        go_ret
        exact ⟨_, rfl, (by rw [← HAY.out]; exact (tvo_row (m := w.heap.size) HROW.out (by rw [HAY.out]; exact HOKY.out) HG.out).tv), HB.out⟩
end Go.Proofs.Ytpgpcgpecpimlaa
