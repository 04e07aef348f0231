/-
  Texts of this claim, put together: Poc, LgO, LgL, LgK, Poi, Poj, Pok.
-/
import Derived.Test.YtfgnjpdlchimpaaLc1
import Derived.Deep.RegionLaw
import Derived.Deep.DeepFit
import Derived.Lib.AppendZeros
namespace Go.Proofs.Ytfgnjpdlchimpaa
open Go.RowKit
set_option linter.unusedSimpArgs false
set_option linter.unusedVariables false

theorem dN (w : World) (n : Nat) : Below w.heap.size w (w.drewN n) := ⟨rfl, rfl, rfl, Nat.le_refl _, fun _ _ => rfl⟩
theorem one_tn (W : World) (x : TnE) (t : TypeId) : ∀ j u, x.cells[j]? = some u → (W.alloc (.cells #[.int .i64 x.id, .int .i64 x.rate, .int .i64 x.burst, .int .i64 x.bkt, .bool x.gone] t)).cell? ((⟨W.heap.size, 0, none⟩ : Addr).add j) = some u := by
  intro j u hj
  have hb : Blk (W.alloc (.cells #[.int .i64 x.id, .int .i64 x.rate, .int .i64 x.burst, .int .i64 x.bkt, .bool x.gone] t)) W.heap.size #[.int .i64 x.id, .int .i64 x.rate, .int .i64 x.burst, .int .i64 x.bkt, .bool x.gone] t := blk_new _ _ _
  rw [addr_add, Nat.zero_add, cell_at hb, ← hj]
  simp [TnE.cells]
theorem tnc_one (x : TnE) : ∀ u ∈ x.cells, u.oneCell' = true := by
  intro u hu
  have : x.cells.all (fun u => u.oneCell') = true := rfl
  exact List.all_eq_true.1 this u hu
theorem grow1 {w W W3 : World} {N : Nat} {x y : TnE} {A : List TnE} {ob : Option Nat} {v3 : Value} {ob3 : Nat}
    (hM : w.heap.size ≤ N) (hMb : Blk W N #[.int .i64 x.id, .int .i64 x.rate, .int .i64 x.burst, .int .i64 x.bkt, .bool x.gone] 54) (hB : Below w.heap.size w W) (hg : ∀ g, ob = some g → N < g)
    (hrow : Row W3 v3 (some ob3) 54 5 (A.length + 1) (listL A ++ y.cells))
    (o : Obj) (hgr : (W.alloc o).grownBy W3 ob) (hob : ob = some ob3 ∨ ob3 = W.heap.size + 1) :
    Row W3 v3 (some ob3) 54 5 (A ++ [y]).length (listL (A ++ [y])) ∧ (∀ g, some ob3 = some g → N < g) ∧ Blk W3 N #[.int .i64 x.id, .int .i64 x.rate, .int .i64 x.burst, .int .i64 x.bkt, .bool x.gone] 54 ∧ Below w.heap.size w W3 := by
  have hl := hMb.lt
  refine ⟨by rw [listL_append, listL_one, List.length_append]; exact hrow, fun g e => ?_, ?_, ?_⟩
  · obtain rfl := Option.some.inj e
    rcases hob with h | h
    · exact hg _ h
    · omega
  · exact (hgr.block N (by simp; omega) (fun e => by have := hg N e.symm; omega)).trans (hMb.alloc o)
  · exact (hB.alloc hB.size o).grown hgr (by have := hB.size; simp; omega) (fun g e => by have := hg g e; omega)
theorem okL_with {x : TnE} (hx : x.ok) : ∀ {L : List TnE} (d : Bool), okL L → okL (withF x d L)
  | [], d, _ => by
    unfold withF
    split
    · intro y hy; cases hy
    · intro y hy
      obtain rfl : y = x := by simpa using hy
      exact hx
  | z :: r, d, h => by
    have hz : z.ok := h z (by simp)
    have hr : okL r := fun y hy => h y (by simp [hy])
    unfold withF
    split
    · exact okL_with hx d hr
    · split
      · intro y hy
        rcases List.mem_cons.1 hy with rfl | hy
        · exact hx
        · rcases List.mem_cons.1 hy with rfl | hy
          · exact hz
          · exact okL_with hx true hr y hy
      · intro y hy
        rcases List.mem_cons.1 hy with rfl | hy
        · exact hz
        · exact okL_with hx d hr y hy
theorem withF_step {L : List TnE} {k : Nat} (x : TnE) (d : Bool) (h : k < L.length) : withF x d (L.drop k) = if (gt L k).id = x.id then withF x d (L.drop (k + 1)) else if x.id < (gt L k).id ∧ d = false then x :: gt L k :: withF x true (L.drop (k + 1)) else gt L k :: withF x d (L.drop (k + 1)) := by
  rw [List.drop_eq_getElem_cons h, show gt L k = L[k] from gt_of (List.getElem?_eq_getElem h)]
  rfl
set_option maxRecDepth 100000 in
set_option maxHeartbeats 8000000 in
theorem with_any (v : Value) (L : List TnE) (x : TnE) (w : World) (h : TV w v L) (hn5 : L.length ≤ 200) (hx : x.ok) : Calls Try.prog 83 #[v, x.agg] w fun e w' => ∃ v', e = .returned v' ∧ TVo w.heap.size w' v' (withF x false L) ∧ Below w.heap.size w w' := by
  have HOK := Lib.hid (okL_with hx false h.ok)
  obtain ⟨N, hN⟩ : ∃ N, N = w.heap.size := ⟨_, rfl⟩
  obtain ⟨W1, hW1⟩ : ∃ W1, W1 = w.alloc (.cells #[.int .i64 x.id, .int .i64 x.rate, .int .i64 x.burst, .int .i64 x.bkt, .bool x.gone] 54) := ⟨_, rfl⟩
  have hB1 : Below w.heap.size w W1 := by rw [hW1]; exact (Below.refl _ _).alloc (Nat.le_refl _) _
  have HK1 : Hid (Blk W1 N #[.int .i64 x.id, .int .i64 x.rate, .int .i64 x.burst, .int .i64 x.bkt, .bool x.gone] 54) := Lib.hid (by rw [hW1, hN]; exact blk_new _ _ _)
  have HV1 := Lib.hid (h.below hB1)
  have HB1 := Lib.hid hB1
  have HNB : Hid (w.heap.size ≤ N) := Lib.hid (by rw [hN]; exact Nat.le_refl _)
  clear hB1 h
  have HS1 : Hid (W1.heap.size = N + 1) := Lib.hid (by rw [hW1, hN]; simp)
  obtain ⟨i0, hi, hz0, hz1, hz2⟩ := info_parts tnZero
  have HI := Lib.hid hi
  have HZ0 := Lib.hid hz0
  have HZ1 := Lib.hid hz1
  have HZ2 := Lib.hid hz2
  clear hi hz0 hz1 hz2 hx
  obtain ⟨Y, hY⟩ : ∃ Y, Y = withF x false L := ⟨_, rfl⟩
  rw [← hY] at HOK ⊢
  have HY := Lib.hid hY
  clear hY
  obtain ⟨a, b, o, cap, rfl, h⟩ := HV1.out
  have m1 := h.le
  have m2 := h.max
  unfold maxLen at m2
  have H1 := Lib.hid h
  clear h
  obtain ⟨n, hn⟩ : ∃ n, n = L.length := ⟨_, rfl⟩
  have HN := Lib.hid hn
  rw [← hn] at m1 H1 hn5 ⊢
  clear hn HV1
  unfold TnE.agg
  go_enter Try.func83, Try.ntmps83
  go_upto_region 1 with fail
  rw [← hN, ← hW1]
  clear hN hW1
  go_wp2_with fail
  go_loopw [5, 6, 7] (fun u d i wr => ∃ (k : Nat) (D : Bool) (ob : Option Nat) (A : List TnE), k ≤ n ∧ d = .bool D ∧ i = .int .i64 k ∧ Row wr u ob 54 5 A.length (listL A) ∧ A ++ withF x D (L.drop k) = Y ∧ A.length ≤ k + D.toNat ∧ (∀ g, ob = some g → N < g) ∧ Blk wr N #[.int .i64 x.id, .int .i64 x.rate, .int .i64 x.burst, .int .i64 x.bkt, .bool x.gone] 54 ∧ Below w.heap.size w wr ∧ Below W1.heap.size W1 wr) (fun _ _ i _ => n - (intOf i).toNat)
  case atStart => exact ⟨0, false, none, [], Nat.zero_le _, rfl, rfl, Row.nil _ _ _, HY.out.symm, by simp, (fun g e => by cases e), HK1.out, HB1.out, Below.refl _ _⟩
  case round =>
    obtain ⟨k, D, ob, A, hk, rfl, rfl, hrow, hA, hAl, hg, hMb, hB, hB1⟩ := hrel
    have HROW := Lib.hid hrow
    have HG := Lib.hid hg
    have HMB := Lib.hid hMb
    have HB := Lib.hid hB
    have HBW := Lib.hid hB1
    obtain ⟨va, vc, rfl, v1, v2, _⟩ := hrow.shape
    unfold maxLen at v2
    have hAl2 : A.length ≤ k + 1 := by cases D <;> simp at hAl <;> omega
    clear hrow hg hMb hB hB1
    by_cases hlt : k < n
    · have hs1 := H1.out.below HBW.out
      obtain ⟨e0, e1⟩ := hs1.at_ (by omega)
      subst e0
      obtain ⟨y, hy⟩ : ∃ y, y = gt L k := ⟨_, rfl⟩
      have hst := withF_step x D (L := L) (k := k) (by rw [← HN.out]; exact hlt)
      rw [← hy] at hst
      rw [hst] at hA
      have HYK := Lib.hid hy
      clear hs1 hst hy e1
      have hs1 := H1.out.below HBW.out
      obtain ⟨c0, c1, c2, c3, c4⟩ := hs1.cell k hlt
      have e1 := (hs1.at_ (by omega)).2
      rw [← HYK.out] at c0 c1 c2 c3 c4
      clear hs1
      have x0 : wr.cell? ⟨N, 0, none⟩ = some (.int .i64 x.id) := cell_at HMB.out 0
      have x1 : wr.cell? ⟨N, 1, none⟩ = some (.int .i64 x.rate) := cell_at HMB.out 1
      have x2 : wr.cell? ⟨N, 2, none⟩ = some (.int .i64 x.burst) := cell_at HMB.out 2
      have x3 : wr.cell? ⟨N, 3, none⟩ = some (.int .i64 x.bkt) := cell_at HMB.out 3
      have x4 : wr.cell? ⟨N, 4, none⟩ = some (.bool x.gone) := cell_at HMB.out 4
      have hMl := HMB.out.lt
      by_cases he : y.id = x.id
      · rw [if_pos he] at hA
        have HA := Lib.hid hA
        have f1 : (y.id = x.id) = True := eq_true he
        have f2 : (y.id == x.id) = true := beq_iff_eq.2 he
        have f3 : decide (y.id = x.id) = true := decide_eq_true he
        clear hA he
        go_wp2_with fail
        (refine wp_region_quiet_lit (by kernel_rfl) (by kernel_rfl) ?_; (repeat (first | go_big_quiet_step (fail) | (refine BigFrame.wpQuiet_skip (by rfl) ?_; try simp only [Act.put, List.setIfInBounds_toArray, List.set_cons_zero, List.set_cons_succ]))); refine wpQuiet_nil ?_; intro _ hw9; obtain ⟨nq, hw8⟩ := hw9; subst hw8)
        go_wp2_with fail
        go_roundw
        case rel => exact ⟨k + 1, D, ob, A, by omega, rfl, by go_num, HROW.out.congr (fun _ _ => rfl), HA.out, by omega, HG.out, HMB.out.step (dN _ _), below_dN HB.out nq, below_dN HBW.out nq⟩
        case measure => first | (simp [intOf]; done) | (simp [intOf]; omega)
      · rw [if_neg he] at hA
        have f1 : (y.id = x.id) = False := eq_false he
        have f2 : (y.id == x.id) = false := beq_eq_false_iff_ne.2 he
        have f3 : decide (y.id = x.id) = false := decide_eq_false he
        by_cases hd : x.id < y.id ∧ D = false
        · rw [if_pos hd] at hA
          obtain ⟨hd1, rfl⟩ := hd
          have hAl3 : A.length ≤ k := hAl
          have HA := Lib.hid hA
          have g1 : (x.id < y.id) = True := eq_true hd1
          have g2 : decide (x.id < y.id) = true := decide_eq_true hd1
          clear hA he hd1
          go_wp2_with fail
          (refine wp_region_quiet_lit (by kernel_rfl) (by kernel_rfl) ?_; (repeat (first | go_big_quiet_step (fail) | (refine BigFrame.wpQuiet_skip (by rfl) ?_; try simp only [Act.put, List.setIfInBounds_toArray, List.set_cons_zero, List.set_cons_succ]))); refine wpQuiet_nil ?_; intro _ hw9; obtain ⟨nq, hw8⟩ := hw9; subst hw8)
          obtain ⟨Wa, hWWa⟩ : ∃ W, W = wr.drewN nq := ⟨_, rfl⟩
          rw [← hWWa]
          have hdWa : Below wr.heap.size wr Wa := by rw [hWWa]; exact dN _ _
          have HROWa := Lib.hid (HROW.out.congr (w' := Wa) fun g hg => hdWa.block g (by subst hg; exact HROW.out.lt))
          have HMBa := Lib.hid (HMB.out.step hdWa)
          have HBa := Lib.hid (HB.out.trans (hdWa.mono HB.out.size))
          have HBWa := Lib.hid (HBW.out.trans (hdWa.mono HBW.out.size))
          clear hWWa hdWa
          clear c0 c1 c2 c3 c4 e1 x0 x1 x2 x3 x4 hMl
          have hs1 := H1.out.below HBWa.out
          obtain ⟨c0, c1, c2, c3, c4⟩ := hs1.cell k hlt
          have e1 := (hs1.at_ (by omega)).2
          rw [← HYK.out] at c0 c1 c2 c3 c4
          clear hs1
          have x0 : Wa.cell? ⟨N, 0, none⟩ = some (.int .i64 x.id) := cell_at HMBa.out 0
          have x1 : Wa.cell? ⟨N, 1, none⟩ = some (.int .i64 x.rate) := cell_at HMBa.out 1
          have x2 : Wa.cell? ⟨N, 2, none⟩ = some (.int .i64 x.burst) := cell_at HMBa.out 2
          have x3 : Wa.cell? ⟨N, 3, none⟩ = some (.int .i64 x.bkt) := cell_at HMBa.out 3
          have x4 : Wa.cell? ⟨N, 4, none⟩ = some (.bool x.gone) := cell_at HMBa.out 4
          have hMl := HMBa.out.lt
          go_wp2_with fail
          (refine wp_region_quiet_lit (by kernel_rfl) (by kernel_rfl) ?_; (repeat (first | go_big_quiet_step (fail) | (refine BigFrame.wpQuiet_skip (by rfl) ?_; try simp only [Act.put, List.setIfInBounds_toArray, List.set_cons_zero, List.set_cons_succ]))); refine wpQuiet_nil ?_; intro _ hw9; obtain ⟨nq, hw8⟩ := hw9; subst hw8)
          obtain ⟨Wb, hWWb⟩ : ∃ W, W = Wa.drewN nq := ⟨_, rfl⟩
          rw [← hWWb]
          have hdWb : Below Wa.heap.size Wa Wb := by rw [hWWb]; exact dN _ _
          have HROWb := Lib.hid (HROWa.out.congr (w' := Wb) fun g hg => hdWb.block g (by subst hg; exact HROWa.out.lt))
          have HMBb := Lib.hid (HMBa.out.step hdWb)
          have HBb := Lib.hid (HBa.out.trans (hdWb.mono HBa.out.size))
          have HBWb := Lib.hid (HBWa.out.trans (hdWb.mono HBWa.out.size))
          clear hWWb hdWb
          clear c0 c1 c2 c3 c4 e1 x0 x1 x2 x3 x4 hMl
          have hs1 := H1.out.below HBWb.out
          obtain ⟨c0, c1, c2, c3, c4⟩ := hs1.cell k hlt
          have e1 := (hs1.at_ (by omega)).2
          rw [← HYK.out] at c0 c1 c2 c3 c4
          clear hs1
          have x0 : Wb.cell? ⟨N, 0, none⟩ = some (.int .i64 x.id) := cell_at HMBb.out 0
          have x1 : Wb.cell? ⟨N, 1, none⟩ = some (.int .i64 x.rate) := cell_at HMBb.out 1
          have x2 : Wb.cell? ⟨N, 2, none⟩ = some (.int .i64 x.burst) := cell_at HMBb.out 2
          have x3 : Wb.cell? ⟨N, 3, none⟩ = some (.int .i64 x.bkt) := cell_at HMBb.out 3
          have x4 : Wb.cell? ⟨N, 4, none⟩ = some (.bool x.gone) := cell_at HMBb.out 4
          have hMl := HMBb.out.lt
          go_wp2_with (at_builtin; refine wpList_append_row _ rfl (.tmp 34) (.tmp 36) 22 rfl 54 i0 _ 5 40 Try.underlying22 HI.out HZ0.out HZ1.out HZ2.out rfl (by decide) _ ob A.length (listL A) rfl (HROWb.out.alloc _) ⟨Wb.heap.size, 0, none⟩ 1 1 (x).cells rfl (by decide) rfl ?c1 ?c2 ?c3 ?c4 ?_)
          case c1 => exact one_tn Wb x _
          case c2 => exact tnc_one x
          case c3 => (unfold maxLen; (try simp only [List.length_append, List.length_cons, List.length_nil]); omega)
          case c4 => ((try simp only [List.length_append, List.length_cons, List.length_nil]); omega)
          intro v3p ob3p W3p hrow3 hg3 hob3
          have hG := grow1 (A := A) (y := x) HNB.out HMBb.out HBb.out HG.out (by first | exact hrow3 | simpa using hrow3) _ hg3 (by first | exact hob3 | (rcases hob3 with h | h; exact .inl (by rw [h]); exact .inr h))
          obtain ⟨va3p, vc3p, hv3, v13p, _, h39⟩ := hG.1.shape
          have h49 : va3p = some ⟨ob3p, 0, none⟩ := h39
          subst hv3 h49
          have HR3p := Lib.hid hG.1
          have HG3p := Lib.hid hG.2.1
          have HMB3p := Lib.hid hG.2.2.1
          have HB3p := Lib.hid hG.2.2.2
          have HBW3p : Hid (Below W1.heap.size W1 W3p) := Lib.hid ((HBWb.out.alloc HBWb.out.size _).grown hg3 (by have := HBWb.out.size; simp; omega) (fun g e => by have := HG.out g e; have := HS1.out; omega))
          clear hG hrow3 hg3 hob3 h39
          clear c0 c1 c2 c3 c4 e1 x0 x1 x2 x3 x4 hMl
          have hs1 := H1.out.below HBW3p.out
          obtain ⟨c0, c1, c2, c3, c4⟩ := hs1.cell k hlt
          have e1 := (hs1.at_ (by omega)).2
          rw [← HYK.out] at c0 c1 c2 c3 c4
          clear hs1
          have x0 : W3p.cell? ⟨N, 0, none⟩ = some (.int .i64 x.id) := cell_at HMB3p.out 0
          have x1 : W3p.cell? ⟨N, 1, none⟩ = some (.int .i64 x.rate) := cell_at HMB3p.out 1
          have x2 : W3p.cell? ⟨N, 2, none⟩ = some (.int .i64 x.burst) := cell_at HMB3p.out 2
          have x3 : W3p.cell? ⟨N, 3, none⟩ = some (.int .i64 x.bkt) := cell_at HMB3p.out 3
          have x4 : W3p.cell? ⟨N, 4, none⟩ = some (.bool x.gone) := cell_at HMB3p.out 4
          have hMl := HMB3p.out.lt
          go_wp2_with (at_builtin; refine wpList_append_row _ rfl (.tmp 38) (.tmp 43) 22 rfl 54 i0 _ 5 40 Try.underlying22 HI.out HZ0.out HZ1.out HZ2.out rfl (by decide) _ (some ob3p) (A ++ [x]).length (listL (A ++ [x])) rfl (HR3p.out.alloc _) ⟨W3p.heap.size, 0, none⟩ 1 1 (y).cells rfl (by decide) rfl ?c1 ?c2 ?c3 ?c4 ?_)
          case c1 => exact one_tn W3p y _
          case c2 => exact tnc_one y
          case c3 => (unfold maxLen; (try simp only [List.length_append, List.length_cons, List.length_nil]); omega)
          case c4 => ((try simp only [List.length_append, List.length_cons, List.length_nil]); omega)
          intro v3q ob3q W3q hrow3 hg3 hob3
          have hG := grow1 (A := (A ++ [x])) (y := y) HNB.out HMB3p.out HB3p.out HG3p.out (by first | exact hrow3 | simpa using hrow3) _ hg3 (by first | exact hob3 | (rcases hob3 with h | h; exact .inl (by rw [h]); exact .inr h))
          obtain ⟨va3q, vc3q, hv3, v13q, _, h39⟩ := hG.1.shape
          have h49 : va3q = some ⟨ob3q, 0, none⟩ := h39
          subst hv3 h49
          have HR3q := Lib.hid hG.1
          have HG3q := Lib.hid hG.2.1
          have HMB3q := Lib.hid hG.2.2.1
          have HB3q := Lib.hid hG.2.2.2
          have HBW3q : Hid (Below W1.heap.size W1 W3q) := Lib.hid ((HBW3p.out.alloc HBW3p.out.size _).grown hg3 (by have := HBW3p.out.size; simp; omega) (fun g e => by have := HG3p.out g e; have := HS1.out; omega))
          clear hG hrow3 hg3 hob3 h39
          go_wp2_with fail
          go_roundw
          case rel => exact ⟨k + 1, true, some ob3q, A ++ [x] ++ [y], by omega, rfl, by go_num, HR3q.out, by rw [← HA.out]; simp, by simp; omega, HG3q.out, HMB3q.out, HB3q.out, HBW3q.out⟩
          case measure => first | (simp [intOf]; done) | (simp [intOf]; omega)
        · rw [if_neg hd] at hA
          have HA := Lib.hid hA
          have hcs : (D = true ∧ x.id < y.id) ∨ ¬ x.id < y.id := by
            cases D
            · exact .inr (fun h => hd ⟨h, rfl⟩)
            · by_cases h : x.id < y.id
              · exact .inl ⟨rfl, h⟩
              · exact .inr h
          clear hA he hd
          rcases hcs with ⟨rfl, hd1⟩ | hd1
          · have g1 : (x.id < y.id) = True := eq_true hd1
            have g2 : decide (x.id < y.id) = true := decide_eq_true hd1
            clear hd1
            go_wp2_with fail
            (refine wp_region_quiet_lit (by kernel_rfl) (by kernel_rfl) ?_; (repeat (first | go_big_quiet_step (fail) | (refine BigFrame.wpQuiet_skip (by rfl) ?_; try simp only [Act.put, List.setIfInBounds_toArray, List.set_cons_zero, List.set_cons_succ]))); refine wpQuiet_nil ?_; intro _ hw9; obtain ⟨nq, hw8⟩ := hw9; subst hw8)
            obtain ⟨Wa, hWWa⟩ : ∃ W, W = wr.drewN nq := ⟨_, rfl⟩
            rw [← hWWa]
            have hdWa : Below wr.heap.size wr Wa := by rw [hWWa]; exact dN _ _
            have HROWa := Lib.hid (HROW.out.congr (w' := Wa) fun g hg => hdWa.block g (by subst hg; exact HROW.out.lt))
            have HMBa := Lib.hid (HMB.out.step hdWa)
            have HBa := Lib.hid (HB.out.trans (hdWa.mono HB.out.size))
            have HBWa := Lib.hid (HBW.out.trans (hdWa.mono HBW.out.size))
            clear hWWa hdWa
            clear c0 c1 c2 c3 c4 e1 x0 x1 x2 x3 x4 hMl
            have hs1 := H1.out.below HBWa.out
            obtain ⟨c0, c1, c2, c3, c4⟩ := hs1.cell k hlt
            have e1 := (hs1.at_ (by omega)).2
            rw [← HYK.out] at c0 c1 c2 c3 c4
            clear hs1
            have x0 : Wa.cell? ⟨N, 0, none⟩ = some (.int .i64 x.id) := cell_at HMBa.out 0
            have x1 : Wa.cell? ⟨N, 1, none⟩ = some (.int .i64 x.rate) := cell_at HMBa.out 1
            have x2 : Wa.cell? ⟨N, 2, none⟩ = some (.int .i64 x.burst) := cell_at HMBa.out 2
            have x3 : Wa.cell? ⟨N, 3, none⟩ = some (.int .i64 x.bkt) := cell_at HMBa.out 3
            have x4 : Wa.cell? ⟨N, 4, none⟩ = some (.bool x.gone) := cell_at HMBa.out 4
            have hMl := HMBa.out.lt
            go_wp2_with fail
            (refine wp_region_quiet_lit (by kernel_rfl) (by kernel_rfl) ?_; (repeat (first | go_big_quiet_step (fail) | (refine BigFrame.wpQuiet_skip (by rfl) ?_; try simp only [Act.put, List.setIfInBounds_toArray, List.set_cons_zero, List.set_cons_succ]))); refine wpQuiet_nil ?_; intro _ hw9; obtain ⟨nq, hw8⟩ := hw9; subst hw8)
            obtain ⟨Wb, hWWb⟩ : ∃ W, W = Wa.drewN nq := ⟨_, rfl⟩
            rw [← hWWb]
            have hdWb : Below Wa.heap.size Wa Wb := by rw [hWWb]; exact dN _ _
            have HROWb := Lib.hid (HROWa.out.congr (w' := Wb) fun g hg => hdWb.block g (by subst hg; exact HROWa.out.lt))
            have HMBb := Lib.hid (HMBa.out.step hdWb)
            have HBb := Lib.hid (HBa.out.trans (hdWb.mono HBa.out.size))
            have HBWb := Lib.hid (HBWa.out.trans (hdWb.mono HBWa.out.size))
            clear hWWb hdWb
            clear c0 c1 c2 c3 c4 e1 x0 x1 x2 x3 x4 hMl
            have hs1 := H1.out.below HBWb.out
            obtain ⟨c0, c1, c2, c3, c4⟩ := hs1.cell k hlt
            have e1 := (hs1.at_ (by omega)).2
            rw [← HYK.out] at c0 c1 c2 c3 c4
            clear hs1
            have x0 : Wb.cell? ⟨N, 0, none⟩ = some (.int .i64 x.id) := cell_at HMBb.out 0
            have x1 : Wb.cell? ⟨N, 1, none⟩ = some (.int .i64 x.rate) := cell_at HMBb.out 1
            have x2 : Wb.cell? ⟨N, 2, none⟩ = some (.int .i64 x.burst) := cell_at HMBb.out 2
            have x3 : Wb.cell? ⟨N, 3, none⟩ = some (.int .i64 x.bkt) := cell_at HMBb.out 3
            have x4 : Wb.cell? ⟨N, 4, none⟩ = some (.bool x.gone) := cell_at HMBb.out 4
            have hMl := HMBb.out.lt
            go_wp2_with (at_builtin; refine wpList_append_row _ rfl (.tmp 38) (.tmp 43) 22 rfl 54 i0 _ 5 40 Try.underlying22 HI.out HZ0.out HZ1.out HZ2.out rfl (by decide) _ ob A.length (listL A) rfl (HROWb.out.alloc _) ⟨Wb.heap.size, 0, none⟩ 1 1 (y).cells rfl (by decide) rfl ?c1 ?c2 ?c3 ?c4 ?_)
            case c1 => exact one_tn Wb y _
            case c2 => exact tnc_one y
            case c3 => (unfold maxLen; (try simp only [List.length_append, List.length_cons, List.length_nil]); omega)
            case c4 => ((try simp only [List.length_append, List.length_cons, List.length_nil]); omega)
            intro v3q ob3q W3q hrow3 hg3 hob3
            have hG := grow1 (A := A) (y := y) HNB.out HMBb.out HBb.out HG.out (by first | exact hrow3 | simpa using hrow3) _ hg3 (by first | exact hob3 | (rcases hob3 with h | h; exact .inl (by rw [h]); exact .inr h))
            obtain ⟨va3q, vc3q, hv3, v13q, _, h39⟩ := hG.1.shape
            have h49 : va3q = some ⟨ob3q, 0, none⟩ := h39
            subst hv3 h49
            have HR3q := Lib.hid hG.1
            have HG3q := Lib.hid hG.2.1
            have HMB3q := Lib.hid hG.2.2.1
            have HB3q := Lib.hid hG.2.2.2
            have HBW3q : Hid (Below W1.heap.size W1 W3q) := Lib.hid ((HBWb.out.alloc HBWb.out.size _).grown hg3 (by have := HBWb.out.size; simp; omega) (fun g e => by have := HG.out g e; have := HS1.out; omega))
            clear hG hrow3 hg3 hob3 h39
            go_wp2_with fail
            go_roundw
            case rel => exact ⟨k + 1, _, some ob3q, A ++ [y], by omega, rfl, by go_num, HR3q.out, by rw [← HA.out]; simp, by simp; omega, HG3q.out, HMB3q.out, HB3q.out, HBW3q.out⟩
            case measure => first | (simp [intOf]; done) | (simp [intOf]; omega)
          · have g1 : (x.id < y.id) = False := eq_false hd1
            have g2 : decide (x.id < y.id) = false := decide_eq_false hd1
            clear hd1
            go_wp2_with fail
            (refine wp_region_quiet_lit (by kernel_rfl) (by kernel_rfl) ?_; (repeat (first | go_big_quiet_step (fail) | (refine BigFrame.wpQuiet_skip (by rfl) ?_; try simp only [Act.put, List.setIfInBounds_toArray, List.set_cons_zero, List.set_cons_succ]))); refine wpQuiet_nil ?_; intro _ hw9; obtain ⟨nq, hw8⟩ := hw9; subst hw8)
            obtain ⟨Wa, hWWa⟩ : ∃ W, W = wr.drewN nq := ⟨_, rfl⟩
            rw [← hWWa]
            have hdWa : Below wr.heap.size wr Wa := by rw [hWWa]; exact dN _ _
            have HROWa := Lib.hid (HROW.out.congr (w' := Wa) fun g hg => hdWa.block g (by subst hg; exact HROW.out.lt))
            have HMBa := Lib.hid (HMB.out.step hdWa)
            have HBa := Lib.hid (HB.out.trans (hdWa.mono HB.out.size))
            have HBWa := Lib.hid (HBW.out.trans (hdWa.mono HBW.out.size))
            clear hWWa hdWa
            clear c0 c1 c2 c3 c4 e1 x0 x1 x2 x3 x4 hMl
            have hs1 := H1.out.below HBWa.out
            obtain ⟨c0, c1, c2, c3, c4⟩ := hs1.cell k hlt
            have e1 := (hs1.at_ (by omega)).2
            rw [← HYK.out] at c0 c1 c2 c3 c4
            clear hs1
            have x0 : Wa.cell? ⟨N, 0, none⟩ = some (.int .i64 x.id) := cell_at HMBa.out 0
            have x1 : Wa.cell? ⟨N, 1, none⟩ = some (.int .i64 x.rate) := cell_at HMBa.out 1
            have x2 : Wa.cell? ⟨N, 2, none⟩ = some (.int .i64 x.burst) := cell_at HMBa.out 2
            have x3 : Wa.cell? ⟨N, 3, none⟩ = some (.int .i64 x.bkt) := cell_at HMBa.out 3
            have x4 : Wa.cell? ⟨N, 4, none⟩ = some (.bool x.gone) := cell_at HMBa.out 4
            have hMl := HMBa.out.lt
            go_wp2_with fail
            (refine wp_region_quiet_lit (by kernel_rfl) (by kernel_rfl) ?_; (repeat (first | go_big_quiet_step (fail) | (refine BigFrame.wpQuiet_skip (by rfl) ?_; try simp only [Act.put, List.setIfInBounds_toArray, List.set_cons_zero, List.set_cons_succ]))); refine wpQuiet_nil ?_; intro _ hw9; obtain ⟨nq, hw8⟩ := hw9; subst hw8)
            obtain ⟨Wb, hWWb⟩ : ∃ W, W = Wa.drewN nq := ⟨_, rfl⟩
            rw [← hWWb]
            have hdWb : Below Wa.heap.size Wa Wb := by rw [hWWb]; exact dN _ _
            have HROWb := Lib.hid (HROWa.out.congr (w' := Wb) fun g hg => hdWb.block g (by subst hg; exact HROWa.out.lt))
            have HMBb := Lib.hid (HMBa.out.step hdWb)
            have HBb := Lib.hid (HBa.out.trans (hdWb.mono HBa.out.size))
            have HBWb := Lib.hid (HBWa.out.trans (hdWb.mono HBWa.out.size))
            clear hWWb hdWb
            clear c0 c1 c2 c3 c4 e1 x0 x1 x2 x3 x4 hMl
            have hs1 := H1.out.below HBWb.out
            obtain ⟨c0, c1, c2, c3, c4⟩ := hs1.cell k hlt
            have e1 := (hs1.at_ (by omega)).2
            rw [← HYK.out] at c0 c1 c2 c3 c4
            clear hs1
            have x0 : Wb.cell? ⟨N, 0, none⟩ = some (.int .i64 x.id) := cell_at HMBb.out 0
            have x1 : Wb.cell? ⟨N, 1, none⟩ = some (.int .i64 x.rate) := cell_at HMBb.out 1
            have x2 : Wb.cell? ⟨N, 2, none⟩ = some (.int .i64 x.burst) := cell_at HMBb.out 2
            have x3 : Wb.cell? ⟨N, 3, none⟩ = some (.int .i64 x.bkt) := cell_at HMBb.out 3
            have x4 : Wb.cell? ⟨N, 4, none⟩ = some (.bool x.gone) := cell_at HMBb.out 4
            have hMl := HMBb.out.lt
            go_wp2_with (at_builtin; refine wpList_append_row _ rfl (.tmp 38) (.tmp 43) 22 rfl 54 i0 _ 5 40 Try.underlying22 HI.out HZ0.out HZ1.out HZ2.out rfl (by decide) _ ob A.length (listL A) rfl (HROWb.out.alloc _) ⟨Wb.heap.size, 0, none⟩ 1 1 (y).cells rfl (by decide) rfl ?c1 ?c2 ?c3 ?c4 ?_)
            case c1 => exact one_tn Wb y _
            case c2 => exact tnc_one y
            case c3 => (unfold maxLen; (try simp only [List.length_append, List.length_cons, List.length_nil]); omega)
            case c4 => ((try simp only [List.length_append, List.length_cons, List.length_nil]); omega)
            intro v3q ob3q W3q hrow3 hg3 hob3
            have hG := grow1 (A := A) (y := y) HNB.out HMBb.out HBb.out HG.out (by first | exact hrow3 | simpa using hrow3) _ hg3 (by first | exact hob3 | (rcases hob3 with h | h; exact .inl (by rw [h]); exact .inr h))
            obtain ⟨va3q, vc3q, hv3, v13q, _, h39⟩ := hG.1.shape
            have h49 : va3q = some ⟨ob3q, 0, none⟩ := h39
            subst hv3 h49
            have HR3q := Lib.hid hG.1
            have HG3q := Lib.hid hG.2.1
            have HMB3q := Lib.hid hG.2.2.1
            have HB3q := Lib.hid hG.2.2.2
            have HBW3q : Hid (Below W1.heap.size W1 W3q) := Lib.hid ((HBWb.out.alloc HBWb.out.size _).grown hg3 (by have := HBWb.out.size; simp; omega) (fun g e => by have := HG.out g e; have := HS1.out; omega))
            clear hG hrow3 hg3 hob3 h39
            go_wp2_with fail
            go_roundw
            case rel => exact ⟨k + 1, _, some ob3q, A ++ [y], by omega, rfl, by go_num, HR3q.out, by rw [← HA.out]; simp, by simp; omega, HG3q.out, HMB3q.out, HB3q.out, HBW3q.out⟩
            case measure => first | (simp [intOf]; done) | (simp [intOf]; omega)
    · obtain rfl : k = n := by omega
      rw [HN.out, List.drop_length] at hA
      have x0 : wr.cell? ⟨N, 0, none⟩ = some (.int .i64 x.id) := cell_at HMB.out 0
      have x1 : wr.cell? ⟨N, 1, none⟩ = some (.int .i64 x.rate) := cell_at HMB.out 1
      have x2 : wr.cell? ⟨N, 2, none⟩ = some (.int .i64 x.burst) := cell_at HMB.out 2
      have x3 : wr.cell? ⟨N, 3, none⟩ = some (.int .i64 x.bkt) := cell_at HMB.out 3
      have x4 : wr.cell? ⟨N, 4, none⟩ = some (.bool x.gone) := cell_at HMB.out 4
      have hMl := HMB.out.lt
      have HA := Lib.hid hA
      clear hA
      cases D
      · have hAY : A ++ [x] = Y := by rw [← HA.out]; rfl
        have HAY := Lib.hid hAY
        clear hAY
        go_wp2_with (at_builtin; refine wpList_append_row _ rfl (.tmp 47) (.tmp 49) 22 rfl 54 i0 _ 5 40 Try.underlying22 HI.out HZ0.out HZ1.out HZ2.out rfl (by decide) _ ob A.length (listL A) rfl (HROW.out.alloc _) ⟨wr.heap.size, 0, none⟩ 1 1 (x).cells rfl (by decide) rfl ?c1 ?c2 ?c3 ?c4 ?_)
        case c1 => exact one_tn wr x _
        case c2 => exact tnc_one x
        case c3 => (unfold maxLen; (try simp only [List.length_append, List.length_cons, List.length_nil]); omega)
        case c4 => ((try simp only [List.length_append, List.length_cons, List.length_nil]); omega)
        intro v3p ob3p W3p hrow3 hg3 hob3
        have hG := grow1 (A := A) (y := x) HNB.out HMB.out HB.out HG.out (by first | exact hrow3 | simpa using hrow3) _ hg3 (by first | exact hob3 | (rcases hob3 with h | h; exact .inl (by rw [h]); exact .inr h))
        obtain ⟨va3p, vc3p, hv3, v13p, _, h39⟩ := hG.1.shape
        have h49 : va3p = some ⟨ob3p, 0, none⟩ := h39
        subst hv3 h49
        have HR3p := Lib.hid hG.1
        have HG3p := Lib.hid hG.2.1
        have HMB3p := Lib.hid hG.2.2.1
        have HB3p := Lib.hid hG.2.2.2
        have HBW3p : Hid (Below W1.heap.size W1 W3p) := Lib.hid ((HBW.out.alloc HBW.out.size _).grown hg3 (by have := HBW.out.size; simp; omega) (fun g e => by have := HG.out g e; have := HS1.out; omega))
        clear hG hrow3 hg3 hob3 h39
        go_wp2_with fail
        go_ret
        exact ⟨_, rfl, (by rw [← HAY.out]; exact TVo.le (tvo_row HR3p.out (by rw [HAY.out]; exact HOK.out) HG3p.out) (by have := HNB.out; omega)), HB3p.out⟩
      · have hAY : A = Y := by rw [← HA.out]; exact (List.append_nil A).symm
        have HAY := Lib.hid hAY
        clear hAY
        go_wp2_with fail
        go_ret
        exact ⟨_, rfl, (by rw [← HAY.out]; exact tvo_row (m := w.heap.size) HROW.out (by rw [HAY.out]; exact HOK.out) (fun g e => by have := HG.out g e; have := HNB.out; omega)), HB.out⟩
end Go.Proofs.Ytfgnjpdlchimpaa
namespace Go.Proofs.Ytfgnjpdlchimpaa
open Go.RowKit
set_option linter.unusedSimpArgs false
set_option linter.unusedVariables false

/-- what is out of a tenant -/
def outL : List LeE → Int → Int
  | [], _ => 0
  | x :: r, t => (if x.tenant = t then x.size - x.spent else 0) + outL r t
theorem outL_append : ∀ (a b : List LeE) (t : Int), outL (a ++ b) t = outL a t + outL b t
  | [], b, t => by simp [outL]
  | x :: r, b, t => by
    show (if x.tenant = t then x.size - x.spent else 0) + outL (r ++ b) t = (if x.tenant = t then x.size - x.spent else 0) + outL r t + outL b t
    rw [outL_append r b t]
    omega
/-- leases whose sizes may be -/
def sizeB (L : List LeE) : Prop := ∀ x ∈ L, 1 ≤ x.size ∧ x.size ≤ 1000000 ∧ 0 ≤ x.spent ∧ x.spent < x.size
theorem outL_bd : ∀ (L : List LeE) (t : Int), sizeB L → 0 ≤ outL L t ∧ outL L t ≤ L.length * 1000000
  | [], t, _ => by simp [outL]
  | x :: r, t, h => by
    have hx := h x (by simp)
    have hr := outL_bd r t (fun y hy => h y (by simp [hy]))
    have hl : ((x :: r).length : Int) = r.length + 1 := by simp
    rw [hl]
    unfold outL
    split <;> omega
theorem outL_take (L : List LeE) (k : Nat) (x : LeE) (t : Int) (h : L[k]? = some x) : outL (L.take (k + 1)) t = outL (L.take k) t + (if x.tenant = t then x.size - x.spent else 0) := by
  rw [List.take_add_one, h, outL_append]
  simp [outL]
set_option maxRecDepth 100000 in
set_option maxHeartbeats 8000000 in
theorem rout_any (v : Value) (s : StE) (t : Int) (w : World) (h : SV w v s) (hf : fewS s) (hz : sizeB s.ls) :
    Calls Try.prog 15 #[v, .int .i64 t] w fun e w' => e = .returned (.int .i64 (outL s.ls t)) ∧ Below w.heap.size w w' := by
  obtain ⟨f1, f2, f3, f4⟩ := hf
  have HZ := Lib.hid hz
  have HTK := Lib.hid (fun k x h => outL_take s.ls k x t h)
  have HBD := Lib.hid (fun k => outL_bd (s.ls.take k) t (fun x hx => hz x (List.mem_of_mem_take hx)))
  clear hz
  obtain ⟨vt, vl, vs, vd, rfl, ht, hl, hs, hd⟩ := h
  obtain ⟨ta, tn, tc, rfl, Htn, tn1, tn2⟩ := ht.sh
  obtain ⟨la, ln, lc, rfl, Hln, ln1, ln2⟩ := hl.sh
  obtain ⟨sa, sn, sc, rfl, Hsn, sn1, sn2⟩ := hs.sh
  obtain ⟨da, dn, dc, rfl, Hdn, dn1, dn2⟩ := hd.sh
  have HT0 := Lib.hid ht
  have HL0 := Lib.hid hl
  have HS0 := Lib.hid hs
  have HD0 := Lib.hid hd
  have HT := Lib.hid ht
  have HL := Lib.hid hl
  have HS := Lib.hid hs
  have HD := Lib.hid hd
  clear ht hl hs hd
  rw [← Hln.out] at f2
  obtain ⟨F, hF⟩ : ∃ F : Nat → Int, F = fun k => outL (s.ls.take k) t := ⟨_, rfl⟩
  have hF0 : F 0 = 0 := by rw [hF]; rfl
  have hFn : outL s.ls t = F ln := by rw [hF, Hln.out]; simp
  rw [hFn]
  have HTK2 : Hid (∀ k x, s.ls[k]? = some x → F (k + 1) = F k + (if x.tenant = t then x.size - x.spent else 0)) := Lib.hid (fun k x h => by rw [hF]; exact HTK.out k x h)
  have HBD2 : Hid (∀ k, 0 ≤ F k ∧ F k ≤ (s.ls.take k).length * 1000000) := Lib.hid (fun k => by rw [hF]; exact HBD.out k)
  clear hF hFn HTK HBD
  have HB : Hid (Below w.heap.size w w) := Lib.hid (Below.refl _ _)
  go_enter Try.func15, Try.ntmps15
  go_upto_region 1 with fail
  obtain ⟨N, hN⟩ : ∃ n0, n0 = w.heap.size := ⟨_, rfl⟩
  have HLON : Hid (w.heap.size ≤ N) := Lib.hid (by have := HB.out.size; omega)
  obtain ⟨W1, hA0⟩ : ∃ W0, W0 = w.alloc (.cells #[.int .i64 s.term, .int .i64 s.stamp, .int .i64 s.next, .slice ta tn tc, .slice la ln lc, .slice sa sn sc, .slice da dn dc] 27) := ⟨_, rfl⟩
  have hB : Below w.heap.size w W1 := by rw [hA0]; exact (Below.refl _ _).alloc (Nat.le_refl _) _
  have hS0 : W1.heap.size = N + 1 := by rw [hA0]; simp [← hN]
  have HR := Lib.hid (show Blk W1 N #[.int .i64 s.term, .int .i64 s.stamp, .int .i64 s.next, .slice ta tn tc, .slice la ln lc, .slice sa sn sc, .slice da dn dc] 27 by rw [hA0, hN]; exact blk_new _ _ _)
  replace HB := Lib.hid (HB.out.trans (hB.mono HB.out.size))
  replace HT := Lib.hid (HT0.out.below HB.out)
  replace HL := Lib.hid (HL0.out.below HB.out)
  replace HS := Lib.hid (HS0.out.below HB.out)
  replace HD := Lib.hid (HD0.out.below HB.out)
  clear hB
  have HSN := Lib.hid hS0
  rw [← hN, ← hA0]
  clear hA0 hN hS0
  have qR0 : W1.cell? ⟨N, 0, none⟩ = some (.int .i64 s.term) := cell_at HR.out 0
  have qR1 : W1.cell? ⟨N, 1, none⟩ = some (.int .i64 s.stamp) := cell_at HR.out 1
  have qR2 : W1.cell? ⟨N, 2, none⟩ = some (.int .i64 s.next) := cell_at HR.out 2
  have qR3 : W1.cell? ⟨N, 3, none⟩ = some (.slice ta tn tc) := cell_at HR.out 3
  have qR4 : W1.cell? ⟨N, 4, none⟩ = some (.slice la ln lc) := cell_at HR.out 4
  have qR5 : W1.cell? ⟨N, 5, none⟩ = some (.slice sa sn sc) := cell_at HR.out 5
  have qR6 : W1.cell? ⟨N, 6, none⟩ = some (.slice da dn dc) := cell_at HR.out 6
  have qRz : ∀ j, W1.frozen? ⟨N, j, none⟩ = false := fun j => free_at HR.out j
  have qRl : N < W1.heap.size := HR.out.lt
  go_wp2_with fail
  clear qR0 qR1 qR2 qR3 qR4 qR5 qR6 qRz qRl
  go_loopw [5, 6] (fun n k wr => ∃ i : Nat, i ≤ ln ∧ k = .int .i64 i ∧ n = .int .i64 (F i) ∧ Below W1.heap.size W1 wr) (fun _ k _ => ln - (intOf k).toNat)
  case atStart => exact ⟨0, Nat.zero_le _, rfl, by rw [hF0], Below.refl _ _⟩
  case round =>
    obtain ⟨i, hi, rfl, rfl, hB⟩ := hrel
    have HBC := Lib.hid hB
    replace HB := Lib.hid (HB.out.trans (hB.mono HB.out.size))
    replace HT := Lib.hid (HT0.out.below HB.out)
    replace HL := Lib.hid (HL0.out.below HB.out)
    replace HS := Lib.hid (HS0.out.below HB.out)
    replace HD := Lib.hid (HD0.out.below HB.out)
    replace HR := Lib.hid (HR.out.step hB)
    clear hB
    obtain ⟨z, hz⟩ : ∃ z, z = F i := ⟨_, rfl⟩
    rw [← hz]
    have HZI := Lib.hid hz
    have hzb := HBD2.out i
    rw [← hz, List.length_take, ← Hln.out] at hzb
    have hzb0 := hzb.1
    have hzb1 : z ≤ 200000000 := by have := hzb.2; omega
    clear hz hzb
    by_cases hk : i < ln
    · skip
      have b9 : (i < ln) = True := eq_true hk
      obtain ⟨g, o, x, ea, g1, g2, q0, q1, q2, q3, q4, q5, q6⟩ := HL.out.at i hk
      subst ea
      have hx9 := HZ.out x (List.mem_of_getElem? g2)
      have hst := HTK2.out i x g2
      rw [← HZI.out] at hst
      have ww5 : IntKind.i64.wrap ((i : Int) + 1) = (i : Int) + 1 := IntWalk.i64_in _ (by omega)
      by_cases he : x.tenant = t
      · skip
        rw [if_pos he] at hst
        have d1 : (x.tenant == t) = true := beq_iff_eq.2 he
        have d2 : (x.tenant = t) = True := eq_true he
        obtain ⟨u, hu⟩ : ∃ u, u = z + x.size := ⟨_, rfl⟩
        have ww1 : IntKind.i64.wrap (z + x.size) = u := (IntWalk.i64_in _ (by omega)).trans hu.symm
        have ww2 : IntKind.i64.wrap (u - x.spent) = F (i + 1) := (IntWalk.i64_in _ (by omega)).trans (by omega)
        clear hst hu he g2 hx9
        have qR0 : wr.cell? ⟨N, 0, none⟩ = some (.int .i64 s.term) := cell_at HR.out 0
        have qR1 : wr.cell? ⟨N, 1, none⟩ = some (.int .i64 s.stamp) := cell_at HR.out 1
        have qR2 : wr.cell? ⟨N, 2, none⟩ = some (.int .i64 s.next) := cell_at HR.out 2
        have qR3 : wr.cell? ⟨N, 3, none⟩ = some (.slice ta tn tc) := cell_at HR.out 3
        have qR4 : wr.cell? ⟨N, 4, none⟩ = some (.slice (some ⟨g, o, none⟩) ln lc) := cell_at HR.out 4
        have qR5 : wr.cell? ⟨N, 5, none⟩ = some (.slice sa sn sc) := cell_at HR.out 5
        have qR6 : wr.cell? ⟨N, 6, none⟩ = some (.slice da dn dc) := cell_at HR.out 6
        have qRz : ∀ j, wr.frozen? ⟨N, j, none⟩ = false := fun j => free_at HR.out j
        have qRl : N < wr.heap.size := HR.out.lt
        go_wp2_with fail
        (refine wp_region_quiet_lit (by kernel_rfl) (by kernel_rfl) ?_; (repeat (first | go_big_quiet_step (fail) | (refine BigFrame.wpQuiet_skip (by rfl) ?_; try simp only [Act.put, List.setIfInBounds_toArray, List.set_cons_zero, List.set_cons_succ]))); refine wpQuiet_nil ?_; intro _ hw9; obtain ⟨nq, hw8⟩ := hw9; subst hw8)
        clear qR0 qR1 qR2 qR3 qR4 qR5 qR6 qRz qRl
        obtain ⟨W2, hWn⟩ : ∃ X, X = wr.drewN nq := ⟨_, rfl⟩
        rw [← hWn]
        have hB : Below wr.heap.size wr W2 := by rw [hWn]; exact dN _ _
        clear hWn
        replace HB := Lib.hid (HB.out.trans (hB.mono HB.out.size))
        replace HT := Lib.hid (HT0.out.below HB.out)
        replace HL := Lib.hid (HL0.out.below HB.out)
        replace HS := Lib.hid (HS0.out.below HB.out)
        replace HD := Lib.hid (HD0.out.below HB.out)
        replace HR := Lib.hid (HR.out.step hB)
        replace HBC := Lib.hid (HBC.out.trans (hB.mono HBC.out.size))
        clear hB
        go_wp2_with fail
        go_roundw
        case rel => exact ⟨i + 1, by omega, by go_num, rfl, HBC.out⟩
        case measure => first | (simp [intOf]; done) | (simp [intOf]; omega)
      · skip
        rw [if_neg he, Int.add_zero] at hst
        have HST := Lib.hid hst
        have d1 : (x.tenant == t) = false := beq_eq_false_iff_ne.2 he
        have d2 : (x.tenant = t) = False := eq_false he
        clear hst he g2 hx9
        have qR0 : wr.cell? ⟨N, 0, none⟩ = some (.int .i64 s.term) := cell_at HR.out 0
        have qR1 : wr.cell? ⟨N, 1, none⟩ = some (.int .i64 s.stamp) := cell_at HR.out 1
        have qR2 : wr.cell? ⟨N, 2, none⟩ = some (.int .i64 s.next) := cell_at HR.out 2
        have qR3 : wr.cell? ⟨N, 3, none⟩ = some (.slice ta tn tc) := cell_at HR.out 3
        have qR4 : wr.cell? ⟨N, 4, none⟩ = some (.slice (some ⟨g, o, none⟩) ln lc) := cell_at HR.out 4
        have qR5 : wr.cell? ⟨N, 5, none⟩ = some (.slice sa sn sc) := cell_at HR.out 5
        have qR6 : wr.cell? ⟨N, 6, none⟩ = some (.slice da dn dc) := cell_at HR.out 6
        have qRz : ∀ j, wr.frozen? ⟨N, j, none⟩ = false := fun j => free_at HR.out j
        have qRl : N < wr.heap.size := HR.out.lt
        go_wp2_with fail
        go_roundw
        case rel => exact ⟨i + 1, by omega, by go_num, by rw [HST.out], HBC.out⟩
        case measure => first | (simp [intOf]; done) | (simp [intOf]; omega)
    · skip
      have b9 : (i < ln) = False := eq_false hk
      obtain rfl : ln = i := by omega
      have hzz := HZI.out
      subst hzz
      have qR0 : wr.cell? ⟨N, 0, none⟩ = some (.int .i64 s.term) := cell_at HR.out 0
      have qR1 : wr.cell? ⟨N, 1, none⟩ = some (.int .i64 s.stamp) := cell_at HR.out 1
      have qR2 : wr.cell? ⟨N, 2, none⟩ = some (.int .i64 s.next) := cell_at HR.out 2
      have qR3 : wr.cell? ⟨N, 3, none⟩ = some (.slice ta tn tc) := cell_at HR.out 3
      have qR4 : wr.cell? ⟨N, 4, none⟩ = some (.slice la ln lc) := cell_at HR.out 4
      have qR5 : wr.cell? ⟨N, 5, none⟩ = some (.slice sa sn sc) := cell_at HR.out 5
      have qR6 : wr.cell? ⟨N, 6, none⟩ = some (.slice da dn dc) := cell_at HR.out 6
      have qRz : ∀ j, wr.frozen? ⟨N, j, none⟩ = false := fun j => free_at HR.out j
      have qRl : N < wr.heap.size := HR.out.lt
      go_wp2_with fail
      go_ret
      exact ⟨rfl, HB.out⟩
end Go.Proofs.Ytfgnjpdlchimpaa
namespace Go.Proofs.Ytfgnjpdlchimpaa
open Go.RowKit
set_option linter.unusedSimpArgs false
set_option linter.unusedVariables false

/-- may a lease be, but for its number? -/
def leMay (ts : List TnE) (x : LeE) : Bool := (fndC x.tenant ts).isSome && (decide (1 ≤ x.shaper) && decide (x.shaper ≤ 8)) && decide (1 ≤ x.epoch) && decide (1 ≤ x.number) && (decide (1 ≤ x.size) && decide (x.size ≤ 1000000)) && decide (0 ≤ x.spent) && decide (x.spent < x.size)
def lesR (ts : List TnE) (next : Int) : Int → List LeE → Bool
  | _, [] => true
  | last, x :: r => decide (last < x.id) && decide (x.id < next) && leMay ts x && lesR ts next x.id r
def lesB (s : StE) : Bool := lesR s.ts s.next 0 s.ls && decide (s.ls.length ≤ 64) && decide (1 ≤ s.next) && decide (s.next ≤ 1099511627776)
theorem lesR_size : ∀ (L : List LeE) (ts : List TnE) (next last : Int), lesR ts next last L = true → sizeB L
  | [], _, _, _, _ => fun x h => absurd h (by simp)
  | y :: r, ts, next, last, h => by
    unfold lesR leMay at h
    simp only [Bool.and_eq_true, decide_eq_true_eq] at h
    intro x hx
    rcases List.mem_cons.1 hx with rfl | hx
    · omega
    · exact lesR_size r ts next y.id h.2 x hx
theorem lesR_drop {L : List LeE} {k : Nat} {x : LeE} (ts : List TnE) (next last : Int) (h : L[k]? = some x) : lesR ts next last (L.drop k) = (decide (last < x.id) && decide (x.id < next) && leMay ts x && lesR ts next x.id (L.drop (k + 1))) := by
  have hk := (List.getElem?_eq_some_iff.1 h).1
  have hx : L[k] = x := by have := List.getElem?_eq_getElem hk; rw [this] at h; exact Option.some.inj h
  rw [List.drop_eq_getElem_cons hk, hx]
  rfl
/-- the last one's number ahead of place k -/
def lastId (L : List LeE) (k : Nat) : Int := match k with | 0 => 0 | j + 1 => match L[j]? with | some x => x.id | none => 0
set_option maxRecDepth 100000 in
set_option maxHeartbeats 16000000 in
theorem rleases_any (v : Value) (s : StE) (w : World) (h : SV w v s) (hf : fewS s) :
    Calls Try.prog 31 #[v] w fun e w' => e = .returned (.bool (lesB s)) ∧ Below w.heap.size w w' := by
  obtain ⟨f1, f2, f3, f4⟩ := hf
  obtain ⟨vt, vl, vs, vd, rfl, ht, hl, hs, hd⟩ := h
  obtain ⟨ta, tn, tc, rfl, Htn, tn1, tn2⟩ := ht.sh
  obtain ⟨la, ln, lc, rfl, Hln, ln1, ln2⟩ := hl.sh
  obtain ⟨sa, sn, sc, rfl, Hsn, sn1, sn2⟩ := hs.sh
  obtain ⟨da, dn, dc, rfl, Hdn, dn1, dn2⟩ := hd.sh
  have HT0 := Lib.hid ht
  have HL0 := Lib.hid hl
  have HS0 := Lib.hid hs
  have HD0 := Lib.hid hd
  have HT := Lib.hid ht
  have HL := Lib.hid hl
  have HS := Lib.hid hs
  have HD := Lib.hid hd
  clear ht hl hs hd
  rw [← Hln.out] at f2
  have HFD := Lib.hid (fun W key (h : TV W (.slice ta tn tc) s.ts) => rfind_any _ s.ts key W h)
  obtain ⟨R, hR⟩ : ∃ R, R = lesB s := ⟨_, rfl⟩
  rw [← hR]
  have hR2 := hR
  unfold lesB at hR2
  rw [← Hln.out] at hR2
  have HRD := Lib.hid (fun k x last (h : s.ls[k]? = some x) => lesR_drop s.ts s.next last h)
  obtain ⟨LR, hLR⟩ : ∃ LR : Int → Nat → Bool, LR = fun last k => lesR s.ts s.next last (s.ls.drop k) := ⟨_, rfl⟩
  have hr0 : lesR s.ts s.next 0 s.ls = LR 0 0 := by rw [hLR]; simp only [List.drop_zero]
  rw [hr0] at hR2
  have HR2 := Lib.hid hR2
  have HRD2 : Hid (∀ k x last, s.ls[k]? = some x → LR last k = (decide (last < x.id) && decide (x.id < s.next) && leMay s.ts x && LR x.id (k + 1))) := Lib.hid (fun k x last h => by rw [hLR]; exact HRD.out k x last h)
  have HEND : Hid (∀ last, LR last ln = true) := Lib.hid (fun last => by rw [hLR, Hln.out]; simp only [List.drop_length]; rfl)
  clear hR hR2 hLR hr0 HRD
  have HB : Hid (Below w.heap.size w w) := Lib.hid (Below.refl _ _)
  go_enter Try.func31, Try.ntmps31
  go_upto_region 1 with fail
  obtain ⟨N, hN⟩ : ∃ n0, n0 = w.heap.size := ⟨_, rfl⟩
  have HLON : Hid (w.heap.size ≤ N) := Lib.hid (by have := HB.out.size; omega)
  obtain ⟨W1, hA0⟩ : ∃ W0, W0 = w.alloc (.cells #[.int .i64 s.term, .int .i64 s.stamp, .int .i64 s.next, .slice ta tn tc, .slice la ln lc, .slice sa sn sc, .slice da dn dc] 27) := ⟨_, rfl⟩
  have hB : Below w.heap.size w W1 := by rw [hA0]; exact (Below.refl _ _).alloc (Nat.le_refl _) _
  have hS0 : W1.heap.size = N + 1 := by rw [hA0]; simp [← hN]
  have HR := Lib.hid (show Blk W1 N #[.int .i64 s.term, .int .i64 s.stamp, .int .i64 s.next, .slice ta tn tc, .slice la ln lc, .slice sa sn sc, .slice da dn dc] 27 by rw [hA0, hN]; exact blk_new _ _ _)
  replace HB := Lib.hid (HB.out.trans (hB.mono HB.out.size))
  replace HT := Lib.hid (HT0.out.below HB.out)
  replace HL := Lib.hid (HL0.out.below HB.out)
  replace HS := Lib.hid (HS0.out.below HB.out)
  replace HD := Lib.hid (HD0.out.below HB.out)
  clear hB
  have HSN := Lib.hid hS0
  rw [← hN, ← hA0]
  clear hA0 hN hS0
  have qR0 : W1.cell? ⟨N, 0, none⟩ = some (.int .i64 s.term) := cell_at HR.out 0
  have qR1 : W1.cell? ⟨N, 1, none⟩ = some (.int .i64 s.stamp) := cell_at HR.out 1
  have qR2 : W1.cell? ⟨N, 2, none⟩ = some (.int .i64 s.next) := cell_at HR.out 2
  have qR3 : W1.cell? ⟨N, 3, none⟩ = some (.slice ta tn tc) := cell_at HR.out 3
  have qR4 : W1.cell? ⟨N, 4, none⟩ = some (.slice la ln lc) := cell_at HR.out 4
  have qR5 : W1.cell? ⟨N, 5, none⟩ = some (.slice sa sn sc) := cell_at HR.out 5
  have qR6 : W1.cell? ⟨N, 6, none⟩ = some (.slice da dn dc) := cell_at HR.out 6
  have qRz : ∀ j, W1.frozen? ⟨N, j, none⟩ = false := fun j => free_at HR.out j
  have qRl : N < W1.heap.size := HR.out.lt
  go_wp2_with fail
  clear qR0 qR1 qR2 qR3 qR4 qR5 qR6 qRz qRl
  go_loopw [3, 4, 5, 6] (fun k x4 x5 x6 wr => ∃ i : Nat, i ≤ ln ∧ k = .int .i64 i ∧ LR 0 0 = LR (lastId s.ls i) i ∧ (0 < i → 1 ≤ lastId s.ls i) ∧ Below W1.heap.size W1 wr) (fun k _ _ _ _ => ln - (intOf k).toNat)
  case atStart => exact ⟨0, Nat.zero_le _, rfl, rfl, fun h => absurd h (by omega), Below.refl _ _⟩
  case round =>
    obtain ⟨i, hi, rfl, hlr, hls, hB⟩ := hrel
    have HBC := Lib.hid hB
    have HLR := Lib.hid hlr
    have HLS := Lib.hid hls
    clear hlr hls
    replace HB := Lib.hid (HB.out.trans (hB.mono HB.out.size))
    replace HT := Lib.hid (HT0.out.below HB.out)
    replace HL := Lib.hid (HL0.out.below HB.out)
    replace HS := Lib.hid (HS0.out.below HB.out)
    replace HD := Lib.hid (HD0.out.below HB.out)
    replace HR := Lib.hid (HR.out.step hB)
    clear hB
    by_cases hk : i < ln
    · skip
      have b9 : (i < ln) = True := eq_true hk
      obtain ⟨g, o, x, ea, g1, g2, q0, q1, q2, q3, q4, q5, q6⟩ := HL.out.at i hk
      subst ea
      have HG2 := Lib.hid g2
      have hst := HRD2.out i x (lastId s.ls i) g2
      have HSTEP : Hid (LR 0 0 = (decide (lastId s.ls i < x.id) && decide (x.id < s.next) && leMay s.ts x && LR x.id (i + 1))) := Lib.hid (HLR.out.trans hst)
      clear hst g2
      have qR0 : wr.cell? ⟨N, 0, none⟩ = some (.int .i64 s.term) := cell_at HR.out 0
      have qR1 : wr.cell? ⟨N, 1, none⟩ = some (.int .i64 s.stamp) := cell_at HR.out 1
      have qR2 : wr.cell? ⟨N, 2, none⟩ = some (.int .i64 s.next) := cell_at HR.out 2
      have qR3 : wr.cell? ⟨N, 3, none⟩ = some (.slice ta tn tc) := cell_at HR.out 3
      have qR4 : wr.cell? ⟨N, 4, none⟩ = some (.slice (some ⟨g, o, none⟩) ln lc) := cell_at HR.out 4
      have qR5 : wr.cell? ⟨N, 5, none⟩ = some (.slice sa sn sc) := cell_at HR.out 5
      have qR6 : wr.cell? ⟨N, 6, none⟩ = some (.slice da dn dc) := cell_at HR.out 6
      have qRz : ∀ j, wr.frozen? ⟨N, j, none⟩ = false := fun j => free_at HR.out j
      have qRl : N < wr.heap.size := HR.out.lt
      go_upto_region 5 with fail
      clear qR0 qR1 qR2 qR3 qR4 qR5 qR6 qRz qRl
      obtain ⟨E9, hE9⟩ : ∃ n0, n0 = wr.heap.size := ⟨_, rfl⟩
      have HXE9HR : Hid (N < E9) := Lib.hid (by rw [hE9]; exact HR.out.lt)
      have HLOE9 : Hid (w.heap.size ≤ E9) := Lib.hid (by have := HB.out.size; omega)
      obtain ⟨W2, hA0⟩ : ∃ W0, W0 = wr.alloc (.cells #[.int .i64 x.id, .int .i64 x.tenant, .int .i64 x.shaper, .int .i64 x.epoch, .int .i64 x.number, .int .i64 x.size, .int .i64 x.spent] 31) := ⟨_, rfl⟩
      have hB : Below wr.heap.size wr W2 := by rw [hA0]; exact (Below.refl _ _).alloc (Nat.le_refl _) _
      have hS0 : W2.heap.size = E9 + 1 := by rw [hA0]; simp [← hE9]
      have HE := Lib.hid (show Blk W2 E9 #[.int .i64 x.id, .int .i64 x.tenant, .int .i64 x.shaper, .int .i64 x.epoch, .int .i64 x.number, .int .i64 x.size, .int .i64 x.spent] 31 by rw [hA0, hE9]; exact blk_new _ _ _)
      replace HB := Lib.hid (HB.out.trans (hB.mono HB.out.size))
      replace HT := Lib.hid (HT0.out.below HB.out)
      replace HL := Lib.hid (HL0.out.below HB.out)
      replace HS := Lib.hid (HS0.out.below HB.out)
      replace HD := Lib.hid (HD0.out.below HB.out)
      replace HR := Lib.hid (HR.out.step hB)
      replace HBC := Lib.hid (HBC.out.trans (hB.mono HBC.out.size))
      clear hB
      have HSE9 := Lib.hid hS0
      rw [← hE9, ← hA0]
      clear hA0 hE9 hS0
      clear q0 q1 q2 q3 q4 q5 q6
      have qR0 : W2.cell? ⟨N, 0, none⟩ = some (.int .i64 s.term) := cell_at HR.out 0
      have qR1 : W2.cell? ⟨N, 1, none⟩ = some (.int .i64 s.stamp) := cell_at HR.out 1
      have qR2 : W2.cell? ⟨N, 2, none⟩ = some (.int .i64 s.next) := cell_at HR.out 2
      have qR3 : W2.cell? ⟨N, 3, none⟩ = some (.slice ta tn tc) := cell_at HR.out 3
      have qR4 : W2.cell? ⟨N, 4, none⟩ = some (.slice (some ⟨g, o, none⟩) ln lc) := cell_at HR.out 4
      have qR5 : W2.cell? ⟨N, 5, none⟩ = some (.slice sa sn sc) := cell_at HR.out 5
      have qR6 : W2.cell? ⟨N, 6, none⟩ = some (.slice da dn dc) := cell_at HR.out 6
      have qRz : ∀ j, W2.frozen? ⟨N, j, none⟩ = false := fun j => free_at HR.out j
      have qRl : N < W2.heap.size := HR.out.lt
      have qE0 : W2.cell? ⟨E9, 0, none⟩ = some (.int .i64 x.id) := cell_at HE.out 0
      have qE1 : W2.cell? ⟨E9, 1, none⟩ = some (.int .i64 x.tenant) := cell_at HE.out 1
      have qE2 : W2.cell? ⟨E9, 2, none⟩ = some (.int .i64 x.shaper) := cell_at HE.out 2
      have qE3 : W2.cell? ⟨E9, 3, none⟩ = some (.int .i64 x.epoch) := cell_at HE.out 3
      have qE4 : W2.cell? ⟨E9, 4, none⟩ = some (.int .i64 x.number) := cell_at HE.out 4
      have qE5 : W2.cell? ⟨E9, 5, none⟩ = some (.int .i64 x.size) := cell_at HE.out 5
      have qE6 : W2.cell? ⟨E9, 6, none⟩ = some (.int .i64 x.spent) := cell_at HE.out 6
      have qEz : ∀ j, W2.frozen? ⟨E9, j, none⟩ = false := fun j => free_at HE.out j
      have qEl : E9 < W2.heap.size := HE.out.lt
      obtain ⟨sm, hsm⟩ : ∃ sm, sm = (fndC x.tenant s.ts).isSome := ⟨_, rfl⟩
      obtain ⟨y, hy⟩ : ∃ y, y = (fndC x.tenant s.ts).getD z0 := ⟨_, rfl⟩
      have HFX := Lib.hid (HFD.out W2 x.tenant HT.out)
      rw [← hsm, ← hy] at HFX
      unfold TnE.agg at HFX
      unfold leMay at HSTEP
      rw [← hsm] at HSTEP
      clear hsm hy
      go_wp2_with fail
      go_at_call 26
      go_fit HFX.out
      rintro e W3 ⟨rfl, hB⟩
      clear qR0 qR1 qR2 qR3 qR4 qR5 qR6 qRz qRl qE0 qE1 qE2 qE3 qE4 qE5 qE6 qEz qEl
      replace HB := Lib.hid (HB.out.trans (hB.mono HB.out.size))
      replace HT := Lib.hid (HT0.out.below HB.out)
      replace HL := Lib.hid (HL0.out.below HB.out)
      replace HS := Lib.hid (HS0.out.below HB.out)
      replace HD := Lib.hid (HD0.out.below HB.out)
      replace HR := Lib.hid (HR.out.step hB)
      replace HBC := Lib.hid (HBC.out.trans (hB.mono HBC.out.size))
      replace HE := Lib.hid (HE.out.step hB)
      clear hB
      go_upto_region 6 with fail
      obtain ⟨F9, hF9⟩ : ∃ n0, n0 = W3.heap.size := ⟨_, rfl⟩
      have HXF9HR : Hid (N < F9) := Lib.hid (by rw [hF9]; exact HR.out.lt)
      have HXF9HE : Hid (E9 < F9) := Lib.hid (by rw [hF9]; exact HE.out.lt)
      have HLOF9 : Hid (w.heap.size ≤ F9) := Lib.hid (by have := HB.out.size; omega)
      obtain ⟨W4, hA0⟩ : ∃ W0, W0 = W3.alloc (.cells #[.int .i64 y.id, .int .i64 y.rate, .int .i64 y.burst, .int .i64 y.bkt, .bool y.gone] 54) := ⟨_, rfl⟩
      have hB : Below W3.heap.size W3 W4 := by rw [hA0]; exact (Below.refl _ _).alloc (Nat.le_refl _) _
      have hS0 : W4.heap.size = F9 + 1 := by rw [hA0]; simp [← hF9]
      have HF9 := Lib.hid (show Blk W4 F9 #[.int .i64 y.id, .int .i64 y.rate, .int .i64 y.burst, .int .i64 y.bkt, .bool y.gone] 54 by rw [hA0, hF9]; exact blk_new _ _ _)
      replace HB := Lib.hid (HB.out.trans (hB.mono HB.out.size))
      replace HT := Lib.hid (HT0.out.below HB.out)
      replace HL := Lib.hid (HL0.out.below HB.out)
      replace HS := Lib.hid (HS0.out.below HB.out)
      replace HD := Lib.hid (HD0.out.below HB.out)
      replace HR := Lib.hid (HR.out.step hB)
      replace HBC := Lib.hid (HBC.out.trans (hB.mono HBC.out.size))
      replace HE := Lib.hid (HE.out.step hB)
      clear hB
      have HSF9 := Lib.hid hS0
      rw [← hF9, ← hA0]
      clear hA0 hF9 hS0
      have hprev : (i = 0 ∧ lastId s.ls i = 0) ∨ (∃ (j : Nat) (p : LeE), i = j + 1 ∧ lastId s.ls i = p.id ∧ 1 ≤ p.id ∧ W4.cell? ⟨g, o + j * 7, none⟩ = some (.int .i64 p.id)) := by
        rcases Nat.eq_zero_or_pos i with h0 | h0
        · left
          subst h0
          exact ⟨rfl, rfl⟩
        · right
          obtain ⟨j, rfl⟩ : ∃ j, i = j + 1 := ⟨i - 1, by omega⟩
          obtain ⟨g', o', p, ea', _, k2, k0, _⟩ := HL.out.at j (by omega)
          injection ea' with ea1
          injection ea1 with ea2 ea3 _
          subst ea2 ea3
          have hl : lastId s.ls (j + 1) = p.id := by
            show (match s.ls[j]? with | some x => x.id | none => 0) = _
            rw [k2]
          exact ⟨j, p, rfl, hl, by rw [← hl]; exact HLS.out h0, k0⟩
      obtain ⟨la0, hla0⟩ : ∃ q, q = lastId s.ls i := ⟨_, rfl⟩
      rw [← hla0] at HSTEP hprev
      clear hla0
      have g3 : g < W4.heap.size := (HL.out.at i hk).choose_spec.choose_spec.choose_spec.2.1 |> fun h => by
        have := (HL.out.at i hk)
        obtain ⟨g', o', p, ea', h1, _⟩ := this
        injection ea' with ea1
        injection ea1 with ea2 ea3 _
        omega
      rcases hprev with ⟨hi0, hl0⟩ | ⟨j, p, hij, hl0, hp1, qp⟩
      · skip
        by_cases h0 : x.id < 1
        · skip
          have t0c : decide (x.id < 1) = true := decide_eq_true h0
          have hno : LR 0 0 = false := by
            rw [HSTEP.out]
            refine Bool.eq_false_iff.2 fun h => ?_
            simp only [Bool.and_eq_true, decide_eq_true_eq] at h
            first | omega | (exact absurd h.1.2.1.1.1.1.1.1 (by decide)) | (simp at h)
          have hR : R = false := by rw [HR2.out, hno]; rfl
          subst hR
          clear hno
          have qE0 : W4.cell? ⟨E9, 0, none⟩ = some (.int .i64 x.id) := cell_at HE.out 0
          have qE1 : W4.cell? ⟨E9, 1, none⟩ = some (.int .i64 x.tenant) := cell_at HE.out 1
          have qE2 : W4.cell? ⟨E9, 2, none⟩ = some (.int .i64 x.shaper) := cell_at HE.out 2
          have qE3 : W4.cell? ⟨E9, 3, none⟩ = some (.int .i64 x.epoch) := cell_at HE.out 3
          have qE4 : W4.cell? ⟨E9, 4, none⟩ = some (.int .i64 x.number) := cell_at HE.out 4
          have qE5 : W4.cell? ⟨E9, 5, none⟩ = some (.int .i64 x.size) := cell_at HE.out 5
          have qE6 : W4.cell? ⟨E9, 6, none⟩ = some (.int .i64 x.spent) := cell_at HE.out 6
          have qEz : ∀ j, W4.frozen? ⟨E9, j, none⟩ = false := fun j => free_at HE.out j
          have qEl : E9 < W4.heap.size := HE.out.lt
          have qR0 : W4.cell? ⟨N, 0, none⟩ = some (.int .i64 s.term) := cell_at HR.out 0
          have qR1 : W4.cell? ⟨N, 1, none⟩ = some (.int .i64 s.stamp) := cell_at HR.out 1
          have qR2 : W4.cell? ⟨N, 2, none⟩ = some (.int .i64 s.next) := cell_at HR.out 2
          have qR3 : W4.cell? ⟨N, 3, none⟩ = some (.slice ta tn tc) := cell_at HR.out 3
          have qR4 : W4.cell? ⟨N, 4, none⟩ = some (.slice (some ⟨g, o, none⟩) ln lc) := cell_at HR.out 4
          have qR5 : W4.cell? ⟨N, 5, none⟩ = some (.slice sa sn sc) := cell_at HR.out 5
          have qR6 : W4.cell? ⟨N, 6, none⟩ = some (.slice da dn dc) := cell_at HR.out 6
          have qRz : ∀ j, W4.frozen? ⟨N, j, none⟩ = false := fun j => free_at HR.out j
          have qRl : N < W4.heap.size := HR.out.lt
          go_wp2_with fail
          try simp only [List.append]
          (refine wp_region_quiet_lit (by kernel_rfl) (by kernel_rfl) ?_; (repeat (first | go_big_quiet_step (fail) | (refine BigFrame.wpQuiet_skip (by rfl) ?_; try simp only [Act.put, List.setIfInBounds_toArray, List.set_cons_zero, List.set_cons_succ]))); refine wpQuiet_nil ?_; intro _ hw9; obtain ⟨nq, hw8⟩ := hw9; subst hw8)
          clear qE0 qE1 qE2 qE3 qE4 qE5 qE6 qEz qEl qR0 qR1 qR2 qR3 qR4 qR5 qR6 qRz qRl
          obtain ⟨W5, hWn⟩ : ∃ X, X = W4.drewN nq := ⟨_, rfl⟩
          rw [← hWn]
          have hB : Below W4.heap.size W4 W5 := by rw [hWn]; exact dN _ _
          clear hWn
          replace HB := Lib.hid (HB.out.trans (hB.mono HB.out.size))
          replace HT := Lib.hid (HT0.out.below HB.out)
          replace HL := Lib.hid (HL0.out.below HB.out)
          replace HS := Lib.hid (HS0.out.below HB.out)
          replace HD := Lib.hid (HD0.out.below HB.out)
          replace HR := Lib.hid (HR.out.step hB)
          replace HBC := Lib.hid (HBC.out.trans (hB.mono HBC.out.size))
          replace HE := Lib.hid (HE.out.step hB)
          replace HF9 := Lib.hid (HF9.out.step hB)
          clear hB
          go_wp2_with fail
          go_ret
          exact ⟨rfl, HB.out⟩
        · skip
          have t0c : decide (x.id < 1) = false := decide_eq_false h0
          by_cases h1 : s.next ≤ x.id
          · skip
            have t1c : decide (s.next ≤ x.id) = true := decide_eq_true h1
            have hno : LR 0 0 = false := by
              rw [HSTEP.out]
              refine Bool.eq_false_iff.2 fun h => ?_
              simp only [Bool.and_eq_true, decide_eq_true_eq] at h
              first | omega | (exact absurd h.1.2.1.1.1.1.1.1 (by decide)) | (simp at h)
            have hR : R = false := by rw [HR2.out, hno]; rfl
            subst hR
            clear hno
            have qE0 : W4.cell? ⟨E9, 0, none⟩ = some (.int .i64 x.id) := cell_at HE.out 0
            have qE1 : W4.cell? ⟨E9, 1, none⟩ = some (.int .i64 x.tenant) := cell_at HE.out 1
            have qE2 : W4.cell? ⟨E9, 2, none⟩ = some (.int .i64 x.shaper) := cell_at HE.out 2
            have qE3 : W4.cell? ⟨E9, 3, none⟩ = some (.int .i64 x.epoch) := cell_at HE.out 3
            have qE4 : W4.cell? ⟨E9, 4, none⟩ = some (.int .i64 x.number) := cell_at HE.out 4
            have qE5 : W4.cell? ⟨E9, 5, none⟩ = some (.int .i64 x.size) := cell_at HE.out 5
            have qE6 : W4.cell? ⟨E9, 6, none⟩ = some (.int .i64 x.spent) := cell_at HE.out 6
            have qEz : ∀ j, W4.frozen? ⟨E9, j, none⟩ = false := fun j => free_at HE.out j
            have qEl : E9 < W4.heap.size := HE.out.lt
            have qR0 : W4.cell? ⟨N, 0, none⟩ = some (.int .i64 s.term) := cell_at HR.out 0
            have qR1 : W4.cell? ⟨N, 1, none⟩ = some (.int .i64 s.stamp) := cell_at HR.out 1
            have qR2 : W4.cell? ⟨N, 2, none⟩ = some (.int .i64 s.next) := cell_at HR.out 2
            have qR3 : W4.cell? ⟨N, 3, none⟩ = some (.slice ta tn tc) := cell_at HR.out 3
            have qR4 : W4.cell? ⟨N, 4, none⟩ = some (.slice (some ⟨g, o, none⟩) ln lc) := cell_at HR.out 4
            have qR5 : W4.cell? ⟨N, 5, none⟩ = some (.slice sa sn sc) := cell_at HR.out 5
            have qR6 : W4.cell? ⟨N, 6, none⟩ = some (.slice da dn dc) := cell_at HR.out 6
            have qRz : ∀ j, W4.frozen? ⟨N, j, none⟩ = false := fun j => free_at HR.out j
            have qRl : N < W4.heap.size := HR.out.lt
            go_wp2_with fail
            try simp only [List.append]
            (refine wp_region_quiet_lit (by kernel_rfl) (by kernel_rfl) ?_; (repeat (first | go_big_quiet_step (fail) | (refine BigFrame.wpQuiet_skip (by rfl) ?_; try simp only [Act.put, List.setIfInBounds_toArray, List.set_cons_zero, List.set_cons_succ]))); refine wpQuiet_nil ?_; intro _ hw9; obtain ⟨nq, hw8⟩ := hw9; subst hw8)
            clear qE0 qE1 qE2 qE3 qE4 qE5 qE6 qEz qEl qR0 qR1 qR2 qR3 qR4 qR5 qR6 qRz qRl
            obtain ⟨W5, hWn⟩ : ∃ X, X = W4.drewN nq := ⟨_, rfl⟩
            rw [← hWn]
            have hB : Below W4.heap.size W4 W5 := by rw [hWn]; exact dN _ _
            clear hWn
            replace HB := Lib.hid (HB.out.trans (hB.mono HB.out.size))
            replace HT := Lib.hid (HT0.out.below HB.out)
            replace HL := Lib.hid (HL0.out.below HB.out)
            replace HS := Lib.hid (HS0.out.below HB.out)
            replace HD := Lib.hid (HD0.out.below HB.out)
            replace HR := Lib.hid (HR.out.step hB)
            replace HBC := Lib.hid (HBC.out.trans (hB.mono HBC.out.size))
            replace HE := Lib.hid (HE.out.step hB)
            replace HF9 := Lib.hid (HF9.out.step hB)
            clear hB
            go_wp2_with fail
            go_ret
            exact ⟨rfl, HB.out⟩
          · skip
            have t1c : decide (s.next ≤ x.id) = false := decide_eq_false h1
            have t2 : decide (0 < (i : Int)) = false := decide_eq_false (by omega)
            have t2b : decide (0 < i) = false := decide_eq_false (by omega)
            cases sm
            · skip
              have hno : LR 0 0 = false := by
                rw [HSTEP.out]
                refine Bool.eq_false_iff.2 fun h => ?_
                simp only [Bool.and_eq_true, decide_eq_true_eq] at h
                first | omega | (exact absurd h.1.2.1.1.1.1.1.1 (by decide)) | (simp at h)
              have hR : R = false := by rw [HR2.out, hno]; rfl
              subst hR
              clear hno
              have qE0 : W4.cell? ⟨E9, 0, none⟩ = some (.int .i64 x.id) := cell_at HE.out 0
              have qE1 : W4.cell? ⟨E9, 1, none⟩ = some (.int .i64 x.tenant) := cell_at HE.out 1
              have qE2 : W4.cell? ⟨E9, 2, none⟩ = some (.int .i64 x.shaper) := cell_at HE.out 2
              have qE3 : W4.cell? ⟨E9, 3, none⟩ = some (.int .i64 x.epoch) := cell_at HE.out 3
              have qE4 : W4.cell? ⟨E9, 4, none⟩ = some (.int .i64 x.number) := cell_at HE.out 4
              have qE5 : W4.cell? ⟨E9, 5, none⟩ = some (.int .i64 x.size) := cell_at HE.out 5
              have qE6 : W4.cell? ⟨E9, 6, none⟩ = some (.int .i64 x.spent) := cell_at HE.out 6
              have qEz : ∀ j, W4.frozen? ⟨E9, j, none⟩ = false := fun j => free_at HE.out j
              have qEl : E9 < W4.heap.size := HE.out.lt
              have qR0 : W4.cell? ⟨N, 0, none⟩ = some (.int .i64 s.term) := cell_at HR.out 0
              have qR1 : W4.cell? ⟨N, 1, none⟩ = some (.int .i64 s.stamp) := cell_at HR.out 1
              have qR2 : W4.cell? ⟨N, 2, none⟩ = some (.int .i64 s.next) := cell_at HR.out 2
              have qR3 : W4.cell? ⟨N, 3, none⟩ = some (.slice ta tn tc) := cell_at HR.out 3
              have qR4 : W4.cell? ⟨N, 4, none⟩ = some (.slice (some ⟨g, o, none⟩) ln lc) := cell_at HR.out 4
              have qR5 : W4.cell? ⟨N, 5, none⟩ = some (.slice sa sn sc) := cell_at HR.out 5
              have qR6 : W4.cell? ⟨N, 6, none⟩ = some (.slice da dn dc) := cell_at HR.out 6
              have qRz : ∀ j, W4.frozen? ⟨N, j, none⟩ = false := fun j => free_at HR.out j
              have qRl : N < W4.heap.size := HR.out.lt
              go_wp2_with fail
              try simp only [List.append]
              (refine wp_region_quiet_lit (by kernel_rfl) (by kernel_rfl) ?_; (repeat (first | go_big_quiet_step (fail) | (refine BigFrame.wpQuiet_skip (by rfl) ?_; try simp only [Act.put, List.setIfInBounds_toArray, List.set_cons_zero, List.set_cons_succ]))); refine wpQuiet_nil ?_; intro _ hw9; obtain ⟨nq, hw8⟩ := hw9; subst hw8)
              clear qE0 qE1 qE2 qE3 qE4 qE5 qE6 qEz qEl qR0 qR1 qR2 qR3 qR4 qR5 qR6 qRz qRl
              obtain ⟨W5, hWn⟩ : ∃ X, X = W4.drewN nq := ⟨_, rfl⟩
              rw [← hWn]
              have hB : Below W4.heap.size W4 W5 := by rw [hWn]; exact dN _ _
              clear hWn
              replace HB := Lib.hid (HB.out.trans (hB.mono HB.out.size))
              replace HT := Lib.hid (HT0.out.below HB.out)
              replace HL := Lib.hid (HL0.out.below HB.out)
              replace HS := Lib.hid (HS0.out.below HB.out)
              replace HD := Lib.hid (HD0.out.below HB.out)
              replace HR := Lib.hid (HR.out.step hB)
              replace HBC := Lib.hid (HBC.out.trans (hB.mono HBC.out.size))
              replace HE := Lib.hid (HE.out.step hB)
              replace HF9 := Lib.hid (HF9.out.step hB)
              clear hB
              go_wp2_with fail
              go_ret
              exact ⟨rfl, HB.out⟩
            · skip
              by_cases h4 : x.shaper < 1
              · skip
                have t4c : decide (x.shaper < 1) = true := decide_eq_true h4
                have hno : LR 0 0 = false := by
                  rw [HSTEP.out]
                  refine Bool.eq_false_iff.2 fun h => ?_
                  simp only [Bool.and_eq_true, decide_eq_true_eq] at h
                  first | omega | (exact absurd h.1.2.1.1.1.1.1.1 (by decide)) | (simp at h)
                have hR : R = false := by rw [HR2.out, hno]; rfl
                subst hR
                clear hno
                have qE0 : W4.cell? ⟨E9, 0, none⟩ = some (.int .i64 x.id) := cell_at HE.out 0
                have qE1 : W4.cell? ⟨E9, 1, none⟩ = some (.int .i64 x.tenant) := cell_at HE.out 1
                have qE2 : W4.cell? ⟨E9, 2, none⟩ = some (.int .i64 x.shaper) := cell_at HE.out 2
                have qE3 : W4.cell? ⟨E9, 3, none⟩ = some (.int .i64 x.epoch) := cell_at HE.out 3
                have qE4 : W4.cell? ⟨E9, 4, none⟩ = some (.int .i64 x.number) := cell_at HE.out 4
                have qE5 : W4.cell? ⟨E9, 5, none⟩ = some (.int .i64 x.size) := cell_at HE.out 5
                have qE6 : W4.cell? ⟨E9, 6, none⟩ = some (.int .i64 x.spent) := cell_at HE.out 6
                have qEz : ∀ j, W4.frozen? ⟨E9, j, none⟩ = false := fun j => free_at HE.out j
                have qEl : E9 < W4.heap.size := HE.out.lt
                have qR0 : W4.cell? ⟨N, 0, none⟩ = some (.int .i64 s.term) := cell_at HR.out 0
                have qR1 : W4.cell? ⟨N, 1, none⟩ = some (.int .i64 s.stamp) := cell_at HR.out 1
                have qR2 : W4.cell? ⟨N, 2, none⟩ = some (.int .i64 s.next) := cell_at HR.out 2
                have qR3 : W4.cell? ⟨N, 3, none⟩ = some (.slice ta tn tc) := cell_at HR.out 3
                have qR4 : W4.cell? ⟨N, 4, none⟩ = some (.slice (some ⟨g, o, none⟩) ln lc) := cell_at HR.out 4
                have qR5 : W4.cell? ⟨N, 5, none⟩ = some (.slice sa sn sc) := cell_at HR.out 5
                have qR6 : W4.cell? ⟨N, 6, none⟩ = some (.slice da dn dc) := cell_at HR.out 6
                have qRz : ∀ j, W4.frozen? ⟨N, j, none⟩ = false := fun j => free_at HR.out j
                have qRl : N < W4.heap.size := HR.out.lt
                go_wp2_with fail
                try simp only [List.append]
                (refine wp_region_quiet_lit (by kernel_rfl) (by kernel_rfl) ?_; (repeat (first | go_big_quiet_step (fail) | (refine BigFrame.wpQuiet_skip (by rfl) ?_; try simp only [Act.put, List.setIfInBounds_toArray, List.set_cons_zero, List.set_cons_succ]))); refine wpQuiet_nil ?_; intro _ hw9; obtain ⟨nq, hw8⟩ := hw9; subst hw8)
                clear qE0 qE1 qE2 qE3 qE4 qE5 qE6 qEz qEl qR0 qR1 qR2 qR3 qR4 qR5 qR6 qRz qRl
                obtain ⟨W5, hWn⟩ : ∃ X, X = W4.drewN nq := ⟨_, rfl⟩
                rw [← hWn]
                have hB : Below W4.heap.size W4 W5 := by rw [hWn]; exact dN _ _
                clear hWn
                replace HB := Lib.hid (HB.out.trans (hB.mono HB.out.size))
                replace HT := Lib.hid (HT0.out.below HB.out)
                replace HL := Lib.hid (HL0.out.below HB.out)
                replace HS := Lib.hid (HS0.out.below HB.out)
                replace HD := Lib.hid (HD0.out.below HB.out)
                replace HR := Lib.hid (HR.out.step hB)
                replace HBC := Lib.hid (HBC.out.trans (hB.mono HBC.out.size))
                replace HE := Lib.hid (HE.out.step hB)
                replace HF9 := Lib.hid (HF9.out.step hB)
                clear hB
                go_wp2_with fail
                go_ret
                exact ⟨rfl, HB.out⟩
              · skip
                have t4c : decide (x.shaper < 1) = false := decide_eq_false h4
                by_cases h5 : 8 < x.shaper
                · skip
                  have t5c : decide (8 < x.shaper) = true := decide_eq_true h5
                  have hno : LR 0 0 = false := by
                    rw [HSTEP.out]
                    refine Bool.eq_false_iff.2 fun h => ?_
                    simp only [Bool.and_eq_true, decide_eq_true_eq] at h
                    first | omega | (exact absurd h.1.2.1.1.1.1.1.1 (by decide)) | (simp at h)
                  have hR : R = false := by rw [HR2.out, hno]; rfl
                  subst hR
                  clear hno
                  have qE0 : W4.cell? ⟨E9, 0, none⟩ = some (.int .i64 x.id) := cell_at HE.out 0
                  have qE1 : W4.cell? ⟨E9, 1, none⟩ = some (.int .i64 x.tenant) := cell_at HE.out 1
                  have qE2 : W4.cell? ⟨E9, 2, none⟩ = some (.int .i64 x.shaper) := cell_at HE.out 2
                  have qE3 : W4.cell? ⟨E9, 3, none⟩ = some (.int .i64 x.epoch) := cell_at HE.out 3
                  have qE4 : W4.cell? ⟨E9, 4, none⟩ = some (.int .i64 x.number) := cell_at HE.out 4
                  have qE5 : W4.cell? ⟨E9, 5, none⟩ = some (.int .i64 x.size) := cell_at HE.out 5
                  have qE6 : W4.cell? ⟨E9, 6, none⟩ = some (.int .i64 x.spent) := cell_at HE.out 6
                  have qEz : ∀ j, W4.frozen? ⟨E9, j, none⟩ = false := fun j => free_at HE.out j
                  have qEl : E9 < W4.heap.size := HE.out.lt
                  have qR0 : W4.cell? ⟨N, 0, none⟩ = some (.int .i64 s.term) := cell_at HR.out 0
                  have qR1 : W4.cell? ⟨N, 1, none⟩ = some (.int .i64 s.stamp) := cell_at HR.out 1
                  have qR2 : W4.cell? ⟨N, 2, none⟩ = some (.int .i64 s.next) := cell_at HR.out 2
                  have qR3 : W4.cell? ⟨N, 3, none⟩ = some (.slice ta tn tc) := cell_at HR.out 3
                  have qR4 : W4.cell? ⟨N, 4, none⟩ = some (.slice (some ⟨g, o, none⟩) ln lc) := cell_at HR.out 4
                  have qR5 : W4.cell? ⟨N, 5, none⟩ = some (.slice sa sn sc) := cell_at HR.out 5
                  have qR6 : W4.cell? ⟨N, 6, none⟩ = some (.slice da dn dc) := cell_at HR.out 6
                  have qRz : ∀ j, W4.frozen? ⟨N, j, none⟩ = false := fun j => free_at HR.out j
                  have qRl : N < W4.heap.size := HR.out.lt
                  go_wp2_with fail
                  try simp only [List.append]
                  (refine wp_region_quiet_lit (by kernel_rfl) (by kernel_rfl) ?_; (repeat (first | go_big_quiet_step (fail) | (refine BigFrame.wpQuiet_skip (by rfl) ?_; try simp only [Act.put, List.setIfInBounds_toArray, List.set_cons_zero, List.set_cons_succ]))); refine wpQuiet_nil ?_; intro _ hw9; obtain ⟨nq, hw8⟩ := hw9; subst hw8)
                  clear qE0 qE1 qE2 qE3 qE4 qE5 qE6 qEz qEl qR0 qR1 qR2 qR3 qR4 qR5 qR6 qRz qRl
                  obtain ⟨W5, hWn⟩ : ∃ X, X = W4.drewN nq := ⟨_, rfl⟩
                  rw [← hWn]
                  have hB : Below W4.heap.size W4 W5 := by rw [hWn]; exact dN _ _
                  clear hWn
                  replace HB := Lib.hid (HB.out.trans (hB.mono HB.out.size))
                  replace HT := Lib.hid (HT0.out.below HB.out)
                  replace HL := Lib.hid (HL0.out.below HB.out)
                  replace HS := Lib.hid (HS0.out.below HB.out)
                  replace HD := Lib.hid (HD0.out.below HB.out)
                  replace HR := Lib.hid (HR.out.step hB)
                  replace HBC := Lib.hid (HBC.out.trans (hB.mono HBC.out.size))
                  replace HE := Lib.hid (HE.out.step hB)
                  replace HF9 := Lib.hid (HF9.out.step hB)
                  clear hB
                  go_wp2_with fail
                  go_ret
                  exact ⟨rfl, HB.out⟩
                · skip
                  have t5c : decide (8 < x.shaper) = false := decide_eq_false h5
                  by_cases h6 : x.epoch < 1
                  · skip
                    have t6c : decide (x.epoch < 1) = true := decide_eq_true h6
                    have hno : LR 0 0 = false := by
                      rw [HSTEP.out]
                      refine Bool.eq_false_iff.2 fun h => ?_
                      simp only [Bool.and_eq_true, decide_eq_true_eq] at h
                      first | omega | (exact absurd h.1.2.1.1.1.1.1.1 (by decide)) | (simp at h)
                    have hR : R = false := by rw [HR2.out, hno]; rfl
                    subst hR
                    clear hno
                    have qE0 : W4.cell? ⟨E9, 0, none⟩ = some (.int .i64 x.id) := cell_at HE.out 0
                    have qE1 : W4.cell? ⟨E9, 1, none⟩ = some (.int .i64 x.tenant) := cell_at HE.out 1
                    have qE2 : W4.cell? ⟨E9, 2, none⟩ = some (.int .i64 x.shaper) := cell_at HE.out 2
                    have qE3 : W4.cell? ⟨E9, 3, none⟩ = some (.int .i64 x.epoch) := cell_at HE.out 3
                    have qE4 : W4.cell? ⟨E9, 4, none⟩ = some (.int .i64 x.number) := cell_at HE.out 4
                    have qE5 : W4.cell? ⟨E9, 5, none⟩ = some (.int .i64 x.size) := cell_at HE.out 5
                    have qE6 : W4.cell? ⟨E9, 6, none⟩ = some (.int .i64 x.spent) := cell_at HE.out 6
                    have qEz : ∀ j, W4.frozen? ⟨E9, j, none⟩ = false := fun j => free_at HE.out j
                    have qEl : E9 < W4.heap.size := HE.out.lt
                    have qR0 : W4.cell? ⟨N, 0, none⟩ = some (.int .i64 s.term) := cell_at HR.out 0
                    have qR1 : W4.cell? ⟨N, 1, none⟩ = some (.int .i64 s.stamp) := cell_at HR.out 1
                    have qR2 : W4.cell? ⟨N, 2, none⟩ = some (.int .i64 s.next) := cell_at HR.out 2
                    have qR3 : W4.cell? ⟨N, 3, none⟩ = some (.slice ta tn tc) := cell_at HR.out 3
                    have qR4 : W4.cell? ⟨N, 4, none⟩ = some (.slice (some ⟨g, o, none⟩) ln lc) := cell_at HR.out 4
                    have qR5 : W4.cell? ⟨N, 5, none⟩ = some (.slice sa sn sc) := cell_at HR.out 5
                    have qR6 : W4.cell? ⟨N, 6, none⟩ = some (.slice da dn dc) := cell_at HR.out 6
                    have qRz : ∀ j, W4.frozen? ⟨N, j, none⟩ = false := fun j => free_at HR.out j
                    have qRl : N < W4.heap.size := HR.out.lt
                    go_wp2_with fail
                    try simp only [List.append]
                    (refine wp_region_quiet_lit (by kernel_rfl) (by kernel_rfl) ?_; (repeat (first | go_big_quiet_step (fail) | (refine BigFrame.wpQuiet_skip (by rfl) ?_; try simp only [Act.put, List.setIfInBounds_toArray, List.set_cons_zero, List.set_cons_succ]))); refine wpQuiet_nil ?_; intro _ hw9; obtain ⟨nq, hw8⟩ := hw9; subst hw8)
                    clear qE0 qE1 qE2 qE3 qE4 qE5 qE6 qEz qEl qR0 qR1 qR2 qR3 qR4 qR5 qR6 qRz qRl
                    obtain ⟨W5, hWn⟩ : ∃ X, X = W4.drewN nq := ⟨_, rfl⟩
                    rw [← hWn]
                    have hB : Below W4.heap.size W4 W5 := by rw [hWn]; exact dN _ _
                    clear hWn
                    replace HB := Lib.hid (HB.out.trans (hB.mono HB.out.size))
                    replace HT := Lib.hid (HT0.out.below HB.out)
                    replace HL := Lib.hid (HL0.out.below HB.out)
                    replace HS := Lib.hid (HS0.out.below HB.out)
                    replace HD := Lib.hid (HD0.out.below HB.out)
                    replace HR := Lib.hid (HR.out.step hB)
                    replace HBC := Lib.hid (HBC.out.trans (hB.mono HBC.out.size))
                    replace HE := Lib.hid (HE.out.step hB)
                    replace HF9 := Lib.hid (HF9.out.step hB)
                    clear hB
                    go_wp2_with fail
                    go_ret
                    exact ⟨rfl, HB.out⟩
                  · skip
                    have t6c : decide (x.epoch < 1) = false := decide_eq_false h6
                    by_cases h7 : x.number < 1
                    · skip
                      have t7c : decide (x.number < 1) = true := decide_eq_true h7
                      have hno : LR 0 0 = false := by
                        rw [HSTEP.out]
                        refine Bool.eq_false_iff.2 fun h => ?_
                        simp only [Bool.and_eq_true, decide_eq_true_eq] at h
                        first | omega | (exact absurd h.1.2.1.1.1.1.1.1 (by decide)) | (simp at h)
                      have hR : R = false := by rw [HR2.out, hno]; rfl
                      subst hR
                      clear hno
                      have qE0 : W4.cell? ⟨E9, 0, none⟩ = some (.int .i64 x.id) := cell_at HE.out 0
                      have qE1 : W4.cell? ⟨E9, 1, none⟩ = some (.int .i64 x.tenant) := cell_at HE.out 1
                      have qE2 : W4.cell? ⟨E9, 2, none⟩ = some (.int .i64 x.shaper) := cell_at HE.out 2
                      have qE3 : W4.cell? ⟨E9, 3, none⟩ = some (.int .i64 x.epoch) := cell_at HE.out 3
                      have qE4 : W4.cell? ⟨E9, 4, none⟩ = some (.int .i64 x.number) := cell_at HE.out 4
                      have qE5 : W4.cell? ⟨E9, 5, none⟩ = some (.int .i64 x.size) := cell_at HE.out 5
                      have qE6 : W4.cell? ⟨E9, 6, none⟩ = some (.int .i64 x.spent) := cell_at HE.out 6
                      have qEz : ∀ j, W4.frozen? ⟨E9, j, none⟩ = false := fun j => free_at HE.out j
                      have qEl : E9 < W4.heap.size := HE.out.lt
                      have qR0 : W4.cell? ⟨N, 0, none⟩ = some (.int .i64 s.term) := cell_at HR.out 0
                      have qR1 : W4.cell? ⟨N, 1, none⟩ = some (.int .i64 s.stamp) := cell_at HR.out 1
                      have qR2 : W4.cell? ⟨N, 2, none⟩ = some (.int .i64 s.next) := cell_at HR.out 2
                      have qR3 : W4.cell? ⟨N, 3, none⟩ = some (.slice ta tn tc) := cell_at HR.out 3
                      have qR4 : W4.cell? ⟨N, 4, none⟩ = some (.slice (some ⟨g, o, none⟩) ln lc) := cell_at HR.out 4
                      have qR5 : W4.cell? ⟨N, 5, none⟩ = some (.slice sa sn sc) := cell_at HR.out 5
                      have qR6 : W4.cell? ⟨N, 6, none⟩ = some (.slice da dn dc) := cell_at HR.out 6
                      have qRz : ∀ j, W4.frozen? ⟨N, j, none⟩ = false := fun j => free_at HR.out j
                      have qRl : N < W4.heap.size := HR.out.lt
                      go_wp2_with fail
                      try simp only [List.append]
                      (refine wp_region_quiet_lit (by kernel_rfl) (by kernel_rfl) ?_; (repeat (first | go_big_quiet_step (fail) | (refine BigFrame.wpQuiet_skip (by rfl) ?_; try simp only [Act.put, List.setIfInBounds_toArray, List.set_cons_zero, List.set_cons_succ]))); refine wpQuiet_nil ?_; intro _ hw9; obtain ⟨nq, hw8⟩ := hw9; subst hw8)
                      clear qE0 qE1 qE2 qE3 qE4 qE5 qE6 qEz qEl qR0 qR1 qR2 qR3 qR4 qR5 qR6 qRz qRl
                      obtain ⟨W5, hWn⟩ : ∃ X, X = W4.drewN nq := ⟨_, rfl⟩
                      rw [← hWn]
                      have hB : Below W4.heap.size W4 W5 := by rw [hWn]; exact dN _ _
                      clear hWn
                      replace HB := Lib.hid (HB.out.trans (hB.mono HB.out.size))
                      replace HT := Lib.hid (HT0.out.below HB.out)
                      replace HL := Lib.hid (HL0.out.below HB.out)
                      replace HS := Lib.hid (HS0.out.below HB.out)
                      replace HD := Lib.hid (HD0.out.below HB.out)
                      replace HR := Lib.hid (HR.out.step hB)
                      replace HBC := Lib.hid (HBC.out.trans (hB.mono HBC.out.size))
                      replace HE := Lib.hid (HE.out.step hB)
                      replace HF9 := Lib.hid (HF9.out.step hB)
                      clear hB
                      go_wp2_with fail
                      go_ret
                      exact ⟨rfl, HB.out⟩
                    · skip
                      have t7c : decide (x.number < 1) = false := decide_eq_false h7
                      by_cases h8 : x.size < 1
                      · skip
                        have t8c : decide (x.size < 1) = true := decide_eq_true h8
                        have hno : LR 0 0 = false := by
                          rw [HSTEP.out]
                          refine Bool.eq_false_iff.2 fun h => ?_
                          simp only [Bool.and_eq_true, decide_eq_true_eq] at h
                          first | omega | (exact absurd h.1.2.1.1.1.1.1.1 (by decide)) | (simp at h)
                        have hR : R = false := by rw [HR2.out, hno]; rfl
                        subst hR
                        clear hno
                        have qE0 : W4.cell? ⟨E9, 0, none⟩ = some (.int .i64 x.id) := cell_at HE.out 0
                        have qE1 : W4.cell? ⟨E9, 1, none⟩ = some (.int .i64 x.tenant) := cell_at HE.out 1
                        have qE2 : W4.cell? ⟨E9, 2, none⟩ = some (.int .i64 x.shaper) := cell_at HE.out 2
                        have qE3 : W4.cell? ⟨E9, 3, none⟩ = some (.int .i64 x.epoch) := cell_at HE.out 3
                        have qE4 : W4.cell? ⟨E9, 4, none⟩ = some (.int .i64 x.number) := cell_at HE.out 4
                        have qE5 : W4.cell? ⟨E9, 5, none⟩ = some (.int .i64 x.size) := cell_at HE.out 5
                        have qE6 : W4.cell? ⟨E9, 6, none⟩ = some (.int .i64 x.spent) := cell_at HE.out 6
                        have qEz : ∀ j, W4.frozen? ⟨E9, j, none⟩ = false := fun j => free_at HE.out j
                        have qEl : E9 < W4.heap.size := HE.out.lt
                        have qR0 : W4.cell? ⟨N, 0, none⟩ = some (.int .i64 s.term) := cell_at HR.out 0
                        have qR1 : W4.cell? ⟨N, 1, none⟩ = some (.int .i64 s.stamp) := cell_at HR.out 1
                        have qR2 : W4.cell? ⟨N, 2, none⟩ = some (.int .i64 s.next) := cell_at HR.out 2
                        have qR3 : W4.cell? ⟨N, 3, none⟩ = some (.slice ta tn tc) := cell_at HR.out 3
                        have qR4 : W4.cell? ⟨N, 4, none⟩ = some (.slice (some ⟨g, o, none⟩) ln lc) := cell_at HR.out 4
                        have qR5 : W4.cell? ⟨N, 5, none⟩ = some (.slice sa sn sc) := cell_at HR.out 5
                        have qR6 : W4.cell? ⟨N, 6, none⟩ = some (.slice da dn dc) := cell_at HR.out 6
                        have qRz : ∀ j, W4.frozen? ⟨N, j, none⟩ = false := fun j => free_at HR.out j
                        have qRl : N < W4.heap.size := HR.out.lt
                        go_wp2_with fail
                        try simp only [List.append]
                        (refine wp_region_quiet_lit (by kernel_rfl) (by kernel_rfl) ?_; (repeat (first | go_big_quiet_step (fail) | (refine BigFrame.wpQuiet_skip (by rfl) ?_; try simp only [Act.put, List.setIfInBounds_toArray, List.set_cons_zero, List.set_cons_succ]))); refine wpQuiet_nil ?_; intro _ hw9; obtain ⟨nq, hw8⟩ := hw9; subst hw8)
                        clear qE0 qE1 qE2 qE3 qE4 qE5 qE6 qEz qEl qR0 qR1 qR2 qR3 qR4 qR5 qR6 qRz qRl
                        obtain ⟨W5, hWn⟩ : ∃ X, X = W4.drewN nq := ⟨_, rfl⟩
                        rw [← hWn]
                        have hB : Below W4.heap.size W4 W5 := by rw [hWn]; exact dN _ _
                        clear hWn
                        replace HB := Lib.hid (HB.out.trans (hB.mono HB.out.size))
                        replace HT := Lib.hid (HT0.out.below HB.out)
                        replace HL := Lib.hid (HL0.out.below HB.out)
                        replace HS := Lib.hid (HS0.out.below HB.out)
                        replace HD := Lib.hid (HD0.out.below HB.out)
                        replace HR := Lib.hid (HR.out.step hB)
                        replace HBC := Lib.hid (HBC.out.trans (hB.mono HBC.out.size))
                        replace HE := Lib.hid (HE.out.step hB)
                        replace HF9 := Lib.hid (HF9.out.step hB)
                        clear hB
                        go_wp2_with fail
                        go_ret
                        exact ⟨rfl, HB.out⟩
                      · skip
                        have t8c : decide (x.size < 1) = false := decide_eq_false h8
                        by_cases h9 : 1000000 < x.size
                        · skip
                          have t9c : decide (1000000 < x.size) = true := decide_eq_true h9
                          have hno : LR 0 0 = false := by
                            rw [HSTEP.out]
                            refine Bool.eq_false_iff.2 fun h => ?_
                            simp only [Bool.and_eq_true, decide_eq_true_eq] at h
                            first | omega | (exact absurd h.1.2.1.1.1.1.1.1 (by decide)) | (simp at h)
                          have hR : R = false := by rw [HR2.out, hno]; rfl
                          subst hR
                          clear hno
                          have qE0 : W4.cell? ⟨E9, 0, none⟩ = some (.int .i64 x.id) := cell_at HE.out 0
                          have qE1 : W4.cell? ⟨E9, 1, none⟩ = some (.int .i64 x.tenant) := cell_at HE.out 1
                          have qE2 : W4.cell? ⟨E9, 2, none⟩ = some (.int .i64 x.shaper) := cell_at HE.out 2
                          have qE3 : W4.cell? ⟨E9, 3, none⟩ = some (.int .i64 x.epoch) := cell_at HE.out 3
                          have qE4 : W4.cell? ⟨E9, 4, none⟩ = some (.int .i64 x.number) := cell_at HE.out 4
                          have qE5 : W4.cell? ⟨E9, 5, none⟩ = some (.int .i64 x.size) := cell_at HE.out 5
                          have qE6 : W4.cell? ⟨E9, 6, none⟩ = some (.int .i64 x.spent) := cell_at HE.out 6
                          have qEz : ∀ j, W4.frozen? ⟨E9, j, none⟩ = false := fun j => free_at HE.out j
                          have qEl : E9 < W4.heap.size := HE.out.lt
                          have qR0 : W4.cell? ⟨N, 0, none⟩ = some (.int .i64 s.term) := cell_at HR.out 0
                          have qR1 : W4.cell? ⟨N, 1, none⟩ = some (.int .i64 s.stamp) := cell_at HR.out 1
                          have qR2 : W4.cell? ⟨N, 2, none⟩ = some (.int .i64 s.next) := cell_at HR.out 2
                          have qR3 : W4.cell? ⟨N, 3, none⟩ = some (.slice ta tn tc) := cell_at HR.out 3
                          have qR4 : W4.cell? ⟨N, 4, none⟩ = some (.slice (some ⟨g, o, none⟩) ln lc) := cell_at HR.out 4
                          have qR5 : W4.cell? ⟨N, 5, none⟩ = some (.slice sa sn sc) := cell_at HR.out 5
                          have qR6 : W4.cell? ⟨N, 6, none⟩ = some (.slice da dn dc) := cell_at HR.out 6
                          have qRz : ∀ j, W4.frozen? ⟨N, j, none⟩ = false := fun j => free_at HR.out j
                          have qRl : N < W4.heap.size := HR.out.lt
                          go_wp2_with fail
                          try simp only [List.append]
                          (refine wp_region_quiet_lit (by kernel_rfl) (by kernel_rfl) ?_; (repeat (first | go_big_quiet_step (fail) | (refine BigFrame.wpQuiet_skip (by rfl) ?_; try simp only [Act.put, List.setIfInBounds_toArray, List.set_cons_zero, List.set_cons_succ]))); refine wpQuiet_nil ?_; intro _ hw9; obtain ⟨nq, hw8⟩ := hw9; subst hw8)
                          clear qE0 qE1 qE2 qE3 qE4 qE5 qE6 qEz qEl qR0 qR1 qR2 qR3 qR4 qR5 qR6 qRz qRl
                          obtain ⟨W5, hWn⟩ : ∃ X, X = W4.drewN nq := ⟨_, rfl⟩
                          rw [← hWn]
                          have hB : Below W4.heap.size W4 W5 := by rw [hWn]; exact dN _ _
                          clear hWn
                          replace HB := Lib.hid (HB.out.trans (hB.mono HB.out.size))
                          replace HT := Lib.hid (HT0.out.below HB.out)
                          replace HL := Lib.hid (HL0.out.below HB.out)
                          replace HS := Lib.hid (HS0.out.below HB.out)
                          replace HD := Lib.hid (HD0.out.below HB.out)
                          replace HR := Lib.hid (HR.out.step hB)
                          replace HBC := Lib.hid (HBC.out.trans (hB.mono HBC.out.size))
                          replace HE := Lib.hid (HE.out.step hB)
                          replace HF9 := Lib.hid (HF9.out.step hB)
                          clear hB
                          go_wp2_with fail
                          go_ret
                          exact ⟨rfl, HB.out⟩
                        · skip
                          have t9c : decide (1000000 < x.size) = false := decide_eq_false h9
                          by_cases h10 : x.spent < 0
                          · skip
                            have t10c : decide (x.spent < 0) = true := decide_eq_true h10
                            have hno : LR 0 0 = false := by
                              rw [HSTEP.out]
                              refine Bool.eq_false_iff.2 fun h => ?_
                              simp only [Bool.and_eq_true, decide_eq_true_eq] at h
                              first | omega | (exact absurd h.1.2.1.1.1.1.1.1 (by decide)) | (simp at h)
                            have hR : R = false := by rw [HR2.out, hno]; rfl
                            subst hR
                            clear hno
                            have qE0 : W4.cell? ⟨E9, 0, none⟩ = some (.int .i64 x.id) := cell_at HE.out 0
                            have qE1 : W4.cell? ⟨E9, 1, none⟩ = some (.int .i64 x.tenant) := cell_at HE.out 1
                            have qE2 : W4.cell? ⟨E9, 2, none⟩ = some (.int .i64 x.shaper) := cell_at HE.out 2
                            have qE3 : W4.cell? ⟨E9, 3, none⟩ = some (.int .i64 x.epoch) := cell_at HE.out 3
                            have qE4 : W4.cell? ⟨E9, 4, none⟩ = some (.int .i64 x.number) := cell_at HE.out 4
                            have qE5 : W4.cell? ⟨E9, 5, none⟩ = some (.int .i64 x.size) := cell_at HE.out 5
                            have qE6 : W4.cell? ⟨E9, 6, none⟩ = some (.int .i64 x.spent) := cell_at HE.out 6
                            have qEz : ∀ j, W4.frozen? ⟨E9, j, none⟩ = false := fun j => free_at HE.out j
                            have qEl : E9 < W4.heap.size := HE.out.lt
                            have qR0 : W4.cell? ⟨N, 0, none⟩ = some (.int .i64 s.term) := cell_at HR.out 0
                            have qR1 : W4.cell? ⟨N, 1, none⟩ = some (.int .i64 s.stamp) := cell_at HR.out 1
                            have qR2 : W4.cell? ⟨N, 2, none⟩ = some (.int .i64 s.next) := cell_at HR.out 2
                            have qR3 : W4.cell? ⟨N, 3, none⟩ = some (.slice ta tn tc) := cell_at HR.out 3
                            have qR4 : W4.cell? ⟨N, 4, none⟩ = some (.slice (some ⟨g, o, none⟩) ln lc) := cell_at HR.out 4
                            have qR5 : W4.cell? ⟨N, 5, none⟩ = some (.slice sa sn sc) := cell_at HR.out 5
                            have qR6 : W4.cell? ⟨N, 6, none⟩ = some (.slice da dn dc) := cell_at HR.out 6
                            have qRz : ∀ j, W4.frozen? ⟨N, j, none⟩ = false := fun j => free_at HR.out j
                            have qRl : N < W4.heap.size := HR.out.lt
                            go_wp2_with fail
                            try simp only [List.append]
                            (refine wp_region_quiet_lit (by kernel_rfl) (by kernel_rfl) ?_; (repeat (first | go_big_quiet_step (fail) | (refine BigFrame.wpQuiet_skip (by rfl) ?_; try simp only [Act.put, List.setIfInBounds_toArray, List.set_cons_zero, List.set_cons_succ]))); refine wpQuiet_nil ?_; intro _ hw9; obtain ⟨nq, hw8⟩ := hw9; subst hw8)
                            clear qE0 qE1 qE2 qE3 qE4 qE5 qE6 qEz qEl qR0 qR1 qR2 qR3 qR4 qR5 qR6 qRz qRl
                            obtain ⟨W5, hWn⟩ : ∃ X, X = W4.drewN nq := ⟨_, rfl⟩
                            rw [← hWn]
                            have hB : Below W4.heap.size W4 W5 := by rw [hWn]; exact dN _ _
                            clear hWn
                            replace HB := Lib.hid (HB.out.trans (hB.mono HB.out.size))
                            replace HT := Lib.hid (HT0.out.below HB.out)
                            replace HL := Lib.hid (HL0.out.below HB.out)
                            replace HS := Lib.hid (HS0.out.below HB.out)
                            replace HD := Lib.hid (HD0.out.below HB.out)
                            replace HR := Lib.hid (HR.out.step hB)
                            replace HBC := Lib.hid (HBC.out.trans (hB.mono HBC.out.size))
                            replace HE := Lib.hid (HE.out.step hB)
                            replace HF9 := Lib.hid (HF9.out.step hB)
                            clear hB
                            go_wp2_with fail
                            go_ret
                            exact ⟨rfl, HB.out⟩
                          · skip
                            have t10c : decide (x.spent < 0) = false := decide_eq_false h10
                            by_cases h11 : x.size ≤ x.spent
                            · skip
                              have t11c : decide (x.size ≤ x.spent) = true := decide_eq_true h11
                              have hno : LR 0 0 = false := by
                                rw [HSTEP.out]
                                refine Bool.eq_false_iff.2 fun h => ?_
                                simp only [Bool.and_eq_true, decide_eq_true_eq] at h
                                first | omega | (exact absurd h.1.2.1.1.1.1.1.1 (by decide)) | (simp at h)
                              have hR : R = false := by rw [HR2.out, hno]; rfl
                              subst hR
                              clear hno
                              have qE0 : W4.cell? ⟨E9, 0, none⟩ = some (.int .i64 x.id) := cell_at HE.out 0
                              have qE1 : W4.cell? ⟨E9, 1, none⟩ = some (.int .i64 x.tenant) := cell_at HE.out 1
                              have qE2 : W4.cell? ⟨E9, 2, none⟩ = some (.int .i64 x.shaper) := cell_at HE.out 2
                              have qE3 : W4.cell? ⟨E9, 3, none⟩ = some (.int .i64 x.epoch) := cell_at HE.out 3
                              have qE4 : W4.cell? ⟨E9, 4, none⟩ = some (.int .i64 x.number) := cell_at HE.out 4
                              have qE5 : W4.cell? ⟨E9, 5, none⟩ = some (.int .i64 x.size) := cell_at HE.out 5
                              have qE6 : W4.cell? ⟨E9, 6, none⟩ = some (.int .i64 x.spent) := cell_at HE.out 6
                              have qEz : ∀ j, W4.frozen? ⟨E9, j, none⟩ = false := fun j => free_at HE.out j
                              have qEl : E9 < W4.heap.size := HE.out.lt
                              have qR0 : W4.cell? ⟨N, 0, none⟩ = some (.int .i64 s.term) := cell_at HR.out 0
                              have qR1 : W4.cell? ⟨N, 1, none⟩ = some (.int .i64 s.stamp) := cell_at HR.out 1
                              have qR2 : W4.cell? ⟨N, 2, none⟩ = some (.int .i64 s.next) := cell_at HR.out 2
                              have qR3 : W4.cell? ⟨N, 3, none⟩ = some (.slice ta tn tc) := cell_at HR.out 3
                              have qR4 : W4.cell? ⟨N, 4, none⟩ = some (.slice (some ⟨g, o, none⟩) ln lc) := cell_at HR.out 4
                              have qR5 : W4.cell? ⟨N, 5, none⟩ = some (.slice sa sn sc) := cell_at HR.out 5
                              have qR6 : W4.cell? ⟨N, 6, none⟩ = some (.slice da dn dc) := cell_at HR.out 6
                              have qRz : ∀ j, W4.frozen? ⟨N, j, none⟩ = false := fun j => free_at HR.out j
                              have qRl : N < W4.heap.size := HR.out.lt
                              go_wp2_with fail
                              try simp only [List.append]
                              (refine wp_region_quiet_lit (by kernel_rfl) (by kernel_rfl) ?_; (repeat (first | go_big_quiet_step (fail) | (refine BigFrame.wpQuiet_skip (by rfl) ?_; try simp only [Act.put, List.setIfInBounds_toArray, List.set_cons_zero, List.set_cons_succ]))); refine wpQuiet_nil ?_; intro _ hw9; obtain ⟨nq, hw8⟩ := hw9; subst hw8)
                              clear qE0 qE1 qE2 qE3 qE4 qE5 qE6 qEz qEl qR0 qR1 qR2 qR3 qR4 qR5 qR6 qRz qRl
                              obtain ⟨W5, hWn⟩ : ∃ X, X = W4.drewN nq := ⟨_, rfl⟩
                              rw [← hWn]
                              have hB : Below W4.heap.size W4 W5 := by rw [hWn]; exact dN _ _
                              clear hWn
                              replace HB := Lib.hid (HB.out.trans (hB.mono HB.out.size))
                              replace HT := Lib.hid (HT0.out.below HB.out)
                              replace HL := Lib.hid (HL0.out.below HB.out)
                              replace HS := Lib.hid (HS0.out.below HB.out)
                              replace HD := Lib.hid (HD0.out.below HB.out)
                              replace HR := Lib.hid (HR.out.step hB)
                              replace HBC := Lib.hid (HBC.out.trans (hB.mono HBC.out.size))
                              replace HE := Lib.hid (HE.out.step hB)
                              replace HF9 := Lib.hid (HF9.out.step hB)
                              clear hB
                              go_wp2_with fail
                              go_ret
                              exact ⟨rfl, HB.out⟩
                            · skip
                              have t11c : decide (x.size ≤ x.spent) = false := decide_eq_false h11
                              have hyes : LR 0 0 = LR x.id (i + 1) := by
                                rw [HSTEP.out]
                                have e1 : decide (la0 < x.id) = true := decide_eq_true (by omega)
                                have e2 : decide (x.id < s.next) = true := decide_eq_true (by omega)
                                have e3 : decide (1 ≤ x.shaper) = true := decide_eq_true (by omega)
                                have e4 : decide (x.shaper ≤ 8) = true := decide_eq_true (by omega)
                                have e5 : decide (1 ≤ x.epoch) = true := decide_eq_true (by omega)
                                have e6 : decide (1 ≤ x.number) = true := decide_eq_true (by omega)
                                have e7 : decide (1 ≤ x.size) = true := decide_eq_true (by omega)
                                have e8 : decide (x.size ≤ 1000000) = true := decide_eq_true (by omega)
                                have e9 : decide (0 ≤ x.spent) = true := decide_eq_true (by omega)
                                have ea : decide (x.spent < x.size) = true := decide_eq_true (by omega)
                                rw [e1, e2, e3, e4, e5, e6, e7, e8, e9, ea]
                                simp
                              have HYES := Lib.hid hyes
                              have hx1 : 1 ≤ x.id := by omega
                              have hnx : lastId s.ls (i + 1) = x.id := by
                                show (match s.ls[i]? with | some x => x.id | none => 0) = _
                                rw [HG2.out]
                              have HNX := Lib.hid hnx
                              clear hyes hnx
                              have qE0 : W4.cell? ⟨E9, 0, none⟩ = some (.int .i64 x.id) := cell_at HE.out 0
                              have qE1 : W4.cell? ⟨E9, 1, none⟩ = some (.int .i64 x.tenant) := cell_at HE.out 1
                              have qE2 : W4.cell? ⟨E9, 2, none⟩ = some (.int .i64 x.shaper) := cell_at HE.out 2
                              have qE3 : W4.cell? ⟨E9, 3, none⟩ = some (.int .i64 x.epoch) := cell_at HE.out 3
                              have qE4 : W4.cell? ⟨E9, 4, none⟩ = some (.int .i64 x.number) := cell_at HE.out 4
                              have qE5 : W4.cell? ⟨E9, 5, none⟩ = some (.int .i64 x.size) := cell_at HE.out 5
                              have qE6 : W4.cell? ⟨E9, 6, none⟩ = some (.int .i64 x.spent) := cell_at HE.out 6
                              have qEz : ∀ j, W4.frozen? ⟨E9, j, none⟩ = false := fun j => free_at HE.out j
                              have qEl : E9 < W4.heap.size := HE.out.lt
                              have qR0 : W4.cell? ⟨N, 0, none⟩ = some (.int .i64 s.term) := cell_at HR.out 0
                              have qR1 : W4.cell? ⟨N, 1, none⟩ = some (.int .i64 s.stamp) := cell_at HR.out 1
                              have qR2 : W4.cell? ⟨N, 2, none⟩ = some (.int .i64 s.next) := cell_at HR.out 2
                              have qR3 : W4.cell? ⟨N, 3, none⟩ = some (.slice ta tn tc) := cell_at HR.out 3
                              have qR4 : W4.cell? ⟨N, 4, none⟩ = some (.slice (some ⟨g, o, none⟩) ln lc) := cell_at HR.out 4
                              have qR5 : W4.cell? ⟨N, 5, none⟩ = some (.slice sa sn sc) := cell_at HR.out 5
                              have qR6 : W4.cell? ⟨N, 6, none⟩ = some (.slice da dn dc) := cell_at HR.out 6
                              have qRz : ∀ j, W4.frozen? ⟨N, j, none⟩ = false := fun j => free_at HR.out j
                              have qRl : N < W4.heap.size := HR.out.lt
                              go_wp2_with fail
                              try simp only [List.append]
                              (refine wp_region_quiet_lit (by kernel_rfl) (by kernel_rfl) ?_; (repeat (first | go_big_quiet_step (fail) | (refine BigFrame.wpQuiet_skip (by rfl) ?_; try simp only [Act.put, List.setIfInBounds_toArray, List.set_cons_zero, List.set_cons_succ]))); refine wpQuiet_nil ?_; intro _ hw9; obtain ⟨nq, hw8⟩ := hw9; subst hw8)
                              clear qE0 qE1 qE2 qE3 qE4 qE5 qE6 qEz qEl qR0 qR1 qR2 qR3 qR4 qR5 qR6 qRz qRl
                              obtain ⟨W5, hWn⟩ : ∃ X, X = W4.drewN nq := ⟨_, rfl⟩
                              rw [← hWn]
                              have hB : Below W4.heap.size W4 W5 := by rw [hWn]; exact dN _ _
                              clear hWn
                              replace HB := Lib.hid (HB.out.trans (hB.mono HB.out.size))
                              replace HT := Lib.hid (HT0.out.below HB.out)
                              replace HL := Lib.hid (HL0.out.below HB.out)
                              replace HS := Lib.hid (HS0.out.below HB.out)
                              replace HD := Lib.hid (HD0.out.below HB.out)
                              replace HR := Lib.hid (HR.out.step hB)
                              replace HBC := Lib.hid (HBC.out.trans (hB.mono HBC.out.size))
                              replace HE := Lib.hid (HE.out.step hB)
                              replace HF9 := Lib.hid (HF9.out.step hB)
                              clear hB
                              go_wp2_with fail
                              go_roundw
                              case rel => exact ⟨i + 1, by omega, by go_num, by rw [HNX.out]; exact HYES.out, (fun _ => by rw [HNX.out]; exact hx1), HBC.out⟩
                              case measure => first | (simp [intOf]; done) | (simp [intOf]; omega)
      · skip
        by_cases h0 : x.id < 1
        · skip
          have t0c : decide (x.id < 1) = true := decide_eq_true h0
          have hno : LR 0 0 = false := by
            rw [HSTEP.out]
            refine Bool.eq_false_iff.2 fun h => ?_
            simp only [Bool.and_eq_true, decide_eq_true_eq] at h
            first | omega | (exact absurd h.1.2.1.1.1.1.1.1 (by decide)) | (simp at h)
          have hR : R = false := by rw [HR2.out, hno]; rfl
          subst hR
          clear hno
          have qE0 : W4.cell? ⟨E9, 0, none⟩ = some (.int .i64 x.id) := cell_at HE.out 0
          have qE1 : W4.cell? ⟨E9, 1, none⟩ = some (.int .i64 x.tenant) := cell_at HE.out 1
          have qE2 : W4.cell? ⟨E9, 2, none⟩ = some (.int .i64 x.shaper) := cell_at HE.out 2
          have qE3 : W4.cell? ⟨E9, 3, none⟩ = some (.int .i64 x.epoch) := cell_at HE.out 3
          have qE4 : W4.cell? ⟨E9, 4, none⟩ = some (.int .i64 x.number) := cell_at HE.out 4
          have qE5 : W4.cell? ⟨E9, 5, none⟩ = some (.int .i64 x.size) := cell_at HE.out 5
          have qE6 : W4.cell? ⟨E9, 6, none⟩ = some (.int .i64 x.spent) := cell_at HE.out 6
          have qEz : ∀ j, W4.frozen? ⟨E9, j, none⟩ = false := fun j => free_at HE.out j
          have qEl : E9 < W4.heap.size := HE.out.lt
          have qR0 : W4.cell? ⟨N, 0, none⟩ = some (.int .i64 s.term) := cell_at HR.out 0
          have qR1 : W4.cell? ⟨N, 1, none⟩ = some (.int .i64 s.stamp) := cell_at HR.out 1
          have qR2 : W4.cell? ⟨N, 2, none⟩ = some (.int .i64 s.next) := cell_at HR.out 2
          have qR3 : W4.cell? ⟨N, 3, none⟩ = some (.slice ta tn tc) := cell_at HR.out 3
          have qR4 : W4.cell? ⟨N, 4, none⟩ = some (.slice (some ⟨g, o, none⟩) ln lc) := cell_at HR.out 4
          have qR5 : W4.cell? ⟨N, 5, none⟩ = some (.slice sa sn sc) := cell_at HR.out 5
          have qR6 : W4.cell? ⟨N, 6, none⟩ = some (.slice da dn dc) := cell_at HR.out 6
          have qRz : ∀ j, W4.frozen? ⟨N, j, none⟩ = false := fun j => free_at HR.out j
          have qRl : N < W4.heap.size := HR.out.lt
          go_wp2_with fail
          try simp only [List.append]
          (refine wp_region_quiet_lit (by kernel_rfl) (by kernel_rfl) ?_; (repeat (first | go_big_quiet_step (fail) | (refine BigFrame.wpQuiet_skip (by rfl) ?_; try simp only [Act.put, List.setIfInBounds_toArray, List.set_cons_zero, List.set_cons_succ]))); refine wpQuiet_nil ?_; intro _ hw9; obtain ⟨nq, hw8⟩ := hw9; subst hw8)
          clear qE0 qE1 qE2 qE3 qE4 qE5 qE6 qEz qEl qR0 qR1 qR2 qR3 qR4 qR5 qR6 qRz qRl
          obtain ⟨W5, hWn⟩ : ∃ X, X = W4.drewN nq := ⟨_, rfl⟩
          rw [← hWn]
          have hB : Below W4.heap.size W4 W5 := by rw [hWn]; exact dN _ _
          clear hWn
          replace HB := Lib.hid (HB.out.trans (hB.mono HB.out.size))
          replace HT := Lib.hid (HT0.out.below HB.out)
          replace HL := Lib.hid (HL0.out.below HB.out)
          replace HS := Lib.hid (HS0.out.below HB.out)
          replace HD := Lib.hid (HD0.out.below HB.out)
          replace HR := Lib.hid (HR.out.step hB)
          replace HBC := Lib.hid (HBC.out.trans (hB.mono HBC.out.size))
          replace HE := Lib.hid (HE.out.step hB)
          replace HF9 := Lib.hid (HF9.out.step hB)
          clear hB
          go_wp2_with fail
          go_ret
          exact ⟨rfl, HB.out⟩
        · skip
          have t0c : decide (x.id < 1) = false := decide_eq_false h0
          by_cases h1 : s.next ≤ x.id
          · skip
            have t1c : decide (s.next ≤ x.id) = true := decide_eq_true h1
            have hno : LR 0 0 = false := by
              rw [HSTEP.out]
              refine Bool.eq_false_iff.2 fun h => ?_
              simp only [Bool.and_eq_true, decide_eq_true_eq] at h
              first | omega | (exact absurd h.1.2.1.1.1.1.1.1 (by decide)) | (simp at h)
            have hR : R = false := by rw [HR2.out, hno]; rfl
            subst hR
            clear hno
            have qE0 : W4.cell? ⟨E9, 0, none⟩ = some (.int .i64 x.id) := cell_at HE.out 0
            have qE1 : W4.cell? ⟨E9, 1, none⟩ = some (.int .i64 x.tenant) := cell_at HE.out 1
            have qE2 : W4.cell? ⟨E9, 2, none⟩ = some (.int .i64 x.shaper) := cell_at HE.out 2
            have qE3 : W4.cell? ⟨E9, 3, none⟩ = some (.int .i64 x.epoch) := cell_at HE.out 3
            have qE4 : W4.cell? ⟨E9, 4, none⟩ = some (.int .i64 x.number) := cell_at HE.out 4
            have qE5 : W4.cell? ⟨E9, 5, none⟩ = some (.int .i64 x.size) := cell_at HE.out 5
            have qE6 : W4.cell? ⟨E9, 6, none⟩ = some (.int .i64 x.spent) := cell_at HE.out 6
            have qEz : ∀ j, W4.frozen? ⟨E9, j, none⟩ = false := fun j => free_at HE.out j
            have qEl : E9 < W4.heap.size := HE.out.lt
            have qR0 : W4.cell? ⟨N, 0, none⟩ = some (.int .i64 s.term) := cell_at HR.out 0
            have qR1 : W4.cell? ⟨N, 1, none⟩ = some (.int .i64 s.stamp) := cell_at HR.out 1
            have qR2 : W4.cell? ⟨N, 2, none⟩ = some (.int .i64 s.next) := cell_at HR.out 2
            have qR3 : W4.cell? ⟨N, 3, none⟩ = some (.slice ta tn tc) := cell_at HR.out 3
            have qR4 : W4.cell? ⟨N, 4, none⟩ = some (.slice (some ⟨g, o, none⟩) ln lc) := cell_at HR.out 4
            have qR5 : W4.cell? ⟨N, 5, none⟩ = some (.slice sa sn sc) := cell_at HR.out 5
            have qR6 : W4.cell? ⟨N, 6, none⟩ = some (.slice da dn dc) := cell_at HR.out 6
            have qRz : ∀ j, W4.frozen? ⟨N, j, none⟩ = false := fun j => free_at HR.out j
            have qRl : N < W4.heap.size := HR.out.lt
            go_wp2_with fail
            try simp only [List.append]
            (refine wp_region_quiet_lit (by kernel_rfl) (by kernel_rfl) ?_; (repeat (first | go_big_quiet_step (fail) | (refine BigFrame.wpQuiet_skip (by rfl) ?_; try simp only [Act.put, List.setIfInBounds_toArray, List.set_cons_zero, List.set_cons_succ]))); refine wpQuiet_nil ?_; intro _ hw9; obtain ⟨nq, hw8⟩ := hw9; subst hw8)
            clear qE0 qE1 qE2 qE3 qE4 qE5 qE6 qEz qEl qR0 qR1 qR2 qR3 qR4 qR5 qR6 qRz qRl
            obtain ⟨W5, hWn⟩ : ∃ X, X = W4.drewN nq := ⟨_, rfl⟩
            rw [← hWn]
            have hB : Below W4.heap.size W4 W5 := by rw [hWn]; exact dN _ _
            clear hWn
            replace HB := Lib.hid (HB.out.trans (hB.mono HB.out.size))
            replace HT := Lib.hid (HT0.out.below HB.out)
            replace HL := Lib.hid (HL0.out.below HB.out)
            replace HS := Lib.hid (HS0.out.below HB.out)
            replace HD := Lib.hid (HD0.out.below HB.out)
            replace HR := Lib.hid (HR.out.step hB)
            replace HBC := Lib.hid (HBC.out.trans (hB.mono HBC.out.size))
            replace HE := Lib.hid (HE.out.step hB)
            replace HF9 := Lib.hid (HF9.out.step hB)
            clear hB
            go_wp2_with fail
            go_ret
            exact ⟨rfl, HB.out⟩
          · skip
            have t1c : decide (s.next ≤ x.id) = false := decide_eq_false h1
            have t2 : decide (0 < (i : Int)) = true := decide_eq_true (by omega)
            have t2b : decide (0 < i) = true := decide_eq_true (by omega)
            have tw : IntKind.i64.wrap ((i : Int) - 1) = (j : Int) := (IntWalk.i64_in _ (by omega)).trans (by omega)
            have tw3 : (j < ln) = True := eq_true (by omega)
            by_cases h2 : x.id ≤ p.id
            · skip
              have t2c : decide (x.id ≤ p.id) = true := decide_eq_true h2
              have hno : LR 0 0 = false := by
                rw [HSTEP.out]
                refine Bool.eq_false_iff.2 fun h => ?_
                simp only [Bool.and_eq_true, decide_eq_true_eq] at h
                first | omega | (exact absurd h.1.2.1.1.1.1.1.1 (by decide)) | (simp at h)
              have hR : R = false := by rw [HR2.out, hno]; rfl
              subst hR
              clear hno
              have qE0 : W4.cell? ⟨E9, 0, none⟩ = some (.int .i64 x.id) := cell_at HE.out 0
              have qE1 : W4.cell? ⟨E9, 1, none⟩ = some (.int .i64 x.tenant) := cell_at HE.out 1
              have qE2 : W4.cell? ⟨E9, 2, none⟩ = some (.int .i64 x.shaper) := cell_at HE.out 2
              have qE3 : W4.cell? ⟨E9, 3, none⟩ = some (.int .i64 x.epoch) := cell_at HE.out 3
              have qE4 : W4.cell? ⟨E9, 4, none⟩ = some (.int .i64 x.number) := cell_at HE.out 4
              have qE5 : W4.cell? ⟨E9, 5, none⟩ = some (.int .i64 x.size) := cell_at HE.out 5
              have qE6 : W4.cell? ⟨E9, 6, none⟩ = some (.int .i64 x.spent) := cell_at HE.out 6
              have qEz : ∀ j, W4.frozen? ⟨E9, j, none⟩ = false := fun j => free_at HE.out j
              have qEl : E9 < W4.heap.size := HE.out.lt
              have qR0 : W4.cell? ⟨N, 0, none⟩ = some (.int .i64 s.term) := cell_at HR.out 0
              have qR1 : W4.cell? ⟨N, 1, none⟩ = some (.int .i64 s.stamp) := cell_at HR.out 1
              have qR2 : W4.cell? ⟨N, 2, none⟩ = some (.int .i64 s.next) := cell_at HR.out 2
              have qR3 : W4.cell? ⟨N, 3, none⟩ = some (.slice ta tn tc) := cell_at HR.out 3
              have qR4 : W4.cell? ⟨N, 4, none⟩ = some (.slice (some ⟨g, o, none⟩) ln lc) := cell_at HR.out 4
              have qR5 : W4.cell? ⟨N, 5, none⟩ = some (.slice sa sn sc) := cell_at HR.out 5
              have qR6 : W4.cell? ⟨N, 6, none⟩ = some (.slice da dn dc) := cell_at HR.out 6
              have qRz : ∀ j, W4.frozen? ⟨N, j, none⟩ = false := fun j => free_at HR.out j
              have qRl : N < W4.heap.size := HR.out.lt
              go_wp2_with fail
              try simp only [List.append]
              (refine wp_region_quiet_lit (by kernel_rfl) (by kernel_rfl) ?_; (repeat (first | go_big_quiet_step (fail) | (refine BigFrame.wpQuiet_skip (by rfl) ?_; try simp only [Act.put, List.setIfInBounds_toArray, List.set_cons_zero, List.set_cons_succ]))); refine wpQuiet_nil ?_; intro _ hw9; obtain ⟨nq, hw8⟩ := hw9; subst hw8)
              clear qE0 qE1 qE2 qE3 qE4 qE5 qE6 qEz qEl qR0 qR1 qR2 qR3 qR4 qR5 qR6 qRz qRl
              obtain ⟨W5, hWn⟩ : ∃ X, X = W4.drewN nq := ⟨_, rfl⟩
              rw [← hWn]
              have hB : Below W4.heap.size W4 W5 := by rw [hWn]; exact dN _ _
              clear hWn
              replace HB := Lib.hid (HB.out.trans (hB.mono HB.out.size))
              replace HT := Lib.hid (HT0.out.below HB.out)
              replace HL := Lib.hid (HL0.out.below HB.out)
              replace HS := Lib.hid (HS0.out.below HB.out)
              replace HD := Lib.hid (HD0.out.below HB.out)
              replace HR := Lib.hid (HR.out.step hB)
              replace HBC := Lib.hid (HBC.out.trans (hB.mono HBC.out.size))
              replace HE := Lib.hid (HE.out.step hB)
              replace HF9 := Lib.hid (HF9.out.step hB)
              clear hB
              go_wp2_with fail
              go_ret
              exact ⟨rfl, HB.out⟩
            · skip
              have t2c : decide (x.id ≤ p.id) = false := decide_eq_false h2
              cases sm
              · skip
                have hno : LR 0 0 = false := by
                  rw [HSTEP.out]
                  refine Bool.eq_false_iff.2 fun h => ?_
                  simp only [Bool.and_eq_true, decide_eq_true_eq] at h
                  first | omega | (exact absurd h.1.2.1.1.1.1.1.1 (by decide)) | (simp at h)
                have hR : R = false := by rw [HR2.out, hno]; rfl
                subst hR
                clear hno
                have qE0 : W4.cell? ⟨E9, 0, none⟩ = some (.int .i64 x.id) := cell_at HE.out 0
                have qE1 : W4.cell? ⟨E9, 1, none⟩ = some (.int .i64 x.tenant) := cell_at HE.out 1
                have qE2 : W4.cell? ⟨E9, 2, none⟩ = some (.int .i64 x.shaper) := cell_at HE.out 2
                have qE3 : W4.cell? ⟨E9, 3, none⟩ = some (.int .i64 x.epoch) := cell_at HE.out 3
                have qE4 : W4.cell? ⟨E9, 4, none⟩ = some (.int .i64 x.number) := cell_at HE.out 4
                have qE5 : W4.cell? ⟨E9, 5, none⟩ = some (.int .i64 x.size) := cell_at HE.out 5
                have qE6 : W4.cell? ⟨E9, 6, none⟩ = some (.int .i64 x.spent) := cell_at HE.out 6
                have qEz : ∀ j, W4.frozen? ⟨E9, j, none⟩ = false := fun j => free_at HE.out j
                have qEl : E9 < W4.heap.size := HE.out.lt
                have qR0 : W4.cell? ⟨N, 0, none⟩ = some (.int .i64 s.term) := cell_at HR.out 0
                have qR1 : W4.cell? ⟨N, 1, none⟩ = some (.int .i64 s.stamp) := cell_at HR.out 1
                have qR2 : W4.cell? ⟨N, 2, none⟩ = some (.int .i64 s.next) := cell_at HR.out 2
                have qR3 : W4.cell? ⟨N, 3, none⟩ = some (.slice ta tn tc) := cell_at HR.out 3
                have qR4 : W4.cell? ⟨N, 4, none⟩ = some (.slice (some ⟨g, o, none⟩) ln lc) := cell_at HR.out 4
                have qR5 : W4.cell? ⟨N, 5, none⟩ = some (.slice sa sn sc) := cell_at HR.out 5
                have qR6 : W4.cell? ⟨N, 6, none⟩ = some (.slice da dn dc) := cell_at HR.out 6
                have qRz : ∀ j, W4.frozen? ⟨N, j, none⟩ = false := fun j => free_at HR.out j
                have qRl : N < W4.heap.size := HR.out.lt
                go_wp2_with fail
                try simp only [List.append]
                (refine wp_region_quiet_lit (by kernel_rfl) (by kernel_rfl) ?_; (repeat (first | go_big_quiet_step (fail) | (refine BigFrame.wpQuiet_skip (by rfl) ?_; try simp only [Act.put, List.setIfInBounds_toArray, List.set_cons_zero, List.set_cons_succ]))); refine wpQuiet_nil ?_; intro _ hw9; obtain ⟨nq, hw8⟩ := hw9; subst hw8)
                clear qE0 qE1 qE2 qE3 qE4 qE5 qE6 qEz qEl qR0 qR1 qR2 qR3 qR4 qR5 qR6 qRz qRl
                obtain ⟨W5, hWn⟩ : ∃ X, X = W4.drewN nq := ⟨_, rfl⟩
                rw [← hWn]
                have hB : Below W4.heap.size W4 W5 := by rw [hWn]; exact dN _ _
                clear hWn
                replace HB := Lib.hid (HB.out.trans (hB.mono HB.out.size))
                replace HT := Lib.hid (HT0.out.below HB.out)
                replace HL := Lib.hid (HL0.out.below HB.out)
                replace HS := Lib.hid (HS0.out.below HB.out)
                replace HD := Lib.hid (HD0.out.below HB.out)
                replace HR := Lib.hid (HR.out.step hB)
                replace HBC := Lib.hid (HBC.out.trans (hB.mono HBC.out.size))
                replace HE := Lib.hid (HE.out.step hB)
                replace HF9 := Lib.hid (HF9.out.step hB)
                clear hB
                go_wp2_with fail
                go_ret
                exact ⟨rfl, HB.out⟩
              · skip
                by_cases h4 : x.shaper < 1
                · skip
                  have t4c : decide (x.shaper < 1) = true := decide_eq_true h4
                  have hno : LR 0 0 = false := by
                    rw [HSTEP.out]
                    refine Bool.eq_false_iff.2 fun h => ?_
                    simp only [Bool.and_eq_true, decide_eq_true_eq] at h
                    first | omega | (exact absurd h.1.2.1.1.1.1.1.1 (by decide)) | (simp at h)
                  have hR : R = false := by rw [HR2.out, hno]; rfl
                  subst hR
                  clear hno
                  have qE0 : W4.cell? ⟨E9, 0, none⟩ = some (.int .i64 x.id) := cell_at HE.out 0
                  have qE1 : W4.cell? ⟨E9, 1, none⟩ = some (.int .i64 x.tenant) := cell_at HE.out 1
                  have qE2 : W4.cell? ⟨E9, 2, none⟩ = some (.int .i64 x.shaper) := cell_at HE.out 2
                  have qE3 : W4.cell? ⟨E9, 3, none⟩ = some (.int .i64 x.epoch) := cell_at HE.out 3
                  have qE4 : W4.cell? ⟨E9, 4, none⟩ = some (.int .i64 x.number) := cell_at HE.out 4
                  have qE5 : W4.cell? ⟨E9, 5, none⟩ = some (.int .i64 x.size) := cell_at HE.out 5
                  have qE6 : W4.cell? ⟨E9, 6, none⟩ = some (.int .i64 x.spent) := cell_at HE.out 6
                  have qEz : ∀ j, W4.frozen? ⟨E9, j, none⟩ = false := fun j => free_at HE.out j
                  have qEl : E9 < W4.heap.size := HE.out.lt
                  have qR0 : W4.cell? ⟨N, 0, none⟩ = some (.int .i64 s.term) := cell_at HR.out 0
                  have qR1 : W4.cell? ⟨N, 1, none⟩ = some (.int .i64 s.stamp) := cell_at HR.out 1
                  have qR2 : W4.cell? ⟨N, 2, none⟩ = some (.int .i64 s.next) := cell_at HR.out 2
                  have qR3 : W4.cell? ⟨N, 3, none⟩ = some (.slice ta tn tc) := cell_at HR.out 3
                  have qR4 : W4.cell? ⟨N, 4, none⟩ = some (.slice (some ⟨g, o, none⟩) ln lc) := cell_at HR.out 4
                  have qR5 : W4.cell? ⟨N, 5, none⟩ = some (.slice sa sn sc) := cell_at HR.out 5
                  have qR6 : W4.cell? ⟨N, 6, none⟩ = some (.slice da dn dc) := cell_at HR.out 6
                  have qRz : ∀ j, W4.frozen? ⟨N, j, none⟩ = false := fun j => free_at HR.out j
                  have qRl : N < W4.heap.size := HR.out.lt
                  go_wp2_with fail
                  try simp only [List.append]
                  (refine wp_region_quiet_lit (by kernel_rfl) (by kernel_rfl) ?_; (repeat (first | go_big_quiet_step (fail) | (refine BigFrame.wpQuiet_skip (by rfl) ?_; try simp only [Act.put, List.setIfInBounds_toArray, List.set_cons_zero, List.set_cons_succ]))); refine wpQuiet_nil ?_; intro _ hw9; obtain ⟨nq, hw8⟩ := hw9; subst hw8)
                  clear qE0 qE1 qE2 qE3 qE4 qE5 qE6 qEz qEl qR0 qR1 qR2 qR3 qR4 qR5 qR6 qRz qRl
                  obtain ⟨W5, hWn⟩ : ∃ X, X = W4.drewN nq := ⟨_, rfl⟩
                  rw [← hWn]
                  have hB : Below W4.heap.size W4 W5 := by rw [hWn]; exact dN _ _
                  clear hWn
                  replace HB := Lib.hid (HB.out.trans (hB.mono HB.out.size))
                  replace HT := Lib.hid (HT0.out.below HB.out)
                  replace HL := Lib.hid (HL0.out.below HB.out)
                  replace HS := Lib.hid (HS0.out.below HB.out)
                  replace HD := Lib.hid (HD0.out.below HB.out)
                  replace HR := Lib.hid (HR.out.step hB)
                  replace HBC := Lib.hid (HBC.out.trans (hB.mono HBC.out.size))
                  replace HE := Lib.hid (HE.out.step hB)
                  replace HF9 := Lib.hid (HF9.out.step hB)
                  clear hB
                  go_wp2_with fail
                  go_ret
                  exact ⟨rfl, HB.out⟩
                · skip
                  have t4c : decide (x.shaper < 1) = false := decide_eq_false h4
                  by_cases h5 : 8 < x.shaper
                  · skip
                    have t5c : decide (8 < x.shaper) = true := decide_eq_true h5
                    have hno : LR 0 0 = false := by
                      rw [HSTEP.out]
                      refine Bool.eq_false_iff.2 fun h => ?_
                      simp only [Bool.and_eq_true, decide_eq_true_eq] at h
                      first | omega | (exact absurd h.1.2.1.1.1.1.1.1 (by decide)) | (simp at h)
                    have hR : R = false := by rw [HR2.out, hno]; rfl
                    subst hR
                    clear hno
                    have qE0 : W4.cell? ⟨E9, 0, none⟩ = some (.int .i64 x.id) := cell_at HE.out 0
                    have qE1 : W4.cell? ⟨E9, 1, none⟩ = some (.int .i64 x.tenant) := cell_at HE.out 1
                    have qE2 : W4.cell? ⟨E9, 2, none⟩ = some (.int .i64 x.shaper) := cell_at HE.out 2
                    have qE3 : W4.cell? ⟨E9, 3, none⟩ = some (.int .i64 x.epoch) := cell_at HE.out 3
                    have qE4 : W4.cell? ⟨E9, 4, none⟩ = some (.int .i64 x.number) := cell_at HE.out 4
                    have qE5 : W4.cell? ⟨E9, 5, none⟩ = some (.int .i64 x.size) := cell_at HE.out 5
                    have qE6 : W4.cell? ⟨E9, 6, none⟩ = some (.int .i64 x.spent) := cell_at HE.out 6
                    have qEz : ∀ j, W4.frozen? ⟨E9, j, none⟩ = false := fun j => free_at HE.out j
                    have qEl : E9 < W4.heap.size := HE.out.lt
                    have qR0 : W4.cell? ⟨N, 0, none⟩ = some (.int .i64 s.term) := cell_at HR.out 0
                    have qR1 : W4.cell? ⟨N, 1, none⟩ = some (.int .i64 s.stamp) := cell_at HR.out 1
                    have qR2 : W4.cell? ⟨N, 2, none⟩ = some (.int .i64 s.next) := cell_at HR.out 2
                    have qR3 : W4.cell? ⟨N, 3, none⟩ = some (.slice ta tn tc) := cell_at HR.out 3
                    have qR4 : W4.cell? ⟨N, 4, none⟩ = some (.slice (some ⟨g, o, none⟩) ln lc) := cell_at HR.out 4
                    have qR5 : W4.cell? ⟨N, 5, none⟩ = some (.slice sa sn sc) := cell_at HR.out 5
                    have qR6 : W4.cell? ⟨N, 6, none⟩ = some (.slice da dn dc) := cell_at HR.out 6
                    have qRz : ∀ j, W4.frozen? ⟨N, j, none⟩ = false := fun j => free_at HR.out j
                    have qRl : N < W4.heap.size := HR.out.lt
                    go_wp2_with fail
                    try simp only [List.append]
                    (refine wp_region_quiet_lit (by kernel_rfl) (by kernel_rfl) ?_; (repeat (first | go_big_quiet_step (fail) | (refine BigFrame.wpQuiet_skip (by rfl) ?_; try simp only [Act.put, List.setIfInBounds_toArray, List.set_cons_zero, List.set_cons_succ]))); refine wpQuiet_nil ?_; intro _ hw9; obtain ⟨nq, hw8⟩ := hw9; subst hw8)
                    clear qE0 qE1 qE2 qE3 qE4 qE5 qE6 qEz qEl qR0 qR1 qR2 qR3 qR4 qR5 qR6 qRz qRl
                    obtain ⟨W5, hWn⟩ : ∃ X, X = W4.drewN nq := ⟨_, rfl⟩
                    rw [← hWn]
                    have hB : Below W4.heap.size W4 W5 := by rw [hWn]; exact dN _ _
                    clear hWn
                    replace HB := Lib.hid (HB.out.trans (hB.mono HB.out.size))
                    replace HT := Lib.hid (HT0.out.below HB.out)
                    replace HL := Lib.hid (HL0.out.below HB.out)
                    replace HS := Lib.hid (HS0.out.below HB.out)
                    replace HD := Lib.hid (HD0.out.below HB.out)
                    replace HR := Lib.hid (HR.out.step hB)
                    replace HBC := Lib.hid (HBC.out.trans (hB.mono HBC.out.size))
                    replace HE := Lib.hid (HE.out.step hB)
                    replace HF9 := Lib.hid (HF9.out.step hB)
                    clear hB
                    go_wp2_with fail
                    go_ret
                    exact ⟨rfl, HB.out⟩
                  · skip
                    have t5c : decide (8 < x.shaper) = false := decide_eq_false h5
                    by_cases h6 : x.epoch < 1
                    · skip
                      have t6c : decide (x.epoch < 1) = true := decide_eq_true h6
                      have hno : LR 0 0 = false := by
                        rw [HSTEP.out]
                        refine Bool.eq_false_iff.2 fun h => ?_
                        simp only [Bool.and_eq_true, decide_eq_true_eq] at h
                        first | omega | (exact absurd h.1.2.1.1.1.1.1.1 (by decide)) | (simp at h)
                      have hR : R = false := by rw [HR2.out, hno]; rfl
                      subst hR
                      clear hno
                      have qE0 : W4.cell? ⟨E9, 0, none⟩ = some (.int .i64 x.id) := cell_at HE.out 0
                      have qE1 : W4.cell? ⟨E9, 1, none⟩ = some (.int .i64 x.tenant) := cell_at HE.out 1
                      have qE2 : W4.cell? ⟨E9, 2, none⟩ = some (.int .i64 x.shaper) := cell_at HE.out 2
                      have qE3 : W4.cell? ⟨E9, 3, none⟩ = some (.int .i64 x.epoch) := cell_at HE.out 3
                      have qE4 : W4.cell? ⟨E9, 4, none⟩ = some (.int .i64 x.number) := cell_at HE.out 4
                      have qE5 : W4.cell? ⟨E9, 5, none⟩ = some (.int .i64 x.size) := cell_at HE.out 5
                      have qE6 : W4.cell? ⟨E9, 6, none⟩ = some (.int .i64 x.spent) := cell_at HE.out 6
                      have qEz : ∀ j, W4.frozen? ⟨E9, j, none⟩ = false := fun j => free_at HE.out j
                      have qEl : E9 < W4.heap.size := HE.out.lt
                      have qR0 : W4.cell? ⟨N, 0, none⟩ = some (.int .i64 s.term) := cell_at HR.out 0
                      have qR1 : W4.cell? ⟨N, 1, none⟩ = some (.int .i64 s.stamp) := cell_at HR.out 1
                      have qR2 : W4.cell? ⟨N, 2, none⟩ = some (.int .i64 s.next) := cell_at HR.out 2
                      have qR3 : W4.cell? ⟨N, 3, none⟩ = some (.slice ta tn tc) := cell_at HR.out 3
                      have qR4 : W4.cell? ⟨N, 4, none⟩ = some (.slice (some ⟨g, o, none⟩) ln lc) := cell_at HR.out 4
                      have qR5 : W4.cell? ⟨N, 5, none⟩ = some (.slice sa sn sc) := cell_at HR.out 5
                      have qR6 : W4.cell? ⟨N, 6, none⟩ = some (.slice da dn dc) := cell_at HR.out 6
                      have qRz : ∀ j, W4.frozen? ⟨N, j, none⟩ = false := fun j => free_at HR.out j
                      have qRl : N < W4.heap.size := HR.out.lt
                      go_wp2_with fail
                      try simp only [List.append]
                      (refine wp_region_quiet_lit (by kernel_rfl) (by kernel_rfl) ?_; (repeat (first | go_big_quiet_step (fail) | (refine BigFrame.wpQuiet_skip (by rfl) ?_; try simp only [Act.put, List.setIfInBounds_toArray, List.set_cons_zero, List.set_cons_succ]))); refine wpQuiet_nil ?_; intro _ hw9; obtain ⟨nq, hw8⟩ := hw9; subst hw8)
                      clear qE0 qE1 qE2 qE3 qE4 qE5 qE6 qEz qEl qR0 qR1 qR2 qR3 qR4 qR5 qR6 qRz qRl
                      obtain ⟨W5, hWn⟩ : ∃ X, X = W4.drewN nq := ⟨_, rfl⟩
                      rw [← hWn]
                      have hB : Below W4.heap.size W4 W5 := by rw [hWn]; exact dN _ _
                      clear hWn
                      replace HB := Lib.hid (HB.out.trans (hB.mono HB.out.size))
                      replace HT := Lib.hid (HT0.out.below HB.out)
                      replace HL := Lib.hid (HL0.out.below HB.out)
                      replace HS := Lib.hid (HS0.out.below HB.out)
                      replace HD := Lib.hid (HD0.out.below HB.out)
                      replace HR := Lib.hid (HR.out.step hB)
                      replace HBC := Lib.hid (HBC.out.trans (hB.mono HBC.out.size))
                      replace HE := Lib.hid (HE.out.step hB)
                      replace HF9 := Lib.hid (HF9.out.step hB)
                      clear hB
                      go_wp2_with fail
                      go_ret
                      exact ⟨rfl, HB.out⟩
                    · skip
                      have t6c : decide (x.epoch < 1) = false := decide_eq_false h6
                      by_cases h7 : x.number < 1
                      · skip
                        have t7c : decide (x.number < 1) = true := decide_eq_true h7
                        have hno : LR 0 0 = false := by
                          rw [HSTEP.out]
                          refine Bool.eq_false_iff.2 fun h => ?_
                          simp only [Bool.and_eq_true, decide_eq_true_eq] at h
                          first | omega | (exact absurd h.1.2.1.1.1.1.1.1 (by decide)) | (simp at h)
                        have hR : R = false := by rw [HR2.out, hno]; rfl
                        subst hR
                        clear hno
                        have qE0 : W4.cell? ⟨E9, 0, none⟩ = some (.int .i64 x.id) := cell_at HE.out 0
                        have qE1 : W4.cell? ⟨E9, 1, none⟩ = some (.int .i64 x.tenant) := cell_at HE.out 1
                        have qE2 : W4.cell? ⟨E9, 2, none⟩ = some (.int .i64 x.shaper) := cell_at HE.out 2
                        have qE3 : W4.cell? ⟨E9, 3, none⟩ = some (.int .i64 x.epoch) := cell_at HE.out 3
                        have qE4 : W4.cell? ⟨E9, 4, none⟩ = some (.int .i64 x.number) := cell_at HE.out 4
                        have qE5 : W4.cell? ⟨E9, 5, none⟩ = some (.int .i64 x.size) := cell_at HE.out 5
                        have qE6 : W4.cell? ⟨E9, 6, none⟩ = some (.int .i64 x.spent) := cell_at HE.out 6
                        have qEz : ∀ j, W4.frozen? ⟨E9, j, none⟩ = false := fun j => free_at HE.out j
                        have qEl : E9 < W4.heap.size := HE.out.lt
                        have qR0 : W4.cell? ⟨N, 0, none⟩ = some (.int .i64 s.term) := cell_at HR.out 0
                        have qR1 : W4.cell? ⟨N, 1, none⟩ = some (.int .i64 s.stamp) := cell_at HR.out 1
                        have qR2 : W4.cell? ⟨N, 2, none⟩ = some (.int .i64 s.next) := cell_at HR.out 2
                        have qR3 : W4.cell? ⟨N, 3, none⟩ = some (.slice ta tn tc) := cell_at HR.out 3
                        have qR4 : W4.cell? ⟨N, 4, none⟩ = some (.slice (some ⟨g, o, none⟩) ln lc) := cell_at HR.out 4
                        have qR5 : W4.cell? ⟨N, 5, none⟩ = some (.slice sa sn sc) := cell_at HR.out 5
                        have qR6 : W4.cell? ⟨N, 6, none⟩ = some (.slice da dn dc) := cell_at HR.out 6
                        have qRz : ∀ j, W4.frozen? ⟨N, j, none⟩ = false := fun j => free_at HR.out j
                        have qRl : N < W4.heap.size := HR.out.lt
                        go_wp2_with fail
                        try simp only [List.append]
                        (refine wp_region_quiet_lit (by kernel_rfl) (by kernel_rfl) ?_; (repeat (first | go_big_quiet_step (fail) | (refine BigFrame.wpQuiet_skip (by rfl) ?_; try simp only [Act.put, List.setIfInBounds_toArray, List.set_cons_zero, List.set_cons_succ]))); refine wpQuiet_nil ?_; intro _ hw9; obtain ⟨nq, hw8⟩ := hw9; subst hw8)
                        clear qE0 qE1 qE2 qE3 qE4 qE5 qE6 qEz qEl qR0 qR1 qR2 qR3 qR4 qR5 qR6 qRz qRl
                        obtain ⟨W5, hWn⟩ : ∃ X, X = W4.drewN nq := ⟨_, rfl⟩
                        rw [← hWn]
                        have hB : Below W4.heap.size W4 W5 := by rw [hWn]; exact dN _ _
                        clear hWn
                        replace HB := Lib.hid (HB.out.trans (hB.mono HB.out.size))
                        replace HT := Lib.hid (HT0.out.below HB.out)
                        replace HL := Lib.hid (HL0.out.below HB.out)
                        replace HS := Lib.hid (HS0.out.below HB.out)
                        replace HD := Lib.hid (HD0.out.below HB.out)
                        replace HR := Lib.hid (HR.out.step hB)
                        replace HBC := Lib.hid (HBC.out.trans (hB.mono HBC.out.size))
                        replace HE := Lib.hid (HE.out.step hB)
                        replace HF9 := Lib.hid (HF9.out.step hB)
                        clear hB
                        go_wp2_with fail
                        go_ret
                        exact ⟨rfl, HB.out⟩
                      · skip
                        have t7c : decide (x.number < 1) = false := decide_eq_false h7
                        by_cases h8 : x.size < 1
                        · skip
                          have t8c : decide (x.size < 1) = true := decide_eq_true h8
                          have hno : LR 0 0 = false := by
                            rw [HSTEP.out]
                            refine Bool.eq_false_iff.2 fun h => ?_
                            simp only [Bool.and_eq_true, decide_eq_true_eq] at h
                            first | omega | (exact absurd h.1.2.1.1.1.1.1.1 (by decide)) | (simp at h)
                          have hR : R = false := by rw [HR2.out, hno]; rfl
                          subst hR
                          clear hno
                          have qE0 : W4.cell? ⟨E9, 0, none⟩ = some (.int .i64 x.id) := cell_at HE.out 0
                          have qE1 : W4.cell? ⟨E9, 1, none⟩ = some (.int .i64 x.tenant) := cell_at HE.out 1
                          have qE2 : W4.cell? ⟨E9, 2, none⟩ = some (.int .i64 x.shaper) := cell_at HE.out 2
                          have qE3 : W4.cell? ⟨E9, 3, none⟩ = some (.int .i64 x.epoch) := cell_at HE.out 3
                          have qE4 : W4.cell? ⟨E9, 4, none⟩ = some (.int .i64 x.number) := cell_at HE.out 4
                          have qE5 : W4.cell? ⟨E9, 5, none⟩ = some (.int .i64 x.size) := cell_at HE.out 5
                          have qE6 : W4.cell? ⟨E9, 6, none⟩ = some (.int .i64 x.spent) := cell_at HE.out 6
                          have qEz : ∀ j, W4.frozen? ⟨E9, j, none⟩ = false := fun j => free_at HE.out j
                          have qEl : E9 < W4.heap.size := HE.out.lt
                          have qR0 : W4.cell? ⟨N, 0, none⟩ = some (.int .i64 s.term) := cell_at HR.out 0
                          have qR1 : W4.cell? ⟨N, 1, none⟩ = some (.int .i64 s.stamp) := cell_at HR.out 1
                          have qR2 : W4.cell? ⟨N, 2, none⟩ = some (.int .i64 s.next) := cell_at HR.out 2
                          have qR3 : W4.cell? ⟨N, 3, none⟩ = some (.slice ta tn tc) := cell_at HR.out 3
                          have qR4 : W4.cell? ⟨N, 4, none⟩ = some (.slice (some ⟨g, o, none⟩) ln lc) := cell_at HR.out 4
                          have qR5 : W4.cell? ⟨N, 5, none⟩ = some (.slice sa sn sc) := cell_at HR.out 5
                          have qR6 : W4.cell? ⟨N, 6, none⟩ = some (.slice da dn dc) := cell_at HR.out 6
                          have qRz : ∀ j, W4.frozen? ⟨N, j, none⟩ = false := fun j => free_at HR.out j
                          have qRl : N < W4.heap.size := HR.out.lt
                          go_wp2_with fail
                          try simp only [List.append]
                          (refine wp_region_quiet_lit (by kernel_rfl) (by kernel_rfl) ?_; (repeat (first | go_big_quiet_step (fail) | (refine BigFrame.wpQuiet_skip (by rfl) ?_; try simp only [Act.put, List.setIfInBounds_toArray, List.set_cons_zero, List.set_cons_succ]))); refine wpQuiet_nil ?_; intro _ hw9; obtain ⟨nq, hw8⟩ := hw9; subst hw8)
                          clear qE0 qE1 qE2 qE3 qE4 qE5 qE6 qEz qEl qR0 qR1 qR2 qR3 qR4 qR5 qR6 qRz qRl
                          obtain ⟨W5, hWn⟩ : ∃ X, X = W4.drewN nq := ⟨_, rfl⟩
                          rw [← hWn]
                          have hB : Below W4.heap.size W4 W5 := by rw [hWn]; exact dN _ _
                          clear hWn
                          replace HB := Lib.hid (HB.out.trans (hB.mono HB.out.size))
                          replace HT := Lib.hid (HT0.out.below HB.out)
                          replace HL := Lib.hid (HL0.out.below HB.out)
                          replace HS := Lib.hid (HS0.out.below HB.out)
                          replace HD := Lib.hid (HD0.out.below HB.out)
                          replace HR := Lib.hid (HR.out.step hB)
                          replace HBC := Lib.hid (HBC.out.trans (hB.mono HBC.out.size))
                          replace HE := Lib.hid (HE.out.step hB)
                          replace HF9 := Lib.hid (HF9.out.step hB)
                          clear hB
                          go_wp2_with fail
                          go_ret
                          exact ⟨rfl, HB.out⟩
                        · skip
                          have t8c : decide (x.size < 1) = false := decide_eq_false h8
                          by_cases h9 : 1000000 < x.size
                          · skip
                            have t9c : decide (1000000 < x.size) = true := decide_eq_true h9
                            have hno : LR 0 0 = false := by
                              rw [HSTEP.out]
                              refine Bool.eq_false_iff.2 fun h => ?_
                              simp only [Bool.and_eq_true, decide_eq_true_eq] at h
                              first | omega | (exact absurd h.1.2.1.1.1.1.1.1 (by decide)) | (simp at h)
                            have hR : R = false := by rw [HR2.out, hno]; rfl
                            subst hR
                            clear hno
                            have qE0 : W4.cell? ⟨E9, 0, none⟩ = some (.int .i64 x.id) := cell_at HE.out 0
                            have qE1 : W4.cell? ⟨E9, 1, none⟩ = some (.int .i64 x.tenant) := cell_at HE.out 1
                            have qE2 : W4.cell? ⟨E9, 2, none⟩ = some (.int .i64 x.shaper) := cell_at HE.out 2
                            have qE3 : W4.cell? ⟨E9, 3, none⟩ = some (.int .i64 x.epoch) := cell_at HE.out 3
                            have qE4 : W4.cell? ⟨E9, 4, none⟩ = some (.int .i64 x.number) := cell_at HE.out 4
                            have qE5 : W4.cell? ⟨E9, 5, none⟩ = some (.int .i64 x.size) := cell_at HE.out 5
                            have qE6 : W4.cell? ⟨E9, 6, none⟩ = some (.int .i64 x.spent) := cell_at HE.out 6
                            have qEz : ∀ j, W4.frozen? ⟨E9, j, none⟩ = false := fun j => free_at HE.out j
                            have qEl : E9 < W4.heap.size := HE.out.lt
                            have qR0 : W4.cell? ⟨N, 0, none⟩ = some (.int .i64 s.term) := cell_at HR.out 0
                            have qR1 : W4.cell? ⟨N, 1, none⟩ = some (.int .i64 s.stamp) := cell_at HR.out 1
                            have qR2 : W4.cell? ⟨N, 2, none⟩ = some (.int .i64 s.next) := cell_at HR.out 2
                            have qR3 : W4.cell? ⟨N, 3, none⟩ = some (.slice ta tn tc) := cell_at HR.out 3
                            have qR4 : W4.cell? ⟨N, 4, none⟩ = some (.slice (some ⟨g, o, none⟩) ln lc) := cell_at HR.out 4
                            have qR5 : W4.cell? ⟨N, 5, none⟩ = some (.slice sa sn sc) := cell_at HR.out 5
                            have qR6 : W4.cell? ⟨N, 6, none⟩ = some (.slice da dn dc) := cell_at HR.out 6
                            have qRz : ∀ j, W4.frozen? ⟨N, j, none⟩ = false := fun j => free_at HR.out j
                            have qRl : N < W4.heap.size := HR.out.lt
                            go_wp2_with fail
                            try simp only [List.append]
                            (refine wp_region_quiet_lit (by kernel_rfl) (by kernel_rfl) ?_; (repeat (first | go_big_quiet_step (fail) | (refine BigFrame.wpQuiet_skip (by rfl) ?_; try simp only [Act.put, List.setIfInBounds_toArray, List.set_cons_zero, List.set_cons_succ]))); refine wpQuiet_nil ?_; intro _ hw9; obtain ⟨nq, hw8⟩ := hw9; subst hw8)
                            clear qE0 qE1 qE2 qE3 qE4 qE5 qE6 qEz qEl qR0 qR1 qR2 qR3 qR4 qR5 qR6 qRz qRl
                            obtain ⟨W5, hWn⟩ : ∃ X, X = W4.drewN nq := ⟨_, rfl⟩
                            rw [← hWn]
                            have hB : Below W4.heap.size W4 W5 := by rw [hWn]; exact dN _ _
                            clear hWn
                            replace HB := Lib.hid (HB.out.trans (hB.mono HB.out.size))
                            replace HT := Lib.hid (HT0.out.below HB.out)
                            replace HL := Lib.hid (HL0.out.below HB.out)
                            replace HS := Lib.hid (HS0.out.below HB.out)
                            replace HD := Lib.hid (HD0.out.below HB.out)
                            replace HR := Lib.hid (HR.out.step hB)
                            replace HBC := Lib.hid (HBC.out.trans (hB.mono HBC.out.size))
                            replace HE := Lib.hid (HE.out.step hB)
                            replace HF9 := Lib.hid (HF9.out.step hB)
                            clear hB
                            go_wp2_with fail
                            go_ret
                            exact ⟨rfl, HB.out⟩
                          · skip
                            have t9c : decide (1000000 < x.size) = false := decide_eq_false h9
                            by_cases h10 : x.spent < 0
                            · skip
                              have t10c : decide (x.spent < 0) = true := decide_eq_true h10
                              have hno : LR 0 0 = false := by
                                rw [HSTEP.out]
                                refine Bool.eq_false_iff.2 fun h => ?_
                                simp only [Bool.and_eq_true, decide_eq_true_eq] at h
                                first | omega | (exact absurd h.1.2.1.1.1.1.1.1 (by decide)) | (simp at h)
                              have hR : R = false := by rw [HR2.out, hno]; rfl
                              subst hR
                              clear hno
                              have qE0 : W4.cell? ⟨E9, 0, none⟩ = some (.int .i64 x.id) := cell_at HE.out 0
                              have qE1 : W4.cell? ⟨E9, 1, none⟩ = some (.int .i64 x.tenant) := cell_at HE.out 1
                              have qE2 : W4.cell? ⟨E9, 2, none⟩ = some (.int .i64 x.shaper) := cell_at HE.out 2
                              have qE3 : W4.cell? ⟨E9, 3, none⟩ = some (.int .i64 x.epoch) := cell_at HE.out 3
                              have qE4 : W4.cell? ⟨E9, 4, none⟩ = some (.int .i64 x.number) := cell_at HE.out 4
                              have qE5 : W4.cell? ⟨E9, 5, none⟩ = some (.int .i64 x.size) := cell_at HE.out 5
                              have qE6 : W4.cell? ⟨E9, 6, none⟩ = some (.int .i64 x.spent) := cell_at HE.out 6
                              have qEz : ∀ j, W4.frozen? ⟨E9, j, none⟩ = false := fun j => free_at HE.out j
                              have qEl : E9 < W4.heap.size := HE.out.lt
                              have qR0 : W4.cell? ⟨N, 0, none⟩ = some (.int .i64 s.term) := cell_at HR.out 0
                              have qR1 : W4.cell? ⟨N, 1, none⟩ = some (.int .i64 s.stamp) := cell_at HR.out 1
                              have qR2 : W4.cell? ⟨N, 2, none⟩ = some (.int .i64 s.next) := cell_at HR.out 2
                              have qR3 : W4.cell? ⟨N, 3, none⟩ = some (.slice ta tn tc) := cell_at HR.out 3
                              have qR4 : W4.cell? ⟨N, 4, none⟩ = some (.slice (some ⟨g, o, none⟩) ln lc) := cell_at HR.out 4
                              have qR5 : W4.cell? ⟨N, 5, none⟩ = some (.slice sa sn sc) := cell_at HR.out 5
                              have qR6 : W4.cell? ⟨N, 6, none⟩ = some (.slice da dn dc) := cell_at HR.out 6
                              have qRz : ∀ j, W4.frozen? ⟨N, j, none⟩ = false := fun j => free_at HR.out j
                              have qRl : N < W4.heap.size := HR.out.lt
                              go_wp2_with fail
                              try simp only [List.append]
                              (refine wp_region_quiet_lit (by kernel_rfl) (by kernel_rfl) ?_; (repeat (first | go_big_quiet_step (fail) | (refine BigFrame.wpQuiet_skip (by rfl) ?_; try simp only [Act.put, List.setIfInBounds_toArray, List.set_cons_zero, List.set_cons_succ]))); refine wpQuiet_nil ?_; intro _ hw9; obtain ⟨nq, hw8⟩ := hw9; subst hw8)
                              clear qE0 qE1 qE2 qE3 qE4 qE5 qE6 qEz qEl qR0 qR1 qR2 qR3 qR4 qR5 qR6 qRz qRl
                              obtain ⟨W5, hWn⟩ : ∃ X, X = W4.drewN nq := ⟨_, rfl⟩
                              rw [← hWn]
                              have hB : Below W4.heap.size W4 W5 := by rw [hWn]; exact dN _ _
                              clear hWn
                              replace HB := Lib.hid (HB.out.trans (hB.mono HB.out.size))
                              replace HT := Lib.hid (HT0.out.below HB.out)
                              replace HL := Lib.hid (HL0.out.below HB.out)
                              replace HS := Lib.hid (HS0.out.below HB.out)
                              replace HD := Lib.hid (HD0.out.below HB.out)
                              replace HR := Lib.hid (HR.out.step hB)
                              replace HBC := Lib.hid (HBC.out.trans (hB.mono HBC.out.size))
                              replace HE := Lib.hid (HE.out.step hB)
                              replace HF9 := Lib.hid (HF9.out.step hB)
                              clear hB
                              go_wp2_with fail
                              go_ret
                              exact ⟨rfl, HB.out⟩
                            · skip
                              have t10c : decide (x.spent < 0) = false := decide_eq_false h10
                              by_cases h11 : x.size ≤ x.spent
                              · skip
                                have t11c : decide (x.size ≤ x.spent) = true := decide_eq_true h11
                                have hno : LR 0 0 = false := by
                                  rw [HSTEP.out]
                                  refine Bool.eq_false_iff.2 fun h => ?_
                                  simp only [Bool.and_eq_true, decide_eq_true_eq] at h
                                  first | omega | (exact absurd h.1.2.1.1.1.1.1.1 (by decide)) | (simp at h)
                                have hR : R = false := by rw [HR2.out, hno]; rfl
                                subst hR
                                clear hno
                                have qE0 : W4.cell? ⟨E9, 0, none⟩ = some (.int .i64 x.id) := cell_at HE.out 0
                                have qE1 : W4.cell? ⟨E9, 1, none⟩ = some (.int .i64 x.tenant) := cell_at HE.out 1
                                have qE2 : W4.cell? ⟨E9, 2, none⟩ = some (.int .i64 x.shaper) := cell_at HE.out 2
                                have qE3 : W4.cell? ⟨E9, 3, none⟩ = some (.int .i64 x.epoch) := cell_at HE.out 3
                                have qE4 : W4.cell? ⟨E9, 4, none⟩ = some (.int .i64 x.number) := cell_at HE.out 4
                                have qE5 : W4.cell? ⟨E9, 5, none⟩ = some (.int .i64 x.size) := cell_at HE.out 5
                                have qE6 : W4.cell? ⟨E9, 6, none⟩ = some (.int .i64 x.spent) := cell_at HE.out 6
                                have qEz : ∀ j, W4.frozen? ⟨E9, j, none⟩ = false := fun j => free_at HE.out j
                                have qEl : E9 < W4.heap.size := HE.out.lt
                                have qR0 : W4.cell? ⟨N, 0, none⟩ = some (.int .i64 s.term) := cell_at HR.out 0
                                have qR1 : W4.cell? ⟨N, 1, none⟩ = some (.int .i64 s.stamp) := cell_at HR.out 1
                                have qR2 : W4.cell? ⟨N, 2, none⟩ = some (.int .i64 s.next) := cell_at HR.out 2
                                have qR3 : W4.cell? ⟨N, 3, none⟩ = some (.slice ta tn tc) := cell_at HR.out 3
                                have qR4 : W4.cell? ⟨N, 4, none⟩ = some (.slice (some ⟨g, o, none⟩) ln lc) := cell_at HR.out 4
                                have qR5 : W4.cell? ⟨N, 5, none⟩ = some (.slice sa sn sc) := cell_at HR.out 5
                                have qR6 : W4.cell? ⟨N, 6, none⟩ = some (.slice da dn dc) := cell_at HR.out 6
                                have qRz : ∀ j, W4.frozen? ⟨N, j, none⟩ = false := fun j => free_at HR.out j
                                have qRl : N < W4.heap.size := HR.out.lt
                                go_wp2_with fail
                                try simp only [List.append]
                                (refine wp_region_quiet_lit (by kernel_rfl) (by kernel_rfl) ?_; (repeat (first | go_big_quiet_step (fail) | (refine BigFrame.wpQuiet_skip (by rfl) ?_; try simp only [Act.put, List.setIfInBounds_toArray, List.set_cons_zero, List.set_cons_succ]))); refine wpQuiet_nil ?_; intro _ hw9; obtain ⟨nq, hw8⟩ := hw9; subst hw8)
                                clear qE0 qE1 qE2 qE3 qE4 qE5 qE6 qEz qEl qR0 qR1 qR2 qR3 qR4 qR5 qR6 qRz qRl
                                obtain ⟨W5, hWn⟩ : ∃ X, X = W4.drewN nq := ⟨_, rfl⟩
                                rw [← hWn]
                                have hB : Below W4.heap.size W4 W5 := by rw [hWn]; exact dN _ _
                                clear hWn
                                replace HB := Lib.hid (HB.out.trans (hB.mono HB.out.size))
                                replace HT := Lib.hid (HT0.out.below HB.out)
                                replace HL := Lib.hid (HL0.out.below HB.out)
                                replace HS := Lib.hid (HS0.out.below HB.out)
                                replace HD := Lib.hid (HD0.out.below HB.out)
                                replace HR := Lib.hid (HR.out.step hB)
                                replace HBC := Lib.hid (HBC.out.trans (hB.mono HBC.out.size))
                                replace HE := Lib.hid (HE.out.step hB)
                                replace HF9 := Lib.hid (HF9.out.step hB)
                                clear hB
                                go_wp2_with fail
                                go_ret
                                exact ⟨rfl, HB.out⟩
                              · skip
                                have t11c : decide (x.size ≤ x.spent) = false := decide_eq_false h11
                                have hyes : LR 0 0 = LR x.id (i + 1) := by
                                  rw [HSTEP.out]
                                  have e1 : decide (la0 < x.id) = true := decide_eq_true (by omega)
                                  have e2 : decide (x.id < s.next) = true := decide_eq_true (by omega)
                                  have e3 : decide (1 ≤ x.shaper) = true := decide_eq_true (by omega)
                                  have e4 : decide (x.shaper ≤ 8) = true := decide_eq_true (by omega)
                                  have e5 : decide (1 ≤ x.epoch) = true := decide_eq_true (by omega)
                                  have e6 : decide (1 ≤ x.number) = true := decide_eq_true (by omega)
                                  have e7 : decide (1 ≤ x.size) = true := decide_eq_true (by omega)
                                  have e8 : decide (x.size ≤ 1000000) = true := decide_eq_true (by omega)
                                  have e9 : decide (0 ≤ x.spent) = true := decide_eq_true (by omega)
                                  have ea : decide (x.spent < x.size) = true := decide_eq_true (by omega)
                                  rw [e1, e2, e3, e4, e5, e6, e7, e8, e9, ea]
                                  simp
                                have HYES := Lib.hid hyes
                                have hx1 : 1 ≤ x.id := by omega
                                have hnx : lastId s.ls (i + 1) = x.id := by
                                  show (match s.ls[i]? with | some x => x.id | none => 0) = _
                                  rw [HG2.out]
                                have HNX := Lib.hid hnx
                                clear hyes hnx
                                have qE0 : W4.cell? ⟨E9, 0, none⟩ = some (.int .i64 x.id) := cell_at HE.out 0
                                have qE1 : W4.cell? ⟨E9, 1, none⟩ = some (.int .i64 x.tenant) := cell_at HE.out 1
                                have qE2 : W4.cell? ⟨E9, 2, none⟩ = some (.int .i64 x.shaper) := cell_at HE.out 2
                                have qE3 : W4.cell? ⟨E9, 3, none⟩ = some (.int .i64 x.epoch) := cell_at HE.out 3
                                have qE4 : W4.cell? ⟨E9, 4, none⟩ = some (.int .i64 x.number) := cell_at HE.out 4
                                have qE5 : W4.cell? ⟨E9, 5, none⟩ = some (.int .i64 x.size) := cell_at HE.out 5
                                have qE6 : W4.cell? ⟨E9, 6, none⟩ = some (.int .i64 x.spent) := cell_at HE.out 6
                                have qEz : ∀ j, W4.frozen? ⟨E9, j, none⟩ = false := fun j => free_at HE.out j
                                have qEl : E9 < W4.heap.size := HE.out.lt
                                have qR0 : W4.cell? ⟨N, 0, none⟩ = some (.int .i64 s.term) := cell_at HR.out 0
                                have qR1 : W4.cell? ⟨N, 1, none⟩ = some (.int .i64 s.stamp) := cell_at HR.out 1
                                have qR2 : W4.cell? ⟨N, 2, none⟩ = some (.int .i64 s.next) := cell_at HR.out 2
                                have qR3 : W4.cell? ⟨N, 3, none⟩ = some (.slice ta tn tc) := cell_at HR.out 3
                                have qR4 : W4.cell? ⟨N, 4, none⟩ = some (.slice (some ⟨g, o, none⟩) ln lc) := cell_at HR.out 4
                                have qR5 : W4.cell? ⟨N, 5, none⟩ = some (.slice sa sn sc) := cell_at HR.out 5
                                have qR6 : W4.cell? ⟨N, 6, none⟩ = some (.slice da dn dc) := cell_at HR.out 6
                                have qRz : ∀ j, W4.frozen? ⟨N, j, none⟩ = false := fun j => free_at HR.out j
                                have qRl : N < W4.heap.size := HR.out.lt
                                go_wp2_with fail
                                try simp only [List.append]
                                (refine wp_region_quiet_lit (by kernel_rfl) (by kernel_rfl) ?_; (repeat (first | go_big_quiet_step (fail) | (refine BigFrame.wpQuiet_skip (by rfl) ?_; try simp only [Act.put, List.setIfInBounds_toArray, List.set_cons_zero, List.set_cons_succ]))); refine wpQuiet_nil ?_; intro _ hw9; obtain ⟨nq, hw8⟩ := hw9; subst hw8)
                                clear qE0 qE1 qE2 qE3 qE4 qE5 qE6 qEz qEl qR0 qR1 qR2 qR3 qR4 qR5 qR6 qRz qRl
                                obtain ⟨W5, hWn⟩ : ∃ X, X = W4.drewN nq := ⟨_, rfl⟩
                                rw [← hWn]
                                have hB : Below W4.heap.size W4 W5 := by rw [hWn]; exact dN _ _
                                clear hWn
                                replace HB := Lib.hid (HB.out.trans (hB.mono HB.out.size))
                                replace HT := Lib.hid (HT0.out.below HB.out)
                                replace HL := Lib.hid (HL0.out.below HB.out)
                                replace HS := Lib.hid (HS0.out.below HB.out)
                                replace HD := Lib.hid (HD0.out.below HB.out)
                                replace HR := Lib.hid (HR.out.step hB)
                                replace HBC := Lib.hid (HBC.out.trans (hB.mono HBC.out.size))
                                replace HE := Lib.hid (HE.out.step hB)
                                replace HF9 := Lib.hid (HF9.out.step hB)
                                clear hB
                                go_wp2_with fail
                                go_roundw
                                case rel => exact ⟨i + 1, by omega, by go_num, by rw [HNX.out]; exact HYES.out, (fun _ => by rw [HNX.out]; exact hx1), HBC.out⟩
                                case measure => first | (simp [intOf]; done) | (simp [intOf]; omega)
    · skip
      have b9 : (i < ln) = False := eq_false hk
      obtain rfl : ln = i := by omega
      have hlr : LR 0 0 = true := HLR.out.trans (HEND.out _)
      have hR : R = (decide (ln ≤ 64) && decide (1 ≤ s.next) && decide (s.next ≤ 1099511627776)) := by rw [HR2.out, hlr]; simp
      have HRR := Lib.hid hR
      clear hlr hR
      by_cases e1 : ln ≤ 64
      all_goals
        by_cases e2 : 1 ≤ s.next
        all_goals
          by_cases e3 : s.next ≤ 1099511627776
          all_goals
            first | have u1 : decide ((ln : Int) ≤ 64) = true := decide_eq_true (by omega) | have u1 : decide ((ln : Int) ≤ 64) = false := decide_eq_false (by omega)
            first | have u4 : decide (ln ≤ 64) = true := decide_eq_true (by omega) | have u4 : decide (ln ≤ 64) = false := decide_eq_false (by omega)
            first | have u2 : decide (1 ≤ s.next) = true := decide_eq_true (by omega) | have u2 : decide (1 ≤ s.next) = false := decide_eq_false (by omega)
            first | have u3 : decide (s.next ≤ 1099511627776) = true := decide_eq_true (by omega) | have u3 : decide (s.next ≤ 1099511627776) = false := decide_eq_false (by omega)
            have hrr := HRR.out
            rw [u4, u2, u3] at hrr
            subst hrr
            clear e1 e2 e3
            have qR0 : wr.cell? ⟨N, 0, none⟩ = some (.int .i64 s.term) := cell_at HR.out 0
            have qR1 : wr.cell? ⟨N, 1, none⟩ = some (.int .i64 s.stamp) := cell_at HR.out 1
            have qR2 : wr.cell? ⟨N, 2, none⟩ = some (.int .i64 s.next) := cell_at HR.out 2
            have qR3 : wr.cell? ⟨N, 3, none⟩ = some (.slice ta tn tc) := cell_at HR.out 3
            have qR4 : wr.cell? ⟨N, 4, none⟩ = some (.slice la ln lc) := cell_at HR.out 4
            have qR5 : wr.cell? ⟨N, 5, none⟩ = some (.slice sa sn sc) := cell_at HR.out 5
            have qR6 : wr.cell? ⟨N, 6, none⟩ = some (.slice da dn dc) := cell_at HR.out 6
            have qRz : ∀ j, wr.frozen? ⟨N, j, none⟩ = false := fun j => free_at HR.out j
            have qRl : N < wr.heap.size := HR.out.lt
            go_wp2_with fail
            go_ret
            exact ⟨rfl, HB.out⟩
end Go.Proofs.Ytfgnjpdlchimpaa
namespace Go.Proofs.Ytfgnjpdlchimpaa
open Go.RowKit
set_option linter.unusedSimpArgs false
set_option linter.unusedVariables false

def capT (ls : List LeE) (t : TnE) : Bool := decide (0 < t.bkt) && decide (1000 * t.burst < t.bkt + 1000 * outL ls t.id)
def capB (ls : List LeE) (ts : List TnE) : Bool := ts.all fun t => !capT ls t
def chkS (s : StE) : Bool := chk s.ts && lesB s && capB s.ls s.ts
theorem chkF_bd : ∀ (L : List TnE) (last : Int), chkF last L = true → ∀ x ∈ L, 0 ≤ x.bkt ∧ x.bkt ≤ 1000000000 ∧ 0 ≤ x.burst ∧ x.burst ≤ 1000000
  | [], _, _ => fun x h => absurd h (by simp)
  | y :: r, last, h => by
    unfold chkF mayT fullB mayB at h
    simp only [Bool.and_eq_true, decide_eq_true_eq] at h
    intro x hx
    rcases List.mem_cons.1 hx with rfl | hx
    · omega
    · exact chkF_bd r y.id h.2 x hx
theorem cap_drop {L : List TnE} {k : Nat} {x : TnE} (ls : List LeE) (h : L[k]? = some x) : capB ls (L.drop k) = (!capT ls x && capB ls (L.drop (k + 1))) := by
  have hk := (List.getElem?_eq_some_iff.1 h).1
  have hx : L[k] = x := by have := List.getElem?_eq_getElem hk; rw [this] at h; exact Option.some.inj h
  rw [List.drop_eq_getElem_cons hk, hx]
  rfl
theorem TV.at {W : World} {a : Option Addr} {n c : Nat} {L : List TnE} (h : TV W (.slice a n c) L) (k : Nat) (hk : k < n) : ∃ (g o : Nat) (e : TnE), a = some ⟨g, o, none⟩ ∧ g < W.heap.size ∧ L[k]? = some e ∧ W.cell? ⟨g, o + k * 5, none⟩ = some (.int .i64 e.id) ∧ W.cell? ⟨g, o + k * 5 + 1, none⟩ = some (.int .i64 e.rate) ∧ W.cell? ⟨g, o + k * 5 + 2, none⟩ = some (.int .i64 e.burst) ∧ W.cell? ⟨g, o + k * 5 + 3, none⟩ = some (.int .i64 e.bkt) ∧ W.cell? ⟨g, o + k * 5 + 4, none⟩ = some (.bool e.gone) := by
  obtain ⟨a', b, o, c', ee, h⟩ := h
  injection ee with e1 e2 e3
  subst e1 e2 e3
  have h1 := h.at_ (by omega)
  exact ⟨b, o, gt L k, h1.1, h1.2, gt_lt hk, h.cell k hk⟩
set_option maxRecDepth 100000 in
set_option maxHeartbeats 16000000 in
theorem rcheckS_any (v : Value) (s : StE) (w : World) (h : SV w v s) (hf : fewS s) :
    Calls Try.prog 13 #[v] w fun e w' => e = .returned (.bool (chkS s)) ∧ Below w.heap.size w w' := by
  have HFEW := Lib.hid hf
  obtain ⟨f1, f2, f3, f4⟩ := hf
  obtain ⟨vt, vl, vs, vd, rfl, ht, hl, hs, hd⟩ := h
  obtain ⟨ta, tn, tc, rfl, Htn, tn1, tn2⟩ := ht.sh
  obtain ⟨la, ln, lc, rfl, Hln, ln1, ln2⟩ := hl.sh
  obtain ⟨sa, sn, sc, rfl, Hsn, sn1, sn2⟩ := hs.sh
  obtain ⟨da, dn, dc, rfl, Hdn, dn1, dn2⟩ := hd.sh
  have HT0 := Lib.hid ht
  have HL0 := Lib.hid hl
  have HS0 := Lib.hid hs
  have HD0 := Lib.hid hd
  have HT := Lib.hid ht
  have HL := Lib.hid hl
  have HS := Lib.hid hs
  have HD := Lib.hid hd
  clear ht hl hs hd
  rw [← Htn.out] at f1
  have HCT := Lib.hid (fun W (h : TV W (.slice ta tn tc) s.ts) => rcheck_any _ s.ts W h)
  have HSV : Hid (∀ W, TV W (.slice ta tn tc) s.ts → LeV W (.slice la ln lc) s.ls → SeV W (.slice sa sn sc) s.ss → DkV W (.slice da dn dc) s.ds → SV W (.agg #[.int .i64 s.term, .int .i64 s.stamp, .int .i64 s.next, .slice ta tn tc, .slice la ln lc, .slice sa sn sc, .slice da dn dc]) s) := Lib.hid (fun W h1 h2 h3 h4 => ⟨_, _, _, _, rfl, h1, h2, h3, h4⟩)
  have HLE := Lib.hid (fun W v (h : SV W v s) => rleases_any v s W h HFEW.out)
  obtain ⟨CT, hCT⟩ : ∃ CT, CT = chk s.ts := ⟨_, rfl⟩
  obtain ⟨LB, hLB⟩ : ∃ LB, LB = lesB s := ⟨_, rfl⟩
  rw [← hCT] at HCT
  rw [← hLB] at HLE
  obtain ⟨R, hR⟩ : ∃ R, R = chkS s := ⟨_, rfl⟩
  rw [← hR]
  unfold chkS at hR
  rw [← hCT, ← hLB] at hR
  obtain ⟨CB, hCB⟩ : ∃ CB : Nat → Bool, CB = fun k => capB s.ls (s.ts.drop k) := ⟨_, rfl⟩
  have h0 : capB s.ls s.ts = CB 0 := by rw [hCB]; simp only [List.drop_zero]
  rw [h0] at hR
  have HR9 := Lib.hid hR
  have HCB : Hid (∀ k x, s.ts[k]? = some x → CB k = (!capT s.ls x && CB (k + 1))) := Lib.hid (fun k x h => by rw [hCB]; exact cap_drop s.ls h)
  have HCE : Hid (CB tn = true) := Lib.hid (by rw [hCB, Htn.out]; simp only [List.drop_length]; rfl)
  have HCTE := Lib.hid hCT
  have HLBE := Lib.hid hLB
  clear hR hCT hLB hCB h0
  have HB : Hid (Below w.heap.size w w) := Lib.hid (Below.refl _ _)
  go_enter Try.func13, Try.ntmps13
  go_upto_region 1 with fail
  obtain ⟨N, hN⟩ : ∃ n0, n0 = w.heap.size := ⟨_, rfl⟩
  have HLON : Hid (w.heap.size ≤ N) := Lib.hid (by have := HB.out.size; omega)
  obtain ⟨W1, hA0⟩ : ∃ W0, W0 = w.alloc (.cells #[.int .i64 s.term, .int .i64 s.stamp, .int .i64 s.next, .slice ta tn tc, .slice la ln lc, .slice sa sn sc, .slice da dn dc] 27) := ⟨_, rfl⟩
  have hB : Below w.heap.size w W1 := by rw [hA0]; exact (Below.refl _ _).alloc (Nat.le_refl _) _
  have hS0 : W1.heap.size = N + 1 := by rw [hA0]; simp [← hN]
  have HR := Lib.hid (show Blk W1 N #[.int .i64 s.term, .int .i64 s.stamp, .int .i64 s.next, .slice ta tn tc, .slice la ln lc, .slice sa sn sc, .slice da dn dc] 27 by rw [hA0, hN]; exact blk_new _ _ _)
  replace HB := Lib.hid (HB.out.trans (hB.mono HB.out.size))
  replace HT := Lib.hid (HT0.out.below HB.out)
  replace HL := Lib.hid (HL0.out.below HB.out)
  replace HS := Lib.hid (HS0.out.below HB.out)
  replace HD := Lib.hid (HD0.out.below HB.out)
  clear hB
  have HSN := Lib.hid hS0
  rw [← hN, ← hA0]
  clear hA0 hN hS0
  have qR0 : W1.cell? ⟨N, 0, none⟩ = some (.int .i64 s.term) := cell_at HR.out 0
  have qR1 : W1.cell? ⟨N, 1, none⟩ = some (.int .i64 s.stamp) := cell_at HR.out 1
  have qR2 : W1.cell? ⟨N, 2, none⟩ = some (.int .i64 s.next) := cell_at HR.out 2
  have qR3 : W1.cell? ⟨N, 3, none⟩ = some (.slice ta tn tc) := cell_at HR.out 3
  have qR4 : W1.cell? ⟨N, 4, none⟩ = some (.slice la ln lc) := cell_at HR.out 4
  have qR5 : W1.cell? ⟨N, 5, none⟩ = some (.slice sa sn sc) := cell_at HR.out 5
  have qR6 : W1.cell? ⟨N, 6, none⟩ = some (.slice da dn dc) := cell_at HR.out 6
  have qRz : ∀ j, W1.frozen? ⟨N, j, none⟩ = false := fun j => free_at HR.out j
  have qRl : N < W1.heap.size := HR.out.lt
  go_wp2_with fail
  go_at_call 30
  go_fit (HCT.out _ HT.out)
  rintro e W2 ⟨rfl, hB⟩
  clear qR0 qR1 qR2 qR3 qR4 qR5 qR6 qRz qRl
  replace HB := Lib.hid (HB.out.trans (hB.mono HB.out.size))
  replace HT := Lib.hid (HT0.out.below HB.out)
  replace HL := Lib.hid (HL0.out.below HB.out)
  replace HS := Lib.hid (HS0.out.below HB.out)
  replace HD := Lib.hid (HD0.out.below HB.out)
  replace HR := Lib.hid (HR.out.step hB)
  clear hB
  cases CT
  · skip
    obtain rfl := HR9.out
    have qR0 : W2.cell? ⟨N, 0, none⟩ = some (.int .i64 s.term) := cell_at HR.out 0
    have qR1 : W2.cell? ⟨N, 1, none⟩ = some (.int .i64 s.stamp) := cell_at HR.out 1
    have qR2 : W2.cell? ⟨N, 2, none⟩ = some (.int .i64 s.next) := cell_at HR.out 2
    have qR3 : W2.cell? ⟨N, 3, none⟩ = some (.slice ta tn tc) := cell_at HR.out 3
    have qR4 : W2.cell? ⟨N, 4, none⟩ = some (.slice la ln lc) := cell_at HR.out 4
    have qR5 : W2.cell? ⟨N, 5, none⟩ = some (.slice sa sn sc) := cell_at HR.out 5
    have qR6 : W2.cell? ⟨N, 6, none⟩ = some (.slice da dn dc) := cell_at HR.out 6
    have qRz : ∀ j, W2.frozen? ⟨N, j, none⟩ = false := fun j => free_at HR.out j
    have qRl : N < W2.heap.size := HR.out.lt
    go_wp2_with fail
    go_ret
    exact ⟨rfl, HB.out⟩
  · skip
    have qR0 : W2.cell? ⟨N, 0, none⟩ = some (.int .i64 s.term) := cell_at HR.out 0
    have qR1 : W2.cell? ⟨N, 1, none⟩ = some (.int .i64 s.stamp) := cell_at HR.out 1
    have qR2 : W2.cell? ⟨N, 2, none⟩ = some (.int .i64 s.next) := cell_at HR.out 2
    have qR3 : W2.cell? ⟨N, 3, none⟩ = some (.slice ta tn tc) := cell_at HR.out 3
    have qR4 : W2.cell? ⟨N, 4, none⟩ = some (.slice la ln lc) := cell_at HR.out 4
    have qR5 : W2.cell? ⟨N, 5, none⟩ = some (.slice sa sn sc) := cell_at HR.out 5
    have qR6 : W2.cell? ⟨N, 6, none⟩ = some (.slice da dn dc) := cell_at HR.out 6
    have qRz : ∀ j, W2.frozen? ⟨N, j, none⟩ = false := fun j => free_at HR.out j
    have qRl : N < W2.heap.size := HR.out.lt
    go_wp2_with fail
    go_at_call 31
    go_fit (HLE.out _ _ (HSV.out _ HT.out HL.out HS.out HD.out))
    rintro e W3 ⟨rfl, hB⟩
    clear qR0 qR1 qR2 qR3 qR4 qR5 qR6 qRz qRl
    replace HB := Lib.hid (HB.out.trans (hB.mono HB.out.size))
    replace HT := Lib.hid (HT0.out.below HB.out)
    replace HL := Lib.hid (HL0.out.below HB.out)
    replace HS := Lib.hid (HS0.out.below HB.out)
    replace HD := Lib.hid (HD0.out.below HB.out)
    replace HR := Lib.hid (HR.out.step hB)
    clear hB
    cases LB
    · skip
      obtain rfl := HR9.out
      have qR0 : W3.cell? ⟨N, 0, none⟩ = some (.int .i64 s.term) := cell_at HR.out 0
      have qR1 : W3.cell? ⟨N, 1, none⟩ = some (.int .i64 s.stamp) := cell_at HR.out 1
      have qR2 : W3.cell? ⟨N, 2, none⟩ = some (.int .i64 s.next) := cell_at HR.out 2
      have qR3 : W3.cell? ⟨N, 3, none⟩ = some (.slice ta tn tc) := cell_at HR.out 3
      have qR4 : W3.cell? ⟨N, 4, none⟩ = some (.slice la ln lc) := cell_at HR.out 4
      have qR5 : W3.cell? ⟨N, 5, none⟩ = some (.slice sa sn sc) := cell_at HR.out 5
      have qR6 : W3.cell? ⟨N, 6, none⟩ = some (.slice da dn dc) := cell_at HR.out 6
      have qRz : ∀ j, W3.frozen? ⟨N, j, none⟩ = false := fun j => free_at HR.out j
      have qRl : N < W3.heap.size := HR.out.lt
      go_wp2_with fail
      go_ret
      exact ⟨rfl, HB.out⟩
    · skip
      have hsz : sizeB s.ls := by
        have h := HLBE.out
        unfold lesB at h
        have h1 : lesR s.ts s.next 0 s.ls = true := by
          cases hq : lesR s.ts s.next 0 s.ls
          · rw [hq] at h; simp at h
          · rfl
        exact lesR_size _ _ _ _ h1
      have hl64 : s.ls.length ≤ 64 := by
        have h := HLBE.out.symm
        unfold lesB at h
        simp only [Bool.and_eq_true, decide_eq_true_eq] at h
        exact h.1.1.2
      have HOU := Lib.hid (fun t W v (h : SV W v s) => rout_any v s t W h HFEW.out hsz)
      have HBO := Lib.hid (fun t => outL_bd s.ls t hsz)
      have HBT := Lib.hid (chkF_bd s.ts 0 HCTE.out.symm)
      clear hsz
      have qR0 : W3.cell? ⟨N, 0, none⟩ = some (.int .i64 s.term) := cell_at HR.out 0
      have qR1 : W3.cell? ⟨N, 1, none⟩ = some (.int .i64 s.stamp) := cell_at HR.out 1
      have qR2 : W3.cell? ⟨N, 2, none⟩ = some (.int .i64 s.next) := cell_at HR.out 2
      have qR3 : W3.cell? ⟨N, 3, none⟩ = some (.slice ta tn tc) := cell_at HR.out 3
      have qR4 : W3.cell? ⟨N, 4, none⟩ = some (.slice la ln lc) := cell_at HR.out 4
      have qR5 : W3.cell? ⟨N, 5, none⟩ = some (.slice sa sn sc) := cell_at HR.out 5
      have qR6 : W3.cell? ⟨N, 6, none⟩ = some (.slice da dn dc) := cell_at HR.out 6
      have qRz : ∀ j, W3.frozen? ⟨N, j, none⟩ = false := fun j => free_at HR.out j
      have qRl : N < W3.heap.size := HR.out.lt
      go_wp2_with fail
      clear qR0 qR1 qR2 qR3 qR4 qR5 qR6 qRz qRl
      go_loopw [3, 4] (fun k x4 wr => ∃ i : Nat, i ≤ tn ∧ k = .int .i64 i ∧ CB 0 = CB i ∧ Below W3.heap.size W3 wr) (fun k _ _ => tn - (intOf k).toNat)
      case atStart => exact ⟨0, Nat.zero_le _, rfl, rfl, Below.refl _ _⟩
      case round =>
        obtain ⟨i, hi, rfl, hcb, hB⟩ := hrel
        have HBC := Lib.hid hB
        have HC0 := Lib.hid hcb
        clear hcb
        replace HB := Lib.hid (HB.out.trans (hB.mono HB.out.size))
        replace HT := Lib.hid (HT0.out.below HB.out)
        replace HL := Lib.hid (HL0.out.below HB.out)
        replace HS := Lib.hid (HS0.out.below HB.out)
        replace HD := Lib.hid (HD0.out.below HB.out)
        replace HR := Lib.hid (HR.out.step hB)
        clear hB
        by_cases hk : i < tn
        · skip
          have b9 : (i < tn) = True := eq_true hk
          obtain ⟨g, o, x, ea, g1, g2, q0, q1, q2, q3, q4⟩ := HT.out.at i hk
          subst ea
          have hbt := HBT.out x (List.mem_of_getElem? g2)
          have hst := HCB.out i x g2
          have HSTEP := Lib.hid (HC0.out.trans hst)
          have hbo := HBO.out x.id
          obtain ⟨ou, hou⟩ : ∃ ou, ou = outL s.ls x.id := ⟨_, rfl⟩
          unfold capT at HSTEP
          rw [← hou] at hbo HSTEP
          have HOX := Lib.hid (fun W v (h : SV W v s) => HOU.out x.id W v h)
          rw [← hou] at HOX
          have hou64 : ou ≤ 64000000 := by omega
          have hou0 := hbo.1
          clear hou hbo hst g2
          have qR0 : wr.cell? ⟨N, 0, none⟩ = some (.int .i64 s.term) := cell_at HR.out 0
          have qR1 : wr.cell? ⟨N, 1, none⟩ = some (.int .i64 s.stamp) := cell_at HR.out 1
          have qR2 : wr.cell? ⟨N, 2, none⟩ = some (.int .i64 s.next) := cell_at HR.out 2
          have qR3 : wr.cell? ⟨N, 3, none⟩ = some (.slice (some ⟨g, o, none⟩) tn tc) := cell_at HR.out 3
          have qR4 : wr.cell? ⟨N, 4, none⟩ = some (.slice la ln lc) := cell_at HR.out 4
          have qR5 : wr.cell? ⟨N, 5, none⟩ = some (.slice sa sn sc) := cell_at HR.out 5
          have qR6 : wr.cell? ⟨N, 6, none⟩ = some (.slice da dn dc) := cell_at HR.out 6
          have qRz : ∀ j, wr.frozen? ⟨N, j, none⟩ = false := fun j => free_at HR.out j
          have qRl : N < wr.heap.size := HR.out.lt
          go_upto_region 7 with fail
          clear qR0 qR1 qR2 qR3 qR4 qR5 qR6 qRz qRl
          obtain ⟨E9, hE9⟩ : ∃ n0, n0 = wr.heap.size := ⟨_, rfl⟩
          have HXE9HR : Hid (N < E9) := Lib.hid (by rw [hE9]; exact HR.out.lt)
          have HLOE9 : Hid (w.heap.size ≤ E9) := Lib.hid (by have := HB.out.size; omega)
          obtain ⟨W4, hA0⟩ : ∃ W0, W0 = wr.alloc (.cells #[.int .i64 x.id, .int .i64 x.rate, .int .i64 x.burst, .int .i64 x.bkt, .bool x.gone] 54) := ⟨_, rfl⟩
          have hB : Below wr.heap.size wr W4 := by rw [hA0]; exact (Below.refl _ _).alloc (Nat.le_refl _) _
          have hS0 : W4.heap.size = E9 + 1 := by rw [hA0]; simp [← hE9]
          have HE := Lib.hid (show Blk W4 E9 #[.int .i64 x.id, .int .i64 x.rate, .int .i64 x.burst, .int .i64 x.bkt, .bool x.gone] 54 by rw [hA0, hE9]; exact blk_new _ _ _)
          replace HB := Lib.hid (HB.out.trans (hB.mono HB.out.size))
          replace HT := Lib.hid (HT0.out.below HB.out)
          replace HL := Lib.hid (HL0.out.below HB.out)
          replace HS := Lib.hid (HS0.out.below HB.out)
          replace HD := Lib.hid (HD0.out.below HB.out)
          replace HR := Lib.hid (HR.out.step hB)
          replace HBC := Lib.hid (HBC.out.trans (hB.mono HBC.out.size))
          clear hB
          have HSE9 := Lib.hid hS0
          rw [← hE9, ← hA0]
          clear hA0 hE9 hS0
          clear q0 q1 q2 q3 q4
          by_cases hp : 0 < x.bkt
          · skip
            have d1 : decide (0 < x.bkt) = true := decide_eq_true hp
            obtain ⟨m1, hm1⟩ : ∃ m1, m1 = 1000 * ou := ⟨_, rfl⟩
            have ww1 : IntKind.i64.wrap (1000 * ou) = m1 := (IntWalk.i64_in _ (by omega)).trans hm1.symm
            obtain ⟨m2, hm2⟩ : ∃ m2, m2 = x.bkt + m1 := ⟨_, rfl⟩
            have ww2 : IntKind.i64.wrap (x.bkt + m1) = m2 := (IntWalk.i64_in _ (by omega)).trans hm2.symm
            obtain ⟨m3, hm3⟩ : ∃ m3, m3 = 1000 * x.burst := ⟨_, rfl⟩
            have ww3 : IntKind.i64.wrap (1000 * x.burst) = m3 := (IntWalk.i64_in _ (by omega)).trans hm3.symm
            rw [← hm1, ← hm2, ← hm3, d1, Bool.true_and] at HSTEP
            clear hm1 hm2 hm3 hp
            by_cases hc : m3 < m2
            · skip
              have d2 : decide (m3 < m2) = true := decide_eq_true hc
              have hR : R = false := by rw [HR9.out, HSTEP.out, d2]; rfl
              subst hR
              clear hc
              go_wp2_with fail
              refine wp_region_held_drew (S := fun X => (X.cell? ⟨N, 0, none⟩ = some (.int .i64 s.term) ∧ X.cell? ⟨N, 1, none⟩ = some (.int .i64 s.stamp) ∧ X.cell? ⟨N, 2, none⟩ = some (.int .i64 s.next) ∧ X.cell? ⟨N, 3, none⟩ = some (.slice (some ⟨g, o, none⟩) tn tc) ∧ X.cell? ⟨N, 4, none⟩ = some (.slice la ln lc) ∧ X.cell? ⟨N, 5, none⟩ = some (.slice sa sn sc) ∧ X.cell? ⟨N, 6, none⟩ = some (.slice da dn dc) ∧ N < X.heap.size) ∧ (X.cell? ⟨E9, 0, none⟩ = some (.int .i64 x.id) ∧ X.cell? ⟨E9, 1, none⟩ = some (.int .i64 x.rate) ∧ X.cell? ⟨E9, 2, none⟩ = some (.int .i64 x.burst) ∧ X.cell? ⟨E9, 3, none⟩ = some (.int .i64 x.bkt) ∧ X.cell? ⟨E9, 4, none⟩ = some (.bool x.gone) ∧ E9 < X.heap.size)) (by kernel_rfl) ⟨⟨cell_at HR.out 0, cell_at HR.out 1, cell_at HR.out 2, cell_at HR.out 3, cell_at HR.out 4, cell_at HR.out 5, cell_at HR.out 6, HR.out.lt⟩, ⟨cell_at HE.out 0, cell_at HE.out 1, cell_at HE.out 2, cell_at HE.out 3, cell_at HE.out 4, HE.out.lt⟩⟩ (fun hHeld => ?_)
              ((refine wpAnyH_take (i := 0) (v := ?_) (by (simp only [List.getElem?_toArray, List.getElem?_cons_succ, List.getElem?_cons_zero]); rfl) (by kernel_rfl) (by kernel_rfl) (by kernel_rfl) (by exact fun _ _ _ h => h) (Or.inl ⟨by rfl, ?_⟩) (by assumption) ?_); rotate_left; focus (intro wS hSw; (try dsimp only at hSw); go_simp; first | done | with_reducible rfl); try simp only [Act.put, List.setIfInBounds_toArray, List.set_cons_zero, List.set_cons_succ])
              ((refine wpAnyH_take (i := 1) (v := ?_) (by (simp only [List.getElem?_toArray, List.getElem?_cons_succ, List.getElem?_cons_zero]); rfl) (by kernel_rfl) (by kernel_rfl) (by kernel_rfl) (by exact fun _ _ _ h => h) (Or.inl ⟨by rfl, ?_⟩) (by assumption) ?_); rotate_left; focus (intro wS hSw; (try dsimp only at hSw); go_simp; first | done | with_reducible rfl); try simp only [Act.put, List.setIfInBounds_toArray, List.set_cons_zero, List.set_cons_succ])
              ((refine wpAnyH_take (i := 2) (v := ?_) (by (simp only [List.getElem?_toArray, List.getElem?_cons_succ, List.getElem?_cons_zero]); rfl) (by kernel_rfl) (by kernel_rfl) (by kernel_rfl) (by exact fun _ _ _ h => h) (Or.inl ⟨by rfl, ?_⟩) (by assumption) ?_); rotate_left; focus (intro wS hSw; (try dsimp only at hSw); go_simp; first | done | with_reducible rfl); try simp only [Act.put, List.setIfInBounds_toArray, List.set_cons_zero, List.set_cons_succ])
              ((refine wpAnyH_take (i := 3) (v := ?_) (by (simp only [List.getElem?_toArray, List.getElem?_cons_succ, List.getElem?_cons_zero]); rfl) (by kernel_rfl) (by kernel_rfl) (by kernel_rfl) (by exact fun _ _ _ h => h) (Or.inl ⟨by rfl, ?_⟩) (by assumption) ?_); rotate_left; focus (intro wS hSw; (try dsimp only at hSw); go_simp; first | done | with_reducible rfl); try simp only [Act.put, List.setIfInBounds_toArray, List.set_cons_zero, List.set_cons_succ])
              ((refine wpAnyH_take (i := 4) (v := ?_) (by (simp only [List.getElem?_toArray, List.getElem?_cons_succ, List.getElem?_cons_zero]); rfl) (by kernel_rfl) (by kernel_rfl) (by kernel_rfl) (by exact fun _ _ _ h => h) (Or.inl ⟨by (go_simp; try rfl), ?_⟩) (by assumption) ?_); rotate_left; focus (intro wS hSw; (try dsimp only at hSw); go_simp; first | done | with_reducible rfl); try simp only [Act.put, List.setIfInBounds_toArray, List.set_cons_zero, List.set_cons_succ])
              ((refine wpAnyH_take (i := 5) (v := ?_) (by (simp only [List.getElem?_toArray, List.getElem?_cons_succ, List.getElem?_cons_zero]); rfl) (by kernel_rfl) (by kernel_rfl) (by kernel_rfl) (by exact fun _ _ _ h => h) (Or.inl ⟨by (go_simp; try rfl), ?_⟩) (by assumption) ?_); rotate_left; focus (intro wS hSw; (try dsimp only at hSw); go_simp; first | done | with_reducible rfl); try simp only [Act.put, List.setIfInBounds_toArray, List.set_cons_zero, List.set_cons_succ])
              ((refine wpAnyH_take (i := 6) (v := ?_) (by (simp only [List.getElem?_toArray, List.getElem?_cons_succ, List.getElem?_cons_zero]); rfl) (by kernel_rfl) (by kernel_rfl) (by kernel_rfl) (by exact fun _ _ _ h => h) (Or.inl ⟨by (go_simp; try rfl), ?_⟩) (by assumption) ?_); rotate_left; focus (intro wS hSw; (try dsimp only at hSw); go_simp; first | done | with_reducible rfl); try simp only [Act.put, List.setIfInBounds_toArray, List.set_cons_zero, List.set_cons_succ])
              ((refine wpAnyH_take (i := 7) (v := ?_) (by (simp only [List.getElem?_toArray, List.getElem?_cons_succ, List.getElem?_cons_zero]); rfl) (by kernel_rfl) (by kernel_rfl) (by kernel_rfl) (by exact fun _ _ _ h => h) (Or.inl ⟨by (go_simp; try rfl), ?_⟩) (by assumption) ?_); rotate_left; focus (intro wS hSw; (try dsimp only at hSw); go_simp; first | done | with_reducible rfl); try simp only [Act.put, List.setIfInBounds_toArray, List.set_cons_zero, List.set_cons_succ])
              ((refine wpAnyH_take (i := 8) (v := ?_) (by (simp only [List.getElem?_toArray, List.getElem?_cons_succ, List.getElem?_cons_zero]); rfl) (by kernel_rfl) (by kernel_rfl) (by kernel_rfl) (by exact fun _ _ _ h => h) (Or.inl ⟨by (go_simp; try rfl), ?_⟩) (by assumption) ?_); rotate_left; focus (intro wS hSw; (try dsimp only at hSw); go_simp; first | done | with_reducible rfl); try simp only [Act.put, List.setIfInBounds_toArray, List.set_cons_zero, List.set_cons_succ])
              ((refine wpAnyH_take (i := 12) (v := ?_) (by (simp only [List.getElem?_toArray, List.getElem?_cons_succ, List.getElem?_cons_zero]); rfl) (by kernel_rfl) (by kernel_rfl) (by kernel_rfl) (by exact fun _ _ _ h => h) (Or.inl ⟨by (go_simp; try rfl), ?_⟩) (by assumption) ?_); rotate_left; focus (intro wS hSw; (try dsimp only at hSw); go_simp; first | done | with_reducible rfl); try simp only [Act.put, List.setIfInBounds_toArray, List.set_cons_zero, List.set_cons_succ])
              ((refine wpAnyH_take (i := 13) (v := ?_) (by (simp only [List.getElem?_toArray, List.getElem?_cons_succ, List.getElem?_cons_zero]); rfl) (by kernel_rfl) (by kernel_rfl) (by kernel_rfl) (by exact fun _ _ _ h => h) (Or.inl ⟨by (go_simp; try rfl), ?_⟩) (by assumption) ?_); rotate_left; focus (intro wS hSw; (try dsimp only at hSw); go_simp; first | done | with_reducible rfl); try simp only [Act.put, List.setIfInBounds_toArray, List.set_cons_zero, List.set_cons_succ])
              ((refine wpAnyH_take (i := 14) (v := ?_) (by (simp only [List.getElem?_toArray, List.getElem?_cons_succ, List.getElem?_cons_zero]); rfl) (by kernel_rfl) (by kernel_rfl) (by kernel_rfl) (by exact fun _ _ _ h => h) (Or.inl ⟨by (go_simp; try rfl), ?_⟩) (by assumption) ?_); rotate_left; focus (intro wS hSw; (try dsimp only at hSw); go_simp; first | done | with_reducible rfl); try simp only [Act.put, List.setIfInBounds_toArray, List.set_cons_zero, List.set_cons_succ])
              refine wpAnyH_ready (rs := [9]) (by kernel_rfl) (by simp) ?_
              refine AllReadyH.cons (by (simp only [List.getElem?_toArray, List.getElem?_cons_succ, List.getElem?_cons_zero]); rfl) (fun K hK => ?_) AllReadyH.nil
              go_simp
              go_fit (HOX.out _ _ (HSV.out _ (HT0.out.below HB.out.drew) (HL0.out.below HB.out.drew) (HS0.out.below HB.out.drew) (HD0.out.below HB.out.drew)))
              rintro e W5 ⟨rfl, hB⟩
              replace hB := below_undrew hB
              replace HB := Lib.hid (HB.out.trans (hB.mono HB.out.size))
              replace HT := Lib.hid (HT0.out.below HB.out)
              replace HL := Lib.hid (HL0.out.below HB.out)
              replace HS := Lib.hid (HS0.out.below HB.out)
              replace HD := Lib.hid (HD0.out.below HB.out)
              replace HR := Lib.hid (HR.out.step hB)
              replace HBC := Lib.hid (HBC.out.trans (hB.mono HBC.out.size))
              replace HE := Lib.hid (HE.out.step hB)
              go_wp2_with fail
              refine hK.out _ _ ⟨⟨cell_at HR.out 0, cell_at HR.out 1, cell_at HR.out 2, cell_at HR.out 3, cell_at HR.out 4, cell_at HR.out 5, cell_at HR.out 6, HR.out.lt⟩, ⟨cell_at HE.out 0, cell_at HE.out 1, cell_at HE.out 2, cell_at HE.out 3, cell_at HE.out 4, HE.out.lt⟩⟩ (fun hHeld => ?_)
              clear hK K hB
              try simp only [Act.put, List.setIfInBounds_toArray, List.set_cons_zero, List.set_cons_succ]
              ((refine wpAnyH_take (i := 10) (v := ?_) (by (simp only [List.getElem?_toArray, List.getElem?_cons_succ, List.getElem?_cons_zero]); rfl) (by kernel_rfl) (by kernel_rfl) (by kernel_rfl) (by exact fun _ _ _ h => h) (Or.inl ⟨by (go_simp; try rfl), ?_⟩) (by assumption) ?_); rotate_left; focus (intro wS hSw; (try dsimp only at hSw); go_simp; first | done | with_reducible rfl); try simp only [Act.put, List.setIfInBounds_toArray, List.set_cons_zero, List.set_cons_succ])
              ((refine wpAnyH_take (i := 11) (v := ?_) (by (simp only [List.getElem?_toArray, List.getElem?_cons_succ, List.getElem?_cons_zero]); rfl) (by kernel_rfl) (by kernel_rfl) (by kernel_rfl) (by exact fun _ _ _ h => h) (Or.inl ⟨by (go_simp; try rfl), ?_⟩) (by assumption) ?_); rotate_left; focus (intro wS hSw; (try dsimp only at hSw); go_simp; first | done | with_reducible rfl); try simp only [Act.put, List.setIfInBounds_toArray, List.set_cons_zero, List.set_cons_succ])
              ((refine wpAnyH_take (i := 15) (v := ?_) (by (simp only [List.getElem?_toArray, List.getElem?_cons_succ, List.getElem?_cons_zero]); rfl) (by kernel_rfl) (by kernel_rfl) (by kernel_rfl) (by exact fun _ _ _ h => h) (Or.inl ⟨by (go_simp; try rfl), ?_⟩) (by assumption) ?_); rotate_left; focus (intro wS hSw; (try dsimp only at hSw); go_simp; first | done | with_reducible rfl); try simp only [Act.put, List.setIfInBounds_toArray, List.set_cons_zero, List.set_cons_succ])
              ((refine wpAnyH_take (i := 16) (v := ?_) (by (simp only [List.getElem?_toArray, List.getElem?_cons_succ, List.getElem?_cons_zero]); rfl) (by kernel_rfl) (by kernel_rfl) (by kernel_rfl) (by exact fun _ _ _ h => h) (Or.inl ⟨by rfl, ?_⟩) (by assumption) ?_); rotate_left; focus (intro wS hSw; (try dsimp only at hSw); go_simp; first | done | with_reducible rfl); try simp only [Act.put, List.setIfInBounds_toArray, List.set_cons_zero, List.set_cons_succ])
              refine wpAnyH_done (by kernel_rfl) ?_ _
              try simp only [Act.put, List.setIfInBounds_toArray, List.set_cons_zero, List.set_cons_succ]
              go_wp2_with fail
              go_ret
              exact ⟨rfl, HB.out⟩
            · skip
              have d2 : decide (m3 < m2) = false := decide_eq_false hc
              have hn : CB 0 = CB (i + 1) := by rw [HSTEP.out, d2]; simp
              have HN := Lib.hid hn
              clear hn hc
              go_wp2_with fail
              refine wp_region_held_drew (S := fun X => (X.cell? ⟨N, 0, none⟩ = some (.int .i64 s.term) ∧ X.cell? ⟨N, 1, none⟩ = some (.int .i64 s.stamp) ∧ X.cell? ⟨N, 2, none⟩ = some (.int .i64 s.next) ∧ X.cell? ⟨N, 3, none⟩ = some (.slice (some ⟨g, o, none⟩) tn tc) ∧ X.cell? ⟨N, 4, none⟩ = some (.slice la ln lc) ∧ X.cell? ⟨N, 5, none⟩ = some (.slice sa sn sc) ∧ X.cell? ⟨N, 6, none⟩ = some (.slice da dn dc) ∧ N < X.heap.size) ∧ (X.cell? ⟨E9, 0, none⟩ = some (.int .i64 x.id) ∧ X.cell? ⟨E9, 1, none⟩ = some (.int .i64 x.rate) ∧ X.cell? ⟨E9, 2, none⟩ = some (.int .i64 x.burst) ∧ X.cell? ⟨E9, 3, none⟩ = some (.int .i64 x.bkt) ∧ X.cell? ⟨E9, 4, none⟩ = some (.bool x.gone) ∧ E9 < X.heap.size)) (by kernel_rfl) ⟨⟨cell_at HR.out 0, cell_at HR.out 1, cell_at HR.out 2, cell_at HR.out 3, cell_at HR.out 4, cell_at HR.out 5, cell_at HR.out 6, HR.out.lt⟩, ⟨cell_at HE.out 0, cell_at HE.out 1, cell_at HE.out 2, cell_at HE.out 3, cell_at HE.out 4, HE.out.lt⟩⟩ (fun hHeld => ?_)
              ((refine wpAnyH_take (i := 0) (v := ?_) (by (simp only [List.getElem?_toArray, List.getElem?_cons_succ, List.getElem?_cons_zero]); rfl) (by kernel_rfl) (by kernel_rfl) (by kernel_rfl) (by exact fun _ _ _ h => h) (Or.inl ⟨by rfl, ?_⟩) (by assumption) ?_); rotate_left; focus (intro wS hSw; (try dsimp only at hSw); go_simp; first | done | with_reducible rfl); try simp only [Act.put, List.setIfInBounds_toArray, List.set_cons_zero, List.set_cons_succ])
              ((refine wpAnyH_take (i := 1) (v := ?_) (by (simp only [List.getElem?_toArray, List.getElem?_cons_succ, List.getElem?_cons_zero]); rfl) (by kernel_rfl) (by kernel_rfl) (by kernel_rfl) (by exact fun _ _ _ h => h) (Or.inl ⟨by rfl, ?_⟩) (by assumption) ?_); rotate_left; focus (intro wS hSw; (try dsimp only at hSw); go_simp; first | done | with_reducible rfl); try simp only [Act.put, List.setIfInBounds_toArray, List.set_cons_zero, List.set_cons_succ])
              ((refine wpAnyH_take (i := 2) (v := ?_) (by (simp only [List.getElem?_toArray, List.getElem?_cons_succ, List.getElem?_cons_zero]); rfl) (by kernel_rfl) (by kernel_rfl) (by kernel_rfl) (by exact fun _ _ _ h => h) (Or.inl ⟨by rfl, ?_⟩) (by assumption) ?_); rotate_left; focus (intro wS hSw; (try dsimp only at hSw); go_simp; first | done | with_reducible rfl); try simp only [Act.put, List.setIfInBounds_toArray, List.set_cons_zero, List.set_cons_succ])
              ((refine wpAnyH_take (i := 3) (v := ?_) (by (simp only [List.getElem?_toArray, List.getElem?_cons_succ, List.getElem?_cons_zero]); rfl) (by kernel_rfl) (by kernel_rfl) (by kernel_rfl) (by exact fun _ _ _ h => h) (Or.inl ⟨by rfl, ?_⟩) (by assumption) ?_); rotate_left; focus (intro wS hSw; (try dsimp only at hSw); go_simp; first | done | with_reducible rfl); try simp only [Act.put, List.setIfInBounds_toArray, List.set_cons_zero, List.set_cons_succ])
              ((refine wpAnyH_take (i := 4) (v := ?_) (by (simp only [List.getElem?_toArray, List.getElem?_cons_succ, List.getElem?_cons_zero]); rfl) (by kernel_rfl) (by kernel_rfl) (by kernel_rfl) (by exact fun _ _ _ h => h) (Or.inl ⟨by (go_simp; try rfl), ?_⟩) (by assumption) ?_); rotate_left; focus (intro wS hSw; (try dsimp only at hSw); go_simp; first | done | with_reducible rfl); try simp only [Act.put, List.setIfInBounds_toArray, List.set_cons_zero, List.set_cons_succ])
              ((refine wpAnyH_take (i := 5) (v := ?_) (by (simp only [List.getElem?_toArray, List.getElem?_cons_succ, List.getElem?_cons_zero]); rfl) (by kernel_rfl) (by kernel_rfl) (by kernel_rfl) (by exact fun _ _ _ h => h) (Or.inl ⟨by (go_simp; try rfl), ?_⟩) (by assumption) ?_); rotate_left; focus (intro wS hSw; (try dsimp only at hSw); go_simp; first | done | with_reducible rfl); try simp only [Act.put, List.setIfInBounds_toArray, List.set_cons_zero, List.set_cons_succ])
              ((refine wpAnyH_take (i := 6) (v := ?_) (by (simp only [List.getElem?_toArray, List.getElem?_cons_succ, List.getElem?_cons_zero]); rfl) (by kernel_rfl) (by kernel_rfl) (by kernel_rfl) (by exact fun _ _ _ h => h) (Or.inl ⟨by (go_simp; try rfl), ?_⟩) (by assumption) ?_); rotate_left; focus (intro wS hSw; (try dsimp only at hSw); go_simp; first | done | with_reducible rfl); try simp only [Act.put, List.setIfInBounds_toArray, List.set_cons_zero, List.set_cons_succ])
              ((refine wpAnyH_take (i := 7) (v := ?_) (by (simp only [List.getElem?_toArray, List.getElem?_cons_succ, List.getElem?_cons_zero]); rfl) (by kernel_rfl) (by kernel_rfl) (by kernel_rfl) (by exact fun _ _ _ h => h) (Or.inl ⟨by (go_simp; try rfl), ?_⟩) (by assumption) ?_); rotate_left; focus (intro wS hSw; (try dsimp only at hSw); go_simp; first | done | with_reducible rfl); try simp only [Act.put, List.setIfInBounds_toArray, List.set_cons_zero, List.set_cons_succ])
              ((refine wpAnyH_take (i := 8) (v := ?_) (by (simp only [List.getElem?_toArray, List.getElem?_cons_succ, List.getElem?_cons_zero]); rfl) (by kernel_rfl) (by kernel_rfl) (by kernel_rfl) (by exact fun _ _ _ h => h) (Or.inl ⟨by (go_simp; try rfl), ?_⟩) (by assumption) ?_); rotate_left; focus (intro wS hSw; (try dsimp only at hSw); go_simp; first | done | with_reducible rfl); try simp only [Act.put, List.setIfInBounds_toArray, List.set_cons_zero, List.set_cons_succ])
              ((refine wpAnyH_take (i := 12) (v := ?_) (by (simp only [List.getElem?_toArray, List.getElem?_cons_succ, List.getElem?_cons_zero]); rfl) (by kernel_rfl) (by kernel_rfl) (by kernel_rfl) (by exact fun _ _ _ h => h) (Or.inl ⟨by (go_simp; try rfl), ?_⟩) (by assumption) ?_); rotate_left; focus (intro wS hSw; (try dsimp only at hSw); go_simp; first | done | with_reducible rfl); try simp only [Act.put, List.setIfInBounds_toArray, List.set_cons_zero, List.set_cons_succ])
              ((refine wpAnyH_take (i := 13) (v := ?_) (by (simp only [List.getElem?_toArray, List.getElem?_cons_succ, List.getElem?_cons_zero]); rfl) (by kernel_rfl) (by kernel_rfl) (by kernel_rfl) (by exact fun _ _ _ h => h) (Or.inl ⟨by (go_simp; try rfl), ?_⟩) (by assumption) ?_); rotate_left; focus (intro wS hSw; (try dsimp only at hSw); go_simp; first | done | with_reducible rfl); try simp only [Act.put, List.setIfInBounds_toArray, List.set_cons_zero, List.set_cons_succ])
              ((refine wpAnyH_take (i := 14) (v := ?_) (by (simp only [List.getElem?_toArray, List.getElem?_cons_succ, List.getElem?_cons_zero]); rfl) (by kernel_rfl) (by kernel_rfl) (by kernel_rfl) (by exact fun _ _ _ h => h) (Or.inl ⟨by (go_simp; try rfl), ?_⟩) (by assumption) ?_); rotate_left; focus (intro wS hSw; (try dsimp only at hSw); go_simp; first | done | with_reducible rfl); try simp only [Act.put, List.setIfInBounds_toArray, List.set_cons_zero, List.set_cons_succ])
              refine wpAnyH_ready (rs := [9]) (by kernel_rfl) (by simp) ?_
              refine AllReadyH.cons (by (simp only [List.getElem?_toArray, List.getElem?_cons_succ, List.getElem?_cons_zero]); rfl) (fun K hK => ?_) AllReadyH.nil
              go_simp
              go_fit (HOX.out _ _ (HSV.out _ (HT0.out.below HB.out.drew) (HL0.out.below HB.out.drew) (HS0.out.below HB.out.drew) (HD0.out.below HB.out.drew)))
              rintro e W5 ⟨rfl, hB⟩
              replace hB := below_undrew hB
              replace HB := Lib.hid (HB.out.trans (hB.mono HB.out.size))
              replace HT := Lib.hid (HT0.out.below HB.out)
              replace HL := Lib.hid (HL0.out.below HB.out)
              replace HS := Lib.hid (HS0.out.below HB.out)
              replace HD := Lib.hid (HD0.out.below HB.out)
              replace HR := Lib.hid (HR.out.step hB)
              replace HBC := Lib.hid (HBC.out.trans (hB.mono HBC.out.size))
              replace HE := Lib.hid (HE.out.step hB)
              go_wp2_with fail
              refine hK.out _ _ ⟨⟨cell_at HR.out 0, cell_at HR.out 1, cell_at HR.out 2, cell_at HR.out 3, cell_at HR.out 4, cell_at HR.out 5, cell_at HR.out 6, HR.out.lt⟩, ⟨cell_at HE.out 0, cell_at HE.out 1, cell_at HE.out 2, cell_at HE.out 3, cell_at HE.out 4, HE.out.lt⟩⟩ (fun hHeld => ?_)
              clear hK K hB
              try simp only [Act.put, List.setIfInBounds_toArray, List.set_cons_zero, List.set_cons_succ]
              ((refine wpAnyH_take (i := 10) (v := ?_) (by (simp only [List.getElem?_toArray, List.getElem?_cons_succ, List.getElem?_cons_zero]); rfl) (by kernel_rfl) (by kernel_rfl) (by kernel_rfl) (by exact fun _ _ _ h => h) (Or.inl ⟨by (go_simp; try rfl), ?_⟩) (by assumption) ?_); rotate_left; focus (intro wS hSw; (try dsimp only at hSw); go_simp; first | done | with_reducible rfl); try simp only [Act.put, List.setIfInBounds_toArray, List.set_cons_zero, List.set_cons_succ])
              ((refine wpAnyH_take (i := 11) (v := ?_) (by (simp only [List.getElem?_toArray, List.getElem?_cons_succ, List.getElem?_cons_zero]); rfl) (by kernel_rfl) (by kernel_rfl) (by kernel_rfl) (by exact fun _ _ _ h => h) (Or.inl ⟨by (go_simp; try rfl), ?_⟩) (by assumption) ?_); rotate_left; focus (intro wS hSw; (try dsimp only at hSw); go_simp; first | done | with_reducible rfl); try simp only [Act.put, List.setIfInBounds_toArray, List.set_cons_zero, List.set_cons_succ])
              ((refine wpAnyH_take (i := 15) (v := ?_) (by (simp only [List.getElem?_toArray, List.getElem?_cons_succ, List.getElem?_cons_zero]); rfl) (by kernel_rfl) (by kernel_rfl) (by kernel_rfl) (by exact fun _ _ _ h => h) (Or.inl ⟨by (go_simp; try rfl), ?_⟩) (by assumption) ?_); rotate_left; focus (intro wS hSw; (try dsimp only at hSw); go_simp; first | done | with_reducible rfl); try simp only [Act.put, List.setIfInBounds_toArray, List.set_cons_zero, List.set_cons_succ])
              ((refine wpAnyH_take (i := 16) (v := ?_) (by (simp only [List.getElem?_toArray, List.getElem?_cons_succ, List.getElem?_cons_zero]); rfl) (by kernel_rfl) (by kernel_rfl) (by kernel_rfl) (by exact fun _ _ _ h => h) (Or.inl ⟨by rfl, ?_⟩) (by assumption) ?_); rotate_left; focus (intro wS hSw; (try dsimp only at hSw); go_simp; first | done | with_reducible rfl); try simp only [Act.put, List.setIfInBounds_toArray, List.set_cons_zero, List.set_cons_succ])
              refine wpAnyH_done (by kernel_rfl) ?_ _
              try simp only [Act.put, List.setIfInBounds_toArray, List.set_cons_zero, List.set_cons_succ]
              go_wp2_with fail
              go_roundw
              case rel => exact ⟨i + 1, by omega, by go_num, HN.out, HBC.out⟩
              case measure => first | (simp [intOf]; done) | (simp [intOf]; omega)
          · skip
            have d1 : decide (0 < x.bkt) = false := decide_eq_false hp
            rw [d1, Bool.false_and] at HSTEP
            have hn : CB 0 = CB (i + 1) := by rw [HSTEP.out]; simp
            have HN := Lib.hid hn
            clear hn hp
            have qE0 : W4.cell? ⟨E9, 0, none⟩ = some (.int .i64 x.id) := cell_at HE.out 0
            have qE1 : W4.cell? ⟨E9, 1, none⟩ = some (.int .i64 x.rate) := cell_at HE.out 1
            have qE2 : W4.cell? ⟨E9, 2, none⟩ = some (.int .i64 x.burst) := cell_at HE.out 2
            have qE3 : W4.cell? ⟨E9, 3, none⟩ = some (.int .i64 x.bkt) := cell_at HE.out 3
            have qE4 : W4.cell? ⟨E9, 4, none⟩ = some (.bool x.gone) := cell_at HE.out 4
            have qEz : ∀ j, W4.frozen? ⟨E9, j, none⟩ = false := fun j => free_at HE.out j
            have qEl : E9 < W4.heap.size := HE.out.lt
            have qR0 : W4.cell? ⟨N, 0, none⟩ = some (.int .i64 s.term) := cell_at HR.out 0
            have qR1 : W4.cell? ⟨N, 1, none⟩ = some (.int .i64 s.stamp) := cell_at HR.out 1
            have qR2 : W4.cell? ⟨N, 2, none⟩ = some (.int .i64 s.next) := cell_at HR.out 2
            have qR3 : W4.cell? ⟨N, 3, none⟩ = some (.slice (some ⟨g, o, none⟩) tn tc) := cell_at HR.out 3
            have qR4 : W4.cell? ⟨N, 4, none⟩ = some (.slice la ln lc) := cell_at HR.out 4
            have qR5 : W4.cell? ⟨N, 5, none⟩ = some (.slice sa sn sc) := cell_at HR.out 5
            have qR6 : W4.cell? ⟨N, 6, none⟩ = some (.slice da dn dc) := cell_at HR.out 6
            have qRz : ∀ j, W4.frozen? ⟨N, j, none⟩ = false := fun j => free_at HR.out j
            have qRl : N < W4.heap.size := HR.out.lt
            go_wp2_with fail
            (refine wp_region_quiet_lit (by kernel_rfl) (by kernel_rfl) ?_; (repeat (first | go_big_quiet_step (fail) | (refine BigFrame.wpQuiet_skip (by rfl) ?_; try simp only [Act.put, List.setIfInBounds_toArray, List.set_cons_zero, List.set_cons_succ]))); refine wpQuiet_nil ?_; intro _ hw9; obtain ⟨nq, hw8⟩ := hw9; subst hw8)
            clear qE0 qE1 qE2 qE3 qE4 qEz qEl qR0 qR1 qR2 qR3 qR4 qR5 qR6 qRz qRl
            obtain ⟨W5, hWn⟩ : ∃ X, X = W4.drewN nq := ⟨_, rfl⟩
            rw [← hWn]
            have hB : Below W4.heap.size W4 W5 := by rw [hWn]; exact dN _ _
            clear hWn
            replace HB := Lib.hid (HB.out.trans (hB.mono HB.out.size))
            replace HT := Lib.hid (HT0.out.below HB.out)
            replace HL := Lib.hid (HL0.out.below HB.out)
            replace HS := Lib.hid (HS0.out.below HB.out)
            replace HD := Lib.hid (HD0.out.below HB.out)
            replace HR := Lib.hid (HR.out.step hB)
            replace HBC := Lib.hid (HBC.out.trans (hB.mono HBC.out.size))
            replace HE := Lib.hid (HE.out.step hB)
            clear hB
            go_wp2_with fail
            go_roundw
            case rel => exact ⟨i + 1, by omega, by go_num, HN.out, HBC.out⟩
            case measure => first | (simp [intOf]; done) | (simp [intOf]; omega)
        · skip
          have b9 : (i < tn) = False := eq_false hk
          obtain rfl : tn = i := by omega
          have hR : R = true := by rw [HR9.out, HC0.out, HCE.out]; rfl
          subst hR
          have qR0 : wr.cell? ⟨N, 0, none⟩ = some (.int .i64 s.term) := cell_at HR.out 0
          have qR1 : wr.cell? ⟨N, 1, none⟩ = some (.int .i64 s.stamp) := cell_at HR.out 1
          have qR2 : wr.cell? ⟨N, 2, none⟩ = some (.int .i64 s.next) := cell_at HR.out 2
          have qR3 : wr.cell? ⟨N, 3, none⟩ = some (.slice ta tn tc) := cell_at HR.out 3
          have qR4 : wr.cell? ⟨N, 4, none⟩ = some (.slice la ln lc) := cell_at HR.out 4
          have qR5 : wr.cell? ⟨N, 5, none⟩ = some (.slice sa sn sc) := cell_at HR.out 5
          have qR6 : wr.cell? ⟨N, 6, none⟩ = some (.slice da dn dc) := cell_at HR.out 6
          have qRz : ∀ j, wr.frozen? ⟨N, j, none⟩ = false := fun j => free_at HR.out j
          have qRl : N < wr.heap.size := HR.out.lt
          go_wp2_with fail
          go_ret
          exact ⟨rfl, HB.out⟩
end Go.Proofs.Ytfgnjpdlchimpaa
namespace Go.Proofs.Ytfgnjpdlchimpaa
open Go.RowKit
set_option linter.unusedSimpArgs false
set_option linter.unusedVariables false

def EntK (k : FuncId) : Prop := ∀ (args : Array Value) (w : World), (callFunc k args).run Try.prog w = .ok (.enter k args) w
/-- a closure of tenants, what it answers -/
def ClT (k : FuncId) (cs : Array Value) (d : TnE → Bool) (L : List TnE) (w : World) : Prop := ∀ (x : TnE) (W : World), x ∈ L → Below w.heap.size w W → Calls Try.prog k (#[.agg #[.int .i64 x.id, .int .i64 x.rate, .int .i64 x.burst, .int .i64 x.bkt, .bool x.gone]] ++ cs) W fun e w' => e = .returned (.bool (d x)) ∧ Below W.heap.size W w'
set_option maxRecDepth 100000 in
set_option maxHeartbeats 4000000 in
theorem indexF_any (kf : FuncId) (cs : Array Value) (d : TnE → Bool) (v : Value) (L : List TnE) (w0 w : World) (h : TV w v L) (hk : EntK kf) (CS : ClT kf cs d L w0) (h0 : Below w0.heap.size w0 w) :
    Calls Try.prog 101 #[v, .func (.func kf) #[] cs] w fun e w' => (∃ i : Nat, i ≤ L.length ∧ (∀ j, j < i → d (gt L j) = false) ∧ ((i < L.length ∧ d (gt L i) = true ∧ e = .returned (.int .i64 (i : Nat))) ∨ (i = L.length ∧ e = .returned (.int .i64 (-1))))) ∧ Below w.heap.size w w' := by
  obtain ⟨a, b, o, cap, rfl, h⟩ := h
  have m1 := h.le
  have m2 := h.max
  unfold maxLen at m2
  have H1 := Lib.hid h
  have H0 := Lib.hid h0
  have HCS := Lib.hid CS
  obtain ⟨n, hn⟩ : ∃ n, n = L.length := ⟨_, rfl⟩
  rw [← hn] at m1 H1 ⊢
  have HN := Lib.hid hn
  clear h hn CS h0
  unfold EntK at hk
  go_enter Try.func101, Try.ntmps101
  go_wp2_with fail
  go_loopw [8] (fun i wr => ∃ k : Nat, k ≤ n ∧ i = .int .i64 k ∧ (∀ j, j < k → d (gt L j) = false) ∧ Below w.heap.size w wr) (fun i _ => n - (intOf i).toNat)
  case atStart => exact ⟨0, Nat.zero_le _, rfl, (fun j hj => by omega), Below.refl _ _⟩
  case round =>
    obtain ⟨k, hk8, rfl, hf, hB⟩ := hrel
    have HB := Lib.hid hB
    have HF := Lib.hid hf
    clear hf hB
    by_cases hlt : k < n
    · have hs1 := H1.out.below HB.out
      obtain ⟨e0, e1⟩ := hs1.at_ (by omega)
      subst e0
      obtain ⟨c0, c1, c2, c3, c4⟩ := hs1.cell k hlt
      obtain ⟨x, hx⟩ : ∃ x, x = gt L k := ⟨_, rfl⟩
      rw [← hx] at c0 c1 c2 c3 c4
      have HX := Lib.hid hx
      have HC := Lib.hid (HCS.out x wr (by rw [hx]; exact List.mem_of_getElem? (gt_lt (by rw [← HN.out]; exact hlt))) (H0.out.trans (HB.out.mono H0.out.size)))
      obtain ⟨D, hD⟩ : ∃ D, D = d x := ⟨_, rfl⟩
      rw [← hD] at HC
      have HD := Lib.hid hD
      clear hs1 hx hD
      cases D
      · go_wp2_with (refine Calls.mono HC.out ?_; rintro e W3 ⟨rfl, hB3⟩; have HB3 := Lib.hid (HB.out.trans (hB3.mono HB.out.size)); clear hB3)
        go_roundw
        case rel => exact ⟨k + 1, by omega, by go_num, (fun j hj => by
          rcases Nat.lt_or_ge j k with h | h
          · exact HF.out j h
          · obtain rfl : j = k := by omega
            rw [← HX.out]; exact HD.out.symm), HB3.out⟩
        case measure => first | (simp [intOf]; done) | (simp [intOf]; omega)
      · go_wp2_with (refine Calls.mono HC.out ?_; rintro e W3 ⟨rfl, hB3⟩; have HB3 := Lib.hid (HB.out.trans (hB3.mono HB.out.size)); clear hB3)
        go_ret
        exact ⟨⟨k, by omega, HF.out, .inl ⟨hlt, by rw [← HX.out]; exact HD.out.symm, rfl⟩⟩, HB3.out⟩
    · obtain rfl : k = n := by omega
      go_wp2_with fail
      go_ret
      exact ⟨⟨k, Nat.le_refl _, HF.out, .inr ⟨rfl, rfl⟩⟩, HB.out⟩
theorem listL_at {L : List TnE} {k j : Nat} {x : TnE} (h : L[k]? = some x) (hj : j < 5) : (listL L)[k * 5 + j]? = x.cells[j]? := by
  have hk : k < L.length := (List.getElem?_eq_some_iff.1 h).1
  rw [tnL_gt, tnL_at (gt L) L.length k j hk hj, gt_of h]
/-- one of an own row is set -/
theorem row_set {W : World} {v : Value} {g n i : Nat} {M : List TnE} {x : TnE} (h : Row W v (some g) 54 5 n (listL M)) (hM : M.length = n) (hi : i < n) : Row (W.setCells g (i * 5) x.cells) v (some g) 54 5 n (listL (M.set i x)) := by
  have hl := h.len
  rcases h.cases with ⟨e, _⟩ | ⟨g', cap, cur, e, rfl, h3, h4, h5, h6, h7⟩
  · cases e
  · obtain rfl := Option.some.inj e
    have hx5 : x.cells.length = 5 := rfl
    have hsz : i * 5 + x.cells.length ≤ cur.size := by rw [h6, hx5]; omega
    obtain ⟨cs', k1, k2, k3, k4, k5⟩ := stC_pt x.cells (i * 5) h3 hsz
    refine Row.mk k1 h4 h5 (by rw [k2, h6]) ?_
    apply List.ext_getElem?
    intro q
    rw [List.getElem?_take]
    by_cases hq : q < n * 5
    · rw [if_pos hq, Array.getElem?_toList]
      obtain ⟨k, r, hk, hr, rfl⟩ : ∃ k r, k < n ∧ r < 5 ∧ q = k * 5 + r := ⟨q / 5, q % 5, by omega, by omega, by omega⟩
      have hMk : M[k]? = some (gt M k) := gt_lt (by omega)
      by_cases hki : k = i
      · subst hki
        rw [k4 r (by omega), listL_at (x := x) (by rw [List.getElem?_set_self (by omega)]) hr]
      · have h8 : cur[k * 5 + r]? = (gt M k).cells[r]? := by
          have := listL_at hMk hr
          rw [← h7, List.getElem?_take, if_pos hq, Array.getElem?_toList] at this
          exact this
        have h9 : cs'[k * 5 + r]? = cur[k * 5 + r]? := by
          rcases Nat.lt_or_ge k i with h | h
          · exact k3 _ (by omega)
          · exact k5 _ (by omega)
        rw [h9, h8, listL_at (x := gt M k) (by rw [List.getElem?_set_ne (by omega)]; exact hMk) hr]
    · rw [if_neg hq, List.getElem?_eq_none (by rw [listL_len, List.length_set]; omega)]
/-- a row cut short, what is behind it cleared -/
theorem row_cut {W : World} {g cap n i : Nat} {M : List TnE} {Z : List Value} (h : Row W (.slice (some ⟨g, 0, none⟩) n cap) (some g) 54 5 n (listL M)) (hM : M.length = n) (hi : i ≤ n) (hZ : i * 5 + Z.length ≤ cap * 5) : Row (W.setCells g (i * 5) Z) (.slice (some ⟨g, 0, none⟩) i cap) (some g) 54 5 i (listL (M.take i)) := by
  rcases h.cases with ⟨e, _⟩ | ⟨g', cap', cur, e, e2, h3, h4, h5, h6, h7⟩
  · cases e
  · obtain rfl := Option.some.inj e
    injection e2 with _ _ e3
    subst e3
    obtain ⟨cs', k1, k2, k3, k4, k5⟩ := stC_pt Z (i * 5) h3 (by rw [h6]; exact hZ)
    refine Row.mk k1 (by omega) h5 (by rw [k2, h6]) ?_
    apply List.ext_getElem?
    intro q
    rw [List.getElem?_take]
    have e5 : listL M = listL (M.take i) ++ listL (M.drop i) := by rw [← listL_append, List.take_append_drop]
    by_cases hq : q < i * 5
    · rw [if_pos hq, Array.getElem?_toList, k3 q hq]
      have : (listL M)[q]? = cur[q]? := by rw [← h7, List.getElem?_take, if_pos (by omega), Array.getElem?_toList]
      rw [← this, e5, List.getElem?_append_left (by rw [listL_len, List.length_take]; omega)]
    · rw [if_neg hq, List.getElem?_eq_none (by rw [listL_len, List.length_take]; omega)]
def zerosT (n : Nat) : List Value := (Builtin.zeroCells z0.agg.cells n).toList
theorem zerosT_len (n : Nat) : (zerosT n).length = n * 5 := by
  unfold zerosT
  rw [Array.length_toList, size_zeroCells]
  rfl
theorem zerosT_one (n : Nat) : ∀ v ∈ zerosT n, v.oneCell' = true := by
  intro v hv
  unfold zerosT Builtin.zeroCells at hv
  rw [Array.toList_map, List.mem_map] at hv
  obtain ⟨i, _, rfl⟩ := hv
  have hs : z0.agg.cells.size = 5 := rfl
  rw [hs]
  have hi : i % 5 < 5 := Nat.mod_lt _ (by omega)
  generalize i % 5 = r at hi
  obtain rfl | rfl | rfl | rfl | rfl : r = 0 ∨ r = 1 ∨ r = 2 ∨ r = 3 ∨ r = 4 := by omega
  all_goals rfl
theorem zeroTn (w : World) : (zeroValue 54).run Try.prog w = .ok z0.agg w := by kernel_rfl
theorem run_clear_tn {w : World} {r o c m : Nat} {cur : Array Value} (h : w.heap[r]? = some (.cells cur 54 (0, 0))) (ho : o + m * 5 ≤ cur.size) (hm : 0 < m) (ty : TypeId) :
    (Builtin.clear_ #[22] ty #[.slice (some ⟨r, o, none⟩) m c]).run Try.prog w = .ok (.tuple #[]) (w.setCells r o (zerosT m)) := by
  have hzl := zerosT_len m
  obtain ⟨m, rfl⟩ : ∃ q, m = q + 1 := ⟨m - 1, by omega⟩
  have hst := Go.run_storeCells_cells (P := Try.prog) r o (zerosT (m + 1)) 0 w (fun j hj => by
    simp only [Nat.add_zero]
    rw [cell_at h, Array.getElem?_eq_getElem (by omega)]
    rfl) (fun j _ => by simp only [Nat.add_zero]; exact free_at h _) (zerosT_one _)
  have hz := zeroTn
  simp only [Nat.add_zero] at hst
  unfold zerosT at hst
  simp [Builtin.clear_, run_underlying Try.underlying22, hz, hst, zerosT]
end Go.Proofs.Ytfgnjpdlchimpaa
namespace Go.Proofs.Ytfgnjpdlchimpaa
open Go.RowKit
set_option linter.unusedSimpArgs false
set_option linter.unusedVariables false

theorem row_facts {W : World} {v : Value} {g n i : Nat} {M : List TnE} {y : TnE} (h : Row W v (some g) 54 5 n (listL M)) (hM : M.length = n) (hi : i < n) (hy : y = gt M i) : W.cell? ⟨g, i * 5, none⟩ = some (.int .i64 y.id) ∧ W.cell? ⟨g, i * 5 + 1, none⟩ = some (.int .i64 y.rate) ∧ W.cell? ⟨g, i * 5 + 2, none⟩ = some (.int .i64 y.burst) ∧ W.cell? ⟨g, i * 5 + 3, none⟩ = some (.int .i64 y.bkt) ∧ W.cell? ⟨g, i * 5 + 4, none⟩ = some (.bool y.gone) ∧ W.frozen? ⟨g, i * 5, none⟩ = false ∧ W.frozen? ⟨g, i * 5 + 1, none⟩ = false ∧ W.frozen? ⟨g, i * 5 + 2, none⟩ = false ∧ W.frozen? ⟨g, i * 5 + 3, none⟩ = false ∧ W.frozen? ⟨g, i * 5 + 4, none⟩ = false := by
  have hx : M[i]? = some y := by rw [hy]; exact gt_lt (by omega)
  have hc : ∀ q, q < 5 → W.cell? ⟨g, i * 5 + q, none⟩ = y.cells[q]? ∧ W.frozen? ⟨g, i * 5 + q, none⟩ = false := fun q hq => by
    obtain ⟨g', e, a, b⟩ := h.cell (i * 5 + q) (by omega)
    obtain rfl := Option.some.inj e
    rw [listL_at hx hq] at a
    exact ⟨a, b⟩
  exact ⟨(hc 0 (by omega)).1, (hc 1 (by omega)).1, (hc 2 (by omega)).1, (hc 3 (by omega)).1, (hc 4 (by omega)).1, (hc 0 (by omega)).2, (hc 1 (by omega)).2, (hc 2 (by omega)).2, (hc 3 (by omega)).2, (hc 4 (by omega)).2⟩
set_option maxRecDepth 100000 in
set_option maxHeartbeats 8000000 in
theorem deleteF_any (kf : FuncId) (cs : Array Value) (d : TnE → Bool) (v : Value) (ob : Option Nat) (L : List TnE) (w0 w : World) (h : Row w v ob 54 5 L.length (listL L)) (hok : okL L) (hob : ∀ g, ob = some g → w0.heap.size ≤ g) (hk : EntK kf) (CS : ClT kf cs d L w0) (h0 : Below w0.heap.size w0 w) (hn5 : L.length ≤ 200) :
    Calls Try.prog 100 #[v, .func (.func kf) #[] cs] w fun e w' => ∃ v' ob', e = .returned v' ∧ Row w' v' ob' 54 5 (L.filter fun x => !d x).length (listL (L.filter fun x => !d x)) ∧ (∀ g, ob' = some g → w0.heap.size ≤ g) ∧ Below w0.heap.size w0 w' := by
  have IX := Lib.hid (indexF_any kf cs d v L w0 w (tv_row h hok) hk CS h0)
  have HR := Lib.hid h
  have HOK := Lib.hid hok
  have HOB := Lib.hid hob
  have HCS := Lib.hid CS
  have H0 := Lib.hid h0
  obtain ⟨va, cap, rfl, u1, u2, uva⟩ := h.shape
  unfold maxLen at u2
  have HUV := Lib.hid uva
  clear h hok hob CS h0 uva
  obtain ⟨n, hn⟩ : ∃ n, n = L.length := ⟨_, rfl⟩
  have HN := Lib.hid hn
  rw [← hn] at u1 IX HR hn5 ⊢
  clear hn
  unfold EntK at hk
  go_enter Try.func100, Try.ntmps100
  go_wp2_with fail
  go_at_call 101
  refine Calls.mono IX.out ?_
  rintro e W1 ⟨⟨i, hi, hf, hc⟩, hB1⟩
  have HF := Lib.hid hf
  have HB1 := Lib.hid hB1
  clear hf hB1 IX
  rcases hc with ⟨hin, hdi, rfl⟩ | ⟨rfl, rfl⟩
  · have hg0 : ∃ g, ob = some g := by
      obtain ⟨g, hg, _⟩ := HR.out.cell 0 (by omega)
      exact ⟨g, hg⟩
    obtain ⟨g, rfl⟩ := hg0
    obtain rfl : va = some ⟨g, 0, none⟩ := HUV.out
    have HDI := Lib.hid hdi
    have HG : Hid (w0.heap.size ≤ g) := Lib.hid (HOB.out g rfl)
    have HR1 := Lib.hid (HR.out.congr (w' := W1) fun g' hg' => HB1.out.block g' (by obtain rfl := Option.some.inj hg'; exact HR.out.lt))
    have HB01 := Lib.hid (H0.out.trans (HB1.out.mono H0.out.size))
    have ni : ((i : Int) == -1) = false := by rw [beq_eq_false_iff_ne]; omega
    have ni2 : ((i : Int) = -1) = False := eq_false (by omega)
    have HS0 : Hid (L.take i = (L.take (i + 1)).filter fun x => !d x) := Lib.hid (by
      rw [List.take_add_one, gt_lt (by rw [← HN.out]; omega), List.filter_append]
      have e1 : (L.take i).filter (fun x => !d x) = L.take i := List.filter_eq_self.2 (fun x hx => by
        obtain ⟨j, hj, rfl⟩ := List.mem_iff_getElem.1 hx
        rw [List.length_take] at hj
        have := HF.out j (by omega)
        rw [List.getElem_take]
        rw [gt_of (List.getElem?_eq_getElem (by omega))] at this
        rw [this]
        rfl)
      rw [e1]
      simp [HDI.out])
    clear hdi HUV
    go_wp2_with fail
    go_loopw [5, 6] (fun u j wr => ∃ (i j' : Nat) (M : List TnE), i < j' ∧ j' ≤ n ∧ u = .int .i64 i ∧ j = .int .i64 j' ∧ M.length = n ∧ okL M ∧ Row wr (.slice (some ⟨g, 0, none⟩) n cap) (some g) 54 5 n (listL M) ∧ M.take i = (L.take j').filter (fun x => !d x) ∧ M.drop j' = L.drop j' ∧ Below w0.heap.size w0 wr) (fun _ j _ => n - (intOf j).toNat)
    case atStart => exact ⟨i, i + 1, L, by omega, by omega, rfl, by go_num, HN.out.symm, HOK.out, HR1.out, HS0.out, rfl, HB01.out⟩
    case round =>
      clear HS0 HB01 HR1 HDI HF HB1 ni ni2
      obtain ⟨i, j, M, hij, hjn, rfl, rfl, hM, hok, hr, ht, hdr, hB⟩ := hrel
      have HM := Lib.hid hM
      have HOKM := Lib.hid hok
      have HRM := Lib.hid hr
      have HT := Lib.hid ht
      have HDR := Lib.hid hdr
      have HB := Lib.hid hB
      clear hM hok hr ht hdr hB
      by_cases hlt : j < n
      · have hMj : gt M j = gt L j := by
          unfold gt
          have e1 : M[j]? = (M.drop j)[0]? := by rw [List.getElem?_drop]; rfl
          have e2 : L[j]? = (L.drop j)[0]? := by rw [List.getElem?_drop]; rfl
          rw [e1, e2, HDR.out]
        obtain ⟨x, hx⟩ : ∃ x, x = gt L j := ⟨_, rfl⟩
        rw [← hx] at hMj
        have HX := Lib.hid hx
        have HMJ := Lib.hid hMj
        obtain ⟨a9, c9, e9, hin9⟩ := tn_row (by rw [← HM.out, ← tnL_gt, HM.out]; exact HRM.out : Row wr _ (some g) 54 5 n (tnL (gt M) n)) (fun k hk => okL_gt HOKM.out k (by rw [HM.out]; exact hk))
        injection e9 with e91 _ e93
        subst e91 e93
        obtain ⟨c0, c1, c2, c3, c4⟩ := hin9.cell j hlt
        rw [hMj] at c0 c1 c2 c3 c4
        simp only [Option.getD_some, Nat.zero_add] at c0 c1 c2 c3 c4
        have gl := HRM.out.lt
        clear hx hMj hin9
        go_upto_region 8 with fail
        obtain ⟨K, hK9⟩ : ∃ K, K = wr.heap.size := ⟨_, rfl⟩
        obtain ⟨WX, hWX⟩ : ∃ W, W = wr.alloc (.cells #[.int .i64 x.id, .int .i64 x.rate, .int .i64 x.burst, .int .i64 x.bkt, .bool x.gone] 54) := ⟨_, rfl⟩
        have hbx : Below wr.heap.size wr WX := by rw [hWX]; exact (Below.refl _ _).alloc (Nat.le_refl _) _
        have hkx : Blk WX K #[.int .i64 x.id, .int .i64 x.rate, .int .i64 x.burst, .int .i64 x.bkt, .bool x.gone] 54 := by rw [hWX, hK9]; exact blk_new _ _ _
        have HKX := Lib.hid hkx
        have HBX := Lib.hid (HB.out.trans (hbx.mono HB.out.size))
        have HRX := Lib.hid (HRM.out.congr (w' := WX) fun g' hg' => hbx.block g' (by obtain rfl := Option.some.inj hg'; exact HRM.out.lt))
        have HGK : Hid (g < K) := Lib.hid (by rw [hK9]; exact gl)
        rw [← hK9, ← hWX]
        clear hK9 hWX hbx c0 c1 c2 c3 c4 gl
        have r0 : WX.cell? ⟨K, 0, none⟩ = some (.int .i64 x.id) := cell_at hkx 0
        have r1 : WX.cell? ⟨K, 1, none⟩ = some (.int .i64 x.rate) := cell_at hkx 1
        have r2 : WX.cell? ⟨K, 2, none⟩ = some (.int .i64 x.burst) := cell_at hkx 2
        have r3 : WX.cell? ⟨K, 3, none⟩ = some (.int .i64 x.bkt) := cell_at hkx 3
        have r4 : WX.cell? ⟨K, 4, none⟩ = some (.bool x.gone) := cell_at hkx 4
        have rl := hkx.lt
        have HC := Lib.hid (HCS.out x WX (by rw [HX.out]; exact List.mem_of_getElem? (gt_lt (by rw [← HN.out]; exact hlt))) HBX.out)
        obtain ⟨D, hD⟩ : ∃ D, D = d x := ⟨_, rfl⟩
        rw [← hD] at HC
        have HD := Lib.hid hD
        have hfs : (L.take (j + 1)).filter (fun x => !d x) = (L.take j).filter (fun x => !d x) ++ (if D then [] else [x]) := by
          rw [List.take_add_one, gt_lt (by rw [← HN.out]; exact hlt), List.filter_append, ← HX.out]
          simp only [Option.toList_some, List.filter_cons, List.filter_nil, ← hD]
          cases D <;> rfl
        have HFS := Lib.hid hfs
        have hds : M.drop (j + 1) = L.drop (j + 1) := by
          rw [← List.drop_drop (l := M), ← List.drop_drop (l := L), HDR.out]
        have HDS := Lib.hid hds
        clear hD hfs hkx hds
        cases D
        · go_wp2_with (refine Calls.mono HC.out ?_; rintro e W3 ⟨rfl, hB3⟩; have HB3 := Lib.hid (HBX.out.trans (hB3.mono HBX.out.size)); have HR3 := Lib.hid (HRX.out.congr (w' := W3) fun g' hg' => hB3.block g' (by obtain rfl := Option.some.inj hg'; exact HRX.out.lt)); have hk3 := HKX.out.step hB3; have s0 : W3.cell? ⟨K, 0, none⟩ = some (.int .i64 x.id) := cell_at hk3 0; have s1 : W3.cell? ⟨K, 1, none⟩ = some (.int .i64 x.rate) := cell_at hk3 1; have s2 : W3.cell? ⟨K, 2, none⟩ = some (.int .i64 x.burst) := cell_at hk3 2; have s3 : W3.cell? ⟨K, 3, none⟩ = some (.int .i64 x.bkt) := cell_at hk3 3; have s4 : W3.cell? ⟨K, 4, none⟩ = some (.bool x.gone) := cell_at hk3 4; have sl := hk3.lt; clear hB3 hk3 r0 r1 r2 r3 r4 rl; have gl3 := HR3.out.lt; obtain ⟨y, hy⟩ : ∃ y, y = gt M i := ⟨_, rfl⟩; obtain ⟨p0, p1, p2, p3, p4, q0, q1, q2, q3, q4⟩ := row_facts HR3.out HM.out (show i < n by omega) hy; clear hy)
          obtain ⟨W4, hW4⟩ : ∃ W4, W4 = W3.setCells g (i * 5) x.cells := ⟨_, rfl⟩
          have hch := hW4
          simp only [World.setCells, TnE.cells, Nat.add_assoc, Nat.reduceAdd] at hch
          have hfr := stC_fr g x.cells (i * 5) W3
          rw [← hW4] at hfr
          have HR4 := Lib.hid (show Row W4 _ (some g) 54 5 n (listL (M.set i x)) by rw [hW4]; exact row_set HR3.out HM.out (by omega))
          have HB4 := Lib.hid (HB3.out.trans (hfr.below HB3.out.size (by have := HG.out; simp; omega)))
          rw [← hch]
          clear hW4 hch hfr
          go_wp2_with fail
          go_roundw
          case rel => exact ⟨i + 1, j + 1, M.set i x, by omega, by omega, by go_num, by go_num, by rw [List.length_set]; exact HM.out, (fun z hz => by
              rcases List.mem_or_eq_of_mem_set hz with h | h
              · exact HOKM.out z h
              · rw [h, HX.out]; exact okL_gt HOK.out j (by rw [← HN.out]; exact hlt)), HR4.out, by
              rw [HFS.out, ← HT.out, List.take_add_one, List.getElem?_set_self (by rw [HM.out]; omega), List.take_set]
              rw [List.set_eq_of_length_le (by simp; omega)]
              rfl, by rw [List.drop_set_of_lt (by omega)]; exact HDS.out, HB4.out⟩
          case measure => first | (simp [intOf]; done) | (simp [intOf]; omega)
        · go_wp2_with (refine Calls.mono HC.out ?_; rintro e W3 ⟨rfl, hB3⟩; have HB3 := Lib.hid (HBX.out.trans (hB3.mono HBX.out.size)); have HR3 := Lib.hid (HRX.out.congr (w' := W3) fun g' hg' => hB3.block g' (by obtain rfl := Option.some.inj hg'; exact HRX.out.lt)); clear hB3 r0 r1 r2 r3 r4 rl)
          go_roundw
          case rel => exact ⟨i, j + 1, M, by omega, by omega, rfl, by go_num, HM.out, HOKM.out, HR3.out, by rw [HFS.out, ← HT.out]; exact (List.append_nil _).symm, HDS.out, HB3.out⟩
          case measure => first | (simp [intOf]; done) | (simp [intOf]; omega)
      · obtain rfl : j = n := by omega
        have hcl : ∀ ty, (Builtin.clear_ #[22] ty #[.slice (some ⟨g, i * 5, none⟩) (j - i) (cap - i)]).run Try.prog wr = .ok (.tuple #[]) (wr.setCells g (i * 5) (zerosT (j - i))) := fun ty => by
          rcases HRM.out.cases with ⟨e, _⟩ | ⟨g', cap', cur, e, e2, h3, h4, h5, h6, h7⟩
          · cases e
          · obtain rfl := Option.some.inj e
            exact run_clear_tn h3 (by rw [h6]; omega) (by omega) ty
        have hzl := zerosT_len (j - i)
        have HR4 := Lib.hid (row_cut (Z := zerosT (j - i)) HRM.out HM.out (show i ≤ j by omega) (by rw [hzl]; omega))
        have HB4 := Lib.hid (HB.out.trans ((stC_fr g (zerosT (j - i)) (i * 5) wr).below HB.out.size (by have := HG.out; simp; omega)))
        have hMf : M.take i = L.filter (fun x => !d x) := by rw [HT.out, HN.out, List.take_length]
        have hMl : (M.take i).length = i := by rw [List.length_take, HM.out]; omega
        have HMF := Lib.hid hMf
        have HML := Lib.hid hMl
        obtain ⟨W4, hW4⟩ : ∃ W4, W4 = wr.setCells g (i * 5) (zerosT (j - i)) := ⟨_, rfl⟩
        rw [← hW4] at HR4 HB4
        simp only [← hW4] at hcl
        have hci : (cap = i) = False := eq_false (by omega)
        have hic : i ≤ j := by omega
        clear hMf hMl hW4 hzl
        go_wp2_with fail
        go_ret
        refine ⟨_, some g, rfl, ?_, (fun g' hg' => by obtain rfl := Option.some.inj hg'; exact HG.out), HB4.out⟩
        rw [← HMF.out, HML.out]
        exact HR4.out
  · have hfl : L.filter (fun x => !d x) = L := List.filter_eq_self.2 (fun x hx => by
      obtain ⟨j, hj, rfl⟩ := List.mem_iff_getElem.1 hx
      have := HF.out j (by rw [HN.out]; exact hj)
      rw [gt_of (List.getElem?_eq_getElem hj)] at this
      rw [this]
      rfl)
    have HFL := Lib.hid hfl
    clear hfl
    go_wp2_with fail
    go_ret
    refine ⟨_, ob, rfl, ?_, HOB.out, H0.out.trans (HB1.out.mono H0.out.size)⟩
    rw [HFL.out, ← HN.out]
    exact HR.out.congr fun g' hg' => HB1.out.block g' (by subst hg'; exact HR.out.lt)
end Go.Proofs.Ytfgnjpdlchimpaa
namespace Go.Proofs.Ytfgnjpdlchimpaa
open Go.RowKit
set_option linter.unusedSimpArgs false
set_option linter.unusedVariables false

theorem grow2 {w W W3 : World} {y : TnE} {A : List TnE} {ob : Option Nat} {v3 : Value} {ob3 : Nat}
    (hB : Below w.heap.size w W) (hg : ∀ g, ob = some g → w.heap.size ≤ g)
    (hrow : Row W3 v3 (some ob3) 54 5 (A.length + 1) (listL A ++ y.cells))
    (o : Obj) (hgr : (W.alloc o).grownBy W3 ob) (hob : ob = some ob3 ∨ ob3 = W.heap.size + 1) :
    Row W3 v3 (some ob3) 54 5 (A ++ [y]).length (listL (A ++ [y])) ∧ (∀ g, some ob3 = some g → w.heap.size ≤ g) ∧ Below w.heap.size w W3 := by
  have hl := hB.size
  refine ⟨by rw [listL_append, listL_one, List.length_append]; exact hrow, fun g e => ?_, ?_⟩
  · obtain rfl := Option.some.inj e
    rcases hob with h | h
    · exact hg _ h
    · omega
  · exact (hB.alloc hB.size o).grown hgr (by have := hB.size; simp; omega) (fun g e => hg g e)
set_option maxRecDepth 100000 in
set_option maxHeartbeats 4000000 in
theorem without_any (kf : FuncId) (cs : Array Value) (d : TnE → Bool) (v : Value) (L : List TnE) (w : World) (h : TV w v L) (hn5 : L.length ≤ 200) (hk : EntK kf) (CS : ClT kf cs d L w) : Calls Try.prog 93 #[v, .func (.func kf) #[] cs] w fun e w' => ∃ v', e = .returned v' ∧ TVo w.heap.size w' v' (L.filter fun x => !d x) ∧ Below w.heap.size w w' := by
  have HOK := Lib.hid h.ok
  have HCL : Hid (Calls Try.prog 66 #[v] w fun e w' => ∃ v' ob, e = .returned v' ∧ Row w' v' ob 54 5 L.length (listL L) ∧ (∀ g, ob = some g → w.heap.size ≤ g) ∧ Below w.heap.size w w') := Lib.hid (by
    obtain ⟨a, b, o, cap, rfl, h⟩ := h
    have := tclone_any a L.length cap b o (gt L) w h (by omega)
    rwa [← tnL_gt] at this)
  have HCS := Lib.hid CS
  clear h CS
  go_enter Try.func93, Try.ntmps93
  go_wp2_with fail
  go_at_call 66
  refine Calls.mono HCL.out ?_
  rintro e W1 ⟨v1, ob, rfl, hr, ho, hB⟩
  have HDF := Lib.hid (deleteF_any kf cs d v1 ob L w W1 hr HOK.out ho hk HCS.out hB hn5)
  clear hr ho hB HCL HCS
  go_wp2_with fail
  go_at_call 100
  refine Calls.mono HDF.out ?_
  rintro e W2 ⟨v2, ob2, rfl, hr2, ho2, hB2⟩
  have HV := Lib.hid (tvo_row (m := w.heap.size) hr2 (fun x hx => HOK.out x (List.mem_filter.1 hx).1) ho2)
  have HB := Lib.hid hB2
  clear hr2 ho2 hB2
  go_wp2_with fail
  go_ret
  exact ⟨_, rfl, HV.out, HB.out⟩
end Go.Proofs.Ytfgnjpdlchimpaa
