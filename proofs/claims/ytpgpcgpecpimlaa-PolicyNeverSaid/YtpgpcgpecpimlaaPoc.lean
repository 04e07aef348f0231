/-
  A tenant laid: the document.
-/
import Derived.Test.YtpgpcgpecpimlaaPoa
import Derived.Test.YtpgpcgpecpimlaaPo4
import Derived.Test.YtpgpcgpecpimlaaPo2
import Derived.Deep.RegionLaw
namespace Go.Proofs.Ytpgpcgpecpimlaa
open Go.RowKit
set_option linter.unusedSimpArgs false
set_option linter.unusedVariables false

theorem dN (w : World) (n : Nat) : Below w.heap.size w (w.drewN n) := ⟨rfl, rfl, rfl, Nat.le_refl _, fun _ _ => rfl⟩
theorem one_tn (W : World) (x : TnE) (t : TypeId) : ∀ j u, x.cells[j]? = some u → (W.alloc (.cells #[.int .i64 x.id, .int .i64 x.rate, .int .i64 x.burst, .int .i64 x.bkt, .bool x.gone] t)).cell? ((⟨W.heap.size, 0, none⟩ : Addr).add j) = some u := by
  intro j u hj
  have hb : Blk (W.alloc (.cells #[.int .i64 x.id, .int .i64 x.rate, .int .i64 x.burst, .int .i64 x.bkt, .bool x.gone] t)) W.heap.size #[.int .i64 x.id, .int .i64 x.rate, .int .i64 x.burst, .int .i64 x.bkt, .bool x.gone] t := blk_new _ _ _
  rw [addr_add, Nat.zero_add, cell_at hb, ← hj]
  simp [TnE.cells]
theorem tnc_one (x : TnE) : ∀ u ∈ x.cells, u.oneCell' = true := by
  intro u hu
  have : x.cells.all (fun u => u.oneCell') = true := rfl
  exact List.all_eq_true.1 this u hu
theorem grow1 {w W W3 : World} {N : Nat} {x y : TnE} {A : List TnE} {ob : Option Nat} {v3 : Value} {ob3 : Nat}
    (hM : w.heap.size ≤ N) (hMb : Blk W N #[.int .i64 x.id, .int .i64 x.rate, .int .i64 x.burst, .int .i64 x.bkt, .bool x.gone] 72) (hB : Below w.heap.size w W) (hg : ∀ g, ob = some g → N < g)
    (hrow : Row W3 v3 (some ob3) 72 5 (A.length + 1) (listL A ++ y.cells))
    (o : Obj) (hgr : (W.alloc o).grownBy W3 ob) (hob : ob = some ob3 ∨ ob3 = W.heap.size + 1) :
    Row W3 v3 (some ob3) 72 5 (A ++ [y]).length (listL (A ++ [y])) ∧ (∀ g, some ob3 = some g → N < g) ∧ Blk W3 N #[.int .i64 x.id, .int .i64 x.rate, .int .i64 x.burst, .int .i64 x.bkt, .bool x.gone] 72 ∧ Below w.heap.size w W3 := by
  have hl := hMb.lt
  refine ⟨by rw [listL_append, listL_one, List.length_append]; exact hrow, fun g e => ?_, ?_, ?_⟩
  · obtain rfl := Option.some.inj e
    rcases hob with h | h
    · exact hg _ h
    · omega
  · exact (hgr.block N (by simp; omega) (fun e => by have := hg N e.symm; omega)).trans (hMb.alloc o)
  · exact (hB.alloc hB.size o).grown hgr (by have := hB.size; simp; omega) (fun g e => by have := hg g e; omega)
theorem okL_with {x : TnE} (hx : x.ok) : ∀ {L : List TnE} (d : Bool), okL L → okL (withF x d L)
  | [], d, _ => by
    unfold withF
    split
    · intro y hy; cases hy
    · intro y hy
      obtain rfl : y = x := by simpa using hy
      exact hx
  | z :: r, d, h => by
    have hz : z.ok := h z (by simp)
    have hr : okL r := fun y hy => h y (by simp [hy])
    unfold withF
    split
    · exact okL_with hx d hr
    · split
      · intro y hy
        rcases List.mem_cons.1 hy with rfl | hy
        · exact hx
        · rcases List.mem_cons.1 hy with rfl | hy
          · exact hz
          · exact okL_with hx true hr y hy
      · intro y hy
        rcases List.mem_cons.1 hy with rfl | hy
        · exact hz
        · exact okL_with hx d hr y hy
theorem withF_step {L : List TnE} {k : Nat} (x : TnE) (d : Bool) (h : k < L.length) : withF x d (L.drop k) = if (gt L k).id = x.id then withF x d (L.drop (k + 1)) else if x.id < (gt L k).id ∧ d = false then x :: gt L k :: withF x true (L.drop (k + 1)) else gt L k :: withF x d (L.drop (k + 1)) := by
  rw [List.drop_eq_getElem_cons h, show gt L k = L[k] from gt_of (List.getElem?_eq_getElem h)]
  rfl
set_option maxRecDepth 100000 in
set_option maxHeartbeats 8000000 in
theorem with_any (v : Value) (L : List TnE) (x : TnE) (w : World) (h : TV w v L) (hn5 : L.length ≤ 200) (hx : x.ok) : Calls Try.prog 85 #[v, x.agg] w fun e w' => ∃ v', e = .returned v' ∧ TVo w.heap.size w' v' (withF x false L) ∧ Below w.heap.size w w' := by
  have HOK := Lib.hid (okL_with hx false h.ok)
  obtain ⟨N, hN⟩ : ∃ N, N = w.heap.size := ⟨_, rfl⟩
  obtain ⟨W1, hW1⟩ : ∃ W1, W1 = w.alloc (.cells #[.int .i64 x.id, .int .i64 x.rate, .int .i64 x.burst, .int .i64 x.bkt, .bool x.gone] 72) := ⟨_, rfl⟩
  have hB1 : Below w.heap.size w W1 := by rw [hW1]; exact (Below.refl _ _).alloc (Nat.le_refl _) _
  have HK1 : Hid (Blk W1 N #[.int .i64 x.id, .int .i64 x.rate, .int .i64 x.burst, .int .i64 x.bkt, .bool x.gone] 72) := Lib.hid (by rw [hW1, hN]; exact blk_new _ _ _)
  have HV1 := Lib.hid (h.below hB1)
  have HB1 := Lib.hid hB1
  have HNB : Hid (w.heap.size ≤ N) := Lib.hid (by rw [hN]; exact Nat.le_refl _)
  clear hB1 h
  have HS1 : Hid (W1.heap.size = N + 1) := Lib.hid (by rw [hW1, hN]; simp)
  obtain ⟨i0, hi, hz0, hz1, hz2⟩ := info_parts tnZero
  have HI := Lib.hid hi
  have HZ0 := Lib.hid hz0
  have HZ1 := Lib.hid hz1
  have HZ2 := Lib.hid hz2
  clear hi hz0 hz1 hz2 hx
  obtain ⟨Y, hY⟩ : ∃ Y, Y = withF x false L := ⟨_, rfl⟩
  rw [← hY] at HOK ⊢
  have HY := Lib.hid hY
  clear hY
  obtain ⟨a, b, o, cap, rfl, h⟩ := HV1.out
  have m1 := h.le
  have m2 := h.max
  unfold maxLen at m2
  have H1 := Lib.hid h
  clear h
  obtain ⟨n, hn⟩ : ∃ n, n = L.length := ⟨_, rfl⟩
  have HN := Lib.hid hn
  rw [← hn] at m1 H1 hn5 ⊢
  clear hn HV1
  unfold TnE.agg
  go_enter Try.func85, Try.ntmps85
  go_upto_region 1 with fail
  rw [← hN, ← hW1]
  clear hN hW1
  go_wp2_with fail
  go_loopw [5, 6, 7] (fun u d i wr => ∃ (k : Nat) (D : Bool) (ob : Option Nat) (A : List TnE), k ≤ n ∧ d = .bool D ∧ i = .int .i64 k ∧ Row wr u ob 72 5 A.length (listL A) ∧ A ++ withF x D (L.drop k) = Y ∧ A.length ≤ k + D.toNat ∧ (∀ g, ob = some g → N < g) ∧ Blk wr N #[.int .i64 x.id, .int .i64 x.rate, .int .i64 x.burst, .int .i64 x.bkt, .bool x.gone] 72 ∧ Below w.heap.size w wr ∧ Below W1.heap.size W1 wr) (fun _ _ i _ => n - (intOf i).toNat)
  case atStart => exact ⟨0, false, none, [], Nat.zero_le _, rfl, rfl, Row.nil _ _ _, HY.out.symm, by simp, (fun g e => by cases e), HK1.out, HB1.out, Below.refl _ _⟩
  case round =>
    obtain ⟨k, D, ob, A, hk, rfl, rfl, hrow, hA, hAl, hg, hMb, hB, hB1⟩ := hrel
    have HROW := Lib.hid hrow
    have HG := Lib.hid hg
    have HMB := Lib.hid hMb
    have HB := Lib.hid hB
    have HBW := Lib.hid hB1
    obtain ⟨va, vc, rfl, v1, v2, _⟩ := hrow.shape
    unfold maxLen at v2
    have hAl2 : A.length ≤ k + 1 := by cases D <;> simp at hAl <;> omega
    clear hrow hg hMb hB hB1
    by_cases hlt : k < n
    · have hs1 := H1.out.below HBW.out
      obtain ⟨e0, e1⟩ := hs1.at_ (by omega)
      subst e0
      obtain ⟨y, hy⟩ : ∃ y, y = gt L k := ⟨_, rfl⟩
      have hst := withF_step x D (L := L) (k := k) (by rw [← HN.out]; exact hlt)
      rw [← hy] at hst
      rw [hst] at hA
      have HYK := Lib.hid hy
      clear hs1 hst hy e1
      have hs1 := H1.out.below HBW.out
      obtain ⟨c0, c1, c2, c3, c4⟩ := hs1.cell k hlt
      have e1 := (hs1.at_ (by omega)).2
      rw [← HYK.out] at c0 c1 c2 c3 c4
      clear hs1
      have x0 : wr.cell? ⟨N, 0, none⟩ = some (.int .i64 x.id) := cell_at HMB.out 0
      have x1 : wr.cell? ⟨N, 1, none⟩ = some (.int .i64 x.rate) := cell_at HMB.out 1
      have x2 : wr.cell? ⟨N, 2, none⟩ = some (.int .i64 x.burst) := cell_at HMB.out 2
      have x3 : wr.cell? ⟨N, 3, none⟩ = some (.int .i64 x.bkt) := cell_at HMB.out 3
      have x4 : wr.cell? ⟨N, 4, none⟩ = some (.bool x.gone) := cell_at HMB.out 4
      have hMl := HMB.out.lt
      by_cases he : y.id = x.id
      · rw [if_pos he] at hA
        have HA := Lib.hid hA
        have f1 : (y.id = x.id) = True := eq_true he
        have f2 : (y.id == x.id) = true := beq_iff_eq.2 he
        have f3 : decide (y.id = x.id) = true := decide_eq_true he
        clear hA he
        go_wp2_with fail
        (refine wp_region_quiet_lit (by kernel_rfl) (by kernel_rfl) ?_; (repeat (first | go_big_quiet_step (fail) | (refine BigFrame.wpQuiet_skip (by rfl) ?_; try simp only [Act.put, List.setIfInBounds_toArray, List.set_cons_zero, List.set_cons_succ]))); refine wpQuiet_nil ?_; intro _ hw9; obtain ⟨nq, hw8⟩ := hw9; subst hw8)
        go_wp2_with fail
        go_roundw
        case rel => exact ⟨k + 1, D, ob, A, by omega, rfl, by go_num, HROW.out.congr (fun _ _ => rfl), HA.out, by omega, HG.out, HMB.out.step (dN _ _), below_dN HB.out nq, below_dN HBW.out nq⟩
        case measure => first | (simp [intOf]; done) | (simp [intOf]; omega)
      · rw [if_neg he] at hA
        have f1 : (y.id = x.id) = False := eq_false he
        have f2 : (y.id == x.id) = false := beq_eq_false_iff_ne.2 he
        have f3 : decide (y.id = x.id) = false := decide_eq_false he
        by_cases hd : x.id < y.id ∧ D = false
        · rw [if_pos hd] at hA
          obtain ⟨hd1, rfl⟩ := hd
          have hAl3 : A.length ≤ k := hAl
          have HA := Lib.hid hA
          have g1 : (x.id < y.id) = True := eq_true hd1
          have g2 : decide (x.id < y.id) = true := decide_eq_true hd1
          clear hA he hd1
          go_wp2_with fail
          (refine wp_region_quiet_lit (by kernel_rfl) (by kernel_rfl) ?_; (repeat (first | go_big_quiet_step (fail) | (refine BigFrame.wpQuiet_skip (by rfl) ?_; try simp only [Act.put, List.setIfInBounds_toArray, List.set_cons_zero, List.set_cons_succ]))); refine wpQuiet_nil ?_; intro _ hw9; obtain ⟨nq, hw8⟩ := hw9; subst hw8)
          obtain ⟨Wa, hWWa⟩ : ∃ W, W = wr.drewN nq := ⟨_, rfl⟩
          rw [← hWWa]
          have hdWa : Below wr.heap.size wr Wa := by rw [hWWa]; exact dN _ _
          have HROWa := Lib.hid (HROW.out.congr (w' := Wa) fun g hg => hdWa.block g (by subst hg; exact HROW.out.lt))
          have HMBa := Lib.hid (HMB.out.step hdWa)
          have HBa := Lib.hid (HB.out.trans (hdWa.mono HB.out.size))
          have HBWa := Lib.hid (HBW.out.trans (hdWa.mono HBW.out.size))
          clear hWWa hdWa
          clear c0 c1 c2 c3 c4 e1 x0 x1 x2 x3 x4 hMl
          have hs1 := H1.out.below HBWa.out
          obtain ⟨c0, c1, c2, c3, c4⟩ := hs1.cell k hlt
          have e1 := (hs1.at_ (by omega)).2
          rw [← HYK.out] at c0 c1 c2 c3 c4
          clear hs1
          have x0 : Wa.cell? ⟨N, 0, none⟩ = some (.int .i64 x.id) := cell_at HMBa.out 0
          have x1 : Wa.cell? ⟨N, 1, none⟩ = some (.int .i64 x.rate) := cell_at HMBa.out 1
          have x2 : Wa.cell? ⟨N, 2, none⟩ = some (.int .i64 x.burst) := cell_at HMBa.out 2
          have x3 : Wa.cell? ⟨N, 3, none⟩ = some (.int .i64 x.bkt) := cell_at HMBa.out 3
          have x4 : Wa.cell? ⟨N, 4, none⟩ = some (.bool x.gone) := cell_at HMBa.out 4
          have hMl := HMBa.out.lt
          go_wp2_with fail
          (refine wp_region_quiet_lit (by kernel_rfl) (by kernel_rfl) ?_; (repeat (first | go_big_quiet_step (fail) | (refine BigFrame.wpQuiet_skip (by rfl) ?_; try simp only [Act.put, List.setIfInBounds_toArray, List.set_cons_zero, List.set_cons_succ]))); refine wpQuiet_nil ?_; intro _ hw9; obtain ⟨nq, hw8⟩ := hw9; subst hw8)
          obtain ⟨Wb, hWWb⟩ : ∃ W, W = Wa.drewN nq := ⟨_, rfl⟩
          rw [← hWWb]
          have hdWb : Below Wa.heap.size Wa Wb := by rw [hWWb]; exact dN _ _
          have HROWb := Lib.hid (HROWa.out.congr (w' := Wb) fun g hg => hdWb.block g (by subst hg; exact HROWa.out.lt))
          have HMBb := Lib.hid (HMBa.out.step hdWb)
          have HBb := Lib.hid (HBa.out.trans (hdWb.mono HBa.out.size))
          have HBWb := Lib.hid (HBWa.out.trans (hdWb.mono HBWa.out.size))
          clear hWWb hdWb
          clear c0 c1 c2 c3 c4 e1 x0 x1 x2 x3 x4 hMl
          have hs1 := H1.out.below HBWb.out
          obtain ⟨c0, c1, c2, c3, c4⟩ := hs1.cell k hlt
          have e1 := (hs1.at_ (by omega)).2
          rw [← HYK.out] at c0 c1 c2 c3 c4
          clear hs1
          have x0 : Wb.cell? ⟨N, 0, none⟩ = some (.int .i64 x.id) := cell_at HMBb.out 0
          have x1 : Wb.cell? ⟨N, 1, none⟩ = some (.int .i64 x.rate) := cell_at HMBb.out 1
          have x2 : Wb.cell? ⟨N, 2, none⟩ = some (.int .i64 x.burst) := cell_at HMBb.out 2
          have x3 : Wb.cell? ⟨N, 3, none⟩ = some (.int .i64 x.bkt) := cell_at HMBb.out 3
          have x4 : Wb.cell? ⟨N, 4, none⟩ = some (.bool x.gone) := cell_at HMBb.out 4
          have hMl := HMBb.out.lt
          go_wp2_with (at_builtin; refine wpList_append_row _ rfl (.tmp 34) (.tmp 36) 60 rfl 72 i0 _ 5 40 Try.underlying60 HI.out HZ0.out HZ1.out HZ2.out rfl (by decide) _ ob A.length (listL A) rfl (HROWb.out.alloc _) ⟨Wb.heap.size, 0, none⟩ 1 1 (x).cells rfl (by decide) rfl ?c1 ?c2 ?c3 ?c4 ?_)
          case c1 => exact one_tn Wb x _
          case c2 => exact tnc_one x
          case c3 => (unfold maxLen; (try simp only [List.length_append, List.length_cons, List.length_nil]); omega)
          case c4 => ((try simp only [List.length_append, List.length_cons, List.length_nil]); omega)
          intro v3p ob3p W3p hrow3 hg3 hob3
          have hG := grow1 (A := A) (y := x) HNB.out HMBb.out HBb.out HG.out (by first | exact hrow3 | simpa using hrow3) _ hg3 (by first | exact hob3 | (rcases hob3 with h | h; exact .inl (by rw [h]); exact .inr h))
          obtain ⟨va3p, vc3p, hv3, v13p, _, h39⟩ := hG.1.shape
          have h49 : va3p = some ⟨ob3p, 0, none⟩ := h39
          subst hv3 h49
          have HR3p := Lib.hid hG.1
          have HG3p := Lib.hid hG.2.1
          have HMB3p := Lib.hid hG.2.2.1
          have HB3p := Lib.hid hG.2.2.2
          have HBW3p : Hid (Below W1.heap.size W1 W3p) := Lib.hid ((HBWb.out.alloc HBWb.out.size _).grown hg3 (by have := HBWb.out.size; simp; omega) (fun g e => by have := HG.out g e; have := HS1.out; omega))
          clear hG hrow3 hg3 hob3 h39
          clear c0 c1 c2 c3 c4 e1 x0 x1 x2 x3 x4 hMl
          have hs1 := H1.out.below HBW3p.out
          obtain ⟨c0, c1, c2, c3, c4⟩ := hs1.cell k hlt
          have e1 := (hs1.at_ (by omega)).2
          rw [← HYK.out] at c0 c1 c2 c3 c4
          clear hs1
          have x0 : W3p.cell? ⟨N, 0, none⟩ = some (.int .i64 x.id) := cell_at HMB3p.out 0
          have x1 : W3p.cell? ⟨N, 1, none⟩ = some (.int .i64 x.rate) := cell_at HMB3p.out 1
          have x2 : W3p.cell? ⟨N, 2, none⟩ = some (.int .i64 x.burst) := cell_at HMB3p.out 2
          have x3 : W3p.cell? ⟨N, 3, none⟩ = some (.int .i64 x.bkt) := cell_at HMB3p.out 3
          have x4 : W3p.cell? ⟨N, 4, none⟩ = some (.bool x.gone) := cell_at HMB3p.out 4
          have hMl := HMB3p.out.lt
          go_wp2_with (at_builtin; refine wpList_append_row _ rfl (.tmp 38) (.tmp 43) 60 rfl 72 i0 _ 5 40 Try.underlying60 HI.out HZ0.out HZ1.out HZ2.out rfl (by decide) _ (some ob3p) (A ++ [x]).length (listL (A ++ [x])) rfl (HR3p.out.alloc _) ⟨W3p.heap.size, 0, none⟩ 1 1 (y).cells rfl (by decide) rfl ?c1 ?c2 ?c3 ?c4 ?_)
          case c1 => exact one_tn W3p y _
          case c2 => exact tnc_one y
          case c3 => (unfold maxLen; (try simp only [List.length_append, List.length_cons, List.length_nil]); omega)
          case c4 => ((try simp only [List.length_append, List.length_cons, List.length_nil]); omega)
          intro v3q ob3q W3q hrow3 hg3 hob3
          have hG := grow1 (A := (A ++ [x])) (y := y) HNB.out HMB3p.out HB3p.out HG3p.out (by first | exact hrow3 | simpa using hrow3) _ hg3 (by first | exact hob3 | (rcases hob3 with h | h; exact .inl (by rw [h]); exact .inr h))
          obtain ⟨va3q, vc3q, hv3, v13q, _, h39⟩ := hG.1.shape
          have h49 : va3q = some ⟨ob3q, 0, none⟩ := h39
          subst hv3 h49
          have HR3q := Lib.hid hG.1
          have HG3q := Lib.hid hG.2.1
          have HMB3q := Lib.hid hG.2.2.1
          have HB3q := Lib.hid hG.2.2.2
          have HBW3q : Hid (Below W1.heap.size W1 W3q) := Lib.hid ((HBW3p.out.alloc HBW3p.out.size _).grown hg3 (by have := HBW3p.out.size; simp; omega) (fun g e => by have := HG3p.out g e; have := HS1.out; omega))
          clear hG hrow3 hg3 hob3 h39
          go_wp2_with fail
          go_roundw
          case rel => exact ⟨k + 1, true, some ob3q, A ++ [x] ++ [y], by omega, rfl, by go_num, HR3q.out, by rw [← HA.out]; simp, by simp; omega, HG3q.out, HMB3q.out, HB3q.out, HBW3q.out⟩
          case measure => first | (simp [intOf]; done) | (simp [intOf]; omega)
        · rw [if_neg hd] at hA
          have HA := Lib.hid hA
          have hcs : (D = true ∧ x.id < y.id) ∨ ¬ x.id < y.id := by
            cases D
            · exact .inr (fun h => hd ⟨h, rfl⟩)
            · by_cases h : x.id < y.id
              · exact .inl ⟨rfl, h⟩
              · exact .inr h
          clear hA he hd
          rcases hcs with ⟨rfl, hd1⟩ | hd1
          · have g1 : (x.id < y.id) = True := eq_true hd1
            have g2 : decide (x.id < y.id) = true := decide_eq_true hd1
            clear hd1
            go_wp2_with fail
            (refine wp_region_quiet_lit (by kernel_rfl) (by kernel_rfl) ?_; (repeat (first | go_big_quiet_step (fail) | (refine BigFrame.wpQuiet_skip (by rfl) ?_; try simp only [Act.put, List.setIfInBounds_toArray, List.set_cons_zero, List.set_cons_succ]))); refine wpQuiet_nil ?_; intro _ hw9; obtain ⟨nq, hw8⟩ := hw9; subst hw8)
            obtain ⟨Wa, hWWa⟩ : ∃ W, W = wr.drewN nq := ⟨_, rfl⟩
            rw [← hWWa]
            have hdWa : Below wr.heap.size wr Wa := by rw [hWWa]; exact dN _ _
            have HROWa := Lib.hid (HROW.out.congr (w' := Wa) fun g hg => hdWa.block g (by subst hg; exact HROW.out.lt))
            have HMBa := Lib.hid (HMB.out.step hdWa)
            have HBa := Lib.hid (HB.out.trans (hdWa.mono HB.out.size))
            have HBWa := Lib.hid (HBW.out.trans (hdWa.mono HBW.out.size))
            clear hWWa hdWa
            clear c0 c1 c2 c3 c4 e1 x0 x1 x2 x3 x4 hMl
            have hs1 := H1.out.below HBWa.out
            obtain ⟨c0, c1, c2, c3, c4⟩ := hs1.cell k hlt
            have e1 := (hs1.at_ (by omega)).2
            rw [← HYK.out] at c0 c1 c2 c3 c4
            clear hs1
            have x0 : Wa.cell? ⟨N, 0, none⟩ = some (.int .i64 x.id) := cell_at HMBa.out 0
            have x1 : Wa.cell? ⟨N, 1, none⟩ = some (.int .i64 x.rate) := cell_at HMBa.out 1
            have x2 : Wa.cell? ⟨N, 2, none⟩ = some (.int .i64 x.burst) := cell_at HMBa.out 2
            have x3 : Wa.cell? ⟨N, 3, none⟩ = some (.int .i64 x.bkt) := cell_at HMBa.out 3
            have x4 : Wa.cell? ⟨N, 4, none⟩ = some (.bool x.gone) := cell_at HMBa.out 4
            have hMl := HMBa.out.lt
            go_wp2_with fail
            (refine wp_region_quiet_lit (by kernel_rfl) (by kernel_rfl) ?_; (repeat (first | go_big_quiet_step (fail) | (refine BigFrame.wpQuiet_skip (by rfl) ?_; try simp only [Act.put, List.setIfInBounds_toArray, List.set_cons_zero, List.set_cons_succ]))); refine wpQuiet_nil ?_; intro _ hw9; obtain ⟨nq, hw8⟩ := hw9; subst hw8)
            obtain ⟨Wb, hWWb⟩ : ∃ W, W = Wa.drewN nq := ⟨_, rfl⟩
            rw [← hWWb]
            have hdWb : Below Wa.heap.size Wa Wb := by rw [hWWb]; exact dN _ _
            have HROWb := Lib.hid (HROWa.out.congr (w' := Wb) fun g hg => hdWb.block g (by subst hg; exact HROWa.out.lt))
            have HMBb := Lib.hid (HMBa.out.step hdWb)
            have HBb := Lib.hid (HBa.out.trans (hdWb.mono HBa.out.size))
            have HBWb := Lib.hid (HBWa.out.trans (hdWb.mono HBWa.out.size))
            clear hWWb hdWb
            clear c0 c1 c2 c3 c4 e1 x0 x1 x2 x3 x4 hMl
            have hs1 := H1.out.below HBWb.out
            obtain ⟨c0, c1, c2, c3, c4⟩ := hs1.cell k hlt
            have e1 := (hs1.at_ (by omega)).2
            rw [← HYK.out] at c0 c1 c2 c3 c4
            clear hs1
            have x0 : Wb.cell? ⟨N, 0, none⟩ = some (.int .i64 x.id) := cell_at HMBb.out 0
            have x1 : Wb.cell? ⟨N, 1, none⟩ = some (.int .i64 x.rate) := cell_at HMBb.out 1
            have x2 : Wb.cell? ⟨N, 2, none⟩ = some (.int .i64 x.burst) := cell_at HMBb.out 2
            have x3 : Wb.cell? ⟨N, 3, none⟩ = some (.int .i64 x.bkt) := cell_at HMBb.out 3
            have x4 : Wb.cell? ⟨N, 4, none⟩ = some (.bool x.gone) := cell_at HMBb.out 4
            have hMl := HMBb.out.lt
            go_wp2_with (at_builtin; refine wpList_append_row _ rfl (.tmp 38) (.tmp 43) 60 rfl 72 i0 _ 5 40 Try.underlying60 HI.out HZ0.out HZ1.out HZ2.out rfl (by decide) _ ob A.length (listL A) rfl (HROWb.out.alloc _) ⟨Wb.heap.size, 0, none⟩ 1 1 (y).cells rfl (by decide) rfl ?c1 ?c2 ?c3 ?c4 ?_)
            case c1 => exact one_tn Wb y _
            case c2 => exact tnc_one y
            case c3 => (unfold maxLen; (try simp only [List.length_append, List.length_cons, List.length_nil]); omega)
            case c4 => ((try simp only [List.length_append, List.length_cons, List.length_nil]); omega)
            intro v3q ob3q W3q hrow3 hg3 hob3
            have hG := grow1 (A := A) (y := y) HNB.out HMBb.out HBb.out HG.out (by first | exact hrow3 | simpa using hrow3) _ hg3 (by first | exact hob3 | (rcases hob3 with h | h; exact .inl (by rw [h]); exact .inr h))
            obtain ⟨va3q, vc3q, hv3, v13q, _, h39⟩ := hG.1.shape
            have h49 : va3q = some ⟨ob3q, 0, none⟩ := h39
            subst hv3 h49
            have HR3q := Lib.hid hG.1
            have HG3q := Lib.hid hG.2.1
            have HMB3q := Lib.hid hG.2.2.1
            have HB3q := Lib.hid hG.2.2.2
            have HBW3q : Hid (Below W1.heap.size W1 W3q) := Lib.hid ((HBWb.out.alloc HBWb.out.size _).grown hg3 (by have := HBWb.out.size; simp; omega) (fun g e => by have := HG.out g e; have := HS1.out; omega))
            clear hG hrow3 hg3 hob3 h39
            go_wp2_with fail
            go_roundw
            case rel => exact ⟨k + 1, _, some ob3q, A ++ [y], by omega, rfl, by go_num, HR3q.out, by rw [← HA.out]; simp, by simp; omega, HG3q.out, HMB3q.out, HB3q.out, HBW3q.out⟩
            case measure => first | (simp [intOf]; done) | (simp [intOf]; omega)
          · have g1 : (x.id < y.id) = False := eq_false hd1
            have g2 : decide (x.id < y.id) = false := decide_eq_false hd1
            clear hd1
            go_wp2_with fail
            (refine wp_region_quiet_lit (by kernel_rfl) (by kernel_rfl) ?_; (repeat (first | go_big_quiet_step (fail) | (refine BigFrame.wpQuiet_skip (by rfl) ?_; try simp only [Act.put, List.setIfInBounds_toArray, List.set_cons_zero, List.set_cons_succ]))); refine wpQuiet_nil ?_; intro _ hw9; obtain ⟨nq, hw8⟩ := hw9; subst hw8)
            obtain ⟨Wa, hWWa⟩ : ∃ W, W = wr.drewN nq := ⟨_, rfl⟩
            rw [← hWWa]
            have hdWa : Below wr.heap.size wr Wa := by rw [hWWa]; exact dN _ _
            have HROWa := Lib.hid (HROW.out.congr (w' := Wa) fun g hg => hdWa.block g (by subst hg; exact HROW.out.lt))
            have HMBa := Lib.hid (HMB.out.step hdWa)
            have HBa := Lib.hid (HB.out.trans (hdWa.mono HB.out.size))
            have HBWa := Lib.hid (HBW.out.trans (hdWa.mono HBW.out.size))
            clear hWWa hdWa
            clear c0 c1 c2 c3 c4 e1 x0 x1 x2 x3 x4 hMl
            have hs1 := H1.out.below HBWa.out
            obtain ⟨c0, c1, c2, c3, c4⟩ := hs1.cell k hlt
            have e1 := (hs1.at_ (by omega)).2
            rw [← HYK.out] at c0 c1 c2 c3 c4
            clear hs1
            have x0 : Wa.cell? ⟨N, 0, none⟩ = some (.int .i64 x.id) := cell_at HMBa.out 0
            have x1 : Wa.cell? ⟨N, 1, none⟩ = some (.int .i64 x.rate) := cell_at HMBa.out 1
            have x2 : Wa.cell? ⟨N, 2, none⟩ = some (.int .i64 x.burst) := cell_at HMBa.out 2
            have x3 : Wa.cell? ⟨N, 3, none⟩ = some (.int .i64 x.bkt) := cell_at HMBa.out 3
            have x4 : Wa.cell? ⟨N, 4, none⟩ = some (.bool x.gone) := cell_at HMBa.out 4
            have hMl := HMBa.out.lt
            go_wp2_with fail
            (refine wp_region_quiet_lit (by kernel_rfl) (by kernel_rfl) ?_; (repeat (first | go_big_quiet_step (fail) | (refine BigFrame.wpQuiet_skip (by rfl) ?_; try simp only [Act.put, List.setIfInBounds_toArray, List.set_cons_zero, List.set_cons_succ]))); refine wpQuiet_nil ?_; intro _ hw9; obtain ⟨nq, hw8⟩ := hw9; subst hw8)
            obtain ⟨Wb, hWWb⟩ : ∃ W, W = Wa.drewN nq := ⟨_, rfl⟩
            rw [← hWWb]
            have hdWb : Below Wa.heap.size Wa Wb := by rw [hWWb]; exact dN _ _
            have HROWb := Lib.hid (HROWa.out.congr (w' := Wb) fun g hg => hdWb.block g (by subst hg; exact HROWa.out.lt))
            have HMBb := Lib.hid (HMBa.out.step hdWb)
            have HBb := Lib.hid (HBa.out.trans (hdWb.mono HBa.out.size))
            have HBWb := Lib.hid (HBWa.out.trans (hdWb.mono HBWa.out.size))
            clear hWWb hdWb
            clear c0 c1 c2 c3 c4 e1 x0 x1 x2 x3 x4 hMl
            have hs1 := H1.out.below HBWb.out
            obtain ⟨c0, c1, c2, c3, c4⟩ := hs1.cell k hlt
            have e1 := (hs1.at_ (by omega)).2
            rw [← HYK.out] at c0 c1 c2 c3 c4
            clear hs1
            have x0 : Wb.cell? ⟨N, 0, none⟩ = some (.int .i64 x.id) := cell_at HMBb.out 0
            have x1 : Wb.cell? ⟨N, 1, none⟩ = some (.int .i64 x.rate) := cell_at HMBb.out 1
            have x2 : Wb.cell? ⟨N, 2, none⟩ = some (.int .i64 x.burst) := cell_at HMBb.out 2
            have x3 : Wb.cell? ⟨N, 3, none⟩ = some (.int .i64 x.bkt) := cell_at HMBb.out 3
            have x4 : Wb.cell? ⟨N, 4, none⟩ = some (.bool x.gone) := cell_at HMBb.out 4
            have hMl := HMBb.out.lt
            go_wp2_with (at_builtin; refine wpList_append_row _ rfl (.tmp 38) (.tmp 43) 60 rfl 72 i0 _ 5 40 Try.underlying60 HI.out HZ0.out HZ1.out HZ2.out rfl (by decide) _ ob A.length (listL A) rfl (HROWb.out.alloc _) ⟨Wb.heap.size, 0, none⟩ 1 1 (y).cells rfl (by decide) rfl ?c1 ?c2 ?c3 ?c4 ?_)
            case c1 => exact one_tn Wb y _
            case c2 => exact tnc_one y
            case c3 => (unfold maxLen; (try simp only [List.length_append, List.length_cons, List.length_nil]); omega)
            case c4 => ((try simp only [List.length_append, List.length_cons, List.length_nil]); omega)
            intro v3q ob3q W3q hrow3 hg3 hob3
            have hG := grow1 (A := A) (y := y) HNB.out HMBb.out HBb.out HG.out (by first | exact hrow3 | simpa using hrow3) _ hg3 (by first | exact hob3 | (rcases hob3 with h | h; exact .inl (by rw [h]); exact .inr h))
            obtain ⟨va3q, vc3q, hv3, v13q, _, h39⟩ := hG.1.shape
            have h49 : va3q = some ⟨ob3q, 0, none⟩ := h39
            subst hv3 h49
            have HR3q := Lib.hid hG.1
            have HG3q := Lib.hid hG.2.1
            have HMB3q := Lib.hid hG.2.2.1
            have HB3q := Lib.hid hG.2.2.2
            have HBW3q : Hid (Below W1.heap.size W1 W3q) := Lib.hid ((HBWb.out.alloc HBWb.out.size _).grown hg3 (by have := HBWb.out.size; simp; omega) (fun g e => by have := HG.out g e; have := HS1.out; omega))
            clear hG hrow3 hg3 hob3 h39
            go_wp2_with fail
            go_roundw
            case rel => exact ⟨k + 1, _, some ob3q, A ++ [y], by omega, rfl, by go_num, HR3q.out, by rw [← HA.out]; simp, by simp; omega, HG3q.out, HMB3q.out, HB3q.out, HBW3q.out⟩
            case measure => first | (simp [intOf]; done) | (simp [intOf]; omega)
    · obtain rfl : k = n := by omega
      rw [HN.out, List.drop_length] at hA
      have x0 : wr.cell? ⟨N, 0, none⟩ = some (.int .i64 x.id) := cell_at HMB.out 0
      have x1 : wr.cell? ⟨N, 1, none⟩ = some (.int .i64 x.rate) := cell_at HMB.out 1
      have x2 : wr.cell? ⟨N, 2, none⟩ = some (.int .i64 x.burst) := cell_at HMB.out 2
      have x3 : wr.cell? ⟨N, 3, none⟩ = some (.int .i64 x.bkt) := cell_at HMB.out 3
      have x4 : wr.cell? ⟨N, 4, none⟩ = some (.bool x.gone) := cell_at HMB.out 4
      have hMl := HMB.out.lt
      have HA := Lib.hid hA
      clear hA
      cases D
      · have hAY : A ++ [x] = Y := by rw [← HA.out]; rfl
        have HAY := Lib.hid hAY
        clear hAY
        go_wp2_with (at_builtin; refine wpList_append_row _ rfl (.tmp 47) (.tmp 49) 60 rfl 72 i0 _ 5 40 Try.underlying60 HI.out HZ0.out HZ1.out HZ2.out rfl (by decide) _ ob A.length (listL A) rfl (HROW.out.alloc _) ⟨wr.heap.size, 0, none⟩ 1 1 (x).cells rfl (by decide) rfl ?c1 ?c2 ?c3 ?c4 ?_)
        case c1 => exact one_tn wr x _
        case c2 => exact tnc_one x
        case c3 => (unfold maxLen; (try simp only [List.length_append, List.length_cons, List.length_nil]); omega)
        case c4 => ((try simp only [List.length_append, List.length_cons, List.length_nil]); omega)
        intro v3p ob3p W3p hrow3 hg3 hob3
        have hG := grow1 (A := A) (y := x) HNB.out HMB.out HB.out HG.out (by first | exact hrow3 | simpa using hrow3) _ hg3 (by first | exact hob3 | (rcases hob3 with h | h; exact .inl (by rw [h]); exact .inr h))
        obtain ⟨va3p, vc3p, hv3, v13p, _, h39⟩ := hG.1.shape
        have h49 : va3p = some ⟨ob3p, 0, none⟩ := h39
        subst hv3 h49
        have HR3p := Lib.hid hG.1
        have HG3p := Lib.hid hG.2.1
        have HMB3p := Lib.hid hG.2.2.1
        have HB3p := Lib.hid hG.2.2.2
        have HBW3p : Hid (Below W1.heap.size W1 W3p) := Lib.hid ((HBW.out.alloc HBW.out.size _).grown hg3 (by have := HBW.out.size; simp; omega) (fun g e => by have := HG.out g e; have := HS1.out; omega))
        clear hG hrow3 hg3 hob3 h39
        go_wp2_with fail
        go_ret
        exact ⟨_, rfl, (by rw [← HAY.out]; exact TVo.le (tvo_row HR3p.out (by rw [HAY.out]; exact HOK.out) HG3p.out) (by have := HNB.out; omega)), HB3p.out⟩
      · have hAY : A = Y := by rw [← HA.out]; exact (List.append_nil A).symm
        have HAY := Lib.hid hAY
        clear hAY
        go_wp2_with fail
        go_ret
        exact ⟨_, rfl, (by rw [← HAY.out]; exact tvo_row (m := w.heap.size) HROW.out (by rw [HAY.out]; exact HOK.out) (fun g e => by have := HG.out g e; have := HNB.out; omega)), HB.out⟩
end Go.Proofs.Ytpgpcgpecpimlaa
