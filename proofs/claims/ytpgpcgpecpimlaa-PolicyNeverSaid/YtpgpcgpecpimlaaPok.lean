/-
  Tenants without one: of the program, of the document.
-/
import Derived.Test.YtpgpcgpecpimlaaPoj
import Derived.Test.YtpgpcgpecpimlaaPo2
import Derived.Deep.RegionLaw
namespace Go.Proofs.Ytpgpcgpecpimlaa
open Go.RowKit
set_option linter.unusedSimpArgs false
set_option linter.unusedVariables false

theorem grow2 {w W W3 : World} {y : TnE} {A : List TnE} {ob : Option Nat} {v3 : Value} {ob3 : Nat}
    (hB : Below w.heap.size w W) (hg : ∀ g, ob = some g → w.heap.size ≤ g)
    (hrow : Row W3 v3 (some ob3) 72 5 (A.length + 1) (listL A ++ y.cells))
    (o : Obj) (hgr : (W.alloc o).grownBy W3 ob) (hob : ob = some ob3 ∨ ob3 = W.heap.size + 1) :
    Row W3 v3 (some ob3) 72 5 (A ++ [y]).length (listL (A ++ [y])) ∧ (∀ g, some ob3 = some g → w.heap.size ≤ g) ∧ Below w.heap.size w W3 := by
  have hl := hB.size
  refine ⟨by rw [listL_append, listL_one, List.length_append]; exact hrow, fun g e => ?_, ?_⟩
  · obtain rfl := Option.some.inj e
    rcases hob with h | h
    · exact hg _ h
    · omega
  · exact (hB.alloc hB.size o).grown hgr (by have := hB.size; simp; omega) (fun g e => hg g e)
set_option maxRecDepth 100000 in
set_option maxHeartbeats 4000000 in
theorem without_any (kf : FuncId) (cs : Array Value) (d : TnE → Bool) (v : Value) (L : List TnE) (w : World) (h : TV w v L) (hn5 : L.length ≤ 200) (hk : EntK kf) (CS : ClT kf cs d L w) : Calls Try.prog 87 #[v, .func (.func kf) #[] cs] w fun e w' => ∃ v', e = .returned v' ∧ TVo w.heap.size w' v' (L.filter fun x => !d x) ∧ Below w.heap.size w w' := by
  have HOK := Lib.hid h.ok
  have HCL : Hid (Calls Try.prog 90 #[v] w fun e w' => ∃ v' ob, e = .returned v' ∧ Row w' v' ob 72 5 L.length (listL L) ∧ (∀ g, ob = some g → w.heap.size ≤ g) ∧ Below w.heap.size w w') := Lib.hid (by
    obtain ⟨a, b, o, cap, rfl, h⟩ := h
    have := tclone_any a L.length cap b o (gt L) w h (by omega)
    rwa [← tnL_gt] at this)
  have HCS := Lib.hid CS
  clear h CS
  go_enter Try.func87, Try.ntmps87
  go_wp2_with fail
  go_at_call 90
  refine Calls.mono HCL.out ?_
  rintro e W1 ⟨v1, ob, rfl, hr, ho, hB⟩
  have HDF := Lib.hid (deleteF_any kf cs d v1 ob L w W1 hr HOK.out ho hk HCS.out hB hn5)
  clear hr ho hB HCL HCS
  go_wp2_with fail
  go_at_call 105
  refine Calls.mono HDF.out ?_
  rintro e W2 ⟨v2, ob2, rfl, hr2, ho2, hB2⟩
  have HV := Lib.hid (tvo_row (m := w.heap.size) hr2 (fun x hx => HOK.out x (List.mem_filter.1 hx).1) ho2)
  have HB := Lib.hid hB2
  clear hr2 ho2 hB2
  go_wp2_with fail
  go_ret
  exact ⟨_, rfl, HV.out, HB.out⟩
set_option maxRecDepth 100000 in
set_option maxHeartbeats 2000000 in
theorem del1_any (x : TnE) (id : Int) (N0 : Nat) (w : World) (h : w.cell? ⟨N0, 0, none⟩ = some (.int .i64 id)) (hl : N0 < w.heap.size) : Calls Try.prog 88 #[.agg #[.int .i64 x.id, .int .i64 x.rate, .int .i64 x.burst, .int .i64 x.bkt, .bool x.gone], .pointer (some ⟨N0, 0, none⟩)] w fun e w' => e = .returned (.bool (decide (x.id = id))) ∧ Below w.heap.size w w' := by
  obtain ⟨N, hN⟩ : ∃ N, N = w.heap.size := ⟨_, rfl⟩
  obtain ⟨W1, hW1⟩ : ∃ W1, W1 = w.alloc (.cells #[.int .i64 x.id, .int .i64 x.rate, .int .i64 x.burst, .int .i64 x.bkt, .bool x.gone] 72) := ⟨_, rfl⟩
  have hB1 : Below w.heap.size w W1 := by rw [hW1]; exact (Below.refl _ _).alloc (Nat.le_refl _) _
  have hk : Blk W1 N #[.int .i64 x.id, .int .i64 x.rate, .int .i64 x.burst, .int .i64 x.bkt, .bool x.gone] 72 := by rw [hW1, hN]; exact blk_new _ _ _
  have c0 : W1.cell? ⟨N, 0, none⟩ = some (.int .i64 x.id) := cell_at hk 0
  have i0 : W1.cell? ⟨N0, 0, none⟩ = some (.int .i64 id) := (hB1.cell (p := ⟨N0, _, none⟩) hl).trans h
  have HB1 := Lib.hid hB1
  clear hB1 hk h hl
  go_enter Try.func88, Try.ntmps88
  go_upto_region 1 with fail
  rw [← hN, ← hW1]
  clear hN hW1
  go_wp2_with fail
  go_ret
  exact ⟨ret_bool (by first | rfl | simp), HB1.out⟩
theorem ent_del1 : EntK 88 := fun _ _ => by kernel_rfl
set_option maxRecDepth 100000 in
set_option maxHeartbeats 8000000 in
theorem rwithout_any (v : Value) (L : List TnE) (id : Int) (w : World) (h : TV w v L) (hn5 : L.length ≤ 200) : Calls Try.prog 89 #[v, .int .i64 id] w fun e w' => ∃ v', e = .returned v' ∧ TVo w.heap.size w' v' (L.filter fun y => !decide (y.id = id)) ∧ Below w.heap.size w w' := by
  have HOK := Lib.hid h.ok
  obtain ⟨i0, hi, hz0, hz1, hz2⟩ := info_parts tnZero
  have HI := Lib.hid hi
  have HZ0 := Lib.hid hz0
  have HZ1 := Lib.hid hz1
  have HZ2 := Lib.hid hz2
  clear hi hz0 hz1 hz2
  obtain ⟨a, b, o, cap, rfl, h⟩ := h
  have m1 := h.le
  have m2 := h.max
  unfold maxLen at m2
  have H1 := Lib.hid h
  clear h
  obtain ⟨n, hn⟩ : ∃ n, n = L.length := ⟨_, rfl⟩
  have HN := Lib.hid hn
  rw [← hn] at m1 H1 hn5 ⊢
  clear hn
  go_enter Try.func89, Try.ntmps89
  go_wp2_with fail
  go_loopw [5, 6] (fun u i wr => ∃ (k : Nat) (ob : Option Nat) (A : List TnE), k ≤ n ∧ i = .int .i64 k ∧ Row wr u ob 72 5 A.length (listL A) ∧ A = (L.take k).filter (fun y => !decide (y.id = id)) ∧ (∀ g, ob = some g → w.heap.size ≤ g) ∧ Below w.heap.size w wr) (fun _ i _ => n - (intOf i).toNat)
  case atStart => exact ⟨0, none, [], Nat.zero_le _, rfl, Row.nil _ _ _, rfl, (fun g e => by cases e), Below.refl _ _⟩
  case round =>
    obtain ⟨k, ob, A, hk, rfl, hrow, hA, hg, hB⟩ := hrel
    have hAl : A.length ≤ k := by rw [hA]; exact Nat.le_trans (List.length_filter_le _ _) (by simp; omega)
    have HROW := Lib.hid hrow
    have HG := Lib.hid hg
    have HB := Lib.hid hB
    have HA := Lib.hid hA
    obtain ⟨va, vc, rfl, v1, v2, _⟩ := hrow.shape
    unfold maxLen at v2
    clear hrow hg hB hA
    by_cases hlt : k < n
    · have hs1 := H1.out.below HB.out
      obtain ⟨e0, e1⟩ := hs1.at_ (by omega)
      subst e0
      obtain ⟨c0, c1, c2, c3, c4⟩ := hs1.cell k hlt
      have hfs : (L.take (k + 1)).filter (fun y => !decide (y.id = id)) = A ++ (if (gt L k).id = id then [] else [gt L k]) := by
        rw [HA.out, List.take_add_one, gt_lt (by rw [← HN.out]; exact hlt), List.filter_append]
        by_cases he : (gt L k).id = id <;> simp [he]
      obtain ⟨y, hy⟩ : ∃ y, y = gt L k := ⟨_, rfl⟩
      rw [← hy] at c0 c1 c2 c3 c4 hfs
      have HFS := Lib.hid hfs
      clear hs1 hy hfs
      by_cases he : y.id = id
      · have HF2 : Hid ((L.take (k + 1)).filter (fun y => !decide (y.id = id)) = A) := Lib.hid (by rw [HFS.out, if_pos he, List.append_nil])
        have f1 : (y.id = id) = True := eq_true he
        have f2 : (y.id != id) = false := by simp [he]
        clear he
        go_wp2_with fail
        go_roundw
        case rel => exact ⟨k + 1, ob, A, by omega, by go_num, HROW.out, HF2.out.symm, HG.out, HB.out⟩
        case measure => first | (simp [intOf]; done) | (simp [intOf]; omega)
      · have HF2 : Hid ((L.take (k + 1)).filter (fun y => !decide (y.id = id)) = A ++ [y]) := Lib.hid (by rw [HFS.out, if_neg he])
        have f1 : (y.id = id) = False := eq_false he
        have f2 : (y.id != id) = true := by simp [he]
        clear he
        go_wp2_with (at_builtin; refine wpList_append_row _ rfl (.tmp 20) (.tmp 25) 60 rfl 72 i0 _ 5 40 Try.underlying60 HI.out HZ0.out HZ1.out HZ2.out rfl (by decide) _ ob A.length (listL A) rfl (HROW.out.alloc _) ⟨wr.heap.size, 0, none⟩ 1 1 (y).cells rfl (by decide) rfl ?c1 ?c2 ?c3 ?c4 ?_)
        case c1 => exact one_tn wr y _
        case c2 => exact tnc_one y
        case c3 => (unfold maxLen; omega)
        case c4 => omega
        intro v3q ob3q W3q hrow3 hg3 hob3
        have hG := grow2 (A := A) (y := y) HB.out HG.out (by first | exact hrow3 | simpa using hrow3) _ hg3 (by first | exact hob3 | (rcases hob3 with h | h; exact .inl (by rw [h]); exact .inr h))
        obtain ⟨va3q, vc3q, hv3, v13q, _, h39⟩ := hG.1.shape
        have h49 : va3q = some ⟨ob3q, 0, none⟩ := h39
        subst hv3 h49
        have HR3q := Lib.hid hG.1
        have HG3q := Lib.hid hG.2.1
        have HB3q := Lib.hid hG.2.2
        clear hG hrow3 hg3 hob3 h39
        go_wp2_with fail
        go_roundw
        case rel => exact ⟨k + 1, some ob3q, A ++ [y], by omega, by go_num, HR3q.out, HF2.out.symm, HG3q.out, HB3q.out⟩
        case measure => first | (simp [intOf]; done) | (simp [intOf]; omega)
    · obtain rfl : k = n := by omega
      have hAY : A = L.filter (fun y => !decide (y.id = id)) := by rw [HA.out, HN.out, List.take_length]
      have HAY := Lib.hid hAY
      clear hAY
      go_wp2_with fail
      go_ret
      exact ⟨_, rfl, (by rw [← HAY.out]; exact tvo_row (m := w.heap.size) HROW.out (by rw [HAY.out]; exact fun x hx => HOK.out x (List.mem_filter.1 hx).1) HG.out), HB.out⟩
end Go.Proofs.Ytpgpcgpecpimlaa
