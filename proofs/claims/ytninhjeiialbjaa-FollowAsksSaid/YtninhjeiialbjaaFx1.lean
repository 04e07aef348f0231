/-
  The document's answers of package follow: Told, Find, Begin; the same progress?; rows too great to be tried.
-/
import Derived.Laws.StructEq
import Derived.Test.YtninhjeiialbjaaFwa
namespace Go.Proofs.Ytninhjeiialbjaa
open Go.RowKit
set_option linter.unusedSimpArgs false
set_option linter.unusedVariables false

def SomeBool (w : World) (e : Ending) (w' : World) : Prop := ∃ q : Bool, e = .returned (.bool q) ∧ w = w'
def SomeBoolB (w : World) (e : Ending) (w' : World) : Prop := ∃ q : Bool, e = .returned (.bool q) ∧ Below w.heap.size w w'

set_option maxRecDepth 100000 in
set_option maxHeartbeats 4000000 in
theorem long_any (a : Option Addr) (len cap b o : Nat) (E : Nat → Ent) (w : World) (hs : EntsIn w a len cap b o E) :
    Calls Try.prog 57 #[.slice a len cap] w (SomeBool w) := by
  have hm := hs.max
  have hl := hs.le
  unfold maxLen at hm
  have HS := Lib.hid hs
  clear hs
  go_enter Try.func57, Try.ntmps57
  go_wp2_with fail
  go_loop [3, 7] (fun n i => ∃ (k : Nat) (N : Int), k ≤ len ∧ i = .int .i64 k ∧ n = .int .i64 N) (fun _ i => len - (intOf i).toNat)
  case atStart => exact ⟨0, 0, Nat.zero_le _, rfl, rfl⟩
  case round =>
    obtain ⟨k, N, hk, rfl, rfl⟩ := hrel
    by_cases hlt : k < len
    · obtain ⟨e0, e1⟩ := HS.out.at_ (by omega)
      subst e0
      obtain ⟨_, _, _, _, k4⟩ := HS.out.cell k hlt
      obtain ⟨_, _, _, _, _, _, _, _, hd1, hd2⟩ := HS.out.bd k hlt
      unfold maxLen at hd2
      obtain ⟨dl, hdl⟩ : ∃ dl, dl = (E k).dl := ⟨_, rfl⟩
      have hd3 : dl ≤ 9223372036854775807 := by omega
      rw [← hdl] at k4
      clear hdl hd1 hd2
      obtain ⟨M, hM⟩ : ∃ M, IntKind.i64.wrap (N + dl) = M := ⟨_, rfl⟩
      by_cases h150 : 150 ≤ k
      · have b1 : decide (150 ≤ k) = true := by simpa using h150
        go_wp2_with fail
        go_ret
        exact ⟨true, rfl, rfl⟩
      · have b1 : decide (150 ≤ k) = false := by simpa using h150
        by_cases hbig : 20000 < M
        · have b2 : decide (20000 < M) = true := by simpa using hbig
          go_wp2_with fail
          go_ret
          exact ⟨true, rfl, rfl⟩
        · have b2 : decide (20000 < M) = false := by simpa using hbig
          go_wp2_with fail
          go_round
          case rel => exact ⟨k + 1, M, by omega, by go_num, rfl⟩
          case measure => first | (simp [intOf]; done) | (simp [intOf]; omega)
    · obtain rfl : k = len := by omega
      go_wp2_with fail
      go_ret
      exact ⟨false, rfl, rfl⟩

theorem great_any (base bt : Int) (a : Option Addr) (len cap b o : Nat) (E : Nat → Ent) (w : World) (hs : EntsIn w a len cap b o E) :
    Calls Try.prog 15 #[.agg #[.int .i64 base, .int .i64 bt, .slice a len cap]] w (SomeBoolB w) := by
  have HB0 : Hid (Below w.heap.size w (w.alloc (.cells #[.int .i64 base, .int .i64 bt, .slice a len cap] 24))) := Lib.hid ((Below.refl _ _).alloc (Nat.le_refl _) _)
  have HC := Lib.hid (fun W h => long_any a len cap b o E W h)
  have HS := Lib.hid hs
  clear hs
  go_enter Try.func15, Try.ntmps15
  go_wp2_with (go_at_call 57; refine Calls.mono (HC.out _ (HS.out.below HB0.out)) ?_; rintro e W1 ⟨q, rfl, rfl⟩)
  go_ret
  exact ⟨q, rfl, HB0.out⟩

set_option maxRecDepth 100000 in
set_option maxHeartbeats 8000000 in
theorem rtold_any (p : PgE) (ok : Bool) (idx : Int) (w : World) : Calls Try.prog 23 #[.agg #[.int .i64 p.node, .int .i64 p.match_, .int .i64 p.next_], .bool ok, .int .i64 idx] w fun e w' => e = .returned (.agg #[.int .i64 (toldE p ok idx).node, .int .i64 (toldE p ok idx).match_, .int .i64 (toldE p ok idx).next_]) ∧ Below w.heap.size w w' := by
  obtain ⟨node, pm, px⟩ := p
  unfold toldE wI
  simp only
  cases ok
  · simp only [Bool.false_eq_true, if_false]
    go_enter Try.func23, Try.ntmps23
    go_wp2_with fail
    exact bodyPost_ret (v := .agg #[.int .i64 node, .int .i64 (min (max pm 0) 1099511627776), .int .i64 (max (min (min (max px 1) 1099511627777 - 1) (min (max idx 0) 1099511627776 + 1)) (min (max pm 0) 1099511627776 + 1))]) (by simp [results, Try.results23, go_sem]) rfl ⟨rfl, ((Below.refl _ _).alloc (Nat.le_refl _) _).alloc (by simp) _⟩
  · simp only [if_true]
    go_enter Try.func23, Try.ntmps23
    go_wp2_with fail
    exact bodyPost_ret (v := .agg #[.int .i64 node, .int .i64 (max (min (max pm 0) 1099511627776) (min (max idx 0) 1099511627776)), .int .i64 (max (min (max px 1) 1099511627777) (max (min (max pm 0) 1099511627776) (min (max idx 0) 1099511627776) + 1))]) (by simp [results, Try.results23, go_sem]) rfl ⟨rfl, ((Below.refl _ _).alloc (Nat.le_refl _) _).alloc (by simp) _⟩

set_option maxRecDepth 100000 in
set_option maxHeartbeats 8000000 in
theorem rfind_any (node : Int) (a : Option Addr) (n c b o : Nat) (E : Nat → PgE) (w : World) (hs : PgIn w a n c b o E) :
    Calls Try.prog 18 #[.slice a n c, .int .i64 node] w fun r w' => r = .returned (.tuple #[.agg #[.int .i64 (foundE E node n).node, .int .i64 (foundE E node n).match_, .int .i64 (foundE E node n).next_], .bool (foundB E node n)]) ∧ Below w.heap.size w w' := by
  have hm := hs.max
  have hl := hs.le
  unfold maxLen at hm
  have HS := Lib.hid hs
  obtain ⟨q, hq⟩ : ∃ q, q = findN E node n := ⟨_, rfl⟩
  obtain ⟨fe, hfe⟩ : ∃ fe, fe = foundE E node n := ⟨_, rfl⟩
  obtain ⟨fb, hfb⟩ : ∃ fb, fb = foundB E node n := ⟨_, rfl⟩
  rw [← hfe, ← hfb]
  have hno : q = -1 → fe = ⟨0, 0, 0⟩ ∧ fb = false := fun h => by
    rw [hq] at h
    exact ⟨by rw [hfe]; unfold foundE; rw [h]; rfl, by rw [hfb]; unfold foundB; rw [h]; rfl⟩
  have hyes : ∀ j : Nat, q = (j : Int) → fe = E j ∧ fb = true := fun j h => by
    rw [hq] at h
    exact ⟨by rw [hfe]; unfold foundE; rw [h, if_neg (by omega)]; rfl, by rw [hfb]; unfold foundB; rw [h]; simp⟩
  have HNO := Lib.hid hno
  have HYES := Lib.hid hyes
  have HQ := Lib.hid hq
  clear hq hfe hfb hno hyes hs
  obtain ⟨N, hN⟩ : ∃ N, N = w.heap.size := ⟨_, rfl⟩
  obtain ⟨W1, hW1⟩ : ∃ W1, W1 = w.alloc (.cells #[.int .i64 0, .int .i64 0, .int .i64 0] 26) := ⟨_, rfl⟩
  have hB1 : Below w.heap.size w W1 := by rw [hW1]; exact (Below.refl _ _).alloc (Nat.le_refl _) _
  have hp : Blk W1 N #[.int .i64 0, .int .i64 0, .int .i64 0] 26 := by rw [hW1, hN]; exact blk_new _ _ _
  have HB3 := Lib.hid hB1
  have HP3 := Lib.hid hp
  have HN := Lib.hid hN
  clear hB1 hp
  go_enter Try.func18, Try.ntmps18
  go_wp2_with fail
  rw [← hN, ← hW1]
  clear hN hW1
  obtain ⟨W3, rfl⟩ : ∃ W3, W3 = W1 := ⟨_, rfl⟩
  have hlt3 := HP3.out.lt
  have f0 := free_at HP3.out 0
  have f1 := free_at HP3.out 1
  have f2 := free_at HP3.out 2
  have p0 : W3.cell? ⟨N, 0, none⟩ = some (.int .i64 0) := cell_at HP3.out 0
  have p1 : W3.cell? ⟨N, 1, none⟩ = some (.int .i64 0) := cell_at HP3.out 1
  have p2 : W3.cell? ⟨N, 2, none⟩ = some (.int .i64 0) := cell_at HP3.out 2
  go_loop [6] (fun i => ∃ k : Nat, k ≤ n ∧ i = .int .i64 k ∧ q = findI E node (n - k) k) (fun i => n - (intOf i).toNat)
  case atStart => exact ⟨0, Nat.zero_le _, rfl, HQ.out⟩
  case round =>
    obtain ⟨k, hk, rfl, hqk⟩ := hrel
    by_cases hlt : k < n
    · have hstep : q = if (E k).node = node then (k : Int) else findI E node (n - (k + 1)) (k + 1) := by
        rw [hqk, show n - k = (n - (k + 1)) + 1 by omega]
        rfl
      obtain ⟨e0, e1⟩ := (HS.out.below HB3.out).at_ (by omega)
      obtain ⟨k0, k1, k2⟩ := (HS.out.below HB3.out).cell k hlt
      subst e0
      by_cases he : (E k).node = node
      · rw [if_pos he] at hstep
        obtain ⟨y1, y2⟩ := HYES.out k hstep
        have HX := Lib.hid y1
        obtain ⟨x, hx⟩ : ∃ x, x = E k := ⟨_, rfl⟩
        rw [← hx] at k0 k1 k2 HX he
        obtain ⟨xn, xm, xx⟩ := x
        simp only at k0 k1 k2 he
        have d1 : (xn == node) = true := by simpa using he
        subst y2
        have hfx := HX.out
        subst hfx
        clear hstep hqk hx he y1
        go_wp2_with fail
        obtain ⟨W9, hW9⟩ : ∃ W9, W9 = (((W3.setCell ⟨N, 0, none⟩ (.int .i64 xn)).setCell ⟨N, 1, none⟩ (.int .i64 xm)).setCell ⟨N, 2, none⟩ (.int .i64 xx)) := ⟨_, rfl⟩
        have hB9 : Below w.heap.size w W9 := by rw [hW9]; exact ((HB3.out.setCell (p := ⟨N, 0, none⟩) (by have := HN.out; simp only; omega) _).setCell (p := ⟨N, 1, none⟩) (by have := HN.out; simp only; omega) _).setCell (p := ⟨N, 2, none⟩) (by have := HN.out; simp only; omega) _
        have hb9 : Blk W9 N #[.int .i64 xn, .int .i64 xm, .int .i64 xx] 26 := by rw [hW9]; exact ((HP3.out.set 0 _).set 1 _).set 2 _
        rw [← hW9]
        have x0 : W9.cell? ⟨N, 0, none⟩ = some (.int .i64 xn) := cell_at hb9 0
        have x1 : W9.cell? ⟨N, 1, none⟩ = some (.int .i64 xm) := cell_at hb9 1
        have x2 : W9.cell? ⟨N, 2, none⟩ = some (.int .i64 xx) := cell_at hb9 2
        exact bodyPost_ret (v := .tuple #[.agg #[.int .i64 xn, .int .i64 xm, .int .i64 xx], .bool true]) (by simp [results, Try.results18, go_sem, x0, x1, x2]) rfl ⟨rfl, hB9⟩
      · rw [if_neg he] at hstep
        have HST := Lib.hid hstep
        obtain ⟨xn, hxn⟩ : ∃ xn, xn = (E k).node := ⟨_, rfl⟩
        rw [← hxn] at k0 he
        have d1 : (xn == node) = false := by simpa using he
        clear hstep hqk he hxn k1 k2
        go_wp2_with fail
        go_round
        case rel => exact ⟨k + 1, by omega, by go_num, HST.out⟩
        case measure => first | (simp [intOf]; done) | (simp [intOf]; omega)
    · obtain rfl : k = n := by omega
      have hq1 : q = -1 := by rw [hqk, Nat.sub_self]; rfl
      obtain ⟨y1, y2⟩ := HNO.out hq1
      subst y1 y2
      clear hqk
      go_wp2_with fail
      obtain ⟨W9, hW9⟩ : ∃ W9, W9 = (((W3.setCell ⟨N, 0, none⟩ (.int .i64 0)).setCell ⟨N, 1, none⟩ (.int .i64 0)).setCell ⟨N, 2, none⟩ (.int .i64 0)) := ⟨_, rfl⟩
      have hB9 : Below w.heap.size w W9 := by rw [hW9]; exact ((HB3.out.setCell (p := ⟨N, 0, none⟩) (by have := HN.out; simp only; omega) _).setCell (p := ⟨N, 1, none⟩) (by have := HN.out; simp only; omega) _).setCell (p := ⟨N, 2, none⟩) (by have := HN.out; simp only; omega) _
      have hb9 : Blk W9 N #[.int .i64 0, .int .i64 0, .int .i64 0] 26 := by rw [hW9]; exact ((HP3.out.set 0 _).set 1 _).set 2 _
      rw [← hW9]
      have x0 : W9.cell? ⟨N, 0, none⟩ = some (.int .i64 0) := cell_at hb9 0
      have x1 : W9.cell? ⟨N, 1, none⟩ = some (.int .i64 0) := cell_at hb9 1
      have x2 : W9.cell? ⟨N, 2, none⟩ = some (.int .i64 0) := cell_at hb9 2
      exact bodyPost_ret (v := .tuple #[.agg #[.int .i64 0, .int .i64 0, .int .i64 0], .bool false]) (by simp [results, Try.results18, go_sem, x0, x1, x2]) rfl ⟨rfl, hB9⟩

theorem pg_neq (x : PgE) (w : World) : (binOp .neq 26 (.agg #[.int .i64 x.node, .int .i64 x.match_, .int .i64 x.next_]) (.agg #[.int .i64 x.node, .int .i64 x.match_, .int .i64 x.next_])).run Try.prog w = .ok (.bool false) w := by
  have hf : Try.prog.fieldsOf 26 = #[⟨"Node", 3, 0, false, "", "", 0⟩, ⟨"Match", 3, 1, false, "", "", 8⟩, ⟨"Next", 3, 2, false, "", "", 16⟩] := by kernel_rfl
  rw [run_neq_struct, show (10000 : Nat) = 9998 + 1 + 1 from rfl, run_equalIn_struct w _ _ _ _ (by kernel_rfl) (by kernel_rfl), hf]
  have e1 : ∀ a b : Int, (Op.equalIn (9998 + 1) 3 (.int .i64 a) (.int .i64 b)).run Try.prog w = .ok (a == b) w := fun a b => run_equalIn_int w 9998 _ .i64 .i64 a b (by kernel_rfl)
  simp [Op.eqFields, part, e1, go_sem]
theorem pg_eql (x : PgE) (w : World) : (binOp .eql 26 (.agg #[.int .i64 x.node, .int .i64 x.match_, .int .i64 x.next_]) (.agg #[.int .i64 x.node, .int .i64 x.match_, .int .i64 x.next_])).run Try.prog w = .ok (.bool true) w := by
  have hf : Try.prog.fieldsOf 26 = #[⟨"Node", 3, 0, false, "", "", 0⟩, ⟨"Match", 3, 1, false, "", "", 8⟩, ⟨"Next", 3, 2, false, "", "", 16⟩] := by kernel_rfl
  rw [run_eql_struct, show (10000 : Nat) = 9998 + 1 + 1 from rfl, run_equalIn_struct w _ _ _ _ (by kernel_rfl) (by kernel_rfl), hf]
  have e1 : ∀ a b : Int, (Op.equalIn (9998 + 1) 3 (.int .i64 a) (.int .i64 b)).run Try.prog w = .ok (a == b) w := fun a b => run_equalIn_int w 9998 _ .i64 .i64 a b (by kernel_rfl)
  simp [Op.eqFields, part, e1, go_sem]

set_option maxRecDepth 100000 in
set_option maxHeartbeats 4000000 in
theorem same_any (a : Option Addr) (n c b o : Nat) (a' : Option Addr) (c' b' o' : Nat) (E : Nat → PgE) (w : World) (h1 : PgIn w a n c b o E) (h2 : PgIn w a' n c' b' o' E) :
    Calls Try.prog 19 #[.slice a n c, .slice a' n c'] w fun r w' => r = .returned (.bool true) ∧ Below w.heap.size w w' := by
  have hm := h1.max
  have hl := h1.le
  have hm' := h2.max
  have hl' := h2.le
  unfold maxLen at hm hm'
  have H1 := Lib.hid h1
  have H2 := Lib.hid h2
  have hne := fun (x : PgE) (w : World) => pg_neq x w
  clear h1 h2
  go_enter Try.func19, Try.ntmps19
  go_wp2_with fail
  go_loopw [13] (fun i wr => ∃ k : Nat, k ≤ n ∧ i = .int .i64 k ∧ Below w.heap.size w wr) (fun i _ => n - (intOf i).toNat)
  case atStart => exact ⟨0, Nat.zero_le _, rfl, Below.refl _ _⟩
  case round =>
    obtain ⟨k, hk, rfl, hB⟩ := hrel
    have HB := Lib.hid hB
    clear hB
    by_cases hlt : k < n
    · obtain ⟨e0, e1⟩ := (H1.out.below HB.out).at_ (by omega)
      obtain ⟨k0, k1, k2⟩ := (H1.out.below HB.out).cell k hlt
      obtain ⟨e2, e3⟩ := (H2.out.below HB.out).at_ (by omega)
      obtain ⟨l0, l1, l2⟩ := (H2.out.below HB.out).cell k hlt
      subst e0 e2
      have hx := hne (E k)
      obtain ⟨x, hxx⟩ : ∃ x, x = E k := ⟨_, rfl⟩
      rw [← hxx] at k0 k1 k2 l0 l1 l2 hx
      obtain ⟨xn, xm, xx⟩ := x
      simp only at k0 k1 k2 l0 l1 l2 hx
      have i1 : (0 : Int) ≤ (k : Int) := by omega
      have i2 : (k : Int) < (n : Int) := by omega
      clear hxx hne
      go_wp2_with fail
      (refine wp_region_quiet_lit (by kernel_rfl) (by kernel_rfl) ?_; (repeat (first | go_big_quiet_step (fail) | (refine BigFrame.wpQuiet_skip (by rfl) ?_; try simp only [Act.put, List.setIfInBounds_toArray, List.set_cons_zero, List.set_cons_succ]))); refine wpQuiet_nil ?_; intro _ hw9; obtain ⟨nq, hw8⟩ := hw9; subst hw8)
      go_wp2_with fail
      go_roundw
      case rel => exact ⟨k + 1, by omega, by go_num, ⟨HB.out.os, HB.out.tape, HB.out.output, HB.out.size, HB.out.block⟩⟩
      case measure => first | (simp [intOf]; done) | (simp [intOf]; omega)
    · obtain rfl : k = n := by omega
      go_wp2_with fail
      go_ret
      exact ⟨rfl, HB.out⟩
end Go.Proofs.Ytninhjeiialbjaa
