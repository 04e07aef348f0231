/-
  Package follow: a node's progress found.
-/
import Derived.Test.YtcadinoijclfnaaFw1
namespace Go.Proofs.Ytcadinoijclfnaa
open Go.RowKit
set_option linter.unusedSimpArgs false
set_option linter.unusedVariables false

theorem fof_any (node : Int) (w : World) : Calls Try.prog 60 #[.int .i64 node] w fun e w' => ∃ b, e = .returned (.agg #[.func (.func 63) #[] #[.pointer (some ⟨b, 0, none⟩)]]) ∧ Blk w' b #[.int .i64 node] 3 ∧ w.heap.size ≤ b ∧ Below w.heap.size w w' := by
  have hmf : ∀ (fn : Fn) (first cap : Array Value) (w : World), (Instr.makeFunc fn first cap).run Try.prog w = .ok (.func fn first cap) w := fun _ _ _ _ => rfl
  have hst := fun (fn : Fn) (f c : Array Value) (a : Addr) (W : World) m => run_store Try.prog W a (.func fn f c) m rfl
  go_enter Try.func60, Try.ntmps60
  go_wp2_with fail
  have hpost : ∃ b, Ending.returned (.agg #[.func (.func 63) #[] #[.pointer (some ⟨w.heap.size, 0, none⟩)]]) = .returned (.agg #[.func (.func 63) #[] #[.pointer (some ⟨b, 0, none⟩)]]) ∧ Blk ((w.alloc (.cells #[.int .i64 node] 3)).alloc (.cells #[.func (.func 63) #[] #[.pointer (some ⟨w.heap.size, 0, none⟩)]] 91)) b #[.int .i64 node] 3 ∧ w.heap.size ≤ b ∧ Below w.heap.size w ((w.alloc (.cells #[.int .i64 node] 3)).alloc (.cells #[.func (.func 63) #[] #[.pointer (some ⟨w.heap.size, 0, none⟩)]] 91)) :=
    ⟨w.heap.size, rfl, (blk_new _ _ _).alloc _, Nat.le_refl _, ((Below.refl _ _).alloc (Nat.le_refl _) _).alloc (by simp) _⟩
  refine bodyPost_ret (v := .agg #[.func (.func 63) #[] #[.pointer (some ⟨w.heap.size, 0, none⟩)]]) ?_ rfl hpost
  simp [results, Try.results60, go_sem]

theorem fof1_any (b : Nat) (node : Int) (e : PgE) (w : World) (hb : Blk w b #[.int .i64 node] 3) : Calls Try.prog 63 #[.agg #[.int .i64 e.node, .int .i64 e.match_, .int .i64 e.next_], .pointer (some ⟨b, 0, none⟩)] w fun r w' => r = .returned (.bool (e.node == node)) ∧ Below w.heap.size w w' := by
  have hlt := hb.lt
  have c0 : w.cell? ⟨b, 0, none⟩ = some (.int .i64 node) := cell_at hb 0
  have hB1 : Below w.heap.size w (w.alloc (.cells #[.int .i64 e.node, .int .i64 e.match_, .int .i64 e.next_] 54)) := (Below.refl _ _).alloc (Nat.le_refl _) _
  have HB1 := Lib.hid hB1
  clear hB1 hb
  go_enter Try.func63, Try.ntmps63
  go_wp2_with fail
  go_ret
  exact ⟨rfl, HB1.out⟩

/-- the first of a row that is a node's; -1, if there is none -/
def findI (E : Nat → PgE) (node : Int) : Nat → Nat → Int
  | 0, _ => -1
  | d + 1, k => if (E k).node = node then (k : Int) else findI E node d (k + 1)
def findN (E : Nat → PgE) (node : Int) (n : Nat) : Int := findI E node n 0
theorem findI_cases (E : Nat → PgE) (node : Int) : ∀ d k : Nat, (findI E node d k = -1 ∧ ∀ j, k ≤ j → j < k + d → (E j).node ≠ node) ∨ ∃ j, findI E node d k = (j : Nat) ∧ k ≤ j ∧ j < k + d ∧ (E j).node = node ∧ ∀ i, k ≤ i → i < j → (E i).node ≠ node
  | 0, k => .inl ⟨rfl, fun j h1 h2 => by omega⟩
  | d + 1, k => by
    unfold findI
    by_cases h : (E k).node = node
    · rw [if_pos h]
      exact .inr ⟨k, rfl, Nat.le_refl _, by omega, h, fun i h1 h2 => by omega⟩
    · rw [if_neg h]
      rcases findI_cases E node d (k + 1) with ⟨h1, h2⟩ | ⟨j, h1, h2, h3, h4, h5⟩
      · refine .inl ⟨h1, fun j h3 h4 => ?_⟩
        by_cases e : j = k
        · subst e; exact h
        · exact h2 j (by omega) (by omega)
      · refine .inr ⟨j, h1, by omega, by omega, h4, fun i h6 h7 => ?_⟩
        by_cases e : i = k
        · subst e; exact h
        · exact h5 i (by omega) h7

set_option maxRecDepth 100000 in
set_option maxHeartbeats 4000000 in
theorem index_any (node : Int) (Bs : Nat) (a : Option Addr) (n c b o : Nat) (E : Nat → PgE) (w : World) (hs : PgIn w a n c b o E) (hb : Blk w Bs #[.int .i64 node] 3) :
    Calls Try.prog 64 #[.slice a n c, .func (.func 63) #[] #[.pointer (some ⟨Bs, 0, none⟩)]] w fun r w' => r = .returned (.int .i64 (findN E node n)) ∧ Below w.heap.size w w' := by
  have hm := hs.max
  have hl := hs.le
  unfold maxLen at hm
  have HS := Lib.hid hs
  have HBK := Lib.hid hb
  clear hs hb
  obtain ⟨q, hq⟩ : ∃ q, q = findN E node n := ⟨_, rfl⟩
  have HQ := Lib.hid hq
  rw [← hq]
  clear hq
  go_enter Try.func64, Try.ntmps64
  go_wp2_with fail
  go_loopw [4, 8] (fun v i wr => v = .int .i64 0 ∧ ∃ k : Nat, k ≤ n ∧ i = .int .i64 k ∧ q = findI E node (n - k) k ∧ Below w.heap.size w wr) (fun _ i _ => n - (intOf i).toNat)
  case atStart => exact ⟨rfl, 0, Nat.zero_le _, rfl, HQ.out, Below.refl _ _⟩
  case round =>
    obtain ⟨rfl, k, hk, rfl, hqk, hB⟩ := hrel
    have HB := Lib.hid hB
    clear hB
    by_cases hlt : k < n
    · obtain ⟨e0, e1⟩ := (HS.out.below HB.out).at_ (by omega)
      obtain ⟨k0, k1, k2⟩ := (HS.out.below HB.out).cell k hlt
      have hstep : q = if (E k).node = node then (k : Int) else findI E node (n - (k + 1)) (k + 1) := by
        rw [hqk, show n - k = (n - (k + 1)) + 1 by omega]
        rfl
      have HC := Lib.hid (fun W (h : Below w.heap.size w W) => fof1_any Bs node (E k) W (HBK.out.step h))
      subst e0
      obtain ⟨x, hx⟩ : ∃ x, x = E k := ⟨_, rfl⟩
      rw [← hx] at k0 k1 k2 hstep HC
      obtain ⟨xn, xm, xx⟩ := x
      simp only at k0 k1 k2 hstep HC
      clear hx hqk
      have HST := Lib.hid hstep
      clear hstep
      go_wp2_with fail
      refine (HC.out _ HB.out).mono ?_
      rintro e W2 ⟨rfl, hB2⟩
      have HB2 := Lib.hid (HB.out.trans (hB2.mono HB.out.size))
      clear hB2
      by_cases he : xn = node
      · have hb1 : (xn == node) = true := by simpa using he
        have hq2 := HST.out
        rw [if_pos he] at hq2
        subst hq2
        clear he
        go_wp2_with fail
        go_ret
        exact ⟨rfl, HB2.out⟩
      · have hb1 : (xn == node) = false := by simpa using he
        have hq2 := HST.out
        rw [if_neg he] at hq2
        have HQ2 := Lib.hid hq2
        clear he hq2
        go_wp2_with fail
        go_roundw
        case rel => exact ⟨rfl, k + 1, by omega, by go_num, HQ2.out, HB2.out⟩
        case measure => simp [intOf]; omega
    · obtain rfl : k = n := by omega
      have hq1 : q = -1 := by rw [hqk, Nat.sub_self]; rfl
      subst hq1
      clear hqk
      go_wp2_with fail
      go_ret
      exact ⟨rfl, HB.out⟩
set_option maxRecDepth 100000 in
set_option maxHeartbeats 4000000 in
theorem fin_any (node : Int) (Bs : Nat) (a : Option Addr) (n c b o : Nat) (E : Nat → PgE) (w : World) (hs : PgIn w a n c b o E) (hb : Blk w Bs #[.int .i64 node] 3) :
    Calls Try.prog 61 #[.agg #[.func (.func 63) #[] #[.pointer (some ⟨Bs, 0, none⟩)]], .slice a n c] w fun r w' => r = .returned (.int .i64 (findN E node n)) ∧ Below w.heap.size w w' := by
  have hB1 : Below w.heap.size w (w.alloc (.cells #[.func (.func 63) #[] #[.pointer (some ⟨Bs, 0, none⟩)]] 91)) := (Below.refl _ _).alloc (Nat.le_refl _) _
  have HB1 := Lib.hid hB1
  have HC := Lib.hid (index_any node Bs a n c b o E _ (hs.below hB1) (hb.step hB1))
  clear hB1 hs hb
  go_enter Try.func61, Try.ntmps61
  go_wp2_with fail
  refine HC.out.mono ?_
  rintro e W2 ⟨rfl, hB2⟩
  have HB2 := Lib.hid (HB1.out.trans (hB2.mono HB1.out.size))
  clear hB2
  go_wp2_with fail
  go_ret
  exact ⟨rfl, HB2.out⟩

/-- a node's progress, or none -/
def foundE (E : Nat → PgE) (node : Int) (n : Nat) : PgE := if findN E node n < 0 then ⟨0, 0, 0⟩ else E (findN E node n).toNat
def foundB (E : Nat → PgE) (node : Int) (n : Nat) : Bool := decide (0 ≤ findN E node n)

set_option maxRecDepth 100000 in
set_option maxHeartbeats 4000000 in
theorem ffind_any (node : Int) (a : Option Addr) (n c b o : Nat) (E : Nat → PgE) (w : World) (hs : PgIn w a n c b o E) :
    Calls Try.prog 54 #[.slice a n c, .int .i64 node] w fun r w' => r = .returned (.tuple #[.agg #[.int .i64 (foundE E node n).node, .int .i64 (foundE E node n).match_, .int .i64 (foundE E node n).next_], .bool (foundB E node n)]) ∧ Below w.heap.size w w' := by
  have hm := hs.max
  have hl := hs.le
  unfold maxLen at hm
  have HS := Lib.hid hs
  obtain ⟨q, hq⟩ : ∃ q, q = findN E node n := ⟨_, rfl⟩
  obtain ⟨fe, hfe⟩ : ∃ fe, fe = foundE E node n := ⟨_, rfl⟩
  obtain ⟨fb, hfb⟩ : ∃ fb, fb = foundB E node n := ⟨_, rfl⟩
  rw [← hfe, ← hfb]
  have HC := Lib.hid (fin_any node)
  have hcs : (q = -1 ∧ fe = ⟨0, 0, 0⟩ ∧ fb = false) ∨ ∃ j, q = ((j : Nat) : Int) ∧ j < n ∧ fe = E j ∧ fb = true := by
    rcases findI_cases E node n 0 with ⟨h1, _⟩ | ⟨j, h1, _, h3, _⟩
    · have h2 : findN E node n = -1 := h1
      exact .inl ⟨by rw [hq]; exact h1, by rw [hfe]; unfold foundE; rw [h2]; rfl, by rw [hfb]; unfold foundB; rw [h2]; rfl⟩
    · have h2 : findN E node n = (j : Nat) := h1
      exact .inr ⟨j, by rw [hq]; exact h1, by omega, by rw [hfe]; unfold foundE; rw [h2, if_neg (by omega)]; rfl, by rw [hfb]; unfold foundB; rw [h2]; simp⟩
  have HCS := Lib.hid hcs
  have HQ := Lib.hid hq
  clear hq hfe hfb hcs
  obtain ⟨N, hN⟩ : ∃ N, N = w.heap.size := ⟨_, rfl⟩
  obtain ⟨W1, hW1⟩ : ∃ W1, W1 = w.alloc (.cells #[.int .i64 0, .int .i64 0, .int .i64 0] 54) := ⟨_, rfl⟩
  have hB1 : Below w.heap.size w W1 := by rw [hW1]; exact (Below.refl _ _).alloc (Nat.le_refl _) _
  have hp : Blk W1 N #[.int .i64 0, .int .i64 0, .int .i64 0] 54 := by rw [hW1, hN]; exact blk_new _ _ _
  have HB1 := Lib.hid hB1
  have HP := Lib.hid hp
  have HN := Lib.hid hN
  clear hs hB1 hp
  go_enter Try.func54, Try.ntmps54
  go_wp2_with fail
  rw [← hN, ← hW1]
  clear hN hW1
  go_at_call 60
  refine (fof_any node _).mono ?_
  rintro e W2 ⟨Bs, rfl, hb2, hn2, hB2⟩
  have HB2 := Lib.hid (HB1.out.trans (hB2.mono HB1.out.size))
  have HP2 := Lib.hid (HP.out.step hB2)
  have HBK := Lib.hid hb2
  clear hb2 hn2 hB2
  go_wp2_with fail
  go_at_call 61
  refine (HC.out Bs a n c b o E _ (HS.out.below HB2.out) HBK.out).mono ?_
  rw [← HQ.out]
  rintro e W3 ⟨rfl, hB3⟩
  have HB3 := Lib.hid (HB2.out.trans (hB3.mono HB2.out.size))
  have HP3 := Lib.hid (HP2.out.step hB3)
  have hlt3 := HP3.out.lt
  have f0 := free_at HP3.out 0
  have f1 := free_at HP3.out 1
  have f2 := free_at HP3.out 2
  have p0 : W3.cell? ⟨N, 0, none⟩ = some (.int .i64 0) := cell_at HP3.out 0
  have p1 : W3.cell? ⟨N, 1, none⟩ = some (.int .i64 0) := cell_at HP3.out 1
  have p2 : W3.cell? ⟨N, 2, none⟩ = some (.int .i64 0) := cell_at HP3.out 2
  clear hB3
  rcases HCS.out with ⟨rfl, rfl, rfl⟩ | ⟨j, rfl, hj, rfl, rfl⟩
  · go_wp2_with fail
    obtain ⟨W9, hW9⟩ : ∃ W9, W9 = (((W3.setCell ⟨N, 0, none⟩ (.int .i64 0)).setCell ⟨N, 1, none⟩ (.int .i64 0)).setCell ⟨N, 2, none⟩ (.int .i64 0)) := ⟨_, rfl⟩
    have hB9 : Below w.heap.size w W9 := by rw [hW9]; exact ((HB3.out.setCell (p := ⟨N, 0, none⟩) (by have := HN.out; simp only; omega) _).setCell (p := ⟨N, 1, none⟩) (by have := HN.out; simp only; omega) _).setCell (p := ⟨N, 2, none⟩) (by have := HN.out; simp only; omega) _
    have hb9 : Blk W9 N #[.int .i64 0, .int .i64 0, .int .i64 0] 54 := by rw [hW9]; exact ((HP3.out.set 0 _).set 1 _).set 2 _
    rw [← hW9]
    have x0 : W9.cell? ⟨N, 0, none⟩ = some (.int .i64 0) := cell_at hb9 0
    have x1 : W9.cell? ⟨N, 1, none⟩ = some (.int .i64 0) := cell_at hb9 1
    have x2 : W9.cell? ⟨N, 2, none⟩ = some (.int .i64 0) := cell_at hb9 2
    exact bodyPost_ret (v := .tuple #[.agg #[.int .i64 0, .int .i64 0, .int .i64 0], .bool false]) (by simp [results, Try.results54, go_sem, x0, x1, x2]) rfl ⟨rfl, hB9⟩
  · have h8 : decide (((j : Nat) : Int) < 0) = false := by simp
    obtain ⟨e0, e1⟩ := (HS.out.below HB3.out).at_ (by omega)
    subst e0
    obtain ⟨k0, k1, k2⟩ := (HS.out.below HB3.out).cell j (by omega)
    obtain ⟨x, hx⟩ : ∃ x, x = E j := ⟨_, rfl⟩
    rw [← hx] at k0 k1 k2
    obtain ⟨xn, xm, xx⟩ := x
    simp only at k0 k1 k2
    have HX := Lib.hid hx
    clear hx
    go_wp2_with fail
    obtain ⟨W9, hW9⟩ : ∃ W9, W9 = (((W3.setCell ⟨N, 0, none⟩ (.int .i64 xn)).setCell ⟨N, 1, none⟩ (.int .i64 xm)).setCell ⟨N, 2, none⟩ (.int .i64 xx)) := ⟨_, rfl⟩
    have hB9 : Below w.heap.size w W9 := by rw [hW9]; exact ((HB3.out.setCell (p := ⟨N, 0, none⟩) (by have := HN.out; simp only; omega) _).setCell (p := ⟨N, 1, none⟩) (by have := HN.out; simp only; omega) _).setCell (p := ⟨N, 2, none⟩) (by have := HN.out; simp only; omega) _
    have hb9 : Blk W9 N #[.int .i64 xn, .int .i64 xm, .int .i64 xx] 54 := by rw [hW9]; exact ((HP3.out.set 0 _).set 1 _).set 2 _
    rw [← hW9]
    have x0 : W9.cell? ⟨N, 0, none⟩ = some (.int .i64 xn) := cell_at hb9 0
    have x1 : W9.cell? ⟨N, 1, none⟩ = some (.int .i64 xm) := cell_at hb9 1
    have x2 : W9.cell? ⟨N, 2, none⟩ = some (.int .i64 xx) := cell_at hb9 2
    rw [← HX.out]
    exact bodyPost_ret (v := .tuple #[.agg #[.int .i64 xn, .int .i64 xm, .int .i64 xx], .bool true]) (by simp [results, Try.results54, go_sem, x0, x1, x2]) rfl ⟨rfl, hB9⟩
end Go.Proofs.Ytcadinoijclfnaa
