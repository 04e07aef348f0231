/-
  follow.Put.
-/
import Derived.Test.YtninhjeiialbjaaFx1
namespace Go.Proofs.Ytninhjeiialbjaa
open Go.RowKit
set_option linter.unusedSimpArgs false
set_option linter.unusedVariables false

theorem pgL_one (E : Nat → PgE) : ∀ n, ∀ u ∈ pgL E n, u.oneCell' = true
  | 0, u, h => by simp [pgL] at h
  | n + 1, u, h => by
    rw [pgL_succ] at h
    rcases List.mem_append.1 h with h | h
    · exact pgL_one E n u h
    · simp only [PgE.cells, List.mem_cons, List.not_mem_nil, or_false] at h
      rcases h with rfl | rfl | rfl <;> rfl
theorem pg_at {W : World} {a : Option Addr} {n c b o : Nat} {E : Nat → PgE} (h : PgIn W a n c b o E) (j : Nat) (u : Value) (hu : (pgL E n)[j]? = some u) : W.cell? ((⟨b, o, none⟩ : Addr).add j) = some u := by
  have hj : j < n * 3 := by have := (List.getElem?_eq_some_iff.1 hu).1; rwa [pgL_len] at this
  have h3 : ((⟨b, o, none⟩ : Addr).add j) = ⟨b, o + j, none⟩ := by
    unfold Addr.add
    split <;> simp_all
  rw [h3]
  obtain ⟨k, i, hk, hi, rfl⟩ : ∃ k i, k < n ∧ i < 3 ∧ j = k * 3 + i := ⟨j / 3, j % 3, by omega, by omega, by omega⟩
  rw [pgL_at E n k i hk hi] at hu
  obtain ⟨c0, c1, c2⟩ := h.cell k hk
  have hi3 : i = 0 ∨ i = 1 ∨ i = 2 := by omega
  rcases hi3 with rfl | rfl | rfl
  · simp [PgE.cells] at hu; subst hu; exact c0
  · simp [PgE.cells] at hu; subst hu; rw [← Nat.add_assoc]; exact c1
  · simp [PgE.cells] at hu; subst hu; rw [← Nat.add_assoc]; exact c2

theorem pg_at2 {W : World} {a : Option Addr} {n c b o : Nat} {E : Nat → PgE} (h : PgIn W a n c b o E) (j : Nat) (u : Value) (hu : (pgL E n)[j]? = some u) : W.cell? ⟨b, o + j, none⟩ = some u := by
  have hj : j < n * 3 := by have := (List.getElem?_eq_some_iff.1 hu).1; rwa [pgL_len] at this
  obtain ⟨k, i, hk, hi, rfl⟩ : ∃ k i, k < n ∧ i < 3 ∧ j = k * 3 + i := ⟨j / 3, j % 3, by omega, by omega, by omega⟩
  rw [pgL_at E n k i hk hi] at hu
  obtain ⟨c0, c1, c2⟩ := h.cell k hk
  have hi3 : i = 0 ∨ i = 1 ∨ i = 2 := by omega
  rcases hi3 with rfl | rfl | rfl
  · simp [PgE.cells] at hu; subst hu; exact c0
  · simp [PgE.cells] at hu; subst hu; rw [← Nat.add_assoc]; exact c1
  · simp [PgE.cells] at hu; subst hu; rw [← Nat.add_assoc]; exact c2

set_option maxRecDepth 100000 in
set_option maxHeartbeats 4000000 in
theorem pclone_any (a : Option Addr) (n c b o : Nat) (P : Nat → PgE) (w : World) (h1 : PgIn w a n c b o P) (hn5 : n ≤ 5000) :
    Calls Try.prog 65 #[.slice a n c] w fun e w' => ∃ v ob, e = .returned v ∧ Row w' v ob 26 3 n (pgL P n) ∧ (∀ g, ob = some g → w.heap.size ≤ g) ∧ Below w.heap.size w w' := by
  obtain ⟨i0, hi, hz0, hz1, hz2⟩ := info_parts pgZero
  have HI := Lib.hid hi
  have HZ0 := Lib.hid hz0
  have HZ1 := Lib.hid hz1
  have HZ2 := Lib.hid hz2
  have hm := h1.max
  have hl := h1.le
  unfold maxLen at hm
  have HA := Lib.hid h1
  clear h1 hi hz0 hz1 hz2
  cases a with
  | none =>
    obtain rfl : n = 0 := by
      rcases Nat.eq_zero_or_pos n with h | h
      · exact h
      · exact absurd (HA.out.at_ h).1 (by simp)
    have hnil : ∀ W, (binOp .eql 27 (.slice none 0 c) (.slice none 0 0)).run Try.prog W = .ok (.bool true) W := fun _ => rfl
    go_enter Try.func65, Try.ntmps65
    go_wp2_with fail
    go_ret
    exact ⟨_, none, rfl, Row.nil _ _ _, (fun _ h => by cases h), Below.refl _ _⟩
  | some p =>
    have hnil : ∀ W, (binOp .eql 27 (.slice (some p) n c) (.slice none 0 0)).run Try.prog W = .ok (.bool false) W := fun _ => rfl
    go_enter Try.func65, Try.ntmps65
    have HR0 : Hid (Row (w.alloc (.cells #[] 26)) (.slice (some ⟨w.heap.size, 0, none⟩) 0 0) (some w.heap.size) 26 3 0 (pgL P 0)) := Lib.hid (Row.mk (heap_alloc_new w _) (Nat.le_refl _) (by unfold maxLen; omega) rfl rfl)
    have HB0 : Hid (Below w.heap.size w (w.alloc (.cells #[] 26))) := Lib.hid ((Below.refl _ _).alloc (Nat.le_refl _) _)
    by_cases h0 : n = 0
    · subst h0
      go_wp2_with (at_builtin; refine wpList_append_row_zero _ rfl (.tmp 5) (.tmp 6) 27 rfl 26 i0 3 Try.underlying27 HI.out _ _ 0 _ rfl HR0.out (some p) c rfl ?_)
      go_wp2_with fail
      go_ret
      exact ⟨_, some w.heap.size, rfl, HR0.out, (fun g e => by obtain rfl := Option.some.inj e; exact Nat.le_refl _), HB0.out⟩
    · obtain ⟨e0, e1⟩ := HA.out.at_ (by omega)
      obtain rfl : p = ⟨b, o, none⟩ := Option.some.inj e0
      have hb8 : (0 + (n : Int)) * 24 ≤ 140737488355328 := by omega
      go_wp2_with (at_builtin; refine wpList_append_row _ rfl (.tmp 5) (.tmp 6) 27 rfl 26 i0 _ 3 24 Try.underlying27 HI.out HZ0.out HZ1.out HZ2.out rfl (by decide) _ _ 0 (pgL P 0) rfl HR0.out ⟨b, o, none⟩ n c (pgL P n) rfl (by omega) (pgL_len P n) ?c1 (pgL_one P n) ?c3 ?c4 ?_)
      case c1 => first | exact fun j u hu => pg_at2 HA.out j u hu | exact fun j u hu => pg_at (HA.out.below HB0.out) j u hu
      case c3 => unfold maxLen; omega
      case c4 => omega
      intro v' ob' W3 hrow3 hg3 hob3
      have hB3 : Below w.heap.size w W3 := HB0.out.grown hg3 (by simp) (fun g e => by obtain rfl := Option.some.inj e; exact Nat.le_refl _)
      have hrow4 : Row W3 v' (some ob') 26 3 n (pgL P n) := by
        first | exact hrow3 | (rw [Nat.zero_add] at hrow3; exact hrow3)
      have HB3 := Lib.hid hB3
      have HR4 := Lib.hid hrow4
      have HOB : Hid (w.heap.size ≤ ob') := Lib.hid (by
        rcases hob3 with h | h
        · exact Nat.le_of_eq (by first | exact h | exact Option.some.inj h)
        · rw [h]; simp)
      clear hrow3 hg3 hob3 hrow4 hB3
      go_wp2_with fail
      go_ret
      exact ⟨v', some ob', rfl, HR4.out, (fun g e => by obtain rfl := Option.some.inj e; exact HOB.out), HB3.out⟩

/-- where one is put, how many there are then, and which -/
def putK (P : Nat → PgE) (n : Nat) (p : PgE) : Nat := if findN P p.node n < 0 then n else (findN P p.node n).toNat
def putM (P : Nat → PgE) (n : Nat) (p : PgE) : Nat := if findN P p.node n < 0 then n + 1 else n
def putF (P : Nat → PgE) (n : Nat) (p : PgE) (k : Nat) : PgE := if k = putK P n p then p else P k

theorem put3_in {W : World} {g cap n j : Nat} {v : Value} {P : Nat → PgE} {p : PgE} (h : Row W v (some g) 26 3 n (pgL P n)) (hE : ∀ k, k < n → (P k).ok) (hj : j < n) (hp : p.ok) (hv : v = .slice (some ⟨g, 0, none⟩) n cap) (hP' : ∀ k, k < n → k ≠ j → True) :
    PgIn (((W.setCell ⟨g, j * 3, none⟩ (.int .i64 p.node)).setCell ⟨g, j * 3 + 1, none⟩ (.int .i64 p.match_)).setCell ⟨g, j * 3 + 2, none⟩ (.int .i64 p.next_)) (some ⟨g, 0, none⟩) n cap g 0 (fun k => if k = j then p else P k) := by
  subst hv
  rcases h.cases with ⟨e, _⟩ | ⟨g', cap', cur, e, e2, h3, h4, h5, h6, h7⟩
  · cases e
  · obtain rfl := Option.some.inj e
    injection e2 with _ _ e3
    subst e3
    have hb := heap_setCell_same (heap_setCell_same (heap_setCell_same h3 (j * 3) (.int .i64 p.node)) (j * 3 + 1) (.int .i64 p.match_)) (j * 3 + 2) (.int .i64 p.next_)
    obtain ⟨a2, c2, ev, hin⟩ := pg_row h hE
    injection ev with ea _ ec
    subst ea ec
    refine ⟨hin.le, hin.max, fun _ => ⟨rfl, lt_of_block hb⟩, fun k hk => ?_, fun k hk => ?_⟩
    · have hold : ∀ i, i < 3 → cur[k * 3 + i]? = (P k).cells[i]? := fun i hi => by
        have h8 := pgL_at P n k i hk hi
        rw [← h7, List.getElem?_take, if_pos (by omega), Array.getElem?_toList] at h8
        exact h8
      have hs : k * 3 + 2 < cur.size := by rw [h6]; have := h4; omega
      have hs2 : j * 3 + 2 < cur.size := by rw [h6]; omega
      simp only [Nat.zero_add]
      rw [cell_at hb, cell_at hb, cell_at hb]
      simp only [Array.getElem?_setIfInBounds, Array.size_setIfInBounds]
      by_cases hkj : k = j
      · subst hkj
        simp
        omega
      · have q0 := hold 0 (by omega)
        have q1 := hold 1 (by omega)
        have q2 := hold 2 (by omega)
        rw [Nat.add_zero] at q0
        simp only [if_neg hkj]
        rw [if_neg (by omega), if_neg (by omega), if_neg (by omega), if_neg (by omega), if_neg (by omega), if_neg (by omega), if_neg (by omega), if_neg (by omega), if_neg (by omega)]
        exact ⟨q0, q1, q2⟩
    · show (if k = j then p else P k).ok
      split
      · exact hp
      · exact hE k hk

theorem putF_lt {P : Nat → PgE} {n : Nat} {p : PgE} (h : ¬ findN P p.node n < 0) : putM P n p = n ∧ putK P n p < n ∧ (putK P n p : Int) = findN P p.node n := by
  unfold putM putK
  rw [if_neg h, if_neg h]
  rcases findI_cases P p.node n 0 with ⟨h1, _⟩ | ⟨j, h1, _, h3, _⟩
  · have : findN P p.node n = -1 := h1
    omega
  · have : findN P p.node n = j := h1
    omega

set_option maxRecDepth 100000 in
set_option maxHeartbeats 8000000 in
theorem put_any (p : PgE) (a : Option Addr) (n c b o : Nat) (P : Nat → PgE) (w : World) (h1 : PgIn w a n c b o P) (hn5 : n ≤ 100) (hp : p.ok) :
    Calls Try.prog 24 #[.slice a n c, .agg #[.int .i64 p.node, .int .i64 p.match_, .int .i64 p.next_]] w fun e w' => ∃ a' c' b', e = .returned (.slice a' (putM P n p) c') ∧ PgIn w' a' (putM P n p) c' b' 0 (putF P n p) ∧ Below w.heap.size w w' := by
  obtain ⟨i0, hi, hz0, hz1, hz2⟩ := info_parts pgZero
  have HI := Lib.hid hi
  have HZ0 := Lib.hid hz0
  have HZ1 := Lib.hid hz1
  have HZ2 := Lib.hid hz2
  clear hi hz0 hz1 hz2
  obtain ⟨N, hN⟩ : ∃ N, N = w.heap.size := ⟨_, rfl⟩
  obtain ⟨W1, hW1⟩ : ∃ W1, W1 = w.alloc (.cells #[.int .i64 p.node, .int .i64 p.match_, .int .i64 p.next_] 26) := ⟨_, rfl⟩
  have hB1 : Below N w W1 := by rw [hW1, hN]; exact (Below.refl _ _).alloc (Nat.le_refl _) _
  have hb1 : Blk W1 N #[.int .i64 p.node, .int .i64 p.match_, .int .i64 p.next_] 26 := by rw [hW1, hN]; exact blk_new _ _ _
  have HN := Lib.hid hN
  have HC := Lib.hid (pclone_any a n c b o P W1 (h1.below (hN ▸ hB1)) (by omega))
  have HOK := Lib.hid h1.bd
  have HB1 := Lib.hid hB1
  have HK1 := Lib.hid hb1
  have HP := Lib.hid hp
  clear h1 hB1 hb1 hp
  go_enter Try.func24, Try.ntmps24
  go_wp2_with fail
  rw [← hN, ← hW1]
  clear hN hW1
  go_at_call 65
  refine HC.out.mono ?_
  rintro e W2 ⟨v, ob, rfl, hrow, hob, hB2⟩
  have HB2 := Lib.hid (HB1.out.trans (hB2.mono (by have := HK1.out.lt; omega)))
  have HK2 := Lib.hid (HK1.out.step hB2)
  have hgt : ∀ g, ob = some g → N < g := fun g hg => by have := hob g hg; have := HK1.out.lt; omega
  have HGT := Lib.hid hgt
  obtain ⟨va, vc, rfl, hin⟩ := pg_row hrow HOK.out
  have HR2 := Lib.hid hrow
  have HIN := Lib.hid hin
  have y0 : W2.cell? ⟨N, 0, none⟩ = some (.int .i64 p.node) := cell_at HK2.out 0
  have yl := HK2.out.lt
  clear hrow hob hB2 hin hgt
  go_wp2_with fail
  go_at_call 58
  refine (fof_any p.node _).mono ?_
  rintro e W3 ⟨Bs, rfl, hb3, hn3, hB3⟩
  have HB3 := Lib.hid (HB2.out.trans (hB3.mono (by omega)))
  have HK3 := Lib.hid (HK2.out.step hB3)
  have HR3 := Lib.hid (HR2.out.congr (w' := W3) fun g hg => hB3.block g (by subst hg; exact HR2.out.lt))
  have HIN3 := Lib.hid (HIN.out.below hB3)
  have HBK := Lib.hid hb3
  clear hb3 hn3 hB3 y0 yl
  go_wp2_with fail
  go_at_call 59
  refine (fin_any p.node Bs va n vc _ 0 P _ HIN3.out HBK.out).mono ?_
  rintro e W4 ⟨rfl, hB4⟩
  have hN3 : N ≤ W3.heap.size := by have := HK3.out.lt; omega
  have HB4 := Lib.hid (HB3.out.trans (hB4.mono hN3))
  have HK4 := Lib.hid (HK3.out.step hB4)
  have HR4 := Lib.hid (HR3.out.congr (w' := W4) fun g hg => hB4.block g (by subst hg; exact HR3.out.lt))
  have y0 : W4.cell? ⟨N, 0, none⟩ = some (.int .i64 p.node) := cell_at HK4.out 0
  have y1 : W4.cell? ⟨N, 1, none⟩ = some (.int .i64 p.match_) := cell_at HK4.out 1
  have y2 : W4.cell? ⟨N, 2, none⟩ = some (.int .i64 p.next_) := cell_at HK4.out 2
  have yl := HK4.out.lt
  clear hB4
  obtain ⟨q, hq⟩ : ∃ q, q = findN P p.node n := ⟨_, rfl⟩
  rw [← hq]
  have HQ := Lib.hid hq
  by_cases hneg : q < 0
  · have hm : putM P n p = n + 1 := by unfold putM; rw [← hq, if_pos hneg]
    have hf : putK P n p = n := by unfold putK; rw [← hq, if_pos hneg]
    have HM := Lib.hid hm
    have HF := Lib.hid hf
    have d1 : decide (q < 0) = true := by simpa using hneg
    clear hq hm hf hneg
    have hpf : pgL (putF P n p) (n + 1) = pgL P n ++ p.cells := by
      rw [pgL_succ, pgL_congr (E' := P) (fun k hk => by unfold putF; rw [HF.out, if_neg (by omega)])]
      congr 2
      unfold putF
      rw [HF.out, if_pos rfl]
    have hpo : ∀ k, k < n + 1 → (putF P n p k).ok := fun k hk => by
      unfold putF
      split
      · exact HP.out
      · next h => exact HOK.out k (by rw [HF.out] at h; omega)
    have HPF := Lib.hid hpf
    have HPO := Lib.hid hpo
    clear hpf hpo
    go_wp2_with (at_builtin; refine wpList_append_row _ rfl (.tmp 16) (.tmp 18) 27 rfl 26 i0 _ 3 24 Try.underlying27 HI.out HZ0.out HZ1.out HZ2.out rfl (by decide) _ ob n (pgL P n) rfl (HR4.out.alloc _) ⟨W4.heap.size, 0, none⟩ 1 1 [.int .i64 p.node, .int .i64 p.match_, .int .i64 p.next_] rfl (by decide) rfl ?c1 ?c2 ?c3 ?c4 ?_)
    case c1 => exact fw_cells W4 _ _
    case c2 => intro u hu; exact (List.all_eq_true (p := fun u : Value => u.oneCell')).1 rfl u hu
    case c3 => unfold maxLen; omega
    case c4 => omega
    intro v5 ob5 W5 hrow5 hg5 hob5
    have hrow6 : Row W5 v5 (some ob5) 26 3 (n + 1) (pgL (putF P n p) (n + 1)) := by rw [HPF.out]; exact hrow5
    obtain ⟨a6, c6, rfl, hin6⟩ := pg_row hrow6 HPO.out
    have hN4 : N ≤ W4.heap.size := by have := HK4.out.lt; omega
    have HB5 : Hid (Below N w W5) := Lib.hid ((HB4.out.alloc hN4 _).grown hg5 (by simp; omega) (fun g e => Nat.le_of_lt (HGT.out g e)))
    have HIN6 := Lib.hid hin6
    clear hrow5 hg5 hob5 hrow6 hin6
    go_wp2_with fail
    go_ret
    rw [HM.out, ← HN.out]
    exact ⟨a6, c6, _, rfl, HIN6.out, HB5.out⟩
  · obtain ⟨k1, k2, k3⟩ := putF_lt (P := P) (n := n) (p := p) (by rw [← hq]; exact hneg)
    obtain ⟨j, hj⟩ : ∃ j, j = putK P n p := ⟨_, rfl⟩
    rw [← hj] at k2 k3
    have hqj : q = (j : Nat) := by omega
    have HM := Lib.hid k1
    have HJ := Lib.hid hj
    clear hq k1 k3 hneg hj
    subst hqj
    obtain ⟨g, hg, _⟩ := HR4.out.cell 0 (by omega)
    have hr4 := HR4.out
    rw [hg] at hr4
    have hgn := HGT.out g hg
    obtain ⟨e0, _⟩ := (HIN.out.at_ (by omega))
    rw [hg] at e0
    obtain rfl : va = some ⟨g, 0, none⟩ := e0
    have hin4 := put3_in (j := j) hr4 HOK.out k2 HP.out rfl (fun _ _ _ => trivial)
    have HIN4 := Lib.hid hin4
    have hgl := hr4.lt
    obtain ⟨g0, eg0, c0, z0⟩ := hr4.cell (j * 3) (by omega)
    obtain ⟨g1, eg1, c1, z1⟩ := hr4.cell (j * 3 + 1) (by omega)
    obtain ⟨g2, eg2, c2, z2⟩ := hr4.cell (j * 3 + 2) (by omega)
    obtain rfl := Option.some.inj eg0
    obtain rfl := Option.some.inj eg1
    obtain rfl := Option.some.inj eg2
    have h0 := pgL_at P n j 0 k2 (by omega)
    rw [Nat.add_zero] at h0
    rw [h0] at c0
    rw [pgL_at P n j 1 k2 (by omega)] at c1
    rw [pgL_at P n j 2 k2 (by omega)] at c2
    have c0' : W4.cell? ⟨g, j * 3, none⟩ = some (.int .i64 (P j).node) := c0
    have c1' : W4.cell? ⟨g, j * 3 + 1, none⟩ = some (.int .i64 (P j).match_) := c1
    have c2' : W4.cell? ⟨g, j * 3 + 2, none⟩ = some (.int .i64 (P j).next_) := c2
    have d1 : decide (((j : Nat) : Int) < 0) = false := by simp
    clear hr4 hin4 h0 c0 c1 c2 eg0 hg
    go_wp2_with fail
    go_ret
    rw [HM.out, ← HN.out]
    have hpe : putF P n p = fun k => if k = j then p else P k := by funext k; unfold putF; rw [← HJ.out]
    rw [hpe]
    exact ⟨_, vc, g, rfl, HIN4.out, ((HB4.out.setCell (p := ⟨g, j * 3, none⟩) (by simp only; omega) _).setCell (p := ⟨g, j * 3 + 1, none⟩) (by simp only; omega) _).setCell (p := ⟨g, j * 3 + 2, none⟩) (by simp only; omega) _⟩
end Go.Proofs.Ytninhjeiialbjaa
