/-
  The document's Put and Begin.
-/
import Derived.Test.YtninhjeiialbjaaFx2
namespace Go.Proofs.Ytninhjeiialbjaa
open Go.RowKit
set_option linter.unusedSimpArgs false
set_option linter.unusedVariables false

/-- what was put by the k-th -/
def DoneB (q : Int) (k : Nat) : Bool := decide (0 ≤ q) && decide (q < k)
theorem findN_cases (P : Nat → PgE) (node : Int) (n : Nat) : (findN P node n = -1 ∧ ∀ j, j < n → (P j).node ≠ node) ∨ ∃ j, findN P node n = (j : Nat) ∧ j < n ∧ (P j).node = node ∧ ∀ i, i < j → (P i).node ≠ node := by
  rcases findI_cases P node n 0 with ⟨h1, h2⟩ | ⟨j, h1, _, h3, h4, h5⟩
  · exact .inl ⟨h1, fun j hj => h2 j (by omega) (by omega)⟩
  · exact .inr ⟨j, h1, by omega, h4, fun i hi => h5 i (by omega) hi⟩

set_option maxRecDepth 100000 in
set_option maxHeartbeats 8000000 in
theorem rput_any (p : PgE) (a : Option Addr) (n c b o : Nat) (P : Nat → PgE) (w : World) (h1 : PgIn w a n c b o P) (hn5 : n ≤ 100) (hp : p.ok) :
    Calls Try.prog 25 #[.slice a n c, .agg #[.int .i64 p.node, .int .i64 p.match_, .int .i64 p.next_]] w fun e w' => ∃ a' c' b', e = .returned (.slice a' (putM P n p) c') ∧ PgIn w' a' (putM P n p) c' b' 0 (putF P n p) ∧ Below w.heap.size w w' := by
  obtain ⟨i0, hi, hz0, hz1, hz2⟩ := info_parts pgZero
  have HI := Lib.hid hi
  have HZ0 := Lib.hid hz0
  have HZ1 := Lib.hid hz1
  have HZ2 := Lib.hid hz2
  have hm := h1.max
  have hl := h1.le
  unfold maxLen at hm
  clear hi hz0 hz1 hz2
  obtain ⟨N, hN⟩ : ∃ N, N = w.heap.size := ⟨_, rfl⟩
  obtain ⟨W1, hW1⟩ : ∃ W1, W1 = w.alloc (.cells #[.int .i64 p.node, .int .i64 p.match_, .int .i64 p.next_] 26) := ⟨_, rfl⟩
  have hB1 : Below N w W1 := by rw [hW1, hN]; exact (Below.refl _ _).alloc (Nat.le_refl _) _
  have hb1 : Blk W1 N #[.int .i64 p.node, .int .i64 p.match_, .int .i64 p.next_] 26 := by rw [hW1, hN]; exact blk_new _ _ _
  have HN := Lib.hid hN
  have HA := Lib.hid (h1.below (hN ▸ hB1))
  have HOK := Lib.hid h1.bd
  have HB1 := Lib.hid hB1
  have HK1 := Lib.hid hb1
  have HP := Lib.hid hp
  obtain ⟨q, hq⟩ : ∃ q, q = findN P p.node n := ⟨_, rfl⟩
  have hcs := findN_cases P p.node n
  rw [← hq] at hcs
  have HCS := Lib.hid hcs
  have HQ := Lib.hid hq
  have hs1 : W1.heap.size = N + 1 := by rw [hW1, hN]; simp
  clear h1 hB1 hb1 hp hcs hq
  go_enter Try.func25, Try.ntmps25
  go_wp2_with fail
  rw [← hN, ← hW1]
  clear hN hW1
  go_loopw [5, 6, 7] (fun vo vd vi wr => ∃ (k : Nat) (ob : Option Nat), k ≤ n ∧ vi = .int .i64 k ∧ vd = .bool (DoneB q k) ∧ Row wr vo ob 26 3 k (pgL (putF P n p) k) ∧ (∀ g, ob = some g → N < g) ∧ Below (N + 1) W1 wr) (fun _ _ vi _ => n - (intOf vi).toNat)
  case atStart => exact ⟨0, none, Nat.zero_le _, rfl, by unfold DoneB; congr 1; cases h : decide (0 ≤ q) <;> simp at h ⊢ <;> omega, Row.nil _ _ _, (fun _ h => by cases h), by rw [← hs1]; exact Below.refl _ _⟩
  case round =>
    obtain ⟨k, ob, hk, rfl, rfl, hrow, hg, hB⟩ := hrel
    have HROW := Lib.hid hrow
    have HG := Lib.hid hg
    have HB := Lib.hid hB
    have HKw : Hid (Blk wr N #[.int .i64 p.node, .int .i64 p.match_, .int .i64 p.next_] 26) := Lib.hid ((hB.block N (by omega)).trans HK1.out)
    clear hrow hg hB
    have y0 : wr.cell? ⟨N, 0, none⟩ = some (.int .i64 p.node) := cell_at HKw.out 0
    have y1 : wr.cell? ⟨N, 1, none⟩ = some (.int .i64 p.match_) := cell_at HKw.out 1
    have y2 : wr.cell? ⟨N, 2, none⟩ = some (.int .i64 p.next_) := cell_at HKw.out 2
    have yl := HKw.out.lt
    by_cases hlt : k < n
    · have hAk := HA.out.below (W' := wr) (hs1 ▸ HB.out)
      obtain ⟨e0, e1⟩ := hAk.at_ (by omega)
      obtain ⟨k0, k1, k2⟩ := hAk.cell k hlt
      subst e0
      -- what is laid at place k, and whether it is done then
      have hcase : (DoneB q k = true ∧ DoneB q (k + 1) = true ∧ putF P n p k = P k) ∨ (DoneB q k = false ∧ (P k).node = p.node ∧ DoneB q (k + 1) = true ∧ putF P n p k = p) ∨ (DoneB q k = false ∧ (P k).node ≠ p.node ∧ DoneB q (k + 1) = false ∧ putF P n p k = P k) := by
        rcases HCS.out with ⟨h1, h2⟩ | ⟨j, h1, h2, h3, h4⟩
        · have hpk : putK P n p = n := by unfold putK; rw [← HQ.out, h1]; rfl
          unfold DoneB putF
          rw [hpk, h1]
          exact .inr (.inr ⟨by simp, h2 k hlt, by simp, by rw [if_neg (by omega)]⟩)
        · have hpk : putK P n p = j := by unfold putK; rw [← HQ.out, h1, if_neg (by omega)]; rfl
          unfold DoneB putF
          rw [hpk, h1]
          by_cases hkj : k < j
          · exact .inr (.inr ⟨by simp; omega, h4 k hkj, by simp; omega, by rw [if_neg (by omega)]⟩)
          · by_cases hke : k = j
            · subst hke
              exact .inr (.inl ⟨by simp, h3, by simp; omega, by rw [if_pos rfl]⟩)
            · exact .inl ⟨by simp; omega, by simp; omega, by rw [if_neg hke]⟩
      have hsucc : pgL (putF P n p) (k + 1) = pgL (putF P n p) k ++ (putF P n p k).cells := pgL_succ _ _
      obtain ⟨x, hx⟩ : ∃ x, x = P k := ⟨_, rfl⟩
      rw [← hx] at k0 k1 k2 hcase
      have HSC := Lib.hid hsucc
      clear hAk hx hsucc
      obtain ⟨xn, xm, xx⟩ := x
      simp only at k0 k1 k2 hcase
      rcases hcase with ⟨t1, t2, t3⟩ | ⟨t1, te, t2, t3⟩ | ⟨t1, te, t2, t3⟩
      · rw [t1]
        rw [t3] at HSC
        have HT2 := Lib.hid t2
        clear t1 t2 t3
        go_wp2_with (at_builtin; refine wpList_append_row _ rfl (.tmp 29) (.tmp 31) 27 rfl 26 i0 _ 3 24 Try.underlying27 HI.out HZ0.out HZ1.out HZ2.out rfl (by decide) _ ob k (pgL (putF P n p) k) rfl ((HROW.out.alloc _).alloc _) ⟨wr.heap.size + 1, 0, none⟩ 1 1 [.int .i64 xn, .int .i64 xm, .int .i64 xx] rfl (by decide) rfl ?c1 ?c2 ?c3 ?c4 ?_)
        case c1 =>
          intro j u h
          have h9 := fw_cells (wr.alloc (.cells #[.int .i64 xn, .int .i64 xm, .int .i64 xx] 26)) [.int .i64 xn, .int .i64 xm, .int .i64 xx] 26 j u h
          rw [World.size_alloc] at h9
          exact h9
        case c2 => intro u hu; exact (List.all_eq_true (p := fun u : Value => u.oneCell')).1 rfl u hu
        case c3 => unfold maxLen; omega
        case c4 => omega
        intro v5 ob5 W5 hrow5 hg5 hob5
        have HR5 := Lib.hid hrow5
        have HG5 := Lib.hid hg5
        have HO5 := Lib.hid hob5
        clear hrow5 hg5 hob5
        go_wp2_with fail
        go_roundw
        case rel =>
          have hsm := HB.out.size
          have hBa : Below (N + 1) W1 ((wr.alloc (.cells #[.int .i64 xn, .int .i64 xm, .int .i64 xx] 26)).alloc (.cells #[.int .i64 xn, .int .i64 xm, .int .i64 xx] 26)) := (HB.out.alloc (by omega) _).alloc (by simp; omega) _
          refine ⟨k + 1, some ob5, by omega, by go_num, by rw [HT2.out], by rw [HSC.out]; exact HR5.out, ?_, hBa.grown HG5.out (by simp; omega) (fun g e => by have := HG.out g e; omega)⟩
          intro g e
          obtain rfl := Option.some.inj e
          rcases HO5.out with h | h
          · exact HG.out _ h
          · first | omega | (simp at h; omega)
        case measure => first | (simp [intOf]; done) | (simp [intOf]; omega)
      · rw [t1]
        rw [t3] at HSC
        have HT2 := Lib.hid t2
        clear t1 t2 t3
        have d1 : (xn == p.node) = true := by simpa using te
        clear te
        go_wp2_with (at_builtin; refine wpList_append_row _ rfl (.tmp 29) (.tmp 31) 27 rfl 26 i0 _ 3 24 Try.underlying27 HI.out HZ0.out HZ1.out HZ2.out rfl (by decide) _ ob k (pgL (putF P n p) k) rfl ((HROW.out.alloc _).alloc _) ⟨wr.heap.size + 1, 0, none⟩ 1 1 [.int .i64 p.node, .int .i64 p.match_, .int .i64 p.next_] rfl (by decide) rfl ?c1 ?c2 ?c3 ?c4 ?_)
        case c1 =>
          intro j u h
          have h9 := fw_cells (wr.alloc (.cells #[.int .i64 p.node, .int .i64 p.match_, .int .i64 p.next_] 26)) [.int .i64 p.node, .int .i64 p.match_, .int .i64 p.next_] 26 j u h
          rw [World.size_alloc] at h9
          exact h9
        case c2 => intro u hu; exact (List.all_eq_true (p := fun u : Value => u.oneCell')).1 rfl u hu
        case c3 => unfold maxLen; omega
        case c4 => omega
        intro v5 ob5 W5 hrow5 hg5 hob5
        have HR5 := Lib.hid hrow5
        have HG5 := Lib.hid hg5
        have HO5 := Lib.hid hob5
        clear hrow5 hg5 hob5
        go_wp2_with fail
        go_roundw
        case rel =>
          have hsm := HB.out.size
          have hBa : Below (N + 1) W1 ((wr.alloc (.cells #[.int .i64 p.node, .int .i64 p.match_, .int .i64 p.next_] 26)).alloc (.cells #[.int .i64 p.node, .int .i64 p.match_, .int .i64 p.next_] 26)) := (HB.out.alloc (by omega) _).alloc (by simp; omega) _
          refine ⟨k + 1, some ob5, by omega, by go_num, by rw [HT2.out], by rw [HSC.out]; exact HR5.out, ?_, hBa.grown HG5.out (by simp; omega) (fun g e => by have := HG.out g e; omega)⟩
          intro g e
          obtain rfl := Option.some.inj e
          rcases HO5.out with h | h
          · exact HG.out _ h
          · first | omega | (simp at h; omega)
        case measure => first | (simp [intOf]; done) | (simp [intOf]; omega)
      · rw [t1]
        rw [t3] at HSC
        have HT2 := Lib.hid t2
        clear t1 t2 t3
        have d1 : (xn == p.node) = false := by simpa using te
        clear te
        go_wp2_with (at_builtin; refine wpList_append_row _ rfl (.tmp 29) (.tmp 31) 27 rfl 26 i0 _ 3 24 Try.underlying27 HI.out HZ0.out HZ1.out HZ2.out rfl (by decide) _ ob k (pgL (putF P n p) k) rfl ((HROW.out.alloc _).alloc _) ⟨wr.heap.size + 1, 0, none⟩ 1 1 [.int .i64 xn, .int .i64 xm, .int .i64 xx] rfl (by decide) rfl ?c1 ?c2 ?c3 ?c4 ?_)
        case c1 =>
          intro j u h
          have h9 := fw_cells (wr.alloc (.cells #[.int .i64 xn, .int .i64 xm, .int .i64 xx] 26)) [.int .i64 xn, .int .i64 xm, .int .i64 xx] 26 j u h
          rw [World.size_alloc] at h9
          exact h9
        case c2 => intro u hu; exact (List.all_eq_true (p := fun u : Value => u.oneCell')).1 rfl u hu
        case c3 => unfold maxLen; omega
        case c4 => omega
        intro v5 ob5 W5 hrow5 hg5 hob5
        have HR5 := Lib.hid hrow5
        have HG5 := Lib.hid hg5
        have HO5 := Lib.hid hob5
        clear hrow5 hg5 hob5
        go_wp2_with fail
        go_roundw
        case rel =>
          have hsm := HB.out.size
          have hBa : Below (N + 1) W1 ((wr.alloc (.cells #[.int .i64 xn, .int .i64 xm, .int .i64 xx] 26)).alloc (.cells #[.int .i64 xn, .int .i64 xm, .int .i64 xx] 26)) := (HB.out.alloc (by omega) _).alloc (by simp; omega) _
          refine ⟨k + 1, some ob5, by omega, by go_num, by rw [HT2.out], by rw [HSC.out]; exact HR5.out, ?_, hBa.grown HG5.out (by simp; omega) (fun g e => by have := HG.out g e; omega)⟩
          intro g e
          obtain rfl := Option.some.inj e
          rcases HO5.out with h | h
          · exact HG.out _ h
          · first | omega | (simp at h; omega)
        case measure => first | (simp [intOf]; done) | (simp [intOf]; omega)
    · obtain rfl : k = n := by omega
      have hcase : (DoneB q k = true ∧ putM P k p = k) ∨ (DoneB q k = false ∧ putM P k p = k + 1 ∧ putF P k p k = p) := by
        rcases HCS.out with ⟨h1, h2⟩ | ⟨j, h1, h2, h3, h4⟩
        · refine .inr ⟨by unfold DoneB; rw [h1]; simp, by unfold putM; rw [← HQ.out, h1]; rfl, ?_⟩
          have hpk : putK P k p = k := by unfold putK; rw [← HQ.out, h1]; rfl
          unfold putF
          rw [hpk, if_pos rfl]
        · exact .inl ⟨by unfold DoneB; rw [h1]; simp; omega, by unfold putM; rw [← HQ.out, h1, if_neg (by omega)]⟩
      have hpo : ∀ i, i < putM P k p → (putF P k p i).ok := fun i hi => by
        unfold putF
        split
        · exact HP.out
        · next h =>
          refine HOK.out i ?_
          rcases hcase with ⟨_, h8⟩ | ⟨_, h8, h9⟩
          · omega
          · rcases HCS.out with ⟨h1, _⟩ | ⟨j, h1, _⟩
            · have hpk : putK P k p = k := by unfold putK; rw [← HQ.out, h1]; rfl
              omega
            · have : putM P k p = k := by unfold putM; rw [← HQ.out, h1, if_neg (by omega)]
              omega
      have HPO := Lib.hid hpo
      clear hpo
      rcases hcase with ⟨t1, t2⟩ | ⟨t1, t2, t3⟩
      · rw [t1]
        have hrow := HROW.out
        have hpo2 := HPO.out
        rw [t2] at hpo2
        obtain ⟨a6, c6, rfl, hin6⟩ := pg_row hrow hpo2
        have HIN6 := Lib.hid hin6
        have HT2 := Lib.hid t2
        clear hrow hpo2 hin6 t1 t2
        go_wp2_with fail
        go_ret
        rw [HT2.out, ← HN.out]
        exact ⟨a6, c6, _, rfl, HIN6.out, HB1.out.trans (HB.out.mono (by omega))⟩
      · rw [t1]
        have hsucc : pgL (putF P k p) (k + 1) = pgL (putF P k p) k ++ (putF P k p k).cells := pgL_succ _ _
        rw [t3] at hsucc
        have HSC := Lib.hid hsucc
        have HT2 := Lib.hid t2
        clear hsucc t1 t2 t3
        go_wp2_with (at_builtin; refine wpList_append_row _ rfl (.tmp 35) (.tmp 37) 27 rfl 26 i0 _ 3 24 Try.underlying27 HI.out HZ0.out HZ1.out HZ2.out rfl (by decide) _ ob k (pgL (putF P k p) k) rfl (HROW.out.alloc _) ⟨wr.heap.size, 0, none⟩ 1 1 [.int .i64 p.node, .int .i64 p.match_, .int .i64 p.next_] rfl (by decide) rfl ?c1 ?c2 ?c3 ?c4 ?_)
        case c1 => exact fw_cells wr _ _
        case c2 => intro u hu; exact (List.all_eq_true (p := fun u : Value => u.oneCell')).1 rfl u hu
        case c3 => unfold maxLen; omega
        case c4 => omega
        intro v5 ob5 W5 hrow5 hg5 hob5
        have hrow6 : Row W5 v5 (some ob5) 26 3 (k + 1) (pgL (putF P k p) (k + 1)) := by rw [HSC.out]; exact hrow5
        have hpo2 := HPO.out
        rw [HT2.out] at hpo2
        obtain ⟨a6, c6, rfl, hin6⟩ := pg_row hrow6 hpo2
        have hsm := HB.out.size
        have HB5 : Hid (Below (N + 1) W1 W5) := Lib.hid ((HB.out.alloc (by omega) _).grown hg5 (by simp; omega) (fun g e => by have := HG.out g e; omega))
        have HIN6 := Lib.hid hin6
        clear hrow5 hg5 hob5 hrow6 hpo2 hin6
        go_wp2_with fail
        go_ret
        rw [HT2.out, ← HN.out]
        exact ⟨a6, c6, _, rfl, HIN6.out, HB1.out.trans (HB5.out.mono (by omega))⟩
end Go.Proofs.Ytninhjeiialbjaa
