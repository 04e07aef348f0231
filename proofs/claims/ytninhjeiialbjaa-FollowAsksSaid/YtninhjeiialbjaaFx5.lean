/-
  The law FollowTells, walked.
-/
import Derived.Test.YtninhjeiialbjaaLib2
import Derived.Test.YtninhjeiialbjaaFx4
namespace Go.Proofs.Ytninhjeiialbjaa
open Go.RowKit
set_option linter.unusedSimpArgs false
set_option linter.unusedVariables false

theorem Holds.step {A B : World} {n : Nat} {c : Array Value} (h : Holds A n c) (hB : Below A.heap.size A B) : Holds B n c :=
  ⟨fun j => (hB.cell (p := ⟨n, j, none⟩) h.2.2).trans (h.1 j), fun j => (hB.frozen (p := ⟨n, j, none⟩) h.2.2).trans (h.2.1 j), by have := hB.size; have := h.2.2; omega⟩
/-- four blocks of the call's own -/
def F4 (w : World) (n1 n2 n3 n4 : Nat) (c0 c1 c2 c3 : Array Value) (X : World) : Prop := Holds X n1 c0 ∧ Holds X n2 c1 ∧ Holds X n3 c2 ∧ Holds X n4 c3 ∧ Below w.heap.size w X
theorem F4.step {w A B : World} {n1 n2 n3 n4 : Nat} {c0 c1 c2 c3 : Array Value} (h : F4 w n1 n2 n3 n4 c0 c1 c2 c3 A) (hB : Below A.heap.size A B) : F4 w n1 n2 n3 n4 c0 c1 c2 c3 B :=
  ⟨Holds.step h.1 hB, Holds.step h.2.1 hB, Holds.step h.2.2.1 hB, Holds.step h.2.2.2.1 hB, h.2.2.2.2.trans (hB.mono h.2.2.2.2.size)⟩

theorem begL_ok (self nx : Int) (hx : 0 ≤ nx ∧ nx ≤ 1099511627777) : ∀ (l : List Nat), (∀ k ∈ l, k ≤ 7) → ∀ p ∈ begL self nx l, p.ok
  | [], _, p, hp => by simp [begL] at hp
  | k :: r, hl, p, hp => by
    have hr := begL_ok self nx hx r (fun j hj => hl j (by simp [hj]))
    have hk := hl k (by simp)
    unfold begL at hp
    split at hp
    · exact hr p hp
    · rcases List.mem_cons.1 hp with rfl | hp
      · unfold PgE.ok; simp only; omega
      · exact hr p hp
theorem memF_le (s : Int) : ∀ n, ∀ k ∈ memF s n, k ≤ n
  | 0, k, h => by simp [memF] at h
  | n + 1, k, h => by
    simp only [memF, List.mem_append] at h
    rcases h with h | h
    · have := memF_le s n k h; omega
    · split at h
      · simp at h; omega
      · simp at h
theorem pgVs_L (l : List PgE) : pgVs l = pgL (fun k => l.getD k ⟨0, 0, 0⟩) l.length := by
  unfold pgVs pgL
  have h : l = (List.range l.length).map (fun k => l.getD k ⟨0, 0, 0⟩) := by
    apply List.ext_getElem?
    intro i
    rw [List.getElem?_map]
    by_cases hi : i < l.length
    · rw [List.getElem?_range hi]
      simp [List.getElem?_eq_getElem hi]
    · rw [List.getElem?_eq_none (by omega), List.getElem?_eq_none (by simp; omega)]
      rfl
  conv => lhs; rw [h]
  rw [List.flatMap_map]
theorem row_pg {w : World} {v : Value} {ob : Option Nat} {l : List PgE} (h : Row w v ob 26 3 l.length (pgVs l)) (hl : ∀ p ∈ l, p.ok) : ∃ a c b, v = .slice a l.length c ∧ PgIn w a l.length c b 0 (fun k => l.getD k ⟨0, 0, 0⟩) := by
  rw [pgVs_L] at h
  obtain ⟨a, c, rfl, hin⟩ := pg_row h (fun k hk => by
    simp only [List.getD_eq_getElem?_getD, List.getElem?_eq_getElem hk, Option.getD_some]
    exact hl _ (List.getElem_mem hk))
  exact ⟨a, c, _, rfl, hin⟩

/-- a row of so many is told -/
def TellP (m : Nat) (B : Nat → PgE) (W : World) (e : Ending) (w' : World) : Prop := ∃ a c b, e = .returned (.slice a m c) ∧ PgIn w' a m c b 0 B ∧ Below W.heap.size W w'

theorem begin_both (base term : Int) (a : Option Addr) (len cap b o : Nat) (E : Nat → Ent) (set self : Int) (w : World) (hs : EntsIn w a len cap b o E) (h0 : 0 ≤ set) (h1 : set ≤ 255) :
    ∃ m B, (∀ W, Below w.heap.size w W → Calls Try.prog 20 #[.agg #[.int .i64 base, .int .i64 term, .slice a len cap], .int .u8 set, .int .i64 self] W (TellP m B W)) ∧ (∀ W, Below w.heap.size w W → Calls Try.prog 21 #[.agg #[.int .i64 base, .int .i64 term, .slice a len cap], .int .u8 set, .int .i64 self] W (TellP m B W)) := by
  cases hk : rowsB base term len E with
  | false =>
    have hn : ∀ W, PgIn W none 0 0 0 0 (fun _ => ⟨0, 0, 0⟩) := fun W => ⟨Nat.le_refl _, by unfold maxLen; omega, fun h => by omega, fun k h => by omega, fun k h => by omega⟩
    refine ⟨0, fun _ => ⟨0, 0, 0⟩, fun W h => (begin_bad base term a len cap b o E set self W (hs.below h) hk).mono ?_, fun W h => (rbegin_bad base term a len cap b o E set self W (hs.below h) hk).mono ?_⟩
    · rintro e w' ⟨rfl, hB⟩; exact ⟨none, 0, 0, rfl, hn _, hB⟩
    · rintro e w' ⟨rfl, hB⟩; exact ⟨none, 0, 0, rfl, hn _, hB⟩
  | true =>
    obtain ⟨b0, b1, h4, t0⟩ := rB_head hk
    have hok := begL_ok self (base + len + 1) (by omega) (memF set 7) (memF_le set 7)
    refine ⟨(begL self (base + len + 1) (memF set 7)).length, fun k => (begL self (base + len + 1) (memF set 7)).getD k ⟨0, 0, 0⟩, fun W h => (begin_ok base term a len cap b o E set self W (hs.below h) h0 h1 hk).mono ?_, fun W h => (rbegin_ok base term a len cap b o E set self W (hs.below h) h0 h1 hk).mono ?_⟩
    · rintro e w' ⟨v, ob, rfl, hr, _, hB⟩
      obtain ⟨a', c', b', rfl, hin⟩ := row_pg hr hok
      exact ⟨a', c', b', rfl, hin, hB⟩
    · rintro e w' ⟨v, ob, rfl, hr, _, hB⟩
      obtain ⟨a', c', b', rfl, hin⟩ := row_pg hr hok
      exact ⟨a', c', b', rfl, hin, hB⟩

set_option maxRecDepth 100000 in
set_option maxHeartbeats 8000000 in
theorem tells_any (base term : Int) (a : Option Addr) (len cap b o : Nat) (E : Nat → Ent) (set self : Int) (p : PgE) (ok : Bool) (idx : Int) (pa : Option Addr) (n c pb po : Nat) (P : Nat → PgE) (w : World) (hs : EntsIn w a len cap b o E) (h0 : 0 ≤ set) (h1 : set ≤ 255) (hp : PgIn w pa n c pb po P) (hpo : p.ok) :
    Calls Try.prog 3 #[.agg #[.int .i64 base, .int .i64 term, .slice a len cap], .int .u8 set, .int .i64 self, .agg #[.int .i64 p.node, .int .i64 p.match_, .int .i64 p.next_], .bool ok, .int .i64 idx, .slice pa n c] w fun e w' => e = .returned (.bool true) ∧ Below w.heap.size w w' := by
  have hm := hp.max
  have hl := hp.le
  unfold maxLen at hm
  obtain ⟨N, hN⟩ : ∃ N, N = w.heap.size := ⟨_, rfl⟩
  obtain ⟨W1, hW1⟩ : ∃ W1, W1 = (w.alloc (.cells #[.int .i64 base, .int .i64 term, .slice a len cap] 24)).alloc (.cells #[.int .i64 p.node, .int .i64 p.match_, .int .i64 p.next_] 26) := ⟨_, rfl⟩
  have hB1 : Below w.heap.size w W1 := by rw [hW1]; exact ((Below.refl _ _).alloc (Nat.le_refl _) _).alloc (by simp) _
  have hH := tw2 (X := W1) (n := N) (by rw [hW1]; exact Below.refl _ _) hN.symm
  have HG := Lib.hid (fun W (h : Below w.heap.size w W) => great_any base term a len cap b o E W (hs.below h))
  have HB1 := Lib.hid hB1
  have HR1 := Lib.hid hH.1
  have HP1 := Lib.hid hH.2
  have y0 : W1.cell? ⟨N, 0, none⟩ = some (.int .i64 base) := HR1.out.1 0
  have y1 : W1.cell? ⟨N, 1, none⟩ = some (.int .i64 term) := HR1.out.1 1
  have y2 : W1.cell? ⟨N, 2, none⟩ = some (.slice a len cap) := HR1.out.1 2
  have yl := HR1.out.2.2
  obtain ⟨m, B, hb1, hb2⟩ := begin_both base term a len cap b o E set self w hs h0 h1
  have HBG := Lib.hid hb1
  have HBR := Lib.hid hb2
  have HF := Lib.hid (fun W (h : Below w.heap.size w W) => ffind_any p.node pa n c pb po P W (hp.below h))
  have HFR := Lib.hid (fun W (h : Below w.heap.size w W) => rfind_any p.node pa n c pb po P W (hp.below h))
  have HT := Lib.hid (fun W => told_any p ok idx W)
  have HTR := Lib.hid (fun W => rtold_any p ok idx W)
  have HPU := Lib.hid (fun W (h : Below w.heap.size w W) (hn : n ≤ 100) => put_any p pa n c pb po P W (hp.below h) hn hpo)
  have HPR := Lib.hid (fun W (h : Below w.heap.size w W) (hn : n ≤ 100) => rput_any p pa n c pb po P W (hp.below h) hn hpo)
  obtain ⟨fe, hfe⟩ : ∃ fe, fe = foundE P p.node n := ⟨_, rfl⟩
  obtain ⟨fb, hfb⟩ : ∃ fb, fb = foundB P p.node n := ⟨_, rfl⟩
  rw [← hfe, ← hfb] at HF HFR
  obtain ⟨td, htd⟩ : ∃ td, td = toldE p ok idx := ⟨_, rfl⟩
  rw [← htd] at HT HTR
  have ef := fun W => pg_eql fe W
  have et := fun W => pg_eql td W
  have eb : ∀ W, (binOp .eql 4 (.bool fb) (.bool fb)).run Try.prog W = .ok (.bool true) W := fun W => by cases fb <;> rfl
  obtain ⟨fn, fm, fx⟩ := fe
  obtain ⟨tn, tm, tx⟩ := td
  obtain ⟨pn, pm, px⟩ := p
  simp only at *
  clear hs hp hpo hB1 hH hfe hfb htd hb1 hb2
  go_enter Try.func3, Try.ntmps3
  go_upto_region 1 with fail
  rw [← hN, ← hW1]
  clear hN hW1
  go_wp2_with fail
  go_at_call 15
  refine (HG.out _ HB1.out).mono ?_
  rintro e W2 ⟨g, rfl, hB2⟩
  have HB2 := Lib.hid (HB1.out.trans (hB2.mono HB1.out.size))
  have HR2 := Lib.hid (Holds.step HR1.out hB2)
  have HP2 := Lib.hid (Holds.step HP1.out hB2)
  clear hB2 y0 y1 y2 yl HG
  cases g
  · by_cases hn : 100 < n
    · go_wp2_with fail
      go_at_call 16
      refine (wwakes_any _).mono ?_
      rintro e WK ⟨rfl, hWK⟩
      have HK := Lib.hid (HB2.out.trans (hWK.mono HB2.out.size))
      clear hWK
      go_wp2_with fail
      go_ret
      exact ⟨rfl, HK.out⟩
    · have hn1 : n ≤ 100 := by omega
      have y0 : W2.cell? ⟨N + 1, 0, none⟩ = some (.int .i64 pn) := HP2.out.1 0
      have yl := HP2.out.2.2
      go_wp2_with fail
      go_at_call 17
      refine (HF.out _ HB2.out).mono ?_
      rintro e W3 ⟨rfl, hB3⟩
      have HB3 := Lib.hid (HB2.out.trans (hB3.mono HB2.out.size))
      have HR3 := Lib.hid (Holds.step HR2.out hB3)
      have HP3 := Lib.hid (Holds.step HP2.out hB3)
      clear hB3 y0 yl
      obtain ⟨M, hM⟩ : ∃ M, M = W3.heap.size := ⟨_, rfl⟩
      obtain ⟨W4, hW4⟩ : ∃ W4, W4 = W3.alloc (.cells #[.int .i64 fn, .int .i64 fm, .int .i64 fx] 26) := ⟨_, rfl⟩
      have hB4 : Below W3.heap.size W3 W4 := by rw [hW4]; exact (Below.refl _ _).alloc (Nat.le_refl _) _
      have HX4 : Hid (Holds W4 M #[.int .i64 fn, .int .i64 fm, .int .i64 fx]) := Lib.hid (by rw [hW4]; exact tw1 (Below.refl _ _) hM.symm)
      have HB4 := Lib.hid (HB3.out.trans (hB4.mono HB3.out.size))
      have HR4 := Lib.hid (Holds.step HR3.out hB4)
      have HP4 := Lib.hid (Holds.step HP3.out hB4)
      have y0 : W4.cell? ⟨N + 1, 0, none⟩ = some (.int .i64 pn) := HP4.out.1 0
      have yl := HP4.out.2.2
      go_upto_region 4 with fail
      rw [← hW4, ← hM]
      clear hW4 hM hB4
      go_wp2_with fail
      go_at_call 18
      refine (HFR.out _ HB4.out).mono ?_
      rintro e W5 ⟨rfl, hB5⟩
      have HB5 := Lib.hid (HB4.out.trans (hB5.mono HB4.out.size))
      have HR5 := Lib.hid (Holds.step HR4.out hB5)
      have HP5 := Lib.hid (Holds.step HP4.out hB5)
      have HX5 := Lib.hid (Holds.step HX4.out hB5)
      clear hB5 y0 yl
      obtain ⟨K1, hK1⟩ : ∃ K1, K1 = W5.heap.size := ⟨_, rfl⟩
      obtain ⟨W6, hW6⟩ : ∃ W6, W6 = W5.alloc (.cells #[.int .i64 fn, .int .i64 fm, .int .i64 fx] 26) := ⟨_, rfl⟩
      have hB6 : Below W5.heap.size W5 W6 := by rw [hW6]; exact (Below.refl _ _).alloc (Nat.le_refl _) _
      have hB7 : Below W5.heap.size W5 W6.drew := ⟨hB6.os, hB6.tape, hB6.output, hB6.size, hB6.block⟩
      have hY6 : Holds W6 K1 #[.int .i64 fn, .int .i64 fm, .int .i64 fx] := by rw [hW6]; exact tw1 (Below.refl _ _) hK1.symm
      have HQ0 : Hid (F4 w N (N + 1) M K1 _ _ _ _ W6.drew) := Lib.hid ⟨Holds.step HR5.out hB7, Holds.step HP5.out hB7, Holds.step HX5.out hB7, hY6, HB5.out.trans (hB7.mono HB5.out.size)⟩
      go_upto_region 5 with fail
      rw [← hW6, ← hK1]
      clear hW6 hK1 hB6 hB7 hY6 HR1 HP1 HB1 HR2 HP2 HB2 HR3 HP3 HB3 HR4 HP4 HB4 HR5 HP5 HB5 HX4 HX5 HF HFR hm hl h0 h1 hn
      refine wp_region_held_drew (S := fun X => X.cell? ⟨N, 0, none⟩ = some (.int .i64 base) ∧ X.cell? ⟨N, 1, none⟩ = some (.int .i64 term) ∧ X.cell? ⟨N, 2, none⟩ = some (.slice a len cap) ∧ X.cell? ⟨N + 1, 0, none⟩ = some (.int .i64 pn) ∧ X.cell? ⟨N + 1, 1, none⟩ = some (.int .i64 pm) ∧ X.cell? ⟨N + 1, 2, none⟩ = some (.int .i64 px) ∧ X.cell? ⟨M, 0, none⟩ = some (.int .i64 fn) ∧ X.cell? ⟨M, 1, none⟩ = some (.int .i64 fm) ∧ X.cell? ⟨M, 2, none⟩ = some (.int .i64 fx) ∧ X.cell? ⟨K1, 0, none⟩ = some (.int .i64 fn) ∧ X.cell? ⟨K1, 1, none⟩ = some (.int .i64 fm) ∧ X.cell? ⟨K1, 2, none⟩ = some (.int .i64 fx)) (by kernel_rfl) ⟨HQ0.out.1.1 0, HQ0.out.1.1 1, HQ0.out.1.1 2, HQ0.out.2.1.1 0, HQ0.out.2.1.1 1, HQ0.out.2.1.1 2, HQ0.out.2.2.1.1 0, HQ0.out.2.2.1.1 1, HQ0.out.2.2.1.1 2, HQ0.out.2.2.2.1.1 0, HQ0.out.2.2.2.1.1 1, HQ0.out.2.2.2.1.1 2⟩ (fun hHeld => ?_)
      ((refine wpAnyH_take (i := 0) (v := ?_) (by (simp only [List.getElem?_toArray, List.getElem?_cons_succ, List.getElem?_cons_zero]); rfl) (by kernel_rfl) (by kernel_rfl) (by kernel_rfl) (by exact fun _ _ _ h => h) (Or.inl ⟨by rfl, ?_⟩) (by assumption) ?_); rotate_left; focus (intro wS hSw; (try dsimp only at hSw); go_simp; first | done | with_reducible rfl); try simp only [Act.put, List.setIfInBounds_toArray, List.set_cons_zero, List.set_cons_succ])
      ((refine wpAnyH_take (i := 1) (v := ?_) (by (simp only [List.getElem?_toArray, List.getElem?_cons_succ, List.getElem?_cons_zero]); rfl) (by kernel_rfl) (by kernel_rfl) (by kernel_rfl) (by exact fun _ _ _ h => h) (Or.inl ⟨by rfl, ?_⟩) (by assumption) ?_); rotate_left; focus (intro wS hSw; (try dsimp only at hSw); go_simp; first | done | with_reducible rfl); try simp only [Act.put, List.setIfInBounds_toArray, List.set_cons_zero, List.set_cons_succ])
      ((refine wpAnyH_take (i := 2) (v := ?_) (by (simp only [List.getElem?_toArray, List.getElem?_cons_succ, List.getElem?_cons_zero]); rfl) (by kernel_rfl) (by kernel_rfl) (by kernel_rfl) (by exact fun _ _ _ h => h) (Or.inl ⟨by rfl, ?_⟩) (by assumption) ?_); rotate_left; focus (intro wS hSw; (try dsimp only at hSw); go_simp; first | done | with_reducible rfl); try simp only [Act.put, List.setIfInBounds_toArray, List.set_cons_zero, List.set_cons_succ])
      ((refine wpAnyH_take (i := 4) (v := ?_) (by (simp only [List.getElem?_toArray, List.getElem?_cons_succ, List.getElem?_cons_zero]); rfl) (by kernel_rfl) (by kernel_rfl) (by kernel_rfl) (by exact fun _ _ _ h => h) (Or.inl ⟨by rfl, ?_⟩) (by assumption) ?_); rotate_left; focus (intro wS hSw; (try dsimp only at hSw); go_simp; first | done | with_reducible rfl); try simp only [Act.put, List.setIfInBounds_toArray, List.set_cons_zero, List.set_cons_succ])
      ((refine wpAnyH_take (i := 5) (v := ?_) (by (simp only [List.getElem?_toArray, List.getElem?_cons_succ, List.getElem?_cons_zero]); rfl) (by kernel_rfl) (by kernel_rfl) (by kernel_rfl) (by exact fun _ _ _ h => h) (Or.inl ⟨by rfl, ?_⟩) (by assumption) ?_); rotate_left; focus (intro wS hSw; (try dsimp only at hSw); go_simp; first | done | with_reducible rfl); try simp only [Act.put, List.setIfInBounds_toArray, List.set_cons_zero, List.set_cons_succ])
      ((refine wpAnyH_take (i := 6) (v := ?_) (by (simp only [List.getElem?_toArray, List.getElem?_cons_succ, List.getElem?_cons_zero]); rfl) (by kernel_rfl) (by kernel_rfl) (by kernel_rfl) (by exact fun _ _ _ h => h) (Or.inl ⟨by rfl, ?_⟩) (by assumption) ?_); rotate_left; focus (intro wS hSw; (try dsimp only at hSw); go_simp; first | done | with_reducible rfl); try simp only [Act.put, List.setIfInBounds_toArray, List.set_cons_zero, List.set_cons_succ])
      ((refine wpAnyH_ready (rs := [3]) (by kernel_rfl) (by simp) ?_); (refine AllReadyH.cons (by (simp only [List.getElem?_toArray, List.getElem?_cons_succ, List.getElem?_cons_zero]); rfl) (fun K hK => ?_) AllReadyH.nil); go_simp; refine Calls.mono (HBG.out _ HQ0.out.2.2.2.2) ?_)
      rintro e X1 ⟨v1, c1, b1, rfl, hi1, hX1⟩
      have HQ1 := Lib.hid (HQ0.out.step hX1)
      have HI1 := Lib.hid hi1
      clear hi1
      clear hX1
      (go_wp2_with fail; (refine hK.out _ _ ⟨HQ1.out.1.1 0, HQ1.out.1.1 1, HQ1.out.1.1 2, HQ1.out.2.1.1 0, HQ1.out.2.1.1 1, HQ1.out.2.1.1 2, HQ1.out.2.2.1.1 0, HQ1.out.2.2.1.1 1, HQ1.out.2.2.1.1 2, HQ1.out.2.2.2.1.1 0, HQ1.out.2.2.2.1.1 1, HQ1.out.2.2.2.1.1 2⟩ (fun hHeld => ?_)); clear hK K; try simp only [Act.put, List.setIfInBounds_toArray, List.set_cons_zero, List.set_cons_succ])
      ((refine wpAnyH_ready (rs := [7]) (by kernel_rfl) (by simp) ?_); (refine AllReadyH.cons (by (simp only [List.getElem?_toArray, List.getElem?_cons_succ, List.getElem?_cons_zero]); rfl) (fun K hK => ?_) AllReadyH.nil); go_simp; refine Calls.mono (HBR.out _ HQ1.out.2.2.2.2) ?_)
      rintro e X2 ⟨v2, c2, b2, rfl, hi2, hX2⟩
      have HQ2 := Lib.hid (HQ1.out.step hX2)
      have HI2 := Lib.hid hi2
      have HI1b := Lib.hid (HI1.out.below hX2)
      clear hi2
      clear hX2
      (go_wp2_with fail; (refine hK.out _ _ ⟨HQ2.out.1.1 0, HQ2.out.1.1 1, HQ2.out.1.1 2, HQ2.out.2.1.1 0, HQ2.out.2.1.1 1, HQ2.out.2.1.1 2, HQ2.out.2.2.1.1 0, HQ2.out.2.2.1.1 1, HQ2.out.2.2.1.1 2, HQ2.out.2.2.2.1.1 0, HQ2.out.2.2.2.1.1 1, HQ2.out.2.2.2.1.1 2⟩ (fun hHeld => ?_)); clear hK K; try simp only [Act.put, List.setIfInBounds_toArray, List.set_cons_zero, List.set_cons_succ])
      ((refine wpAnyH_ready (rs := [8]) (by kernel_rfl) (by simp) ?_); (refine AllReadyH.cons (by (simp only [List.getElem?_toArray, List.getElem?_cons_succ, List.getElem?_cons_zero]); rfl) (fun K hK => ?_) AllReadyH.nil); go_simp; refine Calls.mono (same_any v1 m c1 b1 0 v2 c2 b2 0 B _ HI1b.out HI2.out) ?_)
      rintro e X3 ⟨rfl, hX3⟩
      have HQ3 := Lib.hid (HQ2.out.step hX3)
      clear hX3
      (go_wp2_with fail; (refine hK.out _ _ ⟨HQ3.out.1.1 0, HQ3.out.1.1 1, HQ3.out.1.1 2, HQ3.out.2.1.1 0, HQ3.out.2.1.1 1, HQ3.out.2.1.1 2, HQ3.out.2.2.1.1 0, HQ3.out.2.2.1.1 1, HQ3.out.2.2.1.1 2, HQ3.out.2.2.2.1.1 0, HQ3.out.2.2.2.1.1 1, HQ3.out.2.2.2.1.1 2⟩ (fun hHeld => ?_)); clear hK K; try simp only [Act.put, List.setIfInBounds_toArray, List.set_cons_zero, List.set_cons_succ])
      ((refine wpAnyH_take (i := 9) (v := ?_) (by (simp only [List.getElem?_toArray, List.getElem?_cons_succ, List.getElem?_cons_zero]); rfl) (by kernel_rfl) (by kernel_rfl) (by kernel_rfl) (by exact fun _ _ _ h => h) (Or.inl ⟨by rfl, ?_⟩) (by assumption) ?_); rotate_left; focus (intro wS hSw; (try dsimp only at hSw); go_simp; first | done | with_reducible rfl); try simp only [Act.put, List.setIfInBounds_toArray, List.set_cons_zero, List.set_cons_succ])
      ((refine wpAnyH_take (i := 10) (v := ?_) (by (simp only [List.getElem?_toArray, List.getElem?_cons_succ, List.getElem?_cons_zero]); rfl) (by kernel_rfl) (by kernel_rfl) (by kernel_rfl) (by exact fun _ _ _ h => h) (Or.inl ⟨by (go_simp; try rfl), ?_⟩) (by assumption) ?_); rotate_left; focus (intro wS hSw; (try dsimp only at hSw); go_simp; first | done | with_reducible rfl); try simp only [Act.put, List.setIfInBounds_toArray, List.set_cons_zero, List.set_cons_succ])
      ((refine wpAnyH_take (i := 11) (v := ?_) (by (simp only [List.getElem?_toArray, List.getElem?_cons_succ, List.getElem?_cons_zero]); rfl) (by kernel_rfl) (by kernel_rfl) (by kernel_rfl) (by exact fun _ _ _ h => h) (Or.inl ⟨by (go_simp; try rfl), ?_⟩) (by assumption) ?_); rotate_left; focus (intro wS hSw; (try dsimp only at hSw); go_simp; first | done | with_reducible rfl); try simp only [Act.put, List.setIfInBounds_toArray, List.set_cons_zero, List.set_cons_succ])
      ((refine wpAnyH_take (i := 12) (v := ?_) (by (simp only [List.getElem?_toArray, List.getElem?_cons_succ, List.getElem?_cons_zero]); rfl) (by kernel_rfl) (by kernel_rfl) (by kernel_rfl) (by exact fun _ _ _ h => h) (Or.inl ⟨by (go_simp; try rfl), ?_⟩) (by assumption) ?_); rotate_left; focus (intro wS hSw; (try dsimp only at hSw); go_simp; first | done | with_reducible rfl); try simp only [Act.put, List.setIfInBounds_toArray, List.set_cons_zero, List.set_cons_succ])
      ((refine wpAnyH_take (i := 14) (v := ?_) (by (simp only [List.getElem?_toArray, List.getElem?_cons_succ, List.getElem?_cons_zero]); rfl) (by kernel_rfl) (by kernel_rfl) (by kernel_rfl) (by exact fun _ _ _ h => h) (Or.inl ⟨by (go_simp; try rfl), ?_⟩) (by assumption) ?_); rotate_left; focus (intro wS hSw; (try dsimp only at hSw); go_simp; first | done | with_reducible rfl); try simp only [Act.put, List.setIfInBounds_toArray, List.set_cons_zero, List.set_cons_succ])
      ((refine wpAnyH_take (i := 15) (v := ?_) (by (simp only [List.getElem?_toArray, List.getElem?_cons_succ, List.getElem?_cons_zero]); rfl) (by kernel_rfl) (by kernel_rfl) (by kernel_rfl) (by exact fun _ _ _ h => h) (Or.inl ⟨by (go_simp; try rfl), ?_⟩) (by assumption) ?_); rotate_left; focus (intro wS hSw; (try dsimp only at hSw); go_simp; first | done | with_reducible rfl); try simp only [Act.put, List.setIfInBounds_toArray, List.set_cons_zero, List.set_cons_succ])
      ((refine wpAnyH_take (i := 16) (v := ?_) (by (simp only [List.getElem?_toArray, List.getElem?_cons_succ, List.getElem?_cons_zero]); rfl) (by kernel_rfl) (by kernel_rfl) (by kernel_rfl) (by exact fun _ _ _ h => h) (Or.inl ⟨by (go_simp; try rfl), ?_⟩) (by assumption) ?_); rotate_left; focus (intro wS hSw; (try dsimp only at hSw); go_simp; first | done | with_reducible rfl); try simp only [Act.put, List.setIfInBounds_toArray, List.set_cons_zero, List.set_cons_succ])
      ((refine wpAnyH_ready (rs := [13]) (by kernel_rfl) (by simp) ?_); (refine AllReadyH.cons (by (simp only [List.getElem?_toArray, List.getElem?_cons_succ, List.getElem?_cons_zero]); rfl) (fun K hK => ?_) AllReadyH.nil); go_simp; refine Calls.mono (HT.out _) ?_)
      rintro e X4 ⟨rfl, hX4⟩
      have HQ4 := Lib.hid (HQ3.out.step hX4)
      clear hX4
      (go_wp2_with fail; (refine hK.out _ _ ⟨HQ4.out.1.1 0, HQ4.out.1.1 1, HQ4.out.1.1 2, HQ4.out.2.1.1 0, HQ4.out.2.1.1 1, HQ4.out.2.1.1 2, HQ4.out.2.2.1.1 0, HQ4.out.2.2.1.1 1, HQ4.out.2.2.1.1 2, HQ4.out.2.2.2.1.1 0, HQ4.out.2.2.2.1.1 1, HQ4.out.2.2.2.1.1 2⟩ (fun hHeld => ?_)); clear hK K; try simp only [Act.put, List.setIfInBounds_toArray, List.set_cons_zero, List.set_cons_succ])
      ((refine wpAnyH_ready (rs := [17]) (by kernel_rfl) (by simp) ?_); (refine AllReadyH.cons (by (simp only [List.getElem?_toArray, List.getElem?_cons_succ, List.getElem?_cons_zero]); rfl) (fun K hK => ?_) AllReadyH.nil); go_simp; refine Calls.mono (HTR.out _) ?_)
      rintro e X5 ⟨rfl, hX5⟩
      have HQ5 := Lib.hid (HQ4.out.step hX5)
      clear hX5
      (go_wp2_with fail; (refine hK.out _ _ ⟨HQ5.out.1.1 0, HQ5.out.1.1 1, HQ5.out.1.1 2, HQ5.out.2.1.1 0, HQ5.out.2.1.1 1, HQ5.out.2.1.1 2, HQ5.out.2.2.1.1 0, HQ5.out.2.2.1.1 1, HQ5.out.2.2.1.1 2, HQ5.out.2.2.2.1.1 0, HQ5.out.2.2.2.1.1 1, HQ5.out.2.2.2.1.1 2⟩ (fun hHeld => ?_)); clear hK K; try simp only [Act.put, List.setIfInBounds_toArray, List.set_cons_zero, List.set_cons_succ])
      ((refine wpAnyH_take (i := 18) (v := ?_) (by (simp only [List.getElem?_toArray, List.getElem?_cons_succ, List.getElem?_cons_zero]); rfl) (by kernel_rfl) (by kernel_rfl) (by kernel_rfl) (by exact fun _ _ _ h => h) (Or.inl ⟨by (go_simp; try rfl), ?_⟩) (by assumption) ?_); rotate_left; focus (intro wS hSw; (try dsimp only at hSw); go_simp; first | done | with_reducible rfl); try simp only [Act.put, List.setIfInBounds_toArray, List.set_cons_zero, List.set_cons_succ])
      ((refine wpAnyH_take (i := 19) (v := ?_) (by (simp only [List.getElem?_toArray, List.getElem?_cons_succ, List.getElem?_cons_zero]); rfl) (by kernel_rfl) (by kernel_rfl) (by kernel_rfl) (by exact fun _ _ _ h => h) (Or.inl ⟨by rfl, ?_⟩) (by assumption) ?_); rotate_left; focus (intro wS hSw; (try dsimp only at hSw); go_simp; first | done | with_reducible rfl); try simp only [Act.put, List.setIfInBounds_toArray, List.set_cons_zero, List.set_cons_succ])
      ((refine wpAnyH_take (i := 20) (v := ?_) (by (simp only [List.getElem?_toArray, List.getElem?_cons_succ, List.getElem?_cons_zero]); rfl) (by kernel_rfl) (by kernel_rfl) (by kernel_rfl) (by exact fun _ _ _ h => h) (Or.inl ⟨by rfl, ?_⟩) (by assumption) ?_); rotate_left; focus (intro wS hSw; (try dsimp only at hSw); go_simp; first | done | with_reducible rfl); try simp only [Act.put, List.setIfInBounds_toArray, List.set_cons_zero, List.set_cons_succ])
      ((refine wpAnyH_take (i := 21) (v := ?_) (by (simp only [List.getElem?_toArray, List.getElem?_cons_succ, List.getElem?_cons_zero]); rfl) (by kernel_rfl) (by kernel_rfl) (by kernel_rfl) (by exact fun _ _ _ h => h) (Or.inl ⟨by (go_simp; try rfl), ?_⟩) (by assumption) ?_); rotate_left; focus (intro wS hSw; (try dsimp only at hSw); go_simp; first | done | with_reducible rfl); try simp only [Act.put, List.setIfInBounds_toArray, List.set_cons_zero, List.set_cons_succ])
      ((refine wpAnyH_take (i := 22) (v := ?_) (by (simp only [List.getElem?_toArray, List.getElem?_cons_succ, List.getElem?_cons_zero]); rfl) (by kernel_rfl) (by kernel_rfl) (by kernel_rfl) (by exact fun _ _ _ h => h) (Or.inl ⟨by (go_simp; try rfl), ?_⟩) (by assumption) ?_); rotate_left; focus (intro wS hSw; (try dsimp only at hSw); go_simp; first | done | with_reducible rfl); try simp only [Act.put, List.setIfInBounds_toArray, List.set_cons_zero, List.set_cons_succ])
      ((refine wpAnyH_take (i := 23) (v := ?_) (by (simp only [List.getElem?_toArray, List.getElem?_cons_succ, List.getElem?_cons_zero]); rfl) (by kernel_rfl) (by kernel_rfl) (by kernel_rfl) (by exact fun _ _ _ h => h) (Or.inl ⟨by (go_simp; try rfl), ?_⟩) (by assumption) ?_); rotate_left; focus (intro wS hSw; (try dsimp only at hSw); go_simp; first | done | with_reducible rfl); try simp only [Act.put, List.setIfInBounds_toArray, List.set_cons_zero, List.set_cons_succ])
      ((refine wpAnyH_take (i := 24) (v := ?_) (by (simp only [List.getElem?_toArray, List.getElem?_cons_succ, List.getElem?_cons_zero]); rfl) (by kernel_rfl) (by kernel_rfl) (by kernel_rfl) (by exact fun _ _ _ h => h) (Or.inl ⟨by rfl, ?_⟩) (by assumption) ?_); rotate_left; focus (intro wS hSw; (try dsimp only at hSw); go_simp; first | done | with_reducible rfl); try simp only [Act.put, List.setIfInBounds_toArray, List.set_cons_zero, List.set_cons_succ])
      ((refine wpAnyH_take (i := 25) (v := ?_) (by (simp only [List.getElem?_toArray, List.getElem?_cons_succ, List.getElem?_cons_zero]); rfl) (by kernel_rfl) (by kernel_rfl) (by kernel_rfl) (by exact fun _ _ _ h => h) (Or.inl ⟨by rfl, ?_⟩) (by assumption) ?_); rotate_left; focus (intro wS hSw; (try dsimp only at hSw); go_simp; first | done | with_reducible rfl); try simp only [Act.put, List.setIfInBounds_toArray, List.set_cons_zero, List.set_cons_succ])
      ((refine wpAnyH_take (i := 26) (v := ?_) (by (simp only [List.getElem?_toArray, List.getElem?_cons_succ, List.getElem?_cons_zero]); rfl) (by kernel_rfl) (by kernel_rfl) (by kernel_rfl) (by exact fun _ _ _ h => h) (Or.inl ⟨by (go_simp; try rfl), ?_⟩) (by assumption) ?_); rotate_left; focus (intro wS hSw; (try dsimp only at hSw); go_simp; first | done | with_reducible rfl); try simp only [Act.put, List.setIfInBounds_toArray, List.set_cons_zero, List.set_cons_succ])
      ((refine wpAnyH_take (i := 27) (v := ?_) (by (simp only [List.getElem?_toArray, List.getElem?_cons_succ, List.getElem?_cons_zero]); rfl) (by kernel_rfl) (by kernel_rfl) (by kernel_rfl) (by exact fun _ _ _ h => h) (Or.inl ⟨by (go_simp; try rfl), ?_⟩) (by assumption) ?_); rotate_left; focus (intro wS hSw; (try dsimp only at hSw); go_simp; first | done | with_reducible rfl); try simp only [Act.put, List.setIfInBounds_toArray, List.set_cons_zero, List.set_cons_succ])
      ((refine wpAnyH_take (i := 28) (v := ?_) (by (simp only [List.getElem?_toArray, List.getElem?_cons_succ, List.getElem?_cons_zero]); rfl) (by kernel_rfl) (by kernel_rfl) (by kernel_rfl) (by exact fun _ _ _ h => h) (Or.inl ⟨by (go_simp; try rfl), ?_⟩) (by assumption) ?_); rotate_left; focus (intro wS hSw; (try dsimp only at hSw); go_simp; first | done | with_reducible rfl); try simp only [Act.put, List.setIfInBounds_toArray, List.set_cons_zero, List.set_cons_succ])
      ((refine wpAnyH_take (i := 29) (v := ?_) (by (simp only [List.getElem?_toArray, List.getElem?_cons_succ, List.getElem?_cons_zero]); rfl) (by kernel_rfl) (by kernel_rfl) (by kernel_rfl) (by exact fun _ _ _ h => h) (Or.inl ⟨by rfl, ?_⟩) (by assumption) ?_); rotate_left; focus (intro wS hSw; (try dsimp only at hSw); go_simp; first | done | with_reducible rfl); try simp only [Act.put, List.setIfInBounds_toArray, List.set_cons_zero, List.set_cons_succ])
      ((refine wpAnyH_take (i := 30) (v := ?_) (by (simp only [List.getElem?_toArray, List.getElem?_cons_succ, List.getElem?_cons_zero]); rfl) (by kernel_rfl) (by kernel_rfl) (by kernel_rfl) (by exact fun _ _ _ h => h) (Or.inl ⟨by rfl, ?_⟩) (by assumption) ?_); rotate_left; focus (intro wS hSw; (try dsimp only at hSw); go_simp; first | done | with_reducible rfl); try simp only [Act.put, List.setIfInBounds_toArray, List.set_cons_zero, List.set_cons_succ])
      ((refine wpAnyH_take (i := 31) (v := ?_) (by (simp only [List.getElem?_toArray, List.getElem?_cons_succ, List.getElem?_cons_zero]); rfl) (by kernel_rfl) (by kernel_rfl) (by kernel_rfl) (by exact fun _ _ _ h => h) (Or.inl ⟨by (go_simp; try rfl), ?_⟩) (by assumption) ?_); rotate_left; focus (intro wS hSw; (try dsimp only at hSw); go_simp; first | done | with_reducible rfl); try simp only [Act.put, List.setIfInBounds_toArray, List.set_cons_zero, List.set_cons_succ])
      ((refine wpAnyH_take (i := 32) (v := ?_) (by (simp only [List.getElem?_toArray, List.getElem?_cons_succ, List.getElem?_cons_zero]); rfl) (by kernel_rfl) (by kernel_rfl) (by kernel_rfl) (by exact fun _ _ _ h => h) (Or.inl ⟨by (go_simp; try rfl), ?_⟩) (by assumption) ?_); rotate_left; focus (intro wS hSw; (try dsimp only at hSw); go_simp; first | done | with_reducible rfl); try simp only [Act.put, List.setIfInBounds_toArray, List.set_cons_zero, List.set_cons_succ])
      ((refine wpAnyH_take (i := 34) (v := ?_) (by (simp only [List.getElem?_toArray, List.getElem?_cons_succ, List.getElem?_cons_zero]); rfl) (by kernel_rfl) (by kernel_rfl) (by kernel_rfl) (by exact fun _ _ _ h => h) (Or.inl ⟨by (go_simp; try rfl), ?_⟩) (by assumption) ?_); rotate_left; focus (intro wS hSw; (try dsimp only at hSw); go_simp; first | done | with_reducible rfl); try simp only [Act.put, List.setIfInBounds_toArray, List.set_cons_zero, List.set_cons_succ])
      ((refine wpAnyH_take (i := 35) (v := ?_) (by (simp only [List.getElem?_toArray, List.getElem?_cons_succ, List.getElem?_cons_zero]); rfl) (by kernel_rfl) (by kernel_rfl) (by kernel_rfl) (by exact fun _ _ _ h => h) (Or.inl ⟨by (go_simp; try rfl), ?_⟩) (by assumption) ?_); rotate_left; focus (intro wS hSw; (try dsimp only at hSw); go_simp; first | done | with_reducible rfl); try simp only [Act.put, List.setIfInBounds_toArray, List.set_cons_zero, List.set_cons_succ])
      ((refine wpAnyH_ready (rs := [33]) (by kernel_rfl) (by simp) ?_); (refine AllReadyH.cons (by (simp only [List.getElem?_toArray, List.getElem?_cons_succ, List.getElem?_cons_zero]); rfl) (fun K hK => ?_) AllReadyH.nil); go_simp; refine Calls.mono (HPU.out _ HQ5.out.2.2.2.2 hn1) ?_)
      rintro e X6 ⟨v3, c3, b3, rfl, hi3, hX6⟩
      have HQ6 := Lib.hid (HQ5.out.step hX6)
      have HI3 := Lib.hid hi3
      clear hi3
      clear hX6
      (go_wp2_with fail; (refine hK.out _ _ ⟨HQ6.out.1.1 0, HQ6.out.1.1 1, HQ6.out.1.1 2, HQ6.out.2.1.1 0, HQ6.out.2.1.1 1, HQ6.out.2.1.1 2, HQ6.out.2.2.1.1 0, HQ6.out.2.2.1.1 1, HQ6.out.2.2.1.1 2, HQ6.out.2.2.2.1.1 0, HQ6.out.2.2.2.1.1 1, HQ6.out.2.2.2.1.1 2⟩ (fun hHeld => ?_)); clear hK K; try simp only [Act.put, List.setIfInBounds_toArray, List.set_cons_zero, List.set_cons_succ])
      ((refine wpAnyH_ready (rs := [36]) (by kernel_rfl) (by simp) ?_); (refine AllReadyH.cons (by (simp only [List.getElem?_toArray, List.getElem?_cons_succ, List.getElem?_cons_zero]); rfl) (fun K hK => ?_) AllReadyH.nil); go_simp; refine Calls.mono (HPR.out _ HQ6.out.2.2.2.2 hn1) ?_)
      rintro e X7 ⟨v4, c4, b4, rfl, hi4, hX7⟩
      have HQ7 := Lib.hid (HQ6.out.step hX7)
      have HI4 := Lib.hid hi4
      have HI3b := Lib.hid (HI3.out.below hX7)
      clear hi4
      clear hX7
      (go_wp2_with fail; (refine hK.out _ _ ⟨HQ7.out.1.1 0, HQ7.out.1.1 1, HQ7.out.1.1 2, HQ7.out.2.1.1 0, HQ7.out.2.1.1 1, HQ7.out.2.1.1 2, HQ7.out.2.2.1.1 0, HQ7.out.2.2.1.1 1, HQ7.out.2.2.1.1 2, HQ7.out.2.2.2.1.1 0, HQ7.out.2.2.2.1.1 1, HQ7.out.2.2.2.1.1 2⟩ (fun hHeld => ?_)); clear hK K; try simp only [Act.put, List.setIfInBounds_toArray, List.set_cons_zero, List.set_cons_succ])
      ((refine wpAnyH_ready (rs := [37]) (by kernel_rfl) (by simp) ?_); (refine AllReadyH.cons (by (simp only [List.getElem?_toArray, List.getElem?_cons_succ, List.getElem?_cons_zero]); rfl) (fun K hK => ?_) AllReadyH.nil); go_simp; refine Calls.mono (same_any v3 _ c3 b3 0 v4 c4 b4 0 _ _ HI3b.out HI4.out) ?_)
      rintro e X8 ⟨rfl, hX8⟩
      have HQ8 := Lib.hid (HQ7.out.step hX8)
      clear hX8
      (go_wp2_with fail; (refine hK.out _ _ ⟨HQ8.out.1.1 0, HQ8.out.1.1 1, HQ8.out.1.1 2, HQ8.out.2.1.1 0, HQ8.out.2.1.1 1, HQ8.out.2.1.1 2, HQ8.out.2.2.1.1 0, HQ8.out.2.2.1.1 1, HQ8.out.2.2.1.1 2, HQ8.out.2.2.2.1.1 0, HQ8.out.2.2.2.1.1 1, HQ8.out.2.2.2.1.1 2⟩ (fun hHeld => ?_)); clear hK K; try simp only [Act.put, List.setIfInBounds_toArray, List.set_cons_zero, List.set_cons_succ])
      ((refine wpAnyH_take (i := 38) (v := ?_) (by (simp only [List.getElem?_toArray, List.getElem?_cons_succ, List.getElem?_cons_zero]); rfl) (by kernel_rfl) (by kernel_rfl) (by kernel_rfl) (by exact fun _ _ _ h => h) (Or.inl ⟨by rfl, ?_⟩) (by assumption) ?_); rotate_left; focus (intro wS hSw; (try dsimp only at hSw); go_simp; first | done | with_reducible rfl); try simp only [Act.put, List.setIfInBounds_toArray, List.set_cons_zero, List.set_cons_succ])
      ((refine wpAnyH_take (i := 39) (v := ?_) (by (simp only [List.getElem?_toArray, List.getElem?_cons_succ, List.getElem?_cons_zero]); rfl) (by kernel_rfl) (by kernel_rfl) (by kernel_rfl) (by exact fun _ _ _ h => h) (Or.inl ⟨by rfl, ?_⟩) (by assumption) ?_); rotate_left; focus (intro wS hSw; (try dsimp only at hSw); go_simp; first | done | with_reducible rfl); try simp only [Act.put, List.setIfInBounds_toArray, List.set_cons_zero, List.set_cons_succ])
      ((refine wpAnyH_ready (rs := [40]) (by kernel_rfl) (by simp) ?_); (refine AllReadyH.cons (by (simp only [List.getElem?_toArray, List.getElem?_cons_succ, List.getElem?_cons_zero]); rfl) (fun K hK => ?_) AllReadyH.nil); go_simp; refine Calls.mono (wwakes_any _) ?_)
      rintro e X9 ⟨rfl, hX9⟩
      have HQ9 := Lib.hid (HQ8.out.step hX9)
      clear hX9
      (go_wp2_with fail; (refine hK.out _ _ ⟨HQ9.out.1.1 0, HQ9.out.1.1 1, HQ9.out.1.1 2, HQ9.out.2.1.1 0, HQ9.out.2.1.1 1, HQ9.out.2.1.1 2, HQ9.out.2.2.1.1 0, HQ9.out.2.2.1.1 1, HQ9.out.2.2.1.1 2, HQ9.out.2.2.2.1.1 0, HQ9.out.2.2.2.1.1 1, HQ9.out.2.2.2.1.1 2⟩ (fun hHeld => ?_)); clear hK K; try simp only [Act.put, List.setIfInBounds_toArray, List.set_cons_zero, List.set_cons_succ])
      ((refine wpAnyH_take (i := 41) (v := ?_) (by (simp only [List.getElem?_toArray, List.getElem?_cons_succ, List.getElem?_cons_zero]); rfl) (by kernel_rfl) (by kernel_rfl) (by kernel_rfl) (by exact fun _ _ _ h => h) (Or.inl ⟨by rfl, ?_⟩) (by assumption) ?_); rotate_left; focus (intro wS hSw; (try dsimp only at hSw); go_simp; first | done | with_reducible rfl); try simp only [Act.put, List.setIfInBounds_toArray, List.set_cons_zero, List.set_cons_succ])
      ((refine wpAnyH_take (i := 42) (v := ?_) (by (simp only [List.getElem?_toArray, List.getElem?_cons_succ, List.getElem?_cons_zero]); rfl) (by kernel_rfl) (by kernel_rfl) (by kernel_rfl) (by exact fun _ _ _ h => h) (Or.inl ⟨by rfl, ?_⟩) (by assumption) ?_); rotate_left; focus (intro wS hSw; (try dsimp only at hSw); go_simp; first | done | with_reducible rfl); try simp only [Act.put, List.setIfInBounds_toArray, List.set_cons_zero, List.set_cons_succ])
      refine wpAnyH_done (by kernel_rfl) ?_ _
      go_wp2_with fail
      go_ret
      exact ⟨rfl, HQ9.out.2.2.2.2⟩
  · go_wp2_with fail
    go_at_call 16
    refine (wwakes_any _).mono ?_
    rintro e WK ⟨rfl, hWK⟩
    have HK := Lib.hid (HB2.out.trans (hWK.mono HB2.out.size))
    clear hWK
    go_wp2_with fail
    go_ret
    exact ⟨rfl, HK.out⟩
theorem rowsD_inv {W : World} {x : Dt} (h : Fits Try.prog W 24 x) : ∃ (v0_0 : Int) (v0_1 : Int) (av0_2 : Option Addr) (nv0_2 : Nat) (cv0_2 : Nat) (xv0_2 : List Dt), x.cells = [.int .i64 v0_0, .int .i64 v0_1, .slice av0_2 nv0_2 cv0_2] ∧ (-9223372036854775808 ≤ v0_0 ∧ v0_0 ≤ 9223372036854775807) ∧ (-9223372036854775808 ≤ v0_1 ∧ v0_1 ≤ 9223372036854775807) ∧ (SliceFits Try.prog W 95 av0_2 nv0_2 cv0_2 xv0_2) := by
  obtain ⟨l0, rfl, hl0, hf0⟩ := h.agg_inv Try.underlying24
  obtain ⟨y0_0, e0_0, f0_0⟩ := hf0 0 _ rfl
  obtain ⟨y0_1, e0_1, f0_1⟩ := hf0 1 _ rfl
  obtain ⟨y0_2, e0_2, f0_2⟩ := hf0 2 _ rfl
  obtain ⟨v0_0, rfl, gv0_0⟩ := f0_0.int_inv Try.underlying3
  obtain ⟨v0_1, rfl, gv0_1⟩ := f0_1.int_inv Try.underlying3
  obtain ⟨av0_2, nv0_2, cv0_2, xv0_2, rfl, gv0_2⟩ := f0_2.slice_inv Try.underlying22
  match l0, hl0 with
  | [z0_0, z0_1, z0_2], _ =>
    obtain rfl : z0_0 = _ := by simpa using e0_0
    obtain rfl : z0_1 = _ := by simpa using e0_1
    obtain rfl : z0_2 = _ := by simpa using e0_2
    exact ⟨v0_0, v0_1, av0_2, nv0_2, cv0_2, xv0_2, rfl, gv0_0, gv0_1, gv0_2⟩

theorem pg_inv {W : World} {x : Dt} (h : Fits Try.prog W 26 x) : ∃ (v0_0 : Int) (v0_1 : Int) (v0_2 : Int), x.cells = [.int .i64 v0_0, .int .i64 v0_1, .int .i64 v0_2] ∧ (-9223372036854775808 ≤ v0_0 ∧ v0_0 ≤ 9223372036854775807) ∧ (-9223372036854775808 ≤ v0_1 ∧ v0_1 ≤ 9223372036854775807) ∧ (-9223372036854775808 ≤ v0_2 ∧ v0_2 ≤ 9223372036854775807) := by
  obtain ⟨l0, rfl, hl0, hf0⟩ := h.agg_inv Try.underlying26
  obtain ⟨y0_0, e0_0, f0_0⟩ := hf0 0 _ rfl
  obtain ⟨y0_1, e0_1, f0_1⟩ := hf0 1 _ rfl
  obtain ⟨y0_2, e0_2, f0_2⟩ := hf0 2 _ rfl
  obtain ⟨v0_0, rfl, gv0_0⟩ := f0_0.int_inv Try.underlying3
  obtain ⟨v0_1, rfl, gv0_1⟩ := f0_1.int_inv Try.underlying3
  obtain ⟨v0_2, rfl, gv0_2⟩ := f0_2.int_inv Try.underlying3
  match l0, hl0 with
  | [z0_0, z0_1, z0_2], _ =>
    obtain rfl : z0_0 = _ := by simpa using e0_0
    obtain rfl : z0_1 = _ := by simpa using e0_1
    obtain rfl : z0_2 = _ := by simpa using e0_2
    exact ⟨v0_0, v0_1, v0_2, rfl, gv0_0, gv0_1, gv0_2⟩


theorem followTells_dt (x : Dt) (set self : Int) (y : Dt) (ok : Bool) (idx : Int) (pa : Option Addr) (n c : Nat) (xs : List Dt) (w : World) (hx : Fits Try.prog w 24 x) (h0 : 0 ≤ set ∧ set ≤ 255) (hy : Fits Try.prog w 26 y) (h : SliceFits Try.prog w 26 pa n c xs) :
    Calls Try.prog 3 #[.agg x.cells.toArray, .int .u8 set, .int .i64 self, .agg y.cells.toArray, .bool ok, .int .i64 idx, .slice pa n c] w fun e w' => e = .returned (.bool true) ∧ Below w.heap.size w w' := by
  obtain ⟨base, term, a, m, cc, es, e1, _, _, hS⟩ := rowsD_inv hx
  obtain ⟨b, o, E, hE⟩ := ents_cells w hS
  obtain ⟨v0, v1, v2, e2, g0, g1, g2⟩ := pg_inv hy
  obtain ⟨pb, po, P, hP⟩ := pg_cells w h
  rw [e1, e2]
  exact tells_any base term a m cc b o E set self ⟨v0, v1, v2⟩ ok idx pa n c pb po P w hE h0.1 h0.2 hP ⟨g0, g1, g2⟩
end Go.Proofs.Ytninhjeiialbjaa
