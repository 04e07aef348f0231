/-
  The law FollowComes, walked.
-/
import Derived.Test.YtninhjeiialbjaaFwa
namespace Go.Proofs.Ytninhjeiialbjaa
open Go.RowKit
set_option linter.unusedSimpArgs false
set_option linter.unusedVariables false

/-- Numbers that came in. -/
structure IntsIn (W : World) (a : Option Addr) (len cap : Nat) (b o : Nat) (T : Nat → Int) : Prop where
  le : len ≤ cap
  max : cap ≤ maxLen
  at_ : 0 < len → a = some ⟨b, o, none⟩ ∧ b < W.heap.size
  cell : ∀ k, k < len → W.cell? ⟨b, o + k, none⟩ = some (.int .i64 (T k))
  bd : ∀ k, k < len → -9223372036854775808 ≤ T k ∧ T k ≤ 9223372036854775807
theorem ints_cells (W : World) {a : Option Addr} {len cap : Nat} {xs : List Dt} (h : SliceFits Try.prog W 3 a len cap xs) : ∃ (b o : Nat) (T : Nat → Int), IntsIn W a len cap b o T := by
  have hc : Try.prog.cellsOf 3 = 1 := by kernel_rfl
  obtain ⟨b, o, h1, h2⟩ := h.spot (by rw [hc]; omega)
  have hex : ∀ k, ∃ q : Int, k < len → W.cell? ⟨b, o + k, none⟩ = some (.int .i64 q) ∧ -9223372036854775808 ≤ q ∧ q ≤ 9223372036854775807 := fun k => by
    by_cases hk : k < len
    · have hl := h.length
      have hx := List.getElem?_eq_getElem (l := xs) (i := k) (by omega)
      obtain ⟨n0, e0, g0⟩ := (h.each k _ hx).1.int_inv Try.underlying3
      have hcell := h2 k _ hx
      rw [e0, hc] at hcell
      exact ⟨n0, fun _ => ⟨by have := hcell 0 _ rfl; rwa [Nat.mul_one] at this, g0.1, g0.2⟩⟩
    · exact ⟨0, fun h => absurd h hk⟩
  have hg := fun k => Classical.choose_spec (hex k)
  exact ⟨b, o, fun k => Classical.choose (hex k), h.le, h.max, h1, fun k hk => (hg k hk).1, fun k hk => (hg k hk).2⟩
theorem IntsIn.below {W W' : World} {a : Option Addr} {len cap b o : Nat} {T : Nat → Int} (h : IntsIn W a len cap b o T) (hB : Below W.heap.size W W') : IntsIn W' a len cap b o T :=
  ⟨h.le, h.max, fun hk => ⟨(h.at_ hk).1, by have := (h.at_ hk).2; have := hB.size; omega⟩, fun k hk => (hB.cell (p := ⟨b, _, none⟩) (h.at_ (by omega)).2).trans (h.cell k hk), h.bd⟩
structure BoolsIn (W : World) (a : Option Addr) (len cap : Nat) (b o : Nat) (R : Nat → Bool) : Prop where
  le : len ≤ cap
  max : cap ≤ maxLen
  at_ : 0 < len → a = some ⟨b, o, none⟩ ∧ b < W.heap.size
  cell : ∀ k, k < len → W.cell? ⟨b, o + k, none⟩ = some (.bool (R k))
theorem bools_cells (W : World) {a : Option Addr} {len cap : Nat} {xs : List Dt} (h : SliceFits Try.prog W 4 a len cap xs) : ∃ (b o : Nat) (R : Nat → Bool), BoolsIn W a len cap b o R := by
  have hc : Try.prog.cellsOf 4 = 1 := by kernel_rfl
  obtain ⟨b, o, h1, h2⟩ := h.spot (by rw [hc]; omega)
  have hex : ∀ k, ∃ q : Bool, k < len → W.cell? ⟨b, o + k, none⟩ = some (.bool q) := fun k => by
    by_cases hk : k < len
    · have hl := h.length
      have hx := List.getElem?_eq_getElem (l := xs) (i := k) (by omega)
      obtain ⟨n0, e0⟩ := (h.each k _ hx).1.bool_inv Try.underlying4
      have hcell := h2 k _ hx
      rw [e0, hc] at hcell
      exact ⟨n0, fun _ => by have := hcell 0 _ rfl; rwa [Nat.mul_one] at this⟩
    · exact ⟨false, fun h => absurd h hk⟩
  have hg := fun k => Classical.choose_spec (hex k)
  exact ⟨b, o, fun k => Classical.choose (hex k), h.le, h.max, h1, fun k hk => hg k hk⟩
theorem BoolsIn.below {W W' : World} {a : Option Addr} {len cap b o : Nat} {R : Nat → Bool} (h : BoolsIn W a len cap b o R) (hB : Below W.heap.size W W') : BoolsIn W' a len cap b o R :=
  ⟨h.le, h.max, fun hk => ⟨(h.at_ hk).1, by have := (h.at_ hk).2; have := hB.size; omega⟩, fun k hk => (hB.cell (p := ⟨b, _, none⟩) (h.at_ (by omega)).2).trans (h.cell k hk)⟩

/-- progress as answers leave it -/
def PgOk (p : PgE) : Prop := 0 ≤ p.match_ ∧ p.match_ ≤ 1099511627776 ∧ p.match_ < p.next_ ∧ p.next_ ≤ 1099511627777
theorem told_first (p : PgE) : PgOk (toldE p false 1099511627776) := by
  unfold PgOk toldE wI
  simp
  omega
theorem told_good {p : PgE} (h : PgOk p) (ok : Bool) (idx : Int) : (toldE p ok idx).node = p.node ∧ p.match_ ≤ (toldE p ok idx).match_ ∧ PgOk (toldE p ok idx) ∧ (ok = false → (toldE p ok idx).match_ = p.match_ ∧ (toldE p ok idx).next_ ≤ p.next_ ∧ ((toldE p ok idx).next_ = p.next_ → p.next_ = p.match_ + 1)) := by
  unfold PgOk at *
  unfold toldE wI
  cases ok
  · simp
    omega
  · simp
    omega

set_option maxRecDepth 100000 in
set_option maxHeartbeats 4000000 in
theorem comes_out (p : PgE) (a1 : Option Addr) (n1 c1 : Nat) (a2 : Option Addr) (n2 c2 : Nat) (m1 : n1 ≤ c1) (m2 : c1 ≤ maxLen) (m3 : n2 ≤ c2) (m4 : c2 ≤ maxLen) (w : World) (h : 200 < n1 ∨ (n1 ≤ 200 ∧ n2 < n1)) :
    Calls Try.prog 7 #[.agg #[.int .i64 p.node, .int .i64 p.match_, .int .i64 p.next_], .slice a1 n1 c1, .slice a2 n2 c2] w fun e w' => e = .returned (.bool true) ∧ Below w.heap.size w w' := by
  unfold maxLen at m2 m4
  have HB0 : Hid (Below w.heap.size w (w.alloc (.cells #[.int .i64 p.node, .int .i64 p.match_, .int .i64 p.next_] 26))) := Lib.hid ((Below.refl _ _).alloc (Nat.le_refl _) _)
  rcases h with h | ⟨h1, h⟩
  all_goals
    go_enter Try.func7, Try.ntmps7
    go_wp2_with fail
    go_at_call 16
    refine (wwakes_any _).mono ?_
    rintro e WK ⟨rfl, hWK⟩
    have HK := Lib.hid (HB0.out.trans (hWK.mono HB0.out.size))
    clear hWK
    go_wp2_with fail
    go_ret
    exact ⟨rfl, HK.out⟩

set_option maxRecDepth 100000 in
set_option maxHeartbeats 8000000 in
theorem comes_in (p : PgE) (a1 : Option Addr) (n1 c1 b1 o1 : Nat) (R : Nat → Bool) (a2 : Option Addr) (n2 c2 b2 o2 : Nat) (T : Nat → Int) (w : World) (hr : BoolsIn w a1 n1 c1 b1 o1 R) (hs : IntsIn w a2 n2 c2 b2 o2 T) (h1 : n1 ≤ 200) (h2 : n1 ≤ n2) :
    Calls Try.prog 7 #[.agg #[.int .i64 p.node, .int .i64 p.match_, .int .i64 p.next_], .slice a1 n1 c1, .slice a2 n2 c2] w fun e w' => e = .returned (.bool true) ∧ Below w.heap.size w w' := by
  have m1 := hr.le
  have m2 := hr.max
  have m3 := hs.le
  have m4 := hs.max
  unfold maxLen at m2 m4
  have HR := Lib.hid hr
  have HS := Lib.hid hs
  clear hr hs
  obtain ⟨N, hN⟩ : ∃ N, N = w.heap.size := ⟨_, rfl⟩
  obtain ⟨W1, hW1⟩ : ∃ W1, W1 = w.alloc (.cells #[.int .i64 p.node, .int .i64 p.match_, .int .i64 p.next_] 26) := ⟨_, rfl⟩
  have HB1 : Hid (Below N w W1) := Lib.hid (by rw [hW1, hN]; exact (Below.refl _ _).alloc (Nat.le_refl _) _)
  have HP1 : Hid (Blk W1 N #[.int .i64 p.node, .int .i64 p.match_, .int .i64 p.next_] 26) := Lib.hid (by rw [hW1, hN]; exact blk_new _ _ _)
  have HN := Lib.hid hN
  have HT := Lib.hid (told_any p false 1099511627776 W1)
  have HG := Lib.hid (told_first p)
  obtain ⟨p1, hp1⟩ : ∃ p1, p1 = toldE p false 1099511627776 := ⟨_, rfl⟩
  rw [← hp1] at HT HG
  have l1 := HP1.out.lt
  have y0 : W1.cell? ⟨N, 0, none⟩ = some (.int .i64 p.node) := cell_at HP1.out 0
  have y1 : W1.cell? ⟨N, 1, none⟩ = some (.int .i64 p.match_) := cell_at HP1.out 1
  have y2 : W1.cell? ⟨N, 2, none⟩ = some (.int .i64 p.next_) := cell_at HP1.out 2
  clear hp1
  go_enter Try.func7, Try.ntmps7
  go_upto_region 3 with fail
  rw [← hN, ← hW1]
  clear hN hW1
  go_wp2_with fail
  go_at_call 22
  refine HT.out.mono ?_
  rintro e W2 ⟨rfl, hB2⟩
  have HB2 := Lib.hid (HB1.out.trans (hB2.mono (by omega)))
  have HP2 := Lib.hid (HP1.out.step hB2)
  have z0 := free_at HP2.out 0
  have z1 := free_at HP2.out 1
  have z2 := free_at HP2.out 2
  have l2 := HP2.out.lt
  have x0 : W2.cell? ⟨N, 0, none⟩ = some (.int .i64 p.node) := cell_at HP2.out 0
  have x1 : W2.cell? ⟨N, 1, none⟩ = some (.int .i64 p.match_) := cell_at HP2.out 1
  have x2 : W2.cell? ⟨N, 2, none⟩ = some (.int .i64 p.next_) := cell_at HP2.out 2
  clear hB2 y0 y1 y2
  go_wp2_with fail
  obtain ⟨W3, hW3⟩ : ∃ W3, W3 = ((W2.setCell ⟨N, 0, none⟩ (.int .i64 p1.node)).setCell ⟨N, 1, none⟩ (.int .i64 p1.match_)).setCell ⟨N, 2, none⟩ (.int .i64 p1.next_) := ⟨_, rfl⟩
  have HP3 : Hid (Blk W3 N #[.int .i64 p1.node, .int .i64 p1.match_, .int .i64 p1.next_] 26) := Lib.hid (by rw [hW3]; exact ((HP2.out.set 0 _).set 1 _).set 2 _)
  have HB3 : Hid (Below N w W3) := Lib.hid (by rw [hW3]; exact ((HB2.out.setCell (p := ⟨N, 0, none⟩) (Nat.le_refl _) _).setCell (p := ⟨N, 1, none⟩) (Nat.le_refl _) _).setCell (p := ⟨N, 2, none⟩) (Nat.le_refl _) _)
  rw [← hW3]
  clear hW3 z0 z1 z2 x0 x1 x2 l2 HP2 HB2 HP1 HB1 HT l1
  go_loopw [25] (fun i wr => ∃ (k : Nat) (p : PgE), k ≤ n1 ∧ i = .int .i64 k ∧ PgOk p ∧ Blk wr N #[.int .i64 p.node, .int .i64 p.match_, .int .i64 p.next_] 26 ∧ Below N w wr) (fun i _ => n1 - (intOf i).toNat)
  case atStart => exact ⟨0, p1, Nat.zero_le _, rfl, HG.out, HP3.out, HB3.out⟩
  case round =>
    obtain ⟨k, r, hk, rfl, hg, hp, hB⟩ := hrel
    have HGR := Lib.hid hg
    have HPR := Lib.hid hp
    have HBR := Lib.hid hB
    clear hg hp hB
    by_cases hlt : k < n1
    · have hBN : Below w.heap.size w wr := HN.out ▸ HBR.out
      obtain ⟨e0, e1⟩ := (HR.out.below hBN).at_ (by omega)
      obtain ⟨e2, e3⟩ := (HS.out.below hBN).at_ (by omega)
      have e3w : b2 < w.heap.size := (HS.out.at_ (by omega)).2
      subst e0 e2
      have r0 := (HR.out.below hBN).cell k hlt
      have s0 := (HS.out.below hBN).cell k (by omega)
      obtain ⟨ok, hok⟩ : ∃ ok, ok = R k := ⟨_, rfl⟩
      obtain ⟨ix, hix⟩ : ∃ ix, ix = T k := ⟨_, rfl⟩
      rw [← hok] at r0
      rw [← hix] at s0
      clear hok hix hBN
      have HTD := Lib.hid (fun W => told_any r ok ix W)
      have HGD := Lib.hid (told_good HGR.out ok ix)
      obtain ⟨q, hq⟩ : ∃ q, q = toldE r ok ix := ⟨_, rfl⟩
      rw [← hq] at HTD HGD
      clear hq
      have l0 := HPR.out.lt
      have y0 : wr.cell? ⟨N, 0, none⟩ = some (.int .i64 r.node) := cell_at HPR.out 0
      have y1 : wr.cell? ⟨N, 1, none⟩ = some (.int .i64 r.match_) := cell_at HPR.out 1
      have y2 : wr.cell? ⟨N, 2, none⟩ = some (.int .i64 r.next_) := cell_at HPR.out 2
      have i1 : (0 : Int) ≤ (k : Int) := by omega
      have i2 : (k : Int) < (n2 : Int) := by omega
      have HR0 : Hid (Blk wr.drew N #[.int .i64 r.node, .int .i64 r.match_, .int .i64 r.next_] 26) := Lib.hid HPR.out
      have HB0 : Hid (Below N w wr.drew) := Lib.hid HBR.out.drew
      have hNs : N ≤ wr.heap.size := by omega
      have hsw : w.cell? ⟨b2, o2 + k, none⟩ = some (.int .i64 ix) := by rw [← s0]; exact ((HN.out ▸ HBR.out : Below w.heap.size w wr).cell (p := ⟨b2, _, none⟩) e3w).symm
      have hs0 : wr.drew.cell? ⟨b2, o2 + k, none⟩ = some (.int .i64 ix) := s0
      go_upto_region 7 with fail
      refine wp_region_held_drew (S := fun X => X.cell? ⟨N, 0, none⟩ = some (.int .i64 r.node) ∧ X.cell? ⟨N, 1, none⟩ = some (.int .i64 r.match_) ∧ X.cell? ⟨N, 2, none⟩ = some (.int .i64 r.next_) ∧ X.cell? ⟨b2, o2 + k, none⟩ = some (.int .i64 ix)) (by kernel_rfl) ⟨cell_at HR0.out 0, cell_at HR0.out 1, cell_at HR0.out 2, hs0⟩ (fun hHeld => ?_)
      clear r0 s0 y0 y1 y2
      ((refine wpAnyH_take (i := 0) (v := ?_) (by (simp only [List.getElem?_toArray, List.getElem?_cons_succ, List.getElem?_cons_zero]); rfl) (by kernel_rfl) (by kernel_rfl) (by kernel_rfl) (by exact fun _ _ _ h => h) (Or.inl ⟨by rfl, ?_⟩) (by assumption) ?_); rotate_left; focus (intro wS hSw; (try dsimp only at hSw); go_simp; first | done | with_reducible rfl); try simp only [Act.put, List.setIfInBounds_toArray, List.set_cons_zero, List.set_cons_succ])
      ((refine wpAnyH_take (i := 1) (v := ?_) (by (simp only [List.getElem?_toArray, List.getElem?_cons_succ, List.getElem?_cons_zero]); rfl) (by kernel_rfl) (by kernel_rfl) (by kernel_rfl) (by exact fun _ _ _ h => h) (Or.inl ⟨by rfl, ?_⟩) (by assumption) ?_); rotate_left; focus (intro wS hSw; (try dsimp only at hSw); go_simp; first | done | with_reducible rfl); try simp only [Act.put, List.setIfInBounds_toArray, List.set_cons_zero, List.set_cons_succ])
      ((refine wpAnyH_take (i := 2) (v := ?_) (by (simp only [List.getElem?_toArray, List.getElem?_cons_succ, List.getElem?_cons_zero]); rfl) (by kernel_rfl) (by kernel_rfl) (by kernel_rfl) (by exact fun _ _ _ h => h) (Or.inl ⟨by rfl, ?_⟩) (by assumption) ?_); rotate_left; focus (intro wS hSw; (try dsimp only at hSw); go_simp; first | done | with_reducible rfl); try simp only [Act.put, List.setIfInBounds_toArray, List.set_cons_zero, List.set_cons_succ])
      ((refine wpAnyH_take (i := 3) (v := ?_) (by (simp only [List.getElem?_toArray, List.getElem?_cons_succ, List.getElem?_cons_zero]); rfl) (by kernel_rfl) (by kernel_rfl) (by kernel_rfl) (by exact fun _ _ _ h => h) (Or.inl ⟨by rfl, ?_⟩) (by assumption) ?_); rotate_left; focus (intro wS hSw; (try dsimp only at hSw); go_simp; first | done | with_reducible rfl); try simp only [Act.put, List.setIfInBounds_toArray, List.set_cons_zero, List.set_cons_succ])
      ((refine wpAnyH_take (i := 4) (v := ?_) (by (simp only [List.getElem?_toArray, List.getElem?_cons_succ, List.getElem?_cons_zero]); rfl) (by kernel_rfl) (by kernel_rfl) (by kernel_rfl) (by exact fun _ _ _ h => h) (Or.inl ⟨by rfl, ?_⟩) (by assumption) ?_); rotate_left; focus (intro wS hSw; (try dsimp only at hSw); go_simp; first | done | with_reducible rfl); try simp only [Act.put, List.setIfInBounds_toArray, List.set_cons_zero, List.set_cons_succ])
      ((refine wpAnyH_take (i := 5) (v := ?_) (by (simp only [List.getElem?_toArray, List.getElem?_cons_succ, List.getElem?_cons_zero]); rfl) (by kernel_rfl) (by kernel_rfl) (by kernel_rfl) (by exact fun _ _ _ h => h) (Or.inl ⟨by rfl, ?_⟩) (by assumption) ?_); rotate_left; focus (intro wS hSw; (try dsimp only at hSw); go_simp; first | done | with_reducible rfl); try simp only [Act.put, List.setIfInBounds_toArray, List.set_cons_zero, List.set_cons_succ])
      refine wpAnyH_ready (rs := [6, 7]) (by kernel_rfl) (by simp) ?_
      refine AllReadyH.cons (by (simp only [List.getElem?_toArray, List.getElem?_cons_succ, List.getElem?_cons_zero]); rfl) (fun K hK => ?_) (AllReadyH.cons (by (simp only [List.getElem?_toArray, List.getElem?_cons_succ, List.getElem?_cons_zero]); rfl) (fun K hK => ?_) AllReadyH.nil)
      · go_simp
        refine Calls.mono (HTD.out _) ?_
        rintro e W4 ⟨rfl, hB4⟩
        have HR4 := Lib.hid (HR0.out.step hB4)
        have HB4 := Lib.hid (HB0.out.trans (hB4.mono hNs))
        have hs4 : W4.cell? ⟨b2, o2 + k, none⟩ = some (.int .i64 ix) := (hB4.cell (p := ⟨b2, _, none⟩) e3).trans hs0
        have hl4 : b2 < W4.heap.size := Nat.lt_of_lt_of_le e3 hB4.size
        clear hB4
        go_wp2_with fail
        refine hK.out _ _ ⟨cell_at HR4.out 0, cell_at HR4.out 1, cell_at HR4.out 2, hs4⟩ (fun hHeld => ?_)
        clear hK K
        try simp only [Act.put, List.setIfInBounds_toArray, List.set_cons_zero, List.set_cons_succ]
        refine wpAnyH_ready (rs := [7]) (by kernel_rfl) (by simp) ?_
        refine AllReadyH.cons (by (simp only [List.getElem?_toArray, List.getElem?_cons_succ, List.getElem?_cons_zero]); rfl) (fun K hK => ?_) AllReadyH.nil
        go_simp
        obtain ⟨gq, hgq⟩ : ∃ gq, gq = W4.heap.size := ⟨_, rfl⟩
        obtain ⟨W5, hW5⟩ : ∃ W5, W5 = W4.alloc (.cells #[.int .i64 0, .int .i64 0, .int .i64 0] 26) := ⟨_, rfl⟩
        have hB45 : Below W4.heap.size W4 W5 := by rw [hW5]; exact (Below.refl _ _).alloc (Nat.le_refl _) _
        have hgN : N ≤ gq := by have := HR4.out.lt; omega
        have hng : N ≠ gq := by have := HR4.out.lt; omega
        have HG5 : Hid (Blk W5 gq #[.int .i64 0, .int .i64 0, .int .i64 0] 26) := Lib.hid (by rw [hW5, hgq]; exact blk_new _ _ _)
        have HR5 := Lib.hid (HR4.out.step hB45)
        have HB5 := Lib.hid (HB4.out.trans (hB45.mono (by omega)))
        have hs5 : W5.cell? ⟨b2, o2 + k, none⟩ = some (.int .i64 ix) := (hB45.cell (p := ⟨b2, _, none⟩) hl4).trans hs4
        rw [← hW5, ← hgq]
        clear hW5 hgq hB45 hs4
        refine hK.out _ _ ⟨cell_at HR5.out 0, cell_at HR5.out 1, cell_at HR5.out 2, hs5⟩ (fun hHeld => ?_)
        clear hK K
        try simp only [Act.put, List.setIfInBounds_toArray, List.set_cons_zero, List.set_cons_succ]
        have g0 : W5.cell? ⟨gq, 0, none⟩ = some (.int .i64 0) := cell_at HG5.out 0
        have g1 : W5.cell? ⟨gq, 1, none⟩ = some (.int .i64 0) := cell_at HG5.out 1
        have g2 : W5.cell? ⟨gq, 2, none⟩ = some (.int .i64 0) := cell_at HG5.out 2
        have f0 := free_at HG5.out 0
        have f1 := free_at HG5.out 1
        have f2 := free_at HG5.out 2
        have gl := HG5.out.lt
        refine wpAnyH_ready (rs := [8]) (by kernel_rfl) (by simp) ?_
        refine AllReadyH.cons (by (simp only [List.getElem?_toArray, List.getElem?_cons_succ, List.getElem?_cons_zero]); rfl) (fun K hK => ?_) AllReadyH.nil
        go_simp
        obtain ⟨W7, hW7⟩ : ∃ W7, W7 = ((W5.setCell ⟨gq, 0, none⟩ (.int .i64 q.node)).setCell ⟨gq, 1, none⟩ (.int .i64 q.match_)).setCell ⟨gq, 2, none⟩ (.int .i64 q.next_) := ⟨_, rfl⟩
        have HG7 : Hid (Blk W7 gq #[.int .i64 q.node, .int .i64 q.match_, .int .i64 q.next_] 26) := Lib.hid (by rw [hW7]; exact ((HG5.out.set 0 _).set 1 _).set 2 _)
        have HR7 : Hid (Blk W7 N #[.int .i64 r.node, .int .i64 r.match_, .int .i64 r.next_] 26) := Lib.hid (by rw [hW7]; exact ((HR5.out.ne ⟨gq, 0, none⟩ hng _).ne ⟨gq, 1, none⟩ hng _).ne ⟨gq, 2, none⟩ hng _)
        have HB7 : Hid (Below N w W7) := Lib.hid (by rw [hW7]; exact ((HB5.out.setCell (p := ⟨gq, 0, none⟩) hgN _).setCell (p := ⟨gq, 1, none⟩) hgN _).setCell (p := ⟨gq, 2, none⟩) hgN _)
        have hs7 : W7.cell? ⟨b2, o2 + k, none⟩ = some (.int .i64 ix) := (HB7.out.cell (p := ⟨b2, _, none⟩) (by have := HN.out; show b2 < N; omega)).trans hsw
        rw [← hW7]
        refine hK.out _ _ ⟨cell_at HR7.out 0, cell_at HR7.out 1, cell_at HR7.out 2, hs7⟩ (fun hHeld => ?_)
        clear hK K
        try simp only [Act.put, List.setIfInBounds_toArray, List.set_cons_zero, List.set_cons_succ]
        clear g0 g1 g2 f0 f1 f2 gl hs7 hHeld hW7
        refine wpAnyH_done (by kernel_rfl) ?_ _
        have g0 : W7.cell? ⟨gq, 0, none⟩ = some (.int .i64 q.node) := cell_at HG7.out 0
        have g1 : W7.cell? ⟨gq, 1, none⟩ = some (.int .i64 q.match_) := cell_at HG7.out 1
        have g2 : W7.cell? ⟨gq, 2, none⟩ = some (.int .i64 q.next_) := cell_at HG7.out 2
        have gl := HG7.out.lt
        have n0 : W7.cell? ⟨N, 0, none⟩ = some (.int .i64 r.node) := cell_at HR7.out 0
        have n1_ : W7.cell? ⟨N, 1, none⟩ = some (.int .i64 r.match_) := cell_at HR7.out 1
        have n2_ : W7.cell? ⟨N, 2, none⟩ = some (.int .i64 r.next_) := cell_at HR7.out 2
        have z0 := free_at HR7.out 0
        have z1 := free_at HR7.out 1
        have z2 := free_at HR7.out 2
        have nl := HR7.out.lt
        obtain ⟨e0_, e1_, ⟨k0, k1, k2, k3⟩, e4_⟩ := HGD.out
        have d1 : (q.node != r.node) = false := by rw [bne_eq_false_iff_eq]; exact e0_
        have d2 : decide (q.match_ < r.match_) = false := by simp; omega
        have d3 : decide (q.next_ ≤ q.match_) = false := by simp; omega
        have HQK : Hid (PgOk q) := Lib.hid HGD.out.2.2.1
        have hcs : ok = true ∨ (ok = false ∧ (q.match_ != r.match_) = false ∧ decide (r.next_ < q.next_) = false ∧ ((q.next_ == r.next_) = false ∨ ((q.next_ == r.next_) = true ∧ (r.next_ != r.match_ + 1) = false))) := by
          cases ok
          · obtain ⟨v1, v2, v3⟩ := e4_ rfl
            refine .inr ⟨rfl, by rw [bne_eq_false_iff_eq]; exact v1, by simp; omega, ?_⟩
            by_cases hv : q.next_ = r.next_
            · exact .inr ⟨by simpa using hv, by rw [bne_eq_false_iff_eq]; exact v3 hv⟩
            · exact .inl (by simpa using hv)
          · exact .inl rfl
        have bq1 : r.match_ ≤ 1099511627776 := HGR.out.2.1
        have bq2 : 0 ≤ r.match_ := HGR.out.1
        clear e0_ e1_ e4_ k0 k1 k2 k3
        rcases hcs with rfl | ⟨rfl, d4, d5, d6 | ⟨d6, d7⟩⟩
        all_goals
          go_wp2_with fail
          go_roundw
          case rel =>
            refine ⟨k + 1, q, by omega, by go_num, HQK.out, ?_, ?_⟩
            · exact ((HR7.out.set 0 _).set 1 _).set 2 _
            · exact ((HB7.out.setCell (p := ⟨N, 0, none⟩) (Nat.le_refl _) _).setCell (p := ⟨N, 1, none⟩) (Nat.le_refl _) _).setCell (p := ⟨N, 2, none⟩) (Nat.le_refl _) _
          case measure => first | (simp [intOf]; done) | (simp [intOf]; omega)
      · go_simp
        obtain ⟨gq, hgq⟩ : ∃ gq, gq = wr.heap.size := ⟨_, rfl⟩
        obtain ⟨W4, hW4⟩ : ∃ W4, W4 = (wr.alloc (.cells #[.int .i64 0, .int .i64 0, .int .i64 0] 26)).drew := ⟨_, rfl⟩
        have hB4 : Below wr.drew.heap.size wr.drew W4 := by rw [hW4]; have h := ((Below.refl wr.heap.size wr).alloc (Nat.le_refl _) (.cells #[.int .i64 0, .int .i64 0, .int .i64 0] 26)).drew; exact ⟨h.os, h.tape, h.output, h.size, h.block⟩
        have hgN : N ≤ gq := by omega
        have hng : N ≠ gq := by omega
        have HG4 : Hid (Blk W4 gq #[.int .i64 0, .int .i64 0, .int .i64 0] 26) := Lib.hid (by rw [hW4, hgq]; exact blk_new wr _ _)
        have HR4 := Lib.hid (HR0.out.step hB4)
        have HB4 := Lib.hid (HB0.out.trans (hB4.mono hNs))
        have hs4 : W4.cell? ⟨b2, o2 + k, none⟩ = some (.int .i64 ix) := (hB4.cell (p := ⟨b2, _, none⟩) e3).trans hs0
        have hl4 : b2 < W4.heap.size := Nat.lt_of_lt_of_le e3 hB4.size
        have hn4 : N < W4.heap.size := HR4.out.lt
        first | rw [← hW4, ← hgq] | (rw [← hgq]; rw [← hW4]) | (trace_state; fail)
        clear hW4 hgq hB4
        refine hK.out _ _ ⟨cell_at HR4.out 0, cell_at HR4.out 1, cell_at HR4.out 2, hs4⟩ (fun hHeld => ?_)
        clear hK K
        try simp only [Act.put, List.setIfInBounds_toArray, List.set_cons_zero, List.set_cons_succ]
        ((refine wpAnyH_ready (rs := [6]) (by kernel_rfl) (by simp) ?_); (refine AllReadyH.cons (by (simp only [List.getElem?_toArray, List.getElem?_cons_succ, List.getElem?_cons_zero]); rfl) (fun K hK => ?_) AllReadyH.nil); go_simp; refine Calls.mono (HTD.out _) ?_)
        rintro e W5 ⟨rfl, hB5⟩
        have HG5 := Lib.hid (HG4.out.step hB5)
        have HR5 := Lib.hid (HR4.out.step hB5)
        have HB5 := Lib.hid (HB4.out.trans (hB5.mono (by omega)))
        have hs5 : W5.cell? ⟨b2, o2 + k, none⟩ = some (.int .i64 ix) := (hB5.cell (p := ⟨b2, _, none⟩) hl4).trans hs4
        clear hB5 hs4
        go_wp2_with fail
        refine hK.out _ _ ⟨cell_at HR5.out 0, cell_at HR5.out 1, cell_at HR5.out 2, hs5⟩ (fun hHeld => ?_)
        clear hK K
        try simp only [Act.put, List.setIfInBounds_toArray, List.set_cons_zero, List.set_cons_succ]
        have g0 : W5.cell? ⟨gq, 0, none⟩ = some (.int .i64 0) := cell_at HG5.out 0
        have g1 : W5.cell? ⟨gq, 1, none⟩ = some (.int .i64 0) := cell_at HG5.out 1
        have g2 : W5.cell? ⟨gq, 2, none⟩ = some (.int .i64 0) := cell_at HG5.out 2
        have f0 := free_at HG5.out 0
        have f1 := free_at HG5.out 1
        have f2 := free_at HG5.out 2
        have gl := HG5.out.lt
        refine wpAnyH_ready (rs := [8]) (by kernel_rfl) (by simp) ?_
        refine AllReadyH.cons (by (simp only [List.getElem?_toArray, List.getElem?_cons_succ, List.getElem?_cons_zero]); rfl) (fun K hK => ?_) AllReadyH.nil
        go_simp
        obtain ⟨W7, hW7⟩ : ∃ W7, W7 = ((W5.setCell ⟨gq, 0, none⟩ (.int .i64 q.node)).setCell ⟨gq, 1, none⟩ (.int .i64 q.match_)).setCell ⟨gq, 2, none⟩ (.int .i64 q.next_) := ⟨_, rfl⟩
        have HG7 : Hid (Blk W7 gq #[.int .i64 q.node, .int .i64 q.match_, .int .i64 q.next_] 26) := Lib.hid (by rw [hW7]; exact ((HG5.out.set 0 _).set 1 _).set 2 _)
        have HR7 : Hid (Blk W7 N #[.int .i64 r.node, .int .i64 r.match_, .int .i64 r.next_] 26) := Lib.hid (by rw [hW7]; exact ((HR5.out.ne ⟨gq, 0, none⟩ hng _).ne ⟨gq, 1, none⟩ hng _).ne ⟨gq, 2, none⟩ hng _)
        have HB7 : Hid (Below N w W7) := Lib.hid (by rw [hW7]; exact ((HB5.out.setCell (p := ⟨gq, 0, none⟩) hgN _).setCell (p := ⟨gq, 1, none⟩) hgN _).setCell (p := ⟨gq, 2, none⟩) hgN _)
        have hs7 : W7.cell? ⟨b2, o2 + k, none⟩ = some (.int .i64 ix) := (HB7.out.cell (p := ⟨b2, _, none⟩) (by have := HN.out; show b2 < N; omega)).trans hsw
        rw [← hW7]
        refine hK.out _ _ ⟨cell_at HR7.out 0, cell_at HR7.out 1, cell_at HR7.out 2, hs7⟩ (fun hHeld => ?_)
        clear hK K
        try simp only [Act.put, List.setIfInBounds_toArray, List.set_cons_zero, List.set_cons_succ]
        clear g0 g1 g2 f0 f1 f2 gl hs7 hHeld hW7
        refine wpAnyH_done (by kernel_rfl) ?_ _
        have g0 : W7.cell? ⟨gq, 0, none⟩ = some (.int .i64 q.node) := cell_at HG7.out 0
        have g1 : W7.cell? ⟨gq, 1, none⟩ = some (.int .i64 q.match_) := cell_at HG7.out 1
        have g2 : W7.cell? ⟨gq, 2, none⟩ = some (.int .i64 q.next_) := cell_at HG7.out 2
        have gl := HG7.out.lt
        have n0 : W7.cell? ⟨N, 0, none⟩ = some (.int .i64 r.node) := cell_at HR7.out 0
        have n1_ : W7.cell? ⟨N, 1, none⟩ = some (.int .i64 r.match_) := cell_at HR7.out 1
        have n2_ : W7.cell? ⟨N, 2, none⟩ = some (.int .i64 r.next_) := cell_at HR7.out 2
        have z0 := free_at HR7.out 0
        have z1 := free_at HR7.out 1
        have z2 := free_at HR7.out 2
        have nl := HR7.out.lt
        obtain ⟨e0_, e1_, ⟨k0, k1, k2, k3⟩, e4_⟩ := HGD.out
        have d1 : (q.node != r.node) = false := by rw [bne_eq_false_iff_eq]; exact e0_
        have d2 : decide (q.match_ < r.match_) = false := by simp; omega
        have d3 : decide (q.next_ ≤ q.match_) = false := by simp; omega
        have HQK : Hid (PgOk q) := Lib.hid HGD.out.2.2.1
        have hcs : ok = true ∨ (ok = false ∧ (q.match_ != r.match_) = false ∧ decide (r.next_ < q.next_) = false ∧ ((q.next_ == r.next_) = false ∨ ((q.next_ == r.next_) = true ∧ (r.next_ != r.match_ + 1) = false))) := by
          cases ok
          · obtain ⟨v1, v2, v3⟩ := e4_ rfl
            refine .inr ⟨rfl, by rw [bne_eq_false_iff_eq]; exact v1, by simp; omega, ?_⟩
            by_cases hv : q.next_ = r.next_
            · exact .inr ⟨by simpa using hv, by rw [bne_eq_false_iff_eq]; exact v3 hv⟩
            · exact .inl (by simpa using hv)
          · exact .inl rfl
        have bq1 : r.match_ ≤ 1099511627776 := HGR.out.2.1
        have bq2 : 0 ≤ r.match_ := HGR.out.1
        clear e0_ e1_ e4_ k0 k1 k2 k3
        rcases hcs with rfl | ⟨rfl, d4, d5, d6 | ⟨d6, d7⟩⟩
        all_goals
          go_wp2_with fail
          go_roundw
          case rel =>
            refine ⟨k + 1, q, by omega, by go_num, HQK.out, ?_, ?_⟩
            · exact ((HR7.out.set 0 _).set 1 _).set 2 _
            · exact ((HB7.out.setCell (p := ⟨N, 0, none⟩) (Nat.le_refl _) _).setCell (p := ⟨N, 1, none⟩) (Nat.le_refl _) _).setCell (p := ⟨N, 2, none⟩) (Nat.le_refl _) _
          case measure => first | (simp [intOf]; done) | (simp [intOf]; omega)

    · obtain rfl : k = n1 := by omega
      go_wp2_with fail
      go_at_call 16
      refine (wwakes_any _).mono ?_
      rintro e WK ⟨rfl, hWK⟩
      have HK := Lib.hid (HBR.out.trans (hWK.mono (by have := HPR.out.lt; omega)))
      clear hWK
      go_wp2_with fail
      go_ret
      rw [← HN.out]
      exact ⟨rfl, HK.out⟩
theorem pg_inv {W : World} {x : Dt} (h : Fits Try.prog W 26 x) : ∃ (v0_0 : Int) (v0_1 : Int) (v0_2 : Int), x.cells = [.int .i64 v0_0, .int .i64 v0_1, .int .i64 v0_2] ∧ (-9223372036854775808 ≤ v0_0 ∧ v0_0 ≤ 9223372036854775807) ∧ (-9223372036854775808 ≤ v0_1 ∧ v0_1 ≤ 9223372036854775807) ∧ (-9223372036854775808 ≤ v0_2 ∧ v0_2 ≤ 9223372036854775807) := by
  obtain ⟨l0, rfl, hl0, hf0⟩ := h.agg_inv Try.underlying26
  obtain ⟨y0_0, e0_0, f0_0⟩ := hf0 0 _ rfl
  obtain ⟨y0_1, e0_1, f0_1⟩ := hf0 1 _ rfl
  obtain ⟨y0_2, e0_2, f0_2⟩ := hf0 2 _ rfl
  obtain ⟨v0_0, rfl, gv0_0⟩ := f0_0.int_inv Try.underlying3
  obtain ⟨v0_1, rfl, gv0_1⟩ := f0_1.int_inv Try.underlying3
  obtain ⟨v0_2, rfl, gv0_2⟩ := f0_2.int_inv Try.underlying3
  match l0, hl0 with
  | [z0_0, z0_1, z0_2], _ =>
    obtain rfl : z0_0 = _ := by simpa using e0_0
    obtain rfl : z0_1 = _ := by simpa using e0_1
    obtain rfl : z0_2 = _ := by simpa using e0_2
    exact ⟨v0_0, v0_1, v0_2, rfl, gv0_0, gv0_1, gv0_2⟩

theorem followComes_dt (x : Dt) (a1 : Option Addr) (n1 c1 : Nat) (xs1 : List Dt) (a2 : Option Addr) (n2 c2 : Nat) (xs2 : List Dt) (w : World) (hx : Fits Try.prog w 26 x) (h1 : SliceFits Try.prog w 4 a1 n1 c1 xs1) (h2 : SliceFits Try.prog w 3 a2 n2 c2 xs2) :
    Calls Try.prog 7 #[.agg x.cells.toArray, .slice a1 n1 c1, .slice a2 n2 c2] w fun e w' => e = .returned (.bool true) ∧ Below w.heap.size w w' := by
  obtain ⟨v0, v1, v2, e, _⟩ := pg_inv hx
  rw [e]
  obtain ⟨b1, o1, R, hR⟩ := bools_cells w h1
  obtain ⟨b2, o2, T, hT⟩ := ints_cells w h2
  by_cases k1 : 200 < n1
  · exact comes_out ⟨v0, v1, v2⟩ a1 n1 c1 a2 n2 c2 h1.le h1.max h2.le h2.max w (.inl k1)
  · by_cases k2 : n2 < n1
    · exact comes_out ⟨v0, v1, v2⟩ a1 n1 c1 a2 n2 c2 h1.le h1.max h2.le h2.max w (.inr ⟨by omega, k2⟩)
    · exact comes_in ⟨v0, v1, v2⟩ a1 n1 c1 b1 o1 R a2 n2 c2 b2 o2 T w hR hT (by omega) (by omega)
end Go.Proofs.Ytninhjeiialbjaa
