/-
  Rows of entries joined: the program.
-/
import Derived.Test.YtcadinoijclfnaaRo3
import Derived.Test.YtcadinoijclfnaaAs4
namespace Go.Proofs.Ytcadinoijclfnaa
open Go.RowKit
set_option linter.unusedSimpArgs false
set_option linter.unusedVariables false

theorem stC_fr (b : Nat) : ∀ (l : List Value) (o : Nat) (w : World), Fr [b] w (w.setCells b o l)
  | [], _, w => Fr.refl _ _
  | v :: r, o, w => ((Fr.refl [b] w).setCell ⟨b, o, none⟩ (.inl (by simp)) v).trans (stC_fr b r (o + 1) _) (fun x hx => .inl hx)
theorem stC_pt {b : Nat} {t : TypeId} : ∀ (L : List Value) (o : Nat) {W : World} {cs : Array Value}, Blk W b cs t → o + L.length ≤ cs.size → ∃ cs', Blk (W.setCells b o L) b cs' t ∧ cs'.size = cs.size ∧ (∀ j, j < o → cs'[j]? = cs[j]?) ∧ (∀ i, i < L.length → cs'[o + i]? = L[i]?) ∧ ∀ j, o + L.length ≤ j → cs'[j]? = cs[j]?
  | [], o, W, cs, h, _ => ⟨cs, h, rfl, fun _ _ => rfl, fun i hi => absurd hi (Nat.not_lt_zero _), fun _ _ => rfl⟩
  | v :: r, o, W, cs, h, hl => by
    have hl' : o + (r.length + 1) ≤ cs.size := hl
    obtain ⟨cs', k1, k2, k3, k4, k5⟩ := stC_pt r (o + 1) (h.set o v) (by simp; omega)
    refine ⟨cs', k1, by simpa using k2, fun j hj => ?_, fun i hi => ?_, fun j hj => ?_⟩
    · rw [k3 j (by omega), Array.getElem?_setIfInBounds, if_neg (by omega)]
    · rcases Nat.eq_zero_or_pos i with rfl | hp
      · rw [Nat.add_zero, k3 o (by omega), Array.getElem?_setIfInBounds, if_pos rfl, if_pos (by omega)]
        rfl
      · obtain ⟨m, rfl⟩ : ∃ m, i = m + 1 := ⟨i - 1, by omega⟩
        have := k4 m (by simpa using hi)
        rw [show o + (m + 1) = o + 1 + m by omega, this]
        rfl
    · have hj' : o + (r.length + 1) ≤ j := hj
      rw [k5 j (by omega), Array.getElem?_setIfInBounds, if_neg (by omega)]
theorem stC_blk {W : World} {b : Nat} {cs : Array Value} {t : TypeId} (h : Blk W b cs t) (L : List Value) (hl : L.length = cs.size) : Blk (W.setCells b 0 L) b L.toArray t := by
  obtain ⟨cs', k1, k2, k3, k4, k5⟩ := stC_pt L 0 h (by omega)
  have : cs' = L.toArray := by
    apply Array.ext_getElem?
    intro i
    by_cases hi : i < L.length
    · have := k4 i hi
      rw [Nat.zero_add] at this
      rw [this]
      simp
    · rw [Array.getElem?_eq_none (by omega), Array.getElem?_eq_none (by simp; omega)]
  rw [this] at k1
  exact k1

theorem rows_none {x y : Int} {p : Option Addr} {q r : Nat} (i : Nat) (k : IntKind) (n : Int) (hk : k ≠ .i64) : (#[Value.int .i64 x, .int .i64 y, .slice p q r] : Array Value)[i]? ≠ some (.int k n) := by
  match i with
  | 0 => intro h; injection h with h; injection h with h1 _; exact hk h1.symm
  | 1 => intro h; injection h with h; injection h with h1 _; exact hk h1.symm
  | 2 => intro h; injection h with h; cases h
  | i + 3 => intro h; simp at h
/-- rows in memory stand when a struct of rows is written -/
theorem RV.fr {W W' : World} {v : Value} {L : List EnD} {N : Nat} {x y : Int} {p : Option Addr} {q r : Nat} {t : TypeId} (h : RV W v L) (hb : Blk W N #[.int .i64 x, .int .i64 y, .slice p q r] t) (hf : Fr [N] W W') : RV W' v L := by
  obtain ⟨a, c, g, o, F, e, h1, h2, h3, h4⟩ := h
  have hc : ∀ (b i : Nat), b < W.heap.size → b ≠ N → W'.cell? ⟨b, i, none⟩ = W.cell? ⟨b, i, none⟩ := fun b i hl hn => by unfold World.cell?; rw [hf.block b hl (by simpa using hn)]
  refine ⟨a, c, g, o, F, e, ⟨h1.le, h1.max, fun hk => ⟨(h1.at_ hk).1, by have := (h1.at_ hk).2; have := hf.size; omega⟩, fun k hk i hi => ?_, fun k hk => ?_⟩, h2, h3, h4⟩
  · have hg : g ≠ N := fun e => by
      subst e
      have := h1.cell k hk 1 (by omega)
      rw [cell_at hb] at this
      exact rows_none _ _ _ (by decide) this
    rw [hc g _ (h1.at_ (by omega)).2 hg]
    exact h1.cell k hk i hi
  · have hd := h1.ld k hk
    unfold DE.by_ at hd ⊢
    refine ⟨hd.le, hd.max, fun hk => ⟨(hd.at_ hk).1, by have := (hd.at_ hk).2; have := hf.size; omega⟩, fun j hj => ?_, hd.bd⟩
    have hg : (F k).b ≠ N := fun e => by
      have := hd.cell j hj
      rw [e, cell_at hb] at this
      exact rows_none _ _ _ (by decide) this
    rw [hc _ _ (hd.at_ (by omega)).2 hg]
    exact hd.cell j hj
theorem ent_dlR {k s st : Int} {dl : Nat} (h : entB k s st dl = true) : dl ≤ 16384 := by
  rcases ent_cases k s st dl with ⟨_, h1⟩ | ⟨_, _, h1⟩ | ⟨_, _, h1⟩ | ⟨_, ⟨_, ⟨_, h1⟩ | ⟨_, h2, _⟩ | ⟨_, _, h1⟩⟩ | ⟨_, ⟨_, h1⟩ | ⟨_, h2, _⟩ | ⟨_, _, h1⟩⟩ | ⟨_, ⟨_, h1⟩ | ⟨_, h2, _⟩ | ⟨_, _, h1⟩⟩⟩
  all_goals first | omega | (rw [h] at h1; cases h1)
theorem chkR_dl : ∀ (L : List EnD) (t : Int), chkR t L = true → dlB L
  | [], _, _ => fun x hx => absurd hx (by simp)
  | y :: r, t, h => by
    unfold chkR at h
    simp only [Bool.and_eq_true] at h
    intro x hx
    rcases List.mem_cons.1 hx with rfl | hx
    · have := ent_dlR h.1.2; omega
    · exact chkR_dl r y.t h.2 x hx
theorem okR_dl {base term : Int} {L : List EnD} (h : okR base term L = true) : dlB L := by
  unfold okR at h
  simp only [Bool.and_eq_true] at h
  exact chkR_dl L _ h.2
theorem okE_dl {base term : Int} {L : List EnD} (h : okE base term L = 0) : dlB L := by
  unfold okE at h
  by_cases hk : okR base term L = true
  · exact okR_dl hk
  · rw [if_neg hk] at h; exact absurd h (by decide)
def joinE (base term : Int) (n : Nat) (L L2 : List EnD) : Int := if 4096 < n + L2.length then 3 else okE base term (L.take n ++ L2)
theorem dN (w : World) (n : Nat) : Below w.heap.size w (w.drewN n) := ⟨rfl, rfl, rfl, Nat.le_refl _, fun _ _ => rfl⟩
theorem rv_take {W : World} {v : Value} {L : List EnD} (h : RV W v L) (n : Nat) (hn : n ≤ L.length) : ∃ a c, v = .slice a L.length c ∧ n ≤ c ∧ c ≤ maxLen ∧ RV W (.slice a n n) (L.take n) := by
  obtain ⟨a, c, g, o, F, rfl, h1, h2, h3, h4⟩ := h
  have := rv_slice h1 rfl h2 h3 h4 0 n n a (by omega) (Nat.le_refl _) (by have := h1.max; have := h1.le; omega) (fun h0 => by rw [Nat.zero_mul, Nat.add_zero]; exact (h1.at_ (by omega)).1)
  rw [List.drop_zero] at this
  exact ⟨a, c, rfl, by have := h1.le; omega, h1.max, this⟩
set_option maxRecDepth 100000 in
set_option maxHeartbeats 8000000 in
theorem joinR_any (base term : Int) (v v2 : Value) (L L2 : List EnD) (n : Nat) (w : World) (h : RV w v L) (h2 : RV w v2 L2) (hn : n ≤ L.length) (hL : L.length ≤ 4096) (hL2 : L2.length ≤ 5000) :
    Calls Try.prog 32 #[.agg #[.int .i64 base, .int .i64 term, v], .int .i64 (n : Nat), v2] w fun e w' => ∃ v', e = .returned (.tuple #[if joinE base term n L L2 = 0 then .agg #[.int .i64 base, .int .i64 term, v'] else .agg #[.int .i64 0, .int .i64 0, .slice none 0 0], .int .i64 (joinE base term n L L2)]) ∧ (joinE base term n L L2 = 0 → RV w' v' (L.take n ++ L2)) ∧ Below w.heap.size w w' := by
  obtain ⟨N, hN⟩ : ∃ N, N = w.heap.size := ⟨_, rfl⟩
  obtain ⟨W0, hW0⟩ : ∃ W0, W0 = w.alloc (.cells #[.int .i64 base, .int .i64 term, v] 24) := ⟨_, rfl⟩
  obtain ⟨W1, hW1⟩ : ∃ W1, W1 = W0.alloc (.cells #[.int .i64 0, .int .i64 0, .slice none 0 0] 24) := ⟨_, rfl⟩
  have hB0 : Below w.heap.size w W0 := by rw [hW0]; exact (Below.refl _ _).alloc (Nat.le_refl _) _
  have hB1 : Below w.heap.size w W1 := by rw [hW1]; exact hB0.alloc hB0.size _
  have hk0 : Blk W0 N #[.int .i64 base, .int .i64 term, v] 24 := by rw [hW0, hN]; exact blk_new _ _ _
  have hs0 : W0.heap.size = N + 1 := by rw [hW0, hN]; simp
  have HR1 : Hid (Blk W1 N #[.int .i64 base, .int .i64 term, v] 24) := Lib.hid (by rw [hW1]; exact hk0.alloc _)
  have HK1 : Hid (Blk W1 (N + 1) #[.int .i64 0, .int .i64 0, .slice none 0 0] 24) := Lib.hid (by rw [hW1, ← hs0]; exact blk_new _ _ _)
  have HB1 := Lib.hid hB1
  have HNB : Hid (w.heap.size = N) := Lib.hid hN.symm
  have HV1 := Lib.hid (h.below hB1)
  have HV2 := Lib.hid (h2.below hB1)
  obtain ⟨a, c, rfl, hnc, hcm, hpt⟩ := rv_take (h.below hB1) n hn
  have HPT := Lib.hid hpt
  obtain ⟨a2, c2, g2, o2, F2, rfl, d2, _⟩ := h2
  have m2 := d2.le
  have m3 := d2.max
  unfold maxLen at hcm m3
  obtain ⟨ln, hln⟩ : ∃ ln, ln = L.length := ⟨_, rfl⟩
  obtain ⟨l2, hl2⟩ : ∃ l2, l2 = L2.length := ⟨_, rfl⟩
  obtain ⟨J, hJ⟩ : ∃ J, J = joinE base term n L L2 := ⟨_, rfl⟩
  rw [← hJ]
  have HJ := Lib.hid hJ
  have HL2 := Lib.hid hl2
  have HLN := Lib.hid hln
  rw [← hl2] at m2 hL2 HV2 ⊢
  rw [← hln] at hn hL HV1 ⊢
  rw [← hln] at HR1 hW0
  obtain ⟨Y, hY⟩ : ∃ Y, Y = L.take n ++ L2 := ⟨_, rfl⟩
  rw [← hY]
  have HY := Lib.hid hY
  have hYl : Y.length ≤ n + l2 := by rw [hY, List.length_append, List.length_take, hl2]; omega
  obtain ⟨y, hy⟩ : ∃ y, y = Y.length := ⟨_, rfl⟩
  rw [← hy] at hYl
  have HYL := Lib.hid hy
  clear hB0 hB1 hk0 hs0 h hpt d2 hJ hl2 hln hY hy
  go_enter Try.func32, Try.ntmps32
  go_upto_region 1 with fail
  rw [← hN, ← hW0, ← hW1]
  clear hN hW0 hW1
  have q0 : W1.cell? ⟨(N + 1), 0, none⟩ = some (.int .i64 0) := cell_at HK1.out 0
  have q1 : W1.cell? ⟨(N + 1), 1, none⟩ = some (.int .i64 0) := cell_at HK1.out 1
  have q2 : W1.cell? ⟨(N + 1), 2, none⟩ = some (.slice none 0 0) := cell_at HK1.out 2
  have zq : ∀ j, W1.frozen? ⟨(N + 1), j, none⟩ = false := fun j => free_at HK1.out j
  have lq : (N + 1) < W1.heap.size := HK1.out.lt
  have r0 : W1.cell? ⟨N, 0, none⟩ = some (.int .i64 base) := cell_at HR1.out 0
  have r1 : W1.cell? ⟨N, 1, none⟩ = some (.int .i64 term) := cell_at HR1.out 1
  have r2 : W1.cell? ⟨N, 2, none⟩ = some (.slice a ln c) := cell_at HR1.out 2
  have zr : ∀ j, W1.frozen? ⟨N, j, none⟩ = false := fun j => free_at HR1.out j
  have lr : N < W1.heap.size := HR1.out.lt
  by_cases hbig : 4096 < n + l2
  · have hJx : J = 3 := by rw [HJ.out]; unfold joinE; rw [if_pos (by rw [← HL2.out]; exact hbig)]
    subst hJx
    have d1 : decide ((4096 : Int) - (l2 : Int) < (n : Int)) = true := decide_eq_true (by omega)
    go_wp2_with fail
    clear q0 q1 q2 r0 r1 r2
    obtain ⟨LS, hLS⟩ : ∃ L : List Value, L = [.int .i64 0, .int .i64 0, .slice none 0 0] := ⟨_, rfl⟩
    obtain ⟨WS, hWS⟩ : ∃ WS, WS = W1.setCells (N + 1) 0 LS := ⟨_, rfl⟩
    have hchS := hWS
    rw [hLS] at hchS
    simp only [World.setCells, Nat.zero_add, Nat.reduceAdd] at hchS
    rw [← hchS]
    clear hchS
    have hkS := stC_blk HK1.out LS (by rw [hLS]; rfl)
    have hfrS := stC_fr (N + 1) LS 0 W1
    rw [← hWS] at hkS hfrS
    rw [hLS] at hkS
    have r0 : WS.cell? ⟨N + 1, 0, none⟩ = some (.int .i64 0) := cell_at hkS 0
    have r1 : WS.cell? ⟨N + 1, 1, none⟩ = some (.int .i64 0) := cell_at hkS 1
    have r2 : WS.cell? ⟨N + 1, 2, none⟩ = some (.slice none 0 0) := cell_at hkS 2
    clear hWS hLS
    have hBS := HB1.out.trans (hfrS.below HB1.out.size (by have := HNB.out; simp; omega))
    exact bodyPost_ret (v := .tuple #[.agg #[.int .i64 0, .int .i64 0, .slice none 0 0], .int .i64 3]) (by simp [results, Try.results32, go_sem, r0, r1, r2]) rfl ⟨rfl, hBS⟩
  · have d1 : decide ((4096 : Int) - (l2 : Int) < (n : Int)) = false := decide_eq_false (by omega)
    have hnc2 : (n ≤ c) = True := eq_true hnc
    have hJ2 : J = okE base term (L.take n ++ L2) := by rw [HJ.out]; unfold joinE; rw [if_neg (by rw [← HL2.out]; exact hbig)]
    have HJ2 := Lib.hid hJ2
    clear hJ2 d1
    have d1 : decide ((4096 : Int) - (l2 : Int) < (n : Int)) = false := decide_eq_false (by omega)
    go_wp2_with fail
    go_at_call 49
    obtain ⟨K, hK⟩ : ∃ K, K = W1.heap.size := ⟨_, rfl⟩
    obtain ⟨W2, hW2⟩ : ∃ W2, W2 = W1.alloc (.cells #[.slice a n n, .slice a2 l2 c2] 22) := ⟨_, rfl⟩
    have hb2 : Below W1.heap.size W1 W2 := by rw [hW2]; exact (Below.refl _ _).alloc (Nat.le_refl _) _
    have hk2 : Blk W2 K #[.slice a n n, .slice a2 l2 c2] 22 := by rw [hW2, hK]; exact blk_new _ _ _
    have hlt : (L.take n).length + L2.length ≤ 5000 := by rw [List.length_take, ← HL2.out]; omega
    have HCC := Lib.hid (concatR_any _ _ (L.take n) L2 K W2 (HPT.out.below hb2) (HV2.out.below hb2) hk2 hlt)
    have HR2 := Lib.hid (HR1.out.step hb2)
    have HK2 := Lib.hid (HK1.out.step hb2)
    have HB2 := Lib.hid (HB1.out.trans (hb2.mono HB1.out.size))
    rw [← hK, ← hW2]
    clear hK hW2 hb2 hk2 hlt q0 q1 q2 r0 r1 r2 zq zr lq lr
    refine Calls.mono HCC.out ?_
    rintro e W3 ⟨v3, rfl, hv3, hb3⟩
    rw [← HY.out] at hv3 HJ2
    have hv3' := hv3
    obtain ⟨a3, c3, g3, o3, F3, ev3, d3, _⟩ := hv3'
    have s1 := d3.le
    have s2 := d3.max
    unfold maxLen at s2
    rw [← HYL.out] at s1 ev3
    rw [ev3] at hv3 ⊢
    have HV3 : Hid (RV W3 (.slice a3 y c3) Y) := Lib.hid hv3
    clear d3 ev3
    have HR3 := Lib.hid (HR2.out.step hb3)
    have HK3 := Lib.hid (HK2.out.step hb3)
    have HB3 := Lib.hid (HB2.out.trans (hb3.mono HB2.out.size))
    clear hv3 hb3 HCC
    have r0 : W3.cell? ⟨N, 0, none⟩ = some (.int .i64 base) := cell_at HR3.out 0
    have r1 : W3.cell? ⟨N, 1, none⟩ = some (.int .i64 term) := cell_at HR3.out 1
    have r2 : W3.cell? ⟨N, 2, none⟩ = some (.slice a ln c) := cell_at HR3.out 2
    have zr : ∀ j, W3.frozen? ⟨N, j, none⟩ = false := fun j => free_at HR3.out j
    have lr : N < W3.heap.size := HR3.out.lt
    go_upto_region 4 with fail
    obtain ⟨W4, hW4⟩ : ∃ W4, W4 = W3.setCell ⟨N, 2, none⟩ (.slice a3 y c3) := ⟨_, rfl⟩
    rw [← hW4]
    have hk4 : Blk W4 N #[.int .i64 base, .int .i64 term, .slice a3 y c3] 24 := by rw [hW4]; exact HR3.out.set 2 _
    have hf4 : Fr [N] W3 W4 := by rw [hW4]; exact (Fr.refl [N] W3).setCell ⟨N, 2, none⟩ (.inl (by simp)) _
    have HV4 := Lib.hid (HV3.out.fr HR3.out hf4)
    have HK4 := Lib.hid (show Blk W4 (N + 1) #[.int .i64 0, .int .i64 0, .slice none 0 0] 24 from (hf4.block (N + 1) HK3.out.lt (by simp)).trans HK3.out)
    have HB4 := Lib.hid (HB3.out.trans (hf4.below HB3.out.size (by have := HNB.out; simp; omega)))
    have HR4 := Lib.hid hk4
    have HCK := Lib.hid (checkR_any base term (.slice a3 y c3) Y W4 HV4.out)
    rw [← HJ2.out] at HCK
    clear hW4 hk4 hf4 r0 r1 r2 zr lr
    have r0 : W4.cell? ⟨N, 0, none⟩ = some (.int .i64 base) := cell_at HR4.out 0
    have r1 : W4.cell? ⟨N, 1, none⟩ = some (.int .i64 term) := cell_at HR4.out 1
    have r2 : W4.cell? ⟨N, 2, none⟩ = some (.slice a3 y c3) := cell_at HR4.out 2
    have zr : ∀ j, W4.frozen? ⟨N, j, none⟩ = false := fun j => free_at HR4.out j
    have lr : N < W4.heap.size := HR4.out.lt
    have hJc : J = 0 ∨ J = 90 := by rw [HJ2.out, HY.out]; unfold okE; split <;> simp
    rcases hJc with rfl | rfl
    · go_wp2_with fail
      go_at_call 25
      refine Calls.mono HCK.out ?_
      rintro e W5 ⟨rfl, hb5⟩
      have HTW := Lib.hid (twinsR_any (.slice a3 y c3) Y W5 (HV4.out.below hb5) (by rw [← HYL.out]; omega) (okE_dl (base := base) (term := term) HJ2.out.symm))
      have HR5 := Lib.hid (HR4.out.step hb5)
      have HK5 := Lib.hid (HK4.out.step hb5)
      have HB5 := Lib.hid (HB4.out.trans (hb5.mono HB4.out.size))
      clear hb5 r0 r1 r2 zr lr
      have r0 : W5.cell? ⟨N, 0, none⟩ = some (.int .i64 base) := cell_at HR5.out 0
      have r1 : W5.cell? ⟨N, 1, none⟩ = some (.int .i64 term) := cell_at HR5.out 1
      have r2 : W5.cell? ⟨N, 2, none⟩ = some (.slice a3 y c3) := cell_at HR5.out 2
      have zr : ∀ j, W5.frozen? ⟨N, j, none⟩ = false := fun j => free_at HR5.out j
      have lr : N < W5.heap.size := HR5.out.lt
      go_wp2_with fail
      go_at_call 36
      refine Calls.mono HTW.out ?_
      rintro e W6 ⟨v6, rfl, hv6, hb6⟩
      have hv6' := hv6
      obtain ⟨a6, c6, g6, o6, F6, ev6, d6, _⟩ := hv6'
      have s3 := d6.le
      have s4 := d6.max
      unfold maxLen at s4
      rw [← HYL.out] at s3 ev6
      rw [ev6] at hv6 ⊢
      have HV6 := Lib.hid hv6
      have HR6 := Lib.hid (HR5.out.step hb6)
      have HK6 := Lib.hid (HK5.out.step hb6)
      have HB6 := Lib.hid (HB5.out.trans (hb6.mono HB5.out.size))
      clear d6 ev6 hv6 hb6 r0 r1 r2 zr lr
      have r0 : W6.cell? ⟨N, 0, none⟩ = some (.int .i64 base) := cell_at HR6.out 0
      have r1 : W6.cell? ⟨N, 1, none⟩ = some (.int .i64 term) := cell_at HR6.out 1
      have r2 : W6.cell? ⟨N, 2, none⟩ = some (.slice a3 y c3) := cell_at HR6.out 2
      have zr : ∀ j, W6.frozen? ⟨N, j, none⟩ = false := fun j => free_at HR6.out j
      have lr : N < W6.heap.size := HR6.out.lt
      go_upto_region 7 with fail
      obtain ⟨W7, hW7⟩ : ∃ W7, W7 = W6.setCell ⟨N, 2, none⟩ (.slice a6 y c6) := ⟨_, rfl⟩
      rw [← hW7]
      have hk7 : Blk W7 N #[.int .i64 base, .int .i64 term, .slice a6 y c6] 24 := by rw [hW7]; exact HR6.out.set 2 _
      have hf7 : Fr [N] W6 W7 := by rw [hW7]; exact (Fr.refl [N] W6).setCell ⟨N, 2, none⟩ (.inl (by simp)) _
      have HV7 := Lib.hid (HV6.out.fr HR6.out hf7)
      have HK7 := Lib.hid (show Blk W7 (N + 1) #[.int .i64 0, .int .i64 0, .slice none 0 0] 24 from (hf7.block (N + 1) HK6.out.lt (by simp)).trans HK6.out)
      have HB7 := Lib.hid (HB6.out.trans (hf7.below HB6.out.size (by have := HNB.out; simp; omega)))
      have HR7 := Lib.hid hk7
      clear hW7 hk7 hf7 r0 r1 r2 zr lr
      have r0 : W7.cell? ⟨N, 0, none⟩ = some (.int .i64 base) := cell_at HR7.out 0
      have r1 : W7.cell? ⟨N, 1, none⟩ = some (.int .i64 term) := cell_at HR7.out 1
      have r2 : W7.cell? ⟨N, 2, none⟩ = some (.slice a6 y c6) := cell_at HR7.out 2
      have zr : ∀ j, W7.frozen? ⟨N, j, none⟩ = false := fun j => free_at HR7.out j
      have lr : N < W7.heap.size := HR7.out.lt
      have q0 : W7.cell? ⟨(N + 1), 0, none⟩ = some (.int .i64 0) := cell_at HK7.out 0
      have q1 : W7.cell? ⟨(N + 1), 1, none⟩ = some (.int .i64 0) := cell_at HK7.out 1
      have q2 : W7.cell? ⟨(N + 1), 2, none⟩ = some (.slice none 0 0) := cell_at HK7.out 2
      have zq : ∀ j, W7.frozen? ⟨(N + 1), j, none⟩ = false := fun j => free_at HK7.out j
      have lq : (N + 1) < W7.heap.size := HK7.out.lt
      go_wp2_with fail
      clear q0 q1 q2 r0 r1 r2
      obtain ⟨LS, hLS⟩ : ∃ L : List Value, L = [.int .i64 base, .int .i64 term, .slice a6 y c6] := ⟨_, rfl⟩
      obtain ⟨WS, hWS⟩ : ∃ WS, WS = W7.setCells (N + 1) 0 LS := ⟨_, rfl⟩
      have hchS := hWS
      rw [hLS] at hchS
      simp only [World.setCells, Nat.zero_add, Nat.reduceAdd] at hchS
      rw [← hchS]
      clear hchS
      have hkS := stC_blk HK7.out LS (by rw [hLS]; rfl)
      have hfrS := stC_fr (N + 1) LS 0 W7
      rw [← hWS] at hkS hfrS
      rw [hLS] at hkS
      have r0 : WS.cell? ⟨N + 1, 0, none⟩ = some (.int .i64 base) := cell_at hkS 0
      have r1 : WS.cell? ⟨N + 1, 1, none⟩ = some (.int .i64 term) := cell_at hkS 1
      have r2 : WS.cell? ⟨N + 1, 2, none⟩ = some (.slice a6 y c6) := cell_at hkS 2
      clear hWS hLS
      have hBS := HB7.out.trans (hfrS.below HB7.out.size (by have := HNB.out; simp; omega))
      exact bodyPost_ret (v := .tuple #[.agg #[.int .i64 base, .int .i64 term, .slice a6 y c6], .int .i64 0]) (by simp [results, Try.results32, go_sem, r0, r1, r2]) rfl ⟨.slice a6 y c6, rfl, HV7.out.fr HK7.out hfrS, hBS⟩
    · go_wp2_with fail
      go_at_call 25
      refine Calls.mono HCK.out ?_
      rintro e W5 ⟨rfl, hb5⟩
      have HK5 := Lib.hid (HK4.out.step hb5)
      have HB5 := Lib.hid (HB4.out.trans (hb5.mono HB4.out.size))
      clear hb5 r0 r1 r2 zr lr
      have q0 : W5.cell? ⟨(N + 1), 0, none⟩ = some (.int .i64 0) := cell_at HK5.out 0
      have q1 : W5.cell? ⟨(N + 1), 1, none⟩ = some (.int .i64 0) := cell_at HK5.out 1
      have q2 : W5.cell? ⟨(N + 1), 2, none⟩ = some (.slice none 0 0) := cell_at HK5.out 2
      have zq : ∀ j, W5.frozen? ⟨(N + 1), j, none⟩ = false := fun j => free_at HK5.out j
      have lq : (N + 1) < W5.heap.size := HK5.out.lt
      go_wp2_with fail
      clear q0 q1 q2
      obtain ⟨LS, hLS⟩ : ∃ L : List Value, L = [.int .i64 0, .int .i64 0, .slice none 0 0] := ⟨_, rfl⟩
      obtain ⟨WS, hWS⟩ : ∃ WS, WS = W5.setCells (N + 1) 0 LS := ⟨_, rfl⟩
      have hchS := hWS
      rw [hLS] at hchS
      simp only [World.setCells, Nat.zero_add, Nat.reduceAdd] at hchS
      rw [← hchS]
      clear hchS
      have hkS := stC_blk HK5.out LS (by rw [hLS]; rfl)
      have hfrS := stC_fr (N + 1) LS 0 W5
      rw [← hWS] at hkS hfrS
      rw [hLS] at hkS
      have r0 : WS.cell? ⟨N + 1, 0, none⟩ = some (.int .i64 0) := cell_at hkS 0
      have r1 : WS.cell? ⟨N + 1, 1, none⟩ = some (.int .i64 0) := cell_at hkS 1
      have r2 : WS.cell? ⟨N + 1, 2, none⟩ = some (.slice none 0 0) := cell_at hkS 2
      clear hWS hLS
      have hBS := HB5.out.trans (hfrS.below HB5.out.size (by have := HNB.out; simp; omega))
      exact bodyPost_ret (v := .tuple #[.agg #[.int .i64 0, .int .i64 0, .slice none 0 0], .int .i64 90]) (by simp [results, Try.results32, go_sem, r0, r1, r2]) rfl ⟨rfl, hBS⟩
end Go.Proofs.Ytcadinoijclfnaa
