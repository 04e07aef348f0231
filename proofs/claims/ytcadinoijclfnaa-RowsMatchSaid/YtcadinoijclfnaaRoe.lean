/-
  The term of an index, rows cut: the document.
-/
import Derived.Test.YtcadinoijclfnaaRoc
import Derived.Test.YtcadinoijclfnaaRw6
import Derived.Deep.DeepFit
namespace Go.Proofs.Ytcadinoijclfnaa
open Go.RowKit
set_option linter.unusedSimpArgs false
set_option linter.unusedVariables false

theorem rlastR_any (base term : Int) (v : Value) (L : List EnD) (w : World) (h : RV w v L) (hk : okE base term L = 0) : ∃ lt : Int, Calls Try.prog 22 #[.agg #[.int .i64 base, .int .i64 term, v]] w fun e w' => e = .returned (.tuple #[.int .i64 (base + L.length), .int .i64 lt]) ∧ Below w.heap.size w w' := by
  obtain ⟨a, c, g, o, F, rfl, h1, h2, h3, h4⟩ := h
  exact ⟨_, rlast_ok base term a L.length c g o (fun k => (F k).ent) w (rv_ents h1 rfl h2 h3 h4) (by rw [okR_rows base term h2]; exact okR_of hk)⟩
theorem RV.at {W : World} {a : Option Addr} {n c : Nat} {L : List EnD} (h : RV W (.slice a n c) L) (k : Nat) (hk : k < n) : ∃ (g o : Nat) (x : EnD), a = some ⟨g, o, none⟩ ∧ g < W.heap.size ∧ L[k]? = some x ∧ W.cell? ⟨g, o + k * 5, none⟩ = some (.int .i64 x.t) := by
  obtain ⟨a', c', g, o, F, e, h1, h2, h3, h4⟩ := h
  injection e with e1 e2 e3
  subst e1 e2 e3
  have := h1.at_ (by omega)
  exact ⟨g, o, (F k).pure, this.1, this.2, h2 k hk, by have := h1.cell k hk 0 (by omega); rw [Nat.add_zero] at this; exact this⟩
def inB (base : Int) (n : Nat) (idx : Int) : Bool := decide (base ≤ idx) && decide (idx ≤ base + n)
def termR (base term : Int) (L : List EnD) (idx : Int) : Int := if inB base L.length idx then termL base term L idx else 0
set_option maxRecDepth 100000 in
set_option maxHeartbeats 8000000 in
theorem rterm_any (base term idx : Int) (v : Value) (L : List EnD) (w : World) (h : RV w v L) (hk : okE base term L = 0) (hx : -9223372036854775808 ≤ idx ∧ idx ≤ 9223372036854775807) :
    Calls Try.prog 37 #[.agg #[.int .i64 base, .int .i64 term, v], .int .i64 idx] w fun e w' => e = .returned (.tuple #[.int .i64 (termR base term L idx), .bool (inB base L.length idx)]) ∧ Below w.heap.size w w' := by
  obtain ⟨a, ln, c, rfl, Hln, m1, m2, m3⟩ := h.sh
  have HV := Lib.hid h
  have HV0 := Lib.hid h
  have HCK := Lib.hid (fun W (h : RV W (.slice a ln c) L) => rcheckR_any base term _ L W h)
  rw [hk] at HCK
  have HLS := Lib.hid (fun W (h : RV W (.slice a ln c) L) => rlastR_any base term _ L W h hk)
  obtain ⟨b0, b1, b2, b3⟩ := okE_head hk
  rw [← Hln.out] at HLS b1 b2
  obtain ⟨T, hT⟩ : ∃ T, T = termR base term L idx := ⟨_, rfl⟩
  obtain ⟨I, hI⟩ : ∃ I, I = inB base L.length idx := ⟨_, rfl⟩
  rw [← hT, ← hI]
  unfold termR termL at hT
  unfold inB at hT hI
  rw [← Hln.out] at hT hI
  have HT := Lib.hid hT
  have HI := Lib.hid hI
  obtain ⟨en, hen⟩ : ∃ en, en = base + (ln : Int) := ⟨_, rfl⟩
  rw [← hen] at HLS HT HI
  have HEN := Lib.hid hen
  clear h hk hT hI hen
  have HB : Hid (Below w.heap.size w w) := Lib.hid (Below.refl _ _)
  go_enter Try.func37, Try.ntmps37
  go_upto_region 1 with fail
  obtain ⟨N, hN⟩ : ∃ n0, n0 = w.heap.size := ⟨_, rfl⟩
  have HLON : Hid (w.heap.size ≤ N) := Lib.hid (by have := HB.out.size; omega)
  obtain ⟨W1, hA0⟩ : ∃ W0, W0 = w.alloc (.cells #[.int .i64 base, .int .i64 term, .slice a ln c] 24) := ⟨_, rfl⟩
  have hB : Below w.heap.size w W1 := by rw [hA0]; exact (Below.refl _ _).alloc (Nat.le_refl _) _
  have hS0 : W1.heap.size = N + 1 := by rw [hA0]; simp [← hN]
  have HR := Lib.hid (show Blk W1 N #[.int .i64 base, .int .i64 term, .slice a ln c] 24 by rw [hA0, hN]; exact blk_new _ _ _)
  replace HB := Lib.hid (HB.out.trans (hB.mono HB.out.size))
  replace HV := Lib.hid (HV.out.below hB)
  clear hB
  have HSN := Lib.hid hS0
  rw [← hN, ← hA0]
  clear hA0 hN hS0
  have qR0 : W1.cell? ⟨N, 0, none⟩ = some (.int .i64 base) := cell_at HR.out 0
  have qR1 : W1.cell? ⟨N, 1, none⟩ = some (.int .i64 term) := cell_at HR.out 1
  have qR2 : W1.cell? ⟨N, 2, none⟩ = some (.slice a ln c) := cell_at HR.out 2
  have qRz : ∀ j, W1.frozen? ⟨N, j, none⟩ = false := fun j => free_at HR.out j
  have qRl : N < W1.heap.size := HR.out.lt
  obtain ⟨lt, HL1⟩ := HLS.out W1 HV.out
  have HL := Lib.hid HL1
  clear HL1
  go_wp2_with fail
  go_at_call 22
  go_fit HL.out
  rintro e W2 ⟨rfl, hB⟩
  clear qR0 qR1 qR2 qRz qRl
  replace HB := Lib.hid (HB.out.trans (hB.mono HB.out.size))
  replace HV := Lib.hid (HV.out.below hB)
  replace HR := Lib.hid (HR.out.step hB)
  clear hB
  have qR0 : W2.cell? ⟨N, 0, none⟩ = some (.int .i64 base) := cell_at HR.out 0
  have qR1 : W2.cell? ⟨N, 1, none⟩ = some (.int .i64 term) := cell_at HR.out 1
  have qR2 : W2.cell? ⟨N, 2, none⟩ = some (.slice a ln c) := cell_at HR.out 2
  have qRz : ∀ j, W2.frozen? ⟨N, j, none⟩ = false := fun j => free_at HR.out j
  have qRl : N < W2.heap.size := HR.out.lt
  go_wp2_with fail
  go_at_call 21
  go_fit (HCK.out _ HV.out)
  rintro e W3 ⟨rfl, hB⟩
  clear qR0 qR1 qR2 qRz qRl
  replace HB := Lib.hid (HB.out.trans (hB.mono HB.out.size))
  replace HV := Lib.hid (HV.out.below hB)
  replace HR := Lib.hid (HR.out.step hB)
  clear hB
  by_cases k1 : idx < base
  · skip
    have d1 : decide (idx < base) = true := decide_eq_true k1
    have d2 : decide (base ≤ idx) = false := decide_eq_false (by omega)
    rw [d2, Bool.false_and] at HT HI
    rw [if_neg (by simp)] at HT
    clear d2
    obtain rfl := HT.out
    obtain rfl := HI.out
    have qR0 : W3.cell? ⟨N, 0, none⟩ = some (.int .i64 base) := cell_at HR.out 0
    have qR1 : W3.cell? ⟨N, 1, none⟩ = some (.int .i64 term) := cell_at HR.out 1
    have qR2 : W3.cell? ⟨N, 2, none⟩ = some (.slice a ln c) := cell_at HR.out 2
    have qRz : ∀ j, W3.frozen? ⟨N, j, none⟩ = false := fun j => free_at HR.out j
    have qRl : N < W3.heap.size := HR.out.lt
    go_wp2_with fail
    exact bodyPost_ret (v := .tuple #[.int .i64 0, .bool false]) (by simp [results, Try.results37, go_sem]) rfl ⟨rfl, HB.out⟩
  · skip
    have d1 : decide (idx < base) = false := decide_eq_false k1
    have d2 : decide (base ≤ idx) = true := decide_eq_true (by omega)
    rw [d2, Bool.true_and] at HT HI
    clear d2
    by_cases k2 : en < idx
    · skip
      have d2 : decide (en < idx) = true := decide_eq_true k2
      have d3 : decide (idx ≤ en) = false := decide_eq_false (by omega)
      rw [d3] at HT HI
      rw [if_neg (by simp)] at HT
      clear d3
      obtain rfl := HT.out
      obtain rfl := HI.out
      have qR0 : W3.cell? ⟨N, 0, none⟩ = some (.int .i64 base) := cell_at HR.out 0
      have qR1 : W3.cell? ⟨N, 1, none⟩ = some (.int .i64 term) := cell_at HR.out 1
      have qR2 : W3.cell? ⟨N, 2, none⟩ = some (.slice a ln c) := cell_at HR.out 2
      have qRz : ∀ j, W3.frozen? ⟨N, j, none⟩ = false := fun j => free_at HR.out j
      have qRl : N < W3.heap.size := HR.out.lt
      go_wp2_with fail
      exact bodyPost_ret (v := .tuple #[.int .i64 0, .bool false]) (by simp [results, Try.results37, go_sem]) rfl ⟨rfl, HB.out⟩
    · skip
      have d2 : decide (en < idx) = false := decide_eq_false k2
      have d3 : decide (idx ≤ en) = true := decide_eq_true (by omega)
      rw [d3] at HT HI
      rw [if_pos rfl] at HT
      clear d3
      by_cases k3 : idx = base
      · skip
        rw [if_pos k3] at HT
        have d3 : (idx == base) = true := beq_iff_eq.2 k3
        have d4 : (idx = base) = True := eq_true k3
        clear k3 k1 k2
        obtain rfl := HT.out.symm
        obtain rfl := HI.out
        have qR0 : W3.cell? ⟨N, 0, none⟩ = some (.int .i64 base) := cell_at HR.out 0
        have qR1 : W3.cell? ⟨N, 1, none⟩ = some (.int .i64 term) := cell_at HR.out 1
        have qR2 : W3.cell? ⟨N, 2, none⟩ = some (.slice a ln c) := cell_at HR.out 2
        have qRz : ∀ j, W3.frozen? ⟨N, j, none⟩ = false := fun j => free_at HR.out j
        have qRl : N < W3.heap.size := HR.out.lt
        go_wp2_with fail
        exact bodyPost_ret (v := .tuple #[.int .i64 term, .bool true]) (by simp [results, Try.results37, go_sem]) rfl ⟨rfl, HB.out⟩
      · skip
        rw [if_neg k3] at HT
        have d3 : (idx == base) = false := beq_eq_false_iff_ne.2 k3
        have d4 : (idx = base) = False := eq_false k3
        obtain ⟨j, hj⟩ := Int.eq_ofNat_of_zero_le (show 0 ≤ idx - base - 1 by omega)
        have hjl : j < ln := by have := HEN.out; omega
        rw [hj, Int.toNat_natCast] at HT
        obtain ⟨y, hy⟩ : ∃ y, y = idx - base := ⟨_, rfl⟩
        have ww1 : IntKind.i64.wrap (idx - base) = y := (IntWalk.i64_in _ (by omega)).trans hy.symm
        have ww2 : IntKind.i64.wrap (y - 1) = (j : Int) := (IntWalk.i64_in _ (by omega)).trans (by omega)
        have ww3 : IntKind.i64.wrap (j : Int) = (j : Int) := IntWalk.i64_in _ (by omega)
        obtain ⟨g, o, x, rfl, g1, g2, g3⟩ := HV.out.at j hjl
        rw [g2] at HT
        simp only at HT
        clear k3 k1 k2 hj hy g2
        obtain rfl := HT.out
        obtain rfl := HI.out
        have qR0 : W3.cell? ⟨N, 0, none⟩ = some (.int .i64 base) := cell_at HR.out 0
        have qR1 : W3.cell? ⟨N, 1, none⟩ = some (.int .i64 term) := cell_at HR.out 1
        have qR2 : W3.cell? ⟨N, 2, none⟩ = some (.slice (some ⟨g, o, none⟩) ln c) := cell_at HR.out 2
        have qRz : ∀ j, W3.frozen? ⟨N, j, none⟩ = false := fun j => free_at HR.out j
        have qRl : N < W3.heap.size := HR.out.lt
        go_wp2_with fail
        exact bodyPost_ret (v := .tuple #[.int .i64 x.t, .bool true]) (by simp [results, Try.results37, go_sem]) rfl ⟨rfl, HB.out⟩
set_option maxRecDepth 100000 in
set_option maxHeartbeats 8000000 in
theorem rcut_any (base term idx : Int) (v : Value) (L : List EnD) (w : World) (h : RV w v L) (hx : -9223372036854775808 ≤ idx ∧ idx ≤ 9223372036854775807) :
    Calls Try.prog 15 #[.agg #[.int .i64 base, .int .i64 term, v], .int .i64 idx] w fun e w' => RwE (cutF base term L idx) e w' ∧ Below w.heap.size w w' := by
  obtain ⟨a, ln, c, rfl, Hln, m1, m2, m3⟩ := h.sh
  have HV := Lib.hid h
  have HV0 := Lib.hid h
  obtain ⟨P, hP⟩ : ∃ P, P = cutF base term L idx := ⟨_, rfl⟩
  rw [← hP]
  have hp := hP
  unfold cutF at hp
  have HP := Lib.hid hp
  have HCK := Lib.hid (fun W (h : RV W (.slice a ln c) L) => rcheckR_any base term _ L W h)
  have HTM := Lib.hid (fun W (h : RV W (.slice a ln c) L) hk => rterm_any base term idx _ L W h hk hx)
  obtain ⟨E1, hE1⟩ : ∃ E1, E1 = okE base term L := ⟨_, rfl⟩
  have hE1c : E1 = 0 ∨ E1 = 90 := by rw [hE1]; exact okE_two _ _ _
  rw [← hE1] at HCK HP
  have HE1 := Lib.hid hE1
  obtain ⟨T, hT⟩ : ∃ T, T = termR base term L idx := ⟨_, rfl⟩
  obtain ⟨I, hI⟩ : ∃ I, I = inB base L.length idx := ⟨_, rfl⟩
  rw [← hT, ← hI] at HTM
  unfold termR at hT
  rw [← hI] at hT
  have HT := Lib.hid hT
  unfold inB at hI
  rw [← Hln.out] at hI HP
  have HI := Lib.hid hI
  clear h hP hp hE1 hT hI
  have HB : Hid (Below w.heap.size w w) := Lib.hid (Below.refl _ _)
  go_enter Try.func15, Try.ntmps15
  go_upto_region 1 with fail
  obtain ⟨N, hN⟩ : ∃ n0, n0 = w.heap.size := ⟨_, rfl⟩
  have HLON : Hid (w.heap.size ≤ N) := Lib.hid (by have := HB.out.size; omega)
  obtain ⟨W1, hA0⟩ : ∃ W0, W0 = w.alloc (.cells #[.int .i64 base, .int .i64 term, .slice a ln c] 24) := ⟨_, rfl⟩
  have hB : Below w.heap.size w W1 := by rw [hA0]; exact (Below.refl _ _).alloc (Nat.le_refl _) _
  have hS0 : W1.heap.size = N + 1 := by rw [hA0]; simp [← hN]
  have HR := Lib.hid (show Blk W1 N #[.int .i64 base, .int .i64 term, .slice a ln c] 24 by rw [hA0, hN]; exact blk_new _ _ _)
  replace HB := Lib.hid (HB.out.trans (hB.mono HB.out.size))
  replace HV := Lib.hid (HV.out.below hB)
  clear hB
  obtain ⟨W2, hA1⟩ : ∃ W0, W0 = W1.alloc (.cells #[.int .i64 0, .int .i64 0, .slice none 0 0] 24) := ⟨_, rfl⟩
  have hB : Below W1.heap.size W1 W2 := by rw [hA1]; exact (Below.refl _ _).alloc (Nat.le_refl _) _
  have hS1 : W2.heap.size = N + 2 := by rw [hA1]; simp [hS0]
  have HK1 := Lib.hid (show Blk W2 (N + 1) #[.int .i64 0, .int .i64 0, .slice none 0 0] 24 by rw [hA1, ← hS0]; exact blk_new _ _ _)
  replace HB := Lib.hid (HB.out.trans (hB.mono HB.out.size))
  replace HV := Lib.hid (HV.out.below hB)
  replace HR := Lib.hid (HR.out.step hB)
  clear hB
  have HSN := Lib.hid hS1
  rw [← hN, ← hA0, ← hA1]
  clear hA1 hA0 hN hS0 hS1
  have qR0 : W2.cell? ⟨N, 0, none⟩ = some (.int .i64 base) := cell_at HR.out 0
  have qR1 : W2.cell? ⟨N, 1, none⟩ = some (.int .i64 term) := cell_at HR.out 1
  have qR2 : W2.cell? ⟨N, 2, none⟩ = some (.slice a ln c) := cell_at HR.out 2
  have qRz : ∀ j, W2.frozen? ⟨N, j, none⟩ = false := fun j => free_at HR.out j
  have qRl : N < W2.heap.size := HR.out.lt
  go_wp2_with fail
  go_at_call 21
  go_fit (HCK.out _ HV.out)
  rintro e W3 ⟨rfl, hB⟩
  clear qR0 qR1 qR2 qRz qRl
  replace HB := Lib.hid (HB.out.trans (hB.mono HB.out.size))
  replace HV := Lib.hid (HV.out.below hB)
  replace HR := Lib.hid (HR.out.step hB)
  replace HK1 := Lib.hid (HK1.out.step hB)
  clear hB
  rcases hE1c with rfl | rfl
  · skip
    rw [if_neg (by simp)] at HP
    obtain ⟨b0, b1, b2, b3⟩ := okE_head HE1.out.symm
    rw [← Hln.out] at b1 b2
    have qR0 : W3.cell? ⟨N, 0, none⟩ = some (.int .i64 base) := cell_at HR.out 0
    have qR1 : W3.cell? ⟨N, 1, none⟩ = some (.int .i64 term) := cell_at HR.out 1
    have qR2 : W3.cell? ⟨N, 2, none⟩ = some (.slice a ln c) := cell_at HR.out 2
    have qRz : ∀ j, W3.frozen? ⟨N, j, none⟩ = false := fun j => free_at HR.out j
    have qRl : N < W3.heap.size := HR.out.lt
    go_wp2_with fail
    go_at_call 37
    go_fit (HTM.out _ HV.out HE1.out.symm)
    rintro e W4 ⟨rfl, hB⟩
    clear qR0 qR1 qR2 qRz qRl
    replace HB := Lib.hid (HB.out.trans (hB.mono HB.out.size))
    replace HV := Lib.hid (HV.out.below hB)
    replace HR := Lib.hid (HR.out.step hB)
    replace HK1 := Lib.hid (HK1.out.step hB)
    clear hB
    by_cases k1 : base ≤ idx ∧ idx ≤ base + (ln : Int)
    · skip
      obtain ⟨k1, k2⟩ := k1
      rw [if_neg (by omega), if_neg (by omega)] at HP
      rw [decide_eq_true k1, decide_eq_true k2] at HI
      obtain rfl := HI.out
      rw [show (true && true) = true from rfl, if_pos rfl] at HT
      rw [← HT.out] at HP
      obtain ⟨m, hm⟩ := Int.eq_ofNat_of_zero_le (show 0 ≤ idx - base by omega)
      rw [hm, Int.toNat_natCast] at HP
      obtain rfl := HP.out
      have hml : m ≤ ln := by omega
      have ww1 : IntKind.i64.wrap (idx - base) = (m : Int) := (IntWalk.i64_in _ (by omega)).trans hm
      have ww3 : IntKind.i64.wrap (m : Int) = (m : Int) := IntWalk.i64_in _ (by omega)
      obtain ⟨hs2, hp2⟩ := rv_from HV0.out m hml
      have HTW := Lib.hid (fun W (h : RV W (.slice (fromA a c m) (ln - m) (c - m)) (L.drop m)) => copiedR_any _ (L.drop m) W h (by rw [List.length_drop, ← Hln.out]; omega) (fit_drop (okE_dl HE1.out.symm) m))
      have HP2 := Lib.hid (hp2.below HB.out)
      clear hp2 k1 k2
      have qR0 : W4.cell? ⟨N, 0, none⟩ = some (.int .i64 base) := cell_at HR.out 0
      have qR1 : W4.cell? ⟨N, 1, none⟩ = some (.int .i64 term) := cell_at HR.out 1
      have qR2 : W4.cell? ⟨N, 2, none⟩ = some (.slice a ln c) := cell_at HR.out 2
      have qRz : ∀ j, W4.frozen? ⟨N, j, none⟩ = false := fun j => free_at HR.out j
      have qRl : N < W4.heap.size := HR.out.lt
      go_wp2_with fail
      go_at_call 38
      go_fit (HTW.out _ HP2.out)
      rintro e W5 ⟨v5, rfl, hv5, hB⟩
      clear qR0 qR1 qR2 qRz qRl
      replace HB := Lib.hid (HB.out.trans (hB.mono HB.out.size))
      replace HV := Lib.hid (HV.out.below hB)
      replace HR := Lib.hid (HR.out.step hB)
      replace HK1 := Lib.hid (HK1.out.step hB)
      replace HP2 := Lib.hid (HP2.out.below hB)
      clear hB
      obtain ⟨a5, l5, c5, rfl, Hl5, l51, l52, l53⟩ := hv5.sh
      have HV5 := Lib.hid hv5
      clear hv5
      have qK10 : W5.cell? ⟨(N + 1), 0, none⟩ = some (.int .i64 0) := cell_at HK1.out 0
      have qK11 : W5.cell? ⟨(N + 1), 1, none⟩ = some (.int .i64 0) := cell_at HK1.out 1
      have qK12 : W5.cell? ⟨(N + 1), 2, none⟩ = some (.slice none 0 0) := cell_at HK1.out 2
      have qK1z : ∀ j, W5.frozen? ⟨(N + 1), j, none⟩ = false := fun j => free_at HK1.out j
      have qK1l : (N + 1) < W5.heap.size := HK1.out.lt
      go_wp2_with fail
      clear qK10 qK11 qK12 qK1z qK1l
      obtain ⟨LS, hLS⟩ : ∃ L : List Value, L = [.int .i64 idx, .int .i64 T, .slice a5 l5 c5] := ⟨_, rfl⟩
      obtain ⟨W6, hWS⟩ : ∃ WS, WS = W5.setCells (N + 1) 0 LS := ⟨_, rfl⟩
      have hch := hWS
      rw [hLS] at hch
      simp only [World.setCells, Nat.zero_add, Nat.reduceAdd] at hch
      rw [← hch]
      clear hch
      have hkS := stC_blk HK1.out LS (by rw [hLS]; rfl)
      have hfS := stC_fr (N + 1) LS 0 W5
      rw [← hWS] at hkS hfS
      rw [hLS] at hkS
      replace HB := Lib.hid (HB.out.trans (hfS.below HB.out.size (by have := HLON.out; simp; try omega)))
      replace HV := Lib.hid (HV.out.fr HK1.out hfS)
      replace HR := Lib.hid (show Blk W6 N #[.int .i64 base, .int .i64 term, .slice a ln c] 24 from (hfS.block _ HR.out.lt (by simp; try omega)).trans HR.out)
      replace HP2 := Lib.hid (HP2.out.fr HK1.out hfS)
      replace HV5 := Lib.hid (HV5.out.fr HK1.out hfS)
      replace HK1 := Lib.hid (show Blk W6 (N + 1) #[.int .i64 idx, .int .i64 T, .slice a5 l5 c5] 24 from hkS)
      clear hWS hLS hkS hfS
      have qK10 : W6.cell? ⟨(N + 1), 0, none⟩ = some (.int .i64 idx) := cell_at HK1.out 0
      have qK11 : W6.cell? ⟨(N + 1), 1, none⟩ = some (.int .i64 T) := cell_at HK1.out 1
      have qK12 : W6.cell? ⟨(N + 1), 2, none⟩ = some (.slice a5 l5 c5) := cell_at HK1.out 2
      have qK1z : ∀ j, W6.frozen? ⟨(N + 1), j, none⟩ = false := fun j => free_at HK1.out j
      have qK1l : (N + 1) < W6.heap.size := HK1.out.lt
      exact bodyPost_ret (v := .tuple #[.agg #[.int .i64 idx, .int .i64 T, .slice a5 l5 c5], .int .i64 0]) (by simp [results, Try.results15, go_sem, qK10, qK11, qK12]) rfl ⟨⟨_, rfl, HV5.out⟩, HB.out⟩
    · skip
      have hI0 : I = false := by
        rw [HI.out]
        by_cases q1 : base ≤ idx
        · rw [decide_eq_true q1, decide_eq_false (fun q2 => k1 ⟨q1, q2⟩)]; rfl
        · rw [decide_eq_false q1]; rfl
      subst hI0
      have hP4 : P = ⟨0, 0, [], 4⟩ := by
        rw [HP.out]
        by_cases q1 : idx < base
        · rw [if_pos q1]
        · rw [if_neg q1, if_pos (by omega)]
      subst hP4
      clear k1
      have qK10 : W4.cell? ⟨(N + 1), 0, none⟩ = some (.int .i64 0) := cell_at HK1.out 0
      have qK11 : W4.cell? ⟨(N + 1), 1, none⟩ = some (.int .i64 0) := cell_at HK1.out 1
      have qK12 : W4.cell? ⟨(N + 1), 2, none⟩ = some (.slice none 0 0) := cell_at HK1.out 2
      have qK1z : ∀ j, W4.frozen? ⟨(N + 1), j, none⟩ = false := fun j => free_at HK1.out j
      have qK1l : (N + 1) < W4.heap.size := HK1.out.lt
      go_wp2_with fail
      clear qK10 qK11 qK12 qK1z qK1l
      obtain ⟨LS, hLS⟩ : ∃ L : List Value, L = [.int .i64 0, .int .i64 0, .slice none 0 0] := ⟨_, rfl⟩
      obtain ⟨W5, hWS⟩ : ∃ WS, WS = W4.setCells (N + 1) 0 LS := ⟨_, rfl⟩
      have hch := hWS
      rw [hLS] at hch
      simp only [World.setCells, Nat.zero_add, Nat.reduceAdd] at hch
      rw [← hch]
      clear hch
      have hkS := stC_blk HK1.out LS (by rw [hLS]; rfl)
      have hfS := stC_fr (N + 1) LS 0 W4
      rw [← hWS] at hkS hfS
      rw [hLS] at hkS
      replace HB := Lib.hid (HB.out.trans (hfS.below HB.out.size (by have := HLON.out; simp; try omega)))
      replace HV := Lib.hid (HV.out.fr HK1.out hfS)
      replace HR := Lib.hid (show Blk W5 N #[.int .i64 base, .int .i64 term, .slice a ln c] 24 from (hfS.block _ HR.out.lt (by simp; try omega)).trans HR.out)
      replace HK1 := Lib.hid (show Blk W5 (N + 1) #[.int .i64 0, .int .i64 0, .slice none 0 0] 24 from hkS)
      clear hWS hLS hkS hfS
      have qK10 : W5.cell? ⟨(N + 1), 0, none⟩ = some (.int .i64 0) := cell_at HK1.out 0
      have qK11 : W5.cell? ⟨(N + 1), 1, none⟩ = some (.int .i64 0) := cell_at HK1.out 1
      have qK12 : W5.cell? ⟨(N + 1), 2, none⟩ = some (.slice none 0 0) := cell_at HK1.out 2
      have qK1z : ∀ j, W5.frozen? ⟨(N + 1), j, none⟩ = false := fun j => free_at HK1.out j
      have qK1l : (N + 1) < W5.heap.size := HK1.out.lt
      exact bodyPost_ret (v := .tuple #[.agg #[.int .i64 0, .int .i64 0, .slice none 0 0], .int .i64 4]) (by simp [results, Try.results15, go_sem, qK10, qK11, qK12]) rfl ⟨⟨_, rfl, rv_nil _⟩, HB.out⟩
  · skip
    rw [if_pos (by simp)] at HP
    obtain rfl := HP.out
    have qK10 : W3.cell? ⟨(N + 1), 0, none⟩ = some (.int .i64 0) := cell_at HK1.out 0
    have qK11 : W3.cell? ⟨(N + 1), 1, none⟩ = some (.int .i64 0) := cell_at HK1.out 1
    have qK12 : W3.cell? ⟨(N + 1), 2, none⟩ = some (.slice none 0 0) := cell_at HK1.out 2
    have qK1z : ∀ j, W3.frozen? ⟨(N + 1), j, none⟩ = false := fun j => free_at HK1.out j
    have qK1l : (N + 1) < W3.heap.size := HK1.out.lt
    go_wp2_with fail
    clear qK10 qK11 qK12 qK1z qK1l
    obtain ⟨LS, hLS⟩ : ∃ L : List Value, L = [.int .i64 0, .int .i64 0, .slice none 0 0] := ⟨_, rfl⟩
    obtain ⟨W4, hWS⟩ : ∃ WS, WS = W3.setCells (N + 1) 0 LS := ⟨_, rfl⟩
    have hch := hWS
    rw [hLS] at hch
    simp only [World.setCells, Nat.zero_add, Nat.reduceAdd] at hch
    rw [← hch]
    clear hch
    have hkS := stC_blk HK1.out LS (by rw [hLS]; rfl)
    have hfS := stC_fr (N + 1) LS 0 W3
    rw [← hWS] at hkS hfS
    rw [hLS] at hkS
    replace HB := Lib.hid (HB.out.trans (hfS.below HB.out.size (by have := HLON.out; simp; try omega)))
    replace HV := Lib.hid (HV.out.fr HK1.out hfS)
    replace HR := Lib.hid (show Blk W4 N #[.int .i64 base, .int .i64 term, .slice a ln c] 24 from (hfS.block _ HR.out.lt (by simp; try omega)).trans HR.out)
    replace HK1 := Lib.hid (show Blk W4 (N + 1) #[.int .i64 0, .int .i64 0, .slice none 0 0] 24 from hkS)
    clear hWS hLS hkS hfS
    have qK10 : W4.cell? ⟨(N + 1), 0, none⟩ = some (.int .i64 0) := cell_at HK1.out 0
    have qK11 : W4.cell? ⟨(N + 1), 1, none⟩ = some (.int .i64 0) := cell_at HK1.out 1
    have qK12 : W4.cell? ⟨(N + 1), 2, none⟩ = some (.slice none 0 0) := cell_at HK1.out 2
    have qK1z : ∀ j, W4.frozen? ⟨(N + 1), j, none⟩ = false := fun j => free_at HK1.out j
    have qK1l : (N + 1) < W4.heap.size := HK1.out.lt
    exact bodyPost_ret (v := .tuple #[.agg #[.int .i64 0, .int .i64 0, .slice none 0 0], .int .i64 90]) (by simp [results, Try.results15, go_sem, qK10, qK11, qK12]) rfl ⟨⟨_, rfl, rv_nil _⟩, HB.out⟩
end Go.Proofs.Ytcadinoijclfnaa
