/-
  Do entries fit: the program.
-/
import Derived.Test.YtcadinoijclfnaaRo6
import Derived.Test.YtcadinoijclfnaaFw6
import Derived.Deep.DeepFit
namespace Go.Proofs.Ytcadinoijclfnaa
open Go.RowKit
set_option linter.unusedSimpArgs false
set_option linter.unusedVariables false

/-- the term of an index -/
def termL (base term : Int) (L : List EnD) (idx : Int) : Int := if idx = base then term else match L[(idx - base - 1).toNat]? with | some x => x.t | none => 0
theorem termL_I {L : List EnD} {F : Nat → DE} (base term idx : Int) (hp : ∀ k, k < L.length → L[k]? = some (F k).pure) (h1 : base ≤ idx) (h2 : idx ≤ base + L.length) : termI base term (fun k => (F k).ent) idx = termL base term L idx := by
  unfold termI termL
  by_cases h : idx = base
  · rw [if_pos h, if_pos h]
  · rw [if_neg h, if_neg h, hp _ (by omega)]
    rfl
theorem okE_head {base term : Int} {L : List EnD} (h : okE base term L = 0) : 0 ≤ base ∧ base ≤ 1099511627776 - L.length ∧ L.length ≤ 4096 ∧ 0 ≤ term := by
  have hk : okR base term L = true := by
    unfold okE at h
    by_cases hk : okR base term L = true
    · exact hk
    · rw [if_neg hk] at h; exact absurd h (by decide)
  unfold okR at hk
  simp only [Bool.and_eq_true] at hk
  have h1 := hk.1
  unfold headB at h1
  simp at h1
  omega
theorem okR_of {base term : Int} {L : List EnD} (h : okE base term L = 0) : okR base term L = true := by
  unfold okE at h
  by_cases hk : okR base term L = true
  · exact hk
  · rw [if_neg hk] at h; exact absurd h (by decide)
theorem okE_two (base term : Int) (L : List EnD) : okE base term L = 0 ∨ okE base term L = 90 := by unfold okE; split <;> simp
theorem termR_any (base term idx : Int) (v : Value) (L : List EnD) (w : World) (h : RV w v L) (hk : okE base term L = 0) (hi : base ≤ idx ∧ idx ≤ base + L.length) : Calls Try.prog 35 #[.agg #[.int .i64 base, .int .i64 term, v], .int .i64 idx] w fun e w' => e = .returned (.int .i64 (termL base term L idx)) ∧ Below w.heap.size w w' := by
  obtain ⟨a, c, g, o, F, rfl, h1, h2, h3, h4⟩ := h
  obtain ⟨b0, b1, b2, b3⟩ := okE_head hk
  have := term_any base term idx a L.length c g o (fun k => (F k).ent) w (rv_ents h1 rfl h2 h3 h4) b0 (by omega) b2 hi
  rwa [termL_I base term idx h2 hi.1 hi.2] at this
theorem endR_any (base term : Int) (v : Value) (L : List EnD) (w : World) (h : RV w v L) (hk : okE base term L = 0) : Calls Try.prog 34 #[.agg #[.int .i64 base, .int .i64 term, v]] w fun e w' => e = .returned (.int .i64 (base + L.length)) ∧ Below w.heap.size w w' := by
  obtain ⟨a, c, g, o, F, rfl, h1, h2, h3, h4⟩ := h
  obtain ⟨b0, b1, b2, b3⟩ := okE_head hk
  exact end_any base term a L.length c w b0 (by omega) h1.le h1.max b2
structure FitP where
  l : List EnD
  i : Int
  s : Int
  ok : Bool
def fitF (base term : Int) (L : List EnD) (idx first : Int) (l : List EnD) : FitP :=
  if base + L.length < idx then ⟨[], 0, base + L.length, false⟩
  else if (l.length : Int) < base - idx then ⟨[], 0, base, false⟩
  else if 0 < base - idx then ⟨l.drop (base - idx).toNat, base, base + (l.length - (base - idx)), true⟩
  else if termL base term L idx ≠ first then ⟨[], 0, max (idx - 1) base, false⟩
  else ⟨l, idx, idx + l.length, true⟩
set_option maxRecDepth 100000 in
set_option maxHeartbeats 8000000 in
theorem fit_any (base term idx first : Int) (v v2 : Value) (L l : List EnD) (w : World) (h : RV w v L) (h2 : RV w v2 l) (hk : okE base term L = 0) (hi : 0 ≤ idx ∧ idx ≤ 1099511627776) (hl2 : l.length ≤ 16) :
    Calls Try.prog 39 #[.agg #[.int .i64 base, .int .i64 term, v], .int .i64 idx, .int .i64 first, v2] w fun e w' => ∃ v', e = .returned (.tuple #[v', .int .i64 (fitF base term L idx first l).i, .int .i64 (fitF base term L idx first l).s, .bool (fitF base term L idx first l).ok]) ∧ RV w' v' (fitF base term L idx first l).l ∧ Below w.heap.size w w' := by
  obtain ⟨i0, i1⟩ := hi
  obtain ⟨b0, b1, b2, b3⟩ := okE_head hk
  have HF2 := Lib.hid (fun (a : Option Addr) (c n : Nat) (hn : n = l.length) (h : RV w (.slice a n c) l) (j : Nat) (hj : j ≤ n) => rv_from h j hj)
  obtain ⟨a, ln, c, rfl, Hln, m1, m2, m3⟩ := h.sh
  obtain ⟨a2, l2, c2, rfl, Hl2, n1, n2, n3⟩ := h2.sh
  have HV := Lib.hid h
  have HV2 := Lib.hid h2
  have HV0 := Lib.hid h2
  have HE := Lib.hid (fun W (h : RV W (.slice a ln c) L) => endR_any base term _ L W h hk)
  have HT := Lib.hid (fun W (h : RV W (.slice a ln c) L) h2 => termR_any base term idx _ L W h hk h2)
  obtain ⟨f, hf⟩ : ∃ f, f = fitF base term L idx first l := ⟨_, rfl⟩
  have hfd := hf
  unfold fitF at hfd
  have HFD := Lib.hid hfd
  rw [← Hln.out] at HE b1 b2 HT HFD
  rw [← Hl2.out] at hl2 HFD
  rw [← hf]
  obtain ⟨fl, fi, fs, fo⟩ := f
  simp only
  obtain ⟨t, ht⟩ : ∃ t, t = termL base term L idx := ⟨_, rfl⟩
  rw [← ht] at HT HFD
  obtain ⟨en, hen⟩ : ∃ en, en = base + (ln : Int) := ⟨_, rfl⟩
  rw [← hen] at HE HFD
  obtain ⟨ah, hah⟩ : ∃ ah, ah = base - idx := ⟨_, rfl⟩
  obtain ⟨y, hy⟩ : ∃ y, y = idx - 1 := ⟨_, rfl⟩
  have ww5 : IntKind.i64.wrap (idx - 1) = y := (IntWalk.i64_in _ (by omega)).trans hy.symm
  rw [← hy] at HFD
  clear hy
  have ww1 : IntKind.i64.wrap (base - idx) = ah := (IntWalk.i64_in _ (by omega)).trans (by omega)
  have ww2 : base - idx = ah := by omega
  rw [← hah] at HFD
  have HEN := Lib.hid hen
  have HAH := Lib.hid hah
  clear h h2 hk hf hfd ht hen hah
  have HB : Hid (Below w.heap.size w w) := Lib.hid (Below.refl _ _)
  go_enter Try.func39, Try.ntmps39
  go_upto_region 1 with fail
  obtain ⟨N, hN⟩ : ∃ n0, n0 = w.heap.size := ⟨_, rfl⟩
  have HLON : Hid (w.heap.size ≤ N) := Lib.hid (by have := HB.out.size; omega)
  obtain ⟨W1, hA0⟩ : ∃ W0, W0 = w.alloc (.cells #[.int .i64 base, .int .i64 term, .slice a ln c] 24) := ⟨_, rfl⟩
  have hB : Below w.heap.size w W1 := by rw [hA0]; exact (Below.refl _ _).alloc (Nat.le_refl _) _
  have hS0 : W1.heap.size = N + 1 := by rw [hA0]; simp [← hN]
  have HR := Lib.hid (show Blk W1 N #[.int .i64 base, .int .i64 term, .slice a ln c] 24 by rw [hA0, hN]; exact blk_new _ _ _)
  replace HB := Lib.hid (HB.out.trans (hB.mono HB.out.size))
  replace HV := Lib.hid (HV.out.below hB)
  replace HV2 := Lib.hid (HV2.out.below hB)
  clear hB
  have HSN := Lib.hid hS0
  rw [← hN, ← hA0]
  clear hA0 hN hS0
  have qR0 : W1.cell? ⟨N, 0, none⟩ = some (.int .i64 base) := cell_at HR.out 0
  have qR1 : W1.cell? ⟨N, 1, none⟩ = some (.int .i64 term) := cell_at HR.out 1
  have qR2 : W1.cell? ⟨N, 2, none⟩ = some (.slice a ln c) := cell_at HR.out 2
  have qRz : ∀ j, W1.frozen? ⟨N, j, none⟩ = false := fun j => free_at HR.out j
  have qRl : N < W1.heap.size := HR.out.lt
  go_wp2_with fail
  go_at_call 34
  go_fit (HE.out _ HV.out)
  rintro e W2 ⟨rfl, hB⟩
  clear qR0 qR1 qR2 qRz qRl
  replace HB := Lib.hid (HB.out.trans (hB.mono HB.out.size))
  replace HV := Lib.hid (HV.out.below hB)
  replace HV2 := Lib.hid (HV2.out.below hB)
  replace HR := Lib.hid (HR.out.step hB)
  clear hB
  clear ww1 ww2
  by_cases k1 : en < idx
  · skip
    rw [if_pos k1] at HFD
    injection HFD.out with e1 e2 e3 e4
    obtain rfl := e1.symm
    obtain rfl := e2.symm
    obtain rfl := e3.symm
    obtain rfl := e4.symm
    have d1 : decide (en < idx) = true := decide_eq_true k1
    have qR0 : W2.cell? ⟨N, 0, none⟩ = some (.int .i64 base) := cell_at HR.out 0
    have qR1 : W2.cell? ⟨N, 1, none⟩ = some (.int .i64 term) := cell_at HR.out 1
    have qR2 : W2.cell? ⟨N, 2, none⟩ = some (.slice a ln c) := cell_at HR.out 2
    have qRz : ∀ j, W2.frozen? ⟨N, j, none⟩ = false := fun j => free_at HR.out j
    have qRl : N < W2.heap.size := HR.out.lt
    go_wp2_with fail
    go_at_call 34
    go_fit (HE.out _ HV.out)
    rintro e W3 ⟨rfl, hB⟩
    clear qR0 qR1 qR2 qRz qRl
    replace HB := Lib.hid (HB.out.trans (hB.mono HB.out.size))
    replace HV := Lib.hid (HV.out.below hB)
    replace HV2 := Lib.hid (HV2.out.below hB)
    replace HR := Lib.hid (HR.out.step hB)
    clear hB
    go_wp2_with fail
    exact bodyPost_ret (v := .tuple #[.slice none 0 0, .int .i64 0, .int .i64 en, .bool false]) (by simp [results, Try.results39, go_sem]) rfl ⟨_, rfl, rv_nil _, HB.out⟩
  · skip
    rw [if_neg k1] at HFD
    have d1 : decide (en < idx) = false := decide_eq_false k1
    by_cases K2 : (l2 : Int) < ah
    · skip
      rw [if_pos K2] at HFD
      injection HFD.out with e1 e2 e3 e4
      obtain rfl := e1.symm
      obtain rfl := e2.symm
      obtain rfl := e3.symm
      obtain rfl := e4.symm
      have d2 : decide ((l2 : Int) < ah) = true := decide_eq_true K2
      have qR0 : W2.cell? ⟨N, 0, none⟩ = some (.int .i64 base) := cell_at HR.out 0
      have qR1 : W2.cell? ⟨N, 1, none⟩ = some (.int .i64 term) := cell_at HR.out 1
      have qR2 : W2.cell? ⟨N, 2, none⟩ = some (.slice a ln c) := cell_at HR.out 2
      have qRz : ∀ j, W2.frozen? ⟨N, j, none⟩ = false := fun j => free_at HR.out j
      have qRl : N < W2.heap.size := HR.out.lt
      go_wp2_with fail
      (refine wp_region_quiet_lit (by kernel_rfl) (by kernel_rfl) ?_; (repeat (first | go_big_quiet_step (fail) | (refine BigFrame.wpQuiet_skip (by rfl) ?_; try simp only [Act.put, List.setIfInBounds_toArray, List.set_cons_zero, List.set_cons_succ]))); refine wpQuiet_nil ?_; intro _ hw9; obtain ⟨nq, hw8⟩ := hw9; subst hw8)
      clear qR0 qR1 qR2 qRz qRl
      obtain ⟨W3, hWn⟩ : ∃ X, X = W2.drewN nq := ⟨_, rfl⟩
      rw [← hWn]
      have hB : Below W2.heap.size W2 W3 := by rw [hWn]; exact dN _ _
      clear hWn
      replace HB := Lib.hid (HB.out.trans (hB.mono HB.out.size))
      replace HV := Lib.hid (HV.out.below hB)
      replace HV2 := Lib.hid (HV2.out.below hB)
      replace HR := Lib.hid (HR.out.step hB)
      clear hB
      go_wp2_with fail
      exact bodyPost_ret (v := .tuple #[.slice none 0 0, .int .i64 0, .int .i64 base, .bool false]) (by simp [results, Try.results39, go_sem]) rfl ⟨_, rfl, rv_nil _, HB.out⟩
    · skip
      rw [if_neg K2] at HFD
      have d2 : decide ((l2 : Int) < ah) = false := decide_eq_false K2
      by_cases k3 : 0 < ah
      · skip
        rw [if_pos k3] at HFD
        obtain ⟨m, rfl⟩ := Int.eq_ofNat_of_zero_le (show 0 ≤ ah by omega)
        rw [Int.toNat_natCast] at HFD
        have d3 : decide (0 < (m : Int)) = true := decide_eq_true k3
        have d4 : decide (0 < m) = true := decide_eq_true (by omega)
        obtain ⟨hs2, hp2⟩ := HF2.out a2 c2 l2 Hl2.out (by exact HV0.out) m (by omega)
        have HP2 := Lib.hid hp2
        injection HFD.out with e1 e2 e3 e4
        obtain rfl := e1.symm
        obtain rfl := e2.symm
        obtain rfl := e3.symm
        obtain rfl := e4.symm
        have hml : m ≤ l2 := by omega
        have ww1 : IntKind.i64.wrap (base + ((l2 - m : Nat) : Int)) = base + ((l2 : Int) - m) := (IntWalk.i64_in _ (by omega)).trans (by omega)
        have ww2 : base + ((l2 - m : Nat) : Int) = base + ((l2 : Int) - m) := by omega
        clear hp2
        have qR0 : W2.cell? ⟨N, 0, none⟩ = some (.int .i64 base) := cell_at HR.out 0
        have qR1 : W2.cell? ⟨N, 1, none⟩ = some (.int .i64 term) := cell_at HR.out 1
        have qR2 : W2.cell? ⟨N, 2, none⟩ = some (.slice a ln c) := cell_at HR.out 2
        have qRz : ∀ j, W2.frozen? ⟨N, j, none⟩ = false := fun j => free_at HR.out j
        have qRl : N < W2.heap.size := HR.out.lt
        go_wp2_with fail
        (refine wp_region_quiet_lit (by kernel_rfl) (by kernel_rfl) ?_; (repeat (first | go_big_quiet_step (fail) | (refine BigFrame.wpQuiet_skip (by rfl) ?_; try simp only [Act.put, List.setIfInBounds_toArray, List.set_cons_zero, List.set_cons_succ]))); refine wpQuiet_nil ?_; intro _ hw9; obtain ⟨nq, hw8⟩ := hw9; subst hw8)
        clear qR0 qR1 qR2 qRz qRl
        obtain ⟨W3, hWn⟩ : ∃ X, X = W2.drewN nq := ⟨_, rfl⟩
        rw [← hWn]
        have hB : Below W2.heap.size W2 W3 := by rw [hWn]; exact dN _ _
        clear hWn
        replace HB := Lib.hid (HB.out.trans (hB.mono HB.out.size))
        replace HV := Lib.hid (HV.out.below hB)
        replace HV2 := Lib.hid (HV2.out.below hB)
        replace HR := Lib.hid (HR.out.step hB)
        clear hB
        go_wp2_with fail
        exact bodyPost_ret (v := .tuple #[.slice (fromA a2 c2 m) (l2 - m) (c2 - m), .int .i64 base, .int .i64 (base + ((l2 : Int) - m)), .bool true]) (by simp [results, Try.results39, go_sem]) rfl ⟨_, rfl, HP2.out.below HB.out, HB.out⟩
      · skip
        rw [if_neg k3] at HFD
        have d3 : decide (0 < ah) = false := decide_eq_false k3
        have qR0 : W2.cell? ⟨N, 0, none⟩ = some (.int .i64 base) := cell_at HR.out 0
        have qR1 : W2.cell? ⟨N, 1, none⟩ = some (.int .i64 term) := cell_at HR.out 1
        have qR2 : W2.cell? ⟨N, 2, none⟩ = some (.slice a ln c) := cell_at HR.out 2
        have qRz : ∀ j, W2.frozen? ⟨N, j, none⟩ = false := fun j => free_at HR.out j
        have qRl : N < W2.heap.size := HR.out.lt
        go_wp2_with fail
        go_at_call 35
        go_fit (HT.out _ HV.out (by have := HEN.out; have := HAH.out; omega))
        rintro e W3 ⟨rfl, hB⟩
        clear qR0 qR1 qR2 qRz qRl
        replace HB := Lib.hid (HB.out.trans (hB.mono HB.out.size))
        replace HV := Lib.hid (HV.out.below hB)
        replace HV2 := Lib.hid (HV2.out.below hB)
        replace HR := Lib.hid (HR.out.step hB)
        clear hB
        by_cases k4 : t = first
        · skip
          rw [if_neg (by simpa using k4)] at HFD
          injection HFD.out with e1 e2 e3 e4
          obtain rfl := e1.symm
          obtain rfl := e2.symm
          obtain rfl := e3.symm
          obtain rfl := e4.symm
          have d4 : (t != first) = false := by rw [bne_eq_false_iff_eq]; exact k4
          have d5 : (t = first) = True := eq_true k4
          have ww1 : IntKind.i64.wrap (idx + (l2 : Int)) = idx + (l2 : Int) := IntWalk.i64_in _ (by omega)
          clear k4
          have qR0 : W3.cell? ⟨N, 0, none⟩ = some (.int .i64 base) := cell_at HR.out 0
          have qR1 : W3.cell? ⟨N, 1, none⟩ = some (.int .i64 term) := cell_at HR.out 1
          have qR2 : W3.cell? ⟨N, 2, none⟩ = some (.slice a ln c) := cell_at HR.out 2
          have qRz : ∀ j, W3.frozen? ⟨N, j, none⟩ = false := fun j => free_at HR.out j
          have qRl : N < W3.heap.size := HR.out.lt
          go_wp2_with fail
          exact bodyPost_ret (v := .tuple #[.slice a2 l2 c2, .int .i64 idx, .int .i64 (idx + (l2 : Int)), .bool true]) (by simp [results, Try.results39, go_sem]) rfl ⟨_, rfl, HV2.out, HB.out⟩
        · skip
          rw [if_pos (by simpa using k4)] at HFD
          injection HFD.out with e1 e2 e3 e4
          obtain rfl := e1.symm
          obtain rfl := e2.symm
          obtain rfl := e3.symm
          obtain rfl := e4.symm
          have d4 : (t != first) = true := by rw [bne_iff_ne]; exact k4
          have d5 : (t = first) = False := eq_false k4
          clear k4
          have qR0 : W3.cell? ⟨N, 0, none⟩ = some (.int .i64 base) := cell_at HR.out 0
          have qR1 : W3.cell? ⟨N, 1, none⟩ = some (.int .i64 term) := cell_at HR.out 1
          have qR2 : W3.cell? ⟨N, 2, none⟩ = some (.slice a ln c) := cell_at HR.out 2
          have qRz : ∀ j, W3.frozen? ⟨N, j, none⟩ = false := fun j => free_at HR.out j
          have qRl : N < W3.heap.size := HR.out.lt
          go_wp2_with fail
          go_region
          all_goals (go_wp2_with fail)
          · skip
            exact bodyPost_ret (v := .tuple #[.slice none 0 0, .int .i64 0, .int .i64 base, .bool false]) (by simp [results, Try.results39, go_sem]) rfl ⟨_, by rw [show max y base = base by omega], rv_nil _, HB.out.drew⟩
          · skip
            exact bodyPost_ret (v := .tuple #[.slice none 0 0, .int .i64 0, .int .i64 y, .bool false]) (by simp [results, Try.results39, go_sem]) rfl ⟨_, by rw [show max y base = y by omega], rv_nil _, HB.out.drew⟩
end Go.Proofs.Ytcadinoijclfnaa
