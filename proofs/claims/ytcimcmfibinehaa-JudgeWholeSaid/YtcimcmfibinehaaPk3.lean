/-
  Package packet: whose a packet is: Flow, walked.
-/
import Derived.Test.YtcimcmfibinehaaJd2
import Derived.Test.YtcimcmfibinehaaPk2
namespace Go.Proofs.Ytcimcmfibinehaa
open Go.RowKit Go.Shelf
set_option linter.unusedSimpArgs false
set_option linter.unusedVariables false

attribute [local go_sem] Oper.semAt_some

theorem blk_own {β : Type} (B : Nat) (cs : Array Value) (t : TypeId) : Own (fun (_ : β) W => Blk W B cs t) := fun _ X Y row hs hg hrow =>
  (hg.block B hs.lt (fun e => by
    obtain ⟨o, ho, hc⟩ := hrow B e.symm
    rw [show X.heap[B]? = _ from hs] at ho
    cases ho
    cases hc)).trans hs

theorem at_own {β : Type} {B D : Nat} {o : Obj} (h : D < B) : OwnFrom (β := β) B (fun _ W => W.heap[D]? = some o) := fun _ _ _ _ hs hg hr =>
  (hg.block D (Array.getElem?_eq_some_iff.1 hs).1 (fun e => by have := (hr D e.symm).1; omega)).trans hs
theorem plcs_pre (t : Int) (E : Nat → FlowE) (k : Nat) : ∀ n, k ≤ n → ∃ tl, plcs t E n = plcs t E k ++ tl
  | 0, h => ⟨[], by obtain rfl : k = 0 := by omega
                    simp⟩
  | n + 1, h => by
    by_cases e : k = n + 1
    · exact ⟨[], by rw [e, List.append_nil]⟩
    · obtain ⟨tl, htl⟩ := plcs_pre t E k n (by omega)
      exact ⟨tl ++ if (E n).t == t then [n] else [], by rw [plcs, htl, List.append_assoc]⟩
def lastP (l : List Nat) : Nat := l.getLast?.getD 0
theorem lastP_snoc (l : List Nat) (x : Nat) : lastP (l ++ [x]) = x := by simp [lastP]
theorem last_at (l tl : List Nat) (R : Nat) (h : l.length = R + 1) : (l ++ tl).getD R 0 = lastP l := by
  unfold lastP
  rw [List.getLast?_eq_getElem?, h, List.getD_eq_getElem?_getD, List.getElem?_append_left (by omega)]
  rfl

/-- what Flow answers -/
def flowK (t c : Int) (E : Nat → FlowE) (n : Nat) : Int := if (plcs t E n).length = 0 then 0 else if c < 0 then 0 else (((plcs t E n).getD (c % ((plcs t E n).length : Int)).toNat 0 : Nat) : Int)
def flowE (t c : Int) (E : Nat → FlowE) (n : Nat) : Int := if (plcs t E n).length = 0 then 161 else if c < 0 then 2 else 0

set_option maxRecDepth 100000 in
set_option maxHeartbeats 4000000 in
theorem flow_any (num t c : Int) (la : Option Addr) (ln lc : Nat) (a : Option Addr) (len cap b o : Nat) (E : Nat → FlowE) (w : World) (hs : FlowIn w a len cap b o E) :
    Calls Try.prog 15 #[.slice a len cap, .agg #[.int .i64 num, .int .i64 t, .int .i64 c, .slice la ln lc]] w fun e w' => e = .returned (.tuple #[.int .i64 (flowK t c E len), .int .i64 (flowE t c E len)]) ∧ Below w.heap.size w w' := by
  refine (callsIn_wide (n := 9)).1 ?_
  refine callsIn_of_wp_marks Try.func15 rfl trivial ?_ rfl
  simp only [Try.ntmps15, List.size_toArray, List.length_cons, List.length_nil, Nat.reduceAdd, Nat.reduceSub, Array.replicate_succ, Array.replicate_zero, List.push_toArray, List.append_toArray, List.nil_append, List.cons_append]
  have HS := Lib.hid hs
  have HKF : Hid (flowK t c E len = if (plcs t E len).length = 0 then 0 else if c < 0 then 0 else (((plcs t E len).getD (c % ((plcs t E len).length : Int)).toNat 0 : Nat) : Int)) := Lib.hid rfl
  have HEF : Hid (flowE t c E len = if (plcs t E len).length = 0 then 161 else if c < 0 then 2 else 0) := Lib.hid rfl
  obtain ⟨kf, hkf⟩ : ∃ kf, kf = flowK t c E len := ⟨_, rfl⟩
  obtain ⟨ef, hef⟩ : ∃ ef, ef = flowE t c E len := ⟨_, rfl⟩
  rw [← hkf] at HKF ⊢
  rw [← hef] at HEF ⊢
  clear hs hkf hef
  gi_wp2_with (first
    | (refine ⟨trivial, ?_⟩; gi_at_call 28; refine (callsIn_wide.2 (places_any _ _ _ _ _)).mono ?_; rintro e w2 ⟨rfl, rfl⟩)
    | fail)
  obtain ⟨N, hN⟩ : ∃ N, N = w.heap.size := ⟨_, rfl⟩
  obtain ⟨PB, hPB⟩ : ∃ PB, PB = Obj.cells #[.int .i64 num, .int .i64 t, .int .i64 c, .slice la ln lc] 29 (0, 0) := ⟨_, rfl⟩
  obtain ⟨W0, hW0⟩ : ∃ W0, W0 = ((((((w.alloc PB).alloc (.cells #[.int .i64 0] 3)).alloc (.cells #[.int .i64 0] 30)).alloc (.cells #[.int .i64 0] 3)).alloc (.cells #[.slice a len cap] 23)).alloc (.cells #[.int .i64 t] 3)) := ⟨_, rfl⟩
  have hs0 : W0.heap.size = N + 6 := by rw [hW0, hN]; simp
  have bP : Blk W0 N #[.int .i64 num, .int .i64 t, .int .i64 c, .slice la ln lc] 29 := by
    rw [hW0, hN, hPB]
    show _ = _
    rw [Below.heap_alloc _ _ _ (by simp; try omega), Below.heap_alloc _ _ _ (by simp; try omega), Below.heap_alloc _ _ _ (by simp; try omega), Below.heap_alloc _ _ _ (by simp; try omega), Below.heap_alloc _ _ _ (by simp; try omega)]
    exact heap_alloc_new w _
  have bR : Boxed W0 (N + 1) 3 (.int .i64 0) := by
    rw [hW0, hN]
    show _ = _
    rw [Below.heap_alloc _ _ _ (by simp; try omega), Below.heap_alloc _ _ _ (by simp; try omega), Below.heap_alloc _ _ _ (by simp; try omega), Below.heap_alloc _ _ _ (by simp; try omega), ← World.size_alloc w PB]
    exact heap_alloc_new _ _
  have bE : Boxed W0 (N + 2) 30 (.int .i64 0) := by
    rw [hW0, hN]
    show _ = _
    rw [Below.heap_alloc _ _ _ (by simp; try omega), Below.heap_alloc _ _ _ (by simp; try omega), Below.heap_alloc _ _ _ (by simp; try omega), show w.heap.size + 2 = ((w.alloc PB).alloc (.cells #[.int .i64 0] 3)).heap.size by simp]
    exact heap_alloc_new _ _
  have bF : Boxed W0 (N + 3) 3 (.int .i64 0) := by
    rw [hW0, hN]
    show _ = _
    rw [Below.heap_alloc _ _ _ (by simp; try omega), Below.heap_alloc _ _ _ (by simp; try omega), show w.heap.size + 3 = (((w.alloc PB).alloc (.cells #[.int .i64 0] 3)).alloc (.cells #[.int .i64 0] 30)).heap.size by simp]
    exact heap_alloc_new _ _
  have bA : Boxed W0 (N + 4) 23 (.slice a len cap) := by
    rw [hW0, hN]
    show _ = _
    rw [Below.heap_alloc _ _ _ (by simp; try omega), show w.heap.size + 4 = ((((w.alloc PB).alloc (.cells #[.int .i64 0] 3)).alloc (.cells #[.int .i64 0] 30)).alloc (.cells #[.int .i64 0] 3)).heap.size by simp]
    exact heap_alloc_new _ _
  have bT : Boxed W0 (N + 5) 3 (.int .i64 t) := by
    rw [hW0, hN]
    show _ = _
    rw [show w.heap.size + 5 = (((((w.alloc PB).alloc (.cells #[.int .i64 0] 3)).alloc (.cells #[.int .i64 0] 30)).alloc (.cells #[.int .i64 0] 3)).alloc (.cells #[.slice a len cap] 23)).heap.size by simp]
    exact heap_alloc_new _ _
  have hB0 : Below N w W0 := by rw [hW0, hN]; exact ((((((Below.refl _ _).alloc (Nat.le_refl _) _).alloc (by simp) _).alloc (by simp; omega) _).alloc (by simp; omega) _).alloc (by simp; omega) _).alloc (by simp; omega) _
  subst hPB
  rw [← hN, ← hW0]
  have HN := Lib.hid hN
  have hNw : N ≤ w.heap.size := by omega
  have hm := HS.out.max
  have hl := HS.out.le
  unfold maxLen at hm
  have hpl := plcs_len t E len
  clear hN hW0
  refine wpIn_rangeFunc_ownF rfl (by omega) (gf := 33) (lb := #[.pointer (some ⟨N + 4, 0, none⟩), .pointer (some ⟨N + 5, 0, none⟩)]) rfl trivial (enters_of Try.func33 (by kernel_rfl) rfl)
    (encs := encP) (places_stops 8 (by omega) (w₀ := w) (w := W0) HS.out (by rw [← HN.out]; exact hB0) (N + 4) (N + 5) (by omega) (by omega) bA.cell bT.cell)
    (fun h k => ⟨h.1.trans k.1, k.2.1.trans h.2.1, k.2.2.trans h.2.2⟩) (fun W l o o' hl ho hc hw => ⟨belowK_b (w := W0) (by rw [← HN.out]; omega) W l o o' hl ho hc hw, World.putObj_heap_other (by omega), World.putObj_heap_other (by omega)⟩) (Below.refl _ _) (fun _ => rfl)
    (fun pre W => Blk W N #[.int .i64 num, .int .i64 t, .int .i64 c, .slice la ln lc] 29 ∧ (Boxed W (N + 1) 3 (.int .i64 0) ∧ (Boxed W (N + 2) 30 (.int .i64 0) ∧ (Boxed W (N + 3) 3 (.int .i64 (pre.length : Nat)) ∧ Below N w W))))
    (fun _ _ _ => False)
    (OwnFrom.and (Own.from (blk_own _ _ _) _) (OwnFrom.and (Own.from (boxed_own _ _ _) _) (OwnFrom.and (Own.from (boxed_own _ _ _) _) (OwnFrom.and (Own.from (boxed_own _ _ _) _) (ownFrom_below hNw (by omega))))))
    (fun _ _ _ _ _ hs _ _ => hs)
    ⟨bP, bR, bE, bF, hB0⟩
    (fun x => { tmps := #[.slice a len cap, .agg #[.int .i64 num, .int .i64 t, .int .i64 c, .slice la ln lc], undef, .pointer (some ⟨N, 0, none⟩), .pointer (some ⟨N + 1, 0, none⟩), .pointer (some ⟨N + 2, 0, none⟩), .pointer (some ⟨N + 3, 0, none⟩), undef, undef, .slice a len cap, .pointer (some ⟨N, 1, none⟩), .int .i64 t, .func (.func 33) #[] #[.pointer (some ⟨N + 4, 0, none⟩), .pointer (some ⟨N + 5, 0, none⟩)], .int .i64 (x : Nat), undef, undef, undef, undef, undef, undef, undef, undef, undef, undef, undef, undef, undef, undef, undef, undef, undef, undef, undef, undef, undef, undef, undef], defers := [] }) ?assign ?body ?done ?stop
  case assign =>
    intro l x W K hK
    dsimp only [encP]
    gi_wp2
    exact hK
  case body =>
    rintro l pre x W ⟨b0, b1, b2, b3, hBW⟩ hlt
    have HX : Hid (((pre ++ [x]).length : Nat) = pre.length + 1) := Lib.hid (by simp)
    obtain ⟨m, hm2⟩ : ∃ m, m = pre.length := ⟨_, rfl⟩
    rw [← hm2] at b3 hlt HX
    have c3 := b3.cell
    have hf : W.frozen? ⟨N + 3, 0, none⟩ = false := free_at b3 0
    clear hm2
    gi_wp2
    have h1 : Boxed (W.setCell ⟨N + 3, 0, none⟩ (.int .i64 ((m : Int) + 1))) (N + 3) 3 (.int .i64 ((m : Int) + 1)) := b3.set _
    have hne : ∀ k, k ≠ N + 3 → (W.setCell ⟨N + 3, 0, none⟩ (.int .i64 ((m : Int) + 1))).heap[k]? = W.heap[k]? := fun k hk => heap_setCell_ne _ _ _ _ (by simpa using hk)
    refine ⟨KeepsOthers.setCell _ _ _, ⟨by rw [← HN.out]; exact (Below.refl N W).setCell (p := ⟨N + 3, 0, none⟩) (by simp) _, hne _ (by omega), hne _ (by omega)⟩, (hne _ (by omega)).trans b0, (hne _ (by omega)).trans b1, (hne _ (by omega)).trans b2, ?_, hBW.setCell (p := ⟨N + 3, 0, none⟩) (by simp) _⟩
    rw [HX.out]
    exact h1
  case done =>
    rintro D ys W hD hys ⟨b0, b1, b2, b3, hBW⟩ hK
    have HL : Hid (ys.length = (plcs t E len).length) := Lib.hid (by rw [hys])
    rw [HL.out] at b3
    obtain ⟨L, hL⟩ : ∃ L, L = plcs t E len := ⟨_, rfl⟩
    rw [← hL] at HKF HEF
    rw [← hL] at b3 hpl
    obtain ⟨f, hf⟩ : ∃ f, f = L.length := ⟨_, rfl⟩
    rw [← hf] at b3 HKF HEF hpl
    have HLL := Lib.hid hL
    have HFF := Lib.hid hf
    clear hys HL hf hL
    have c3 := b3.cell
    have c02 : W.cell? ⟨N, 2, none⟩ = some (.int .i64 c) := cell_at b0 2
    have c01 : W.cell? ⟨N, 1, none⟩ = some (.int .i64 t) := cell_at b0 1
    have c1 := b1.cell
    have c2 := b2.cell
    have lN := b0.lt
    have f1 : W.frozen? ⟨N + 1, 0, none⟩ = false := free_at b1 0
    have f2 : W.frozen? ⟨N + 2, 0, none⟩ = false := free_at b2 0
    by_cases hz : f = 0
    · have hz2 : ((f : Int) == 0) = true := by simp [hz]
      gi_wp2_with fail
      obtain ⟨WX, hWX⟩ : ∃ WX, WX = (W.setCell ⟨N + 1, 0, none⟩ (.int .i64 0)).setCell ⟨N + 1 + 1, 0, none⟩ (.int .i64 161) := ⟨_, rfl⟩
      have hne : ∀ k, k ≠ N + 1 → k ≠ N + 2 → WX.heap[k]? = W.heap[k]? := fun k h1 h2 => by rw [hWX]; exact (heap_setCell_ne _ _ _ _ (by simpa using h2)).trans (heap_setCell_ne _ _ _ _ (by simpa using h1))
      have g1 : Boxed WX (N + 1) 3 (.int .i64 0) := by
        rw [hWX]
        exact (heap_setCell_ne _ _ _ _ (by simp)).trans (b1.set _)
      have g2 : Boxed WX (N + 2) 30 (.int .i64 161) := by
        rw [hWX]
        have k2 : Boxed (W.setCell ⟨N + 1, 0, none⟩ (.int .i64 0)) (N + 2) 30 (.int .i64 0) := (heap_setCell_ne _ _ _ _ (by simp)).trans b2
        exact k2.set _
      have hBX : Below N w WX := by
        rw [hWX]
        exact (hBW.setCell (p := ⟨N + 1, 0, none⟩) (by simp) _).setCell (p := ⟨N + 1 + 1, 0, none⟩) (by simp; try omega) _
      rw [← hWX]
      clear hWX
      refine ⟨by simp, .inl ⟨_, _, rfl, run_takeDeferred ((hne D (by omega) (by omega)).trans hK), ?_⟩⟩
      have hr1 : Boxed (WX.putObj D (Obj.deferred none)) (N + 1) 3 (.int .i64 0) := (World.putObj_heap_other (by omega)).trans g1
      have hr2 : Boxed (WX.putObj D (Obj.deferred none)) (N + 2) 30 (.int .i64 161) := (World.putObj_heap_other (by omega)).trans g2
      have q1 : (WX.putObj D (Obj.deferred none)).cell? ⟨N + 1, 0, none⟩ = some (.int .i64 0) := hr1.cell
      have q2 : (WX.putObj D (Obj.deferred none)).cell? ⟨N + 1 + 1, 0, none⟩ = some (.int .i64 161) := hr2.cell
      refine ⟨_, (by simp [results, Try.results15, go_sem, q1, q2]; rfl), by rw [HKF.out, HEF.out]; simp [hz], ?_⟩
      rw [← HN.out]
      exact hBX.trans (belowK_b (w := W0) (by omega) WX D _ _ hD ((hne D (by omega) (by omega)).trans hK) rfl rfl)
    · have hz2 : ((f : Int) == 0) = false := by simpa using hz
      by_cases hc0 : c < 0
      · have d0 : decide (c < 0) = true := by simpa using hc0
        gi_wp2_with fail
        obtain ⟨WX, hWX⟩ : ∃ WX, WX = (W.setCell ⟨N + 1, 0, none⟩ (.int .i64 0)).setCell ⟨N + 1 + 1, 0, none⟩ (.int .i64 2) := ⟨_, rfl⟩
        have hne : ∀ k, k ≠ N + 1 → k ≠ N + 2 → WX.heap[k]? = W.heap[k]? := fun k h1 h2 => by rw [hWX]; exact (heap_setCell_ne _ _ _ _ (by simpa using h2)).trans (heap_setCell_ne _ _ _ _ (by simpa using h1))
        have g1 : Boxed WX (N + 1) 3 (.int .i64 0) := by
          rw [hWX]
          exact (heap_setCell_ne _ _ _ _ (by simp)).trans (b1.set _)
        have g2 : Boxed WX (N + 2) 30 (.int .i64 2) := by
          rw [hWX]
          have k2 : Boxed (W.setCell ⟨N + 1, 0, none⟩ (.int .i64 0)) (N + 2) 30 (.int .i64 0) := (heap_setCell_ne _ _ _ _ (by simp)).trans b2
          exact k2.set _
        have hBX : Below N w WX := by
          rw [hWX]
          exact (hBW.setCell (p := ⟨N + 1, 0, none⟩) (by simp) _).setCell (p := ⟨N + 1 + 1, 0, none⟩) (by simp; try omega) _
        rw [← hWX]
        clear hWX
        refine ⟨by simp, .inl ⟨_, _, rfl, run_takeDeferred ((hne D (by omega) (by omega)).trans hK), ?_⟩⟩
        have hr1 : Boxed (WX.putObj D (Obj.deferred none)) (N + 1) 3 (.int .i64 0) := (World.putObj_heap_other (by omega)).trans g1
        have hr2 : Boxed (WX.putObj D (Obj.deferred none)) (N + 2) 30 (.int .i64 2) := (World.putObj_heap_other (by omega)).trans g2
        have q1 : (WX.putObj D (Obj.deferred none)).cell? ⟨N + 1, 0, none⟩ = some (.int .i64 0) := hr1.cell
        have q2 : (WX.putObj D (Obj.deferred none)).cell? ⟨N + 1 + 1, 0, none⟩ = some (.int .i64 2) := hr2.cell
        refine ⟨_, (by simp [results, Try.results15, go_sem, q1, q2]; rfl), by rw [HKF.out, HEF.out]; simp [hz, hc0], ?_⟩
        rw [← HN.out]
        exact hBX.trans (belowK_b (w := W0) (by omega) WX D _ _ hD ((hne D (by omega) (by omega)).trans hK) rfl rfl)
      · have d0 : decide (c < 0) = false := by simpa using hc0
        gi_wp2_with (first
          | (refine ⟨trivial, ?_⟩; gi_at_call 28; refine (callsIn_wide.2 (places_any _ _ _ _ _)).mono ?_; rintro e w2 ⟨rfl, rfl⟩)
          | fail)
        obtain ⟨R, hR⟩ : ∃ R : Nat, c % (f : Int) = (R : Nat) := ⟨(c % (f : Int)).toNat, by have := Int.emod_nonneg c (b := (f : Int)) (by omega); omega⟩
        have hRf : R < f := by have := Int.emod_lt_of_pos c (b := (f : Int)) (by omega); omega
        rw [hR]
        rw [hR] at HKF
        have HKK : Hid (kf = (L.getD R 0 : Nat)) := Lib.hid (by rw [HKF.out, if_neg hz, if_neg (by omega)]; simp)
        have HEE : Hid (ef = 0) := Lib.hid (by rw [HEF.out, if_neg hz, if_neg (by omega)])
        clear HKF HEF
        have hDW : D < W.heap.size := (Array.getElem?_eq_some_iff.1 hK).1
        obtain ⟨M, hM⟩ : ∃ M, M = W.heap.size := ⟨_, rfl⟩
        obtain ⟨W2, hW2⟩ : ∃ W2, W2 = ((W.alloc (.cells #[.int .i64 (R : Nat)] 3)).alloc (.cells #[.slice a len cap] 23)).alloc (.cells #[.int .i64 t] 3) := ⟨_, rfl⟩
        have hs2 : W2.heap.size = M + 3 := by rw [hW2, hM]; simp
        have bn : Boxed W2 M 3 (.int .i64 (R : Nat)) := by
          rw [hW2, hM]
          show _ = _
          rw [Below.heap_alloc _ _ _ (by simp; try omega), Below.heap_alloc _ _ _ (by simp; try omega)]
          exact heap_alloc_new W _
        have ba : Boxed W2 (M + 1) 23 (.slice a len cap) := by
          rw [hW2, hM]
          show _ = _
          rw [Below.heap_alloc _ _ _ (by simp; try omega), ← World.size_alloc W (.cells #[.int .i64 (R : Nat)] 3)]
          exact heap_alloc_new _ _
        have bt : Boxed W2 (M + 2) 3 (.int .i64 t) := by
          rw [hW2, hM]
          show _ = _
          rw [show W.heap.size + 2 = ((W.alloc (.cells #[.int .i64 (R : Nat)] 3)).alloc (.cells #[.slice a len cap] 23)).heap.size by simp]
          exact heap_alloc_new _ _
        have hold : ∀ k, k < M → W2.heap[k]? = W.heap[k]? := fun k hk => by
          rw [hW2, Below.heap_alloc _ _ _ (by simp; try omega), Below.heap_alloc _ _ _ (by simp; try omega), Below.heap_alloc _ _ _ (by omega)]
        have hB2 : Below M W W2 := by rw [hW2, hM]; exact (((Below.refl _ _).alloc (Nat.le_refl _) _).alloc (by simp) _).alloc (by simp; omega) _
        rw [← hM, ← hW2]
        have hNM : N + 6 ≤ M := by omega
        have hDM : D < M := by omega
        have bE1 : Boxed W2 (N + 1) 3 (.int .i64 0) := (hold _ (by omega)).trans b1
        have bE2 : Boxed W2 (N + 2) 30 (.int .i64 0) := (hold _ (by omega)).trans b2
        have bED : W2.heap[D]? = some (.deferred (some [])) := (hold _ (by omega)).trans hK
        have hBB : Below N w W2 := hBW.trans (hB2.mono (by omega))
        have HM := Lib.hid hM
        clear hM hW2 hold hB2 b0 b1 b2 b3 hBW hK c3 c02 c01 c1 c2 lN f1 f2
        refine wpIn_rangeFunc_ownF rfl (by omega) (gf := 33) (lb := #[.pointer (some ⟨M + 1, 0, none⟩), .pointer (some ⟨M + 2, 0, none⟩)]) rfl trivial (enters_of Try.func33 (by kernel_rfl) rfl)
          (encs := encP) (places_stops 8 (by omega) (w₀ := w) (w := W2) HS.out (by rw [← HN.out]; exact hBB) (M + 1) (M + 2) (by omega) (by omega) ba.cell bt.cell)
          (fun h k => ⟨h.1.trans k.1, k.2.1.trans h.2.1, k.2.2.trans h.2.2⟩) (fun W l o o' hl ho hc hw => ⟨belowK_b (w := W2) (by rw [← HN.out]; omega) W l o o' hl ho hc hw, World.putObj_heap_other (by omega), World.putObj_heap_other (by omega)⟩) (Below.refl _ _) (fun _ => rfl)
          (fun pre W => Boxed W (N + 1) 3 (.int .i64 0) ∧ (Boxed W (N + 2) 30 (.int .i64 0) ∧ (Boxed W M 3 (.int .i64 ((R : Int) - (pre.length : Nat))) ∧ (W.heap[D]? = some (.deferred (some [])) ∧ (Below N w W ∧ pre.length ≤ R)))))
          (fun k pre W => Boxed W (N + 1) 3 (.int .i64 (lastP pre : Nat)) ∧ (Boxed W (N + 2) 30 (.int .i64 0) ∧ (W.heap[D]? = some (.deferred (some [])) ∧ (Below N w W ∧ (pre.length = R + 1 ∧ k = .ret)))))
          (OwnFrom.and (Own.from (boxed_own _ _ _) _) (OwnFrom.and (Own.from (boxed_own _ _ _) _) (OwnFrom.and (Own.from (boxed_own _ _ _) _) (OwnFrom.and (at_own (by omega)) (OwnFrom.and (ownFrom_below hNw (by omega)) (fun _ _ _ _ hs _ _ => hs))))))
          (fun k => OwnFrom.and (Own.from (boxed_own _ _ _) _) (OwnFrom.and (Own.from (boxed_own _ _ _) _) (OwnFrom.and (at_own (by omega)) (OwnFrom.and (ownFrom_below hNw (by omega)) (fun _ _ _ _ hs _ _ => hs)))))
          ⟨bE1, bE2, by simpa using bn, bED, hBB, by simp⟩
          (fun x => { tmps := #[.slice a len cap, .agg #[.int .i64 num, .int .i64 t, .int .i64 c, .slice la ln lc], undef, .pointer (some ⟨N, 0, none⟩), .pointer (some ⟨N + 1, 0, none⟩), .pointer (some ⟨N + 2, 0, none⟩), .pointer (some ⟨N + 3, 0, none⟩), .pointer (some ⟨M, 0, none⟩), .int .i64 (x : Nat), .slice a len cap, .pointer (some ⟨N, 1, none⟩), .int .i64 t, .func (.func 33) #[] #[.pointer (some ⟨N + 4, 0, none⟩), .pointer (some ⟨N + 5, 0, none⟩)], undef, undef, undef, .bool false, .int .i64 (f : Nat), .bool false, .bool false, .pointer (some ⟨N, 2, none⟩), .int .i64 c, .bool false, .pointer (some ⟨N, 2, none⟩), .int .i64 c, .int .i64 (f : Nat), .int .i64 (R : Nat), .slice a len cap, .pointer (some ⟨N, 1, none⟩), .int .i64 t, .func (.func 33) #[] #[.pointer (some ⟨M + 1, 0, none⟩), .pointer (some ⟨M + 2, 0, none⟩)], .int .i64 (x : Nat), undef, undef, undef, undef, undef], defers := [] }) ?assign2 ?body2 ?done2 ?stop2
        case assign2 =>
          intro l x W K hK
          dsimp only [encP]
          gi_wp2
          exact hK
        case body2 =>
          rintro l pre x W ⟨b1, b2, b3, bD, hBW, hpR⟩ hlt
          have HX : Hid (((pre ++ [x]).length : Nat) = pre.length + 1) := Lib.hid (by simp)
          have HLP := Lib.hid (lastP_snoc pre x)
          obtain ⟨m, hm2⟩ : ∃ m, m = pre.length := ⟨_, rfl⟩
          rw [← hm2] at b3 hlt HX hpR
          have c3 := b3.cell
          have c1 := b1.cell
          have c2 := b2.cell
          have hf3 : W.frozen? ⟨M, 0, none⟩ = false := free_at b3 0
          have hf1 : W.frozen? ⟨N + 1, 0, none⟩ = false := free_at b1 0
          have hf2 : W.frozen? ⟨N + 2, 0, none⟩ = false := free_at b2 0
          clear hm2
          by_cases hz3 : (R : Int) - m = 0
          · have hz4 : ((R : Int) - m == 0) = true := by simpa using hz3
            have HRM : Hid (m = R) := Lib.hid (by omega)
            gi_wp2
            obtain ⟨WX, hWX⟩ : ∃ WX, WX = (W.setCell ⟨N + 1, 0, none⟩ (.int .i64 (x : Nat))).setCell ⟨N + 1 + 1, 0, none⟩ (.int .i64 0) := ⟨_, rfl⟩
            have hne : ∀ k, k ≠ N + 1 → k ≠ N + 2 → WX.heap[k]? = W.heap[k]? := fun k h1 h2 => by rw [hWX]; exact (heap_setCell_ne _ _ _ _ (by simpa using h2)).trans (heap_setCell_ne _ _ _ _ (by simpa using h1))
            have g1 : Boxed WX (N + 1) 3 (.int .i64 (lastP (pre ++ [x]) : Nat)) := by
              rw [hWX, HLP.out]
              exact (heap_setCell_ne _ _ _ _ (by simp)).trans (b1.set _)
            have g2 : Boxed WX (N + 2) 30 (.int .i64 0) := by
              rw [hWX]
              have k2 : Boxed (W.setCell ⟨N + 1, 0, none⟩ (.int .i64 (x : Nat))) (N + 2) 30 (.int .i64 0) := (heap_setCell_ne _ _ _ _ (by simp)).trans b2
              exact k2.set _
            have hBX : Below N w WX := by
              rw [hWX]
              exact (hBW.setCell (p := ⟨N + 1, 0, none⟩) (by simp) _).setCell (p := ⟨N + 1 + 1, 0, none⟩) (by simp; try omega) _
            have hKX : KeepsOthers W WX := by
              rw [hWX]
              exact KeepsOthers.trans (KeepsOthers.setCell _ _ _) (KeepsOthers.setCell _ _ _)
            rw [← hWX]
            exact ⟨hKX, g1, g2, (hne D (by omega) (by omega)).trans bD, hBX, by rw [HX.out, HRM.out], rfl⟩
          · have hz4 : ((R : Int) - m == 0) = false := by simpa using hz3
            gi_wp2
            have e9 : (R : Int) - ((m + 1 : Nat) : Int) = (R : Int) - m - 1 := by omega
            have hne : ∀ k, k ≠ M → (W.setCell ⟨M, 0, none⟩ (.int .i64 ((R : Int) - m - 1))).heap[k]? = W.heap[k]? := fun k hk => heap_setCell_ne _ _ _ _ (by simpa using hk)
            refine ⟨KeepsOthers.setCell _ _ _, ⟨by rw [← HN.out]; exact (Below.refl N W).setCell (p := ⟨M, 0, none⟩) (by simp; omega) _, hne _ (by omega), hne _ (by omega)⟩, (hne _ (by omega)).trans b1, (hne _ (by omega)).trans b2, ?_, (hne _ (by omega)).trans bD, hBW.setCell (p := ⟨M, 0, none⟩) (by simp; omega) _, by rw [HX.out]; omega⟩
            rw [HX.out, e9]
            exact b3.set _
        case done2 =>
          rintro D2 ys W hD2 hys ⟨_, _, _, _, _, hle⟩ _
          exfalso
          rw [hys, ← HLL.out, ← HFF.out] at hle
          omega
        case stop2 =>
          rintro D2 k pre W hD2 ⟨j, hj, hpj, _⟩ ⟨b1, b2, bD, hBW, hpre, rfl⟩ hK2
          have HF : Hid (L.getD R 0 = lastP pre) := Lib.hid (by
            obtain ⟨tl, htl⟩ := plcs_pre t E j len hj
            rw [HLL.out, htl, ← hpj]
            exact last_at pre tl R hpre)
          clear hpj
          gi_wp2
          have hKD : (W.putObj D2 (Obj.deferred none)).heap[D]? = some (.deferred (some [])) := (World.putObj_heap_other (by omega)).trans bD
          refine ⟨by simp, .inl ⟨_, _, rfl, run_takeDeferred hK2, by simp, .inl ⟨_, _, rfl, run_takeDeferred hKD, ?_⟩⟩⟩
          have hr1 : Boxed ((W.putObj D2 (Obj.deferred none)).putObj D (Obj.deferred none)) (N + 1) 3 (.int .i64 (lastP pre : Nat)) := (World.putObj_heap_other (by omega)).trans ((World.putObj_heap_other (by omega)).trans b1)
          have hr2 : Boxed ((W.putObj D2 (Obj.deferred none)).putObj D (Obj.deferred none)) (N + 2) 30 (.int .i64 0) := (World.putObj_heap_other (by omega)).trans ((World.putObj_heap_other (by omega)).trans b2)
          have q1 : ((W.putObj D2 (Obj.deferred none)).putObj D (Obj.deferred none)).cell? ⟨N + 1, 0, none⟩ = some (.int .i64 (lastP pre : Nat)) := hr1.cell
          have q2 : ((W.putObj D2 (Obj.deferred none)).putObj D (Obj.deferred none)).cell? ⟨N + 1 + 1, 0, none⟩ = some (.int .i64 0) := hr2.cell
          refine ⟨_, (by simp [results, Try.results15, go_sem, q1, q2]; rfl), by rw [HKK.out, HEE.out, HF.out], ?_⟩
          rw [← HN.out]
          exact (hBW.trans (belowK_b (w := W2) (by omega) W D2 _ _ hD2 hK2 rfl rfl)).trans (belowK_b (w := W0) (by omega) _ D _ _ hD hKD rfl rfl)
  case stop =>
    rintro D c pre W _ _ h _
    exact h.elim
end Go.Proofs.Ytcimcmfibinehaa
