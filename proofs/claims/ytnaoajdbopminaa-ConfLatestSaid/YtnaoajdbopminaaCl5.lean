/-
  Package conf: does an entry of a term stand at most at an index?
-/
import Derived.Test.YtnaoajdbopminaaCl3
import Derived.Test.YtnaoajdbopminaaCl4
namespace Go.Proofs.Ytnaoajdbopminaa
open Go.RowKit Go.Shelf
set_option linter.unusedSimpArgs false
set_option linter.unusedVariables false

attribute [local go_sem] Oper.semAt_some

theorem terms_any (base bt : Int) (v : Value) (w : World) : Calls Try.prog 95 #[.agg #[.int .i64 base, .int .i64 bt, v]] w fun e w' => e = .returned (.func (.func 101) #[] #[.pointer (some ⟨w.heap.size, 0, none⟩)]) ∧ w.alloc (.cells #[.int .i64 base, .int .i64 bt, v] 63) = w' := by
  have hmf : ∀ (fn : Fn) (first cap : Array Value) (w : World), (Instr.makeFunc fn first cap).run Try.prog w = .ok (.func fn first cap) w := fun _ _ _ _ => rfl
  go_enter Try.func95, Try.ntmps95
  go_wp2
  go_ret
  exact ⟨rfl, rfl⟩
theorem terms_stops (nn : Nat) (hnn : 1 ≤ nn) {w₀ w : World} {base bt : Int} {a : Option Addr} {len cap b o : Nat} {E : Nat → Ent} (hb : 0 ≤ base ∧ base ≤ 1099511627776 - len ∧ len ≤ 4096) (hs : EntsIn w₀ a len cap b o E) (hw : Below w₀.heap.size w₀ w) (Bs : Nat) (hBs : Bs < w.heap.size)
    (h0 : w.cell? ⟨Bs, 0, none⟩ = some (.int .i64 base)) (h1 : w.cell? ⟨Bs, 1, none⟩ = some (.int .i64 bt)) (h2 : w.cell? ⟨Bs, 2, none⟩ = some (.slice a len cap)) :
    SeqStopsK Fence.wide nn Try.prog 101 #[.pointer (some ⟨Bs, 0, none⟩)] encT (KpB w₀.heap.size Bs) (fun ys => ys = termsL base bt E len) (fun pre => ∃ k, k ≤ len ∧ pre = termsL base bt E k ∧ pre ≠ []) (len + 1) w := by
  intro l J Jx W hW hJ hJx hY hJ0
  exact terms1_in nn hnn l Bs _ base bt a len cap b o E hb w₀ rfl hs J Jx hY W (fun pre W1 X hj hB => hJ pre W1 X none hj ⟨hB.os, hB.tape, hB.output, hB.size, fun k hk _ => hB.block k hk⟩ (fun _ e => by cases e)) (hw.trans (hW.mono hw.size)) (Nat.lt_of_lt_of_le hBs hW.size)
    ((hW.cell (p := ⟨Bs, 0, none⟩) hBs).trans h0) ((hW.cell (p := ⟨Bs, 1, none⟩) hBs).trans h1) ((hW.cell (p := ⟨Bs, 2, none⟩) hBs).trans h2) hJ0

def hitB (t c : Int) (x : Int × Int) : Bool := (x.2 == t) && decide (x.1 ≤ c)
def HasHit (q : Bool) (t c : Int) (l : List (Int × Int)) : Prop := l.any (hitB t c) = q
theorem terms_hit (base bt : Int) (E : Nat → Ent) (t c : Int) : ∀ k, (termsL base bt E k).any (hitB t c) = (headT base bt t c || begB base E t c k)
  | 0 => by
    unfold termsL headL headT begB
    by_cases h : 0 < base
    · simp [h, hitB, Bool.and_comm]
    · simp [h]
  | k + 1 => by
    unfold termsL begB
    rw [List.any_append, terms_hit base bt E t c k]
    simp [hitB, Bool.and_comm, Bool.or_assoc]
theorem begB_mono {base : Int} {E : Nat → Ent} {t c : Int} : ∀ (n k : Nat), k ≤ n → begB base E t c k = true → begB base E t c n = true
  | 0, k, h, hk => by
    have e : k = 0 := by omega
    rw [e] at hk
    exact hk
  | n + 1, k, h, hk => by
    by_cases e : k = n + 1
    · rw [← e]; exact hk
    · unfold begB; rw [begB_mono n k (by omega) hk]; rfl

set_option maxRecDepth 100000 in
set_option maxHeartbeats 4000000 in
theorem began_any (base bt : Int) (a : Option Addr) (len cap b o : Nat) (E : Nat → Ent) (t c : Int) (hb : 0 ≤ base ∧ base ≤ 1099511627776 - len ∧ len ≤ 4096) (w : World) (hs : EntsIn w a len cap b o E) :
    Calls Try.prog 77 #[.agg #[.int .i64 base, .int .i64 bt, .slice a len cap], .int .i64 t, .int .i64 c] w fun e w' => e = .returned (.bool (begunB base bt len E t c)) ∧ Below w.heap.size w w' := by
  refine (callsIn_wide (n := 9)).1 ?_
  refine callsIn_of_wp_marks Try.func77 rfl trivial ?_ rfl
  simp only [Try.ntmps77, List.size_toArray, List.length_cons, List.length_nil, Nat.reduceAdd, Nat.reduceSub, Array.replicate_succ, Array.replicate_zero, List.push_toArray, List.append_toArray, List.nil_append, List.cons_append]
  have HS := Lib.hid hs
  have HB := Lib.hid hb
  have HBG : Hid (begunB base bt len E t c = (termsL base bt E len).any (hitB t c)) := Lib.hid (terms_hit base bt E t c len).symm
  have HBK : Hid (∀ k, k ≤ len → (termsL base bt E k).any (hitB t c) = true → begunB base bt len E t c = true) := Lib.hid (fun k hk h => by
    rw [terms_hit] at h
    unfold begunB
    cases hh : headT base bt t c
    · rw [hh, Bool.false_or] at h; rw [begB_mono len k hk h]; rfl
    · rfl)
  clear hs hb
  obtain ⟨R, hR⟩ : ∃ R, R = begunB base bt len E t c := ⟨_, rfl⟩
  rw [← hR] at HBG HBK ⊢
  clear hR
  gi_wp2_with (first
    | (refine ⟨trivial, ?_⟩; gi_at_call 95; refine (callsIn_wide.2 (terms_any _ _ _ _)).mono ?_; rintro e w2 ⟨rfl, rfl⟩)
    | fail)
  obtain ⟨N, hN⟩ : ∃ N, N = w.heap.size := ⟨_, rfl⟩
  obtain ⟨RW, hRW⟩ : ∃ RW, RW = Obj.cells #[.int .i64 base, .int .i64 bt, .slice a len cap] 63 (0, 0) := ⟨_, rfl⟩
  obtain ⟨W0, hW0⟩ : ∃ W0, W0 = (((((w.alloc RW).alloc (.cells #[.int .i64 t] 3)).alloc (.cells #[.int .i64 c] 3)).alloc (.cells #[.bool false] 4)).alloc RW) := ⟨_, rfl⟩
  have hs0 : W0.heap.size = N + 5 := by rw [hW0, hN]; simp
  have bT : Boxed W0 (N + 1) 3 (.int .i64 t) := by
    rw [hW0, hN]
    show _ = _
    rw [Below.heap_alloc _ _ _ (by simp), Below.heap_alloc _ _ _ (by simp), Below.heap_alloc _ _ _ (by simp), ← World.size_alloc w RW]
    exact heap_alloc_new _ _
  have bC : Boxed W0 (N + 2) 3 (.int .i64 c) := by
    rw [hW0, hN]
    show _ = _
    rw [Below.heap_alloc _ _ _ (by simp), Below.heap_alloc _ _ _ (by simp), show w.heap.size + 2 = ((w.alloc RW).alloc (.cells #[.int .i64 t] 3)).heap.size by simp]
    exact heap_alloc_new _ _
  have bR : Boxed W0 (N + 3) 4 (.bool false) := by
    rw [hW0, hN]
    show _ = _
    rw [Below.heap_alloc _ _ _ (by simp), show w.heap.size + 3 = (((w.alloc RW).alloc (.cells #[.int .i64 t] 3)).alloc (.cells #[.int .i64 c] 3)).heap.size by simp]
    exact heap_alloc_new _ _
  have bM : W0.heap[N + 4]? = some RW := by
    rw [hW0, hN, show w.heap.size + 4 = ((((w.alloc RW).alloc (.cells #[.int .i64 t] 3)).alloc (.cells #[.int .i64 c] 3)).alloc (.cells #[.bool false] 4)).heap.size by simp]
    exact heap_alloc_new _ _
  have hB0 : Below N w W0 := by rw [hW0, hN]; exact (((((Below.refl _ _).alloc (Nat.le_refl _) _).alloc (by simp) _).alloc (by simp; omega) _).alloc (by simp; omega) _).alloc (by simp; omega) _
  rw [hRW] at bM
  subst hRW
  rw [← hN, ← hW0]
  have HN := Lib.hid hN
  clear hN hW0
  refine wpIn_rangeFunc_ownF rfl (by omega) (gf := 101) (lb := #[.pointer (some ⟨N + 4, 0, none⟩)]) rfl trivial (enters_of Try.func101 (by kernel_rfl) rfl)
    (encs := encT) (terms_stops 8 (by omega) (w₀ := w) (w := W0) HB.out HS.out (by rw [← HN.out]; exact hB0) (N + 4) (by omega) (cell_at bM 0) (cell_at bM 1) (cell_at bM 2))
    (fun h k => ⟨h.1.trans k.1, k.2.trans h.2⟩) (fun W l o o' hl ho hc hw => ⟨belowK_b (w := W0) (by rw [← HN.out]; omega) W l o o' hl ho hc hw, World.putObj_heap_other (by omega)⟩) (Below.refl _ _) (fun _ => rfl)
    (fun pre W => Boxed W (N + 1) 3 (.int .i64 t) ∧ (Boxed W (N + 2) 3 (.int .i64 c) ∧ (Boxed W (N + 3) 4 (.bool false) ∧ (Below N w W ∧ HasHit false t c pre))))
    (fun k pre W => Boxed W (N + 3) 4 (.bool true) ∧ (Below N w W ∧ (HasHit true t c pre ∧ k = .ret)))
    (OwnFrom.and (Own.from (boxed_own _ _ _) _) (OwnFrom.and (Own.from (boxed_own _ _ _) _) (OwnFrom.and (Own.from (boxed_own _ _ _) _) (OwnFrom.and (ownFrom_below (by rw [HN.out]; exact Nat.le_refl _) (by omega)) (fun _ _ _ _ hs _ _ => hs)))))
    (fun k => OwnFrom.and (Own.from (boxed_own _ _ _) _) (OwnFrom.and (ownFrom_below (by rw [HN.out]; exact Nat.le_refl _) (by omega)) (fun _ _ _ _ hs _ _ => hs)))
    ⟨bT, bC, bR, hB0, rfl⟩
    (fun x => { tmps := #[.agg #[.int .i64 base, .int .i64 bt, .slice a len cap], .int .i64 t, .int .i64 c, .pointer (some ⟨N, 0, none⟩), .pointer (some ⟨N + 1, 0, none⟩), .pointer (some ⟨N + 2, 0, none⟩), .pointer (some ⟨N + 3, 0, none⟩), .int .i64 x.1, .int .i64 x.2, .agg #[.int .i64 base, .int .i64 bt, .slice a len cap], .func (.func 101) #[] #[.pointer (some ⟨N + 4, 0, none⟩)], .int .i64 x.1, .int .i64 x.2, undef, undef, undef, undef, undef, undef, undef, undef], defers := [] }) ?assign ?body ?done ?stop
  case assign =>
    intro l x W K hK
    dsimp only [encT]
    gi_wp2
    exact hK
  case body =>
    rintro l pre x W ⟨b1, b2, b3, hBW, hpre⟩ hlt
    obtain ⟨i, u⟩ := x
    have c1 := b1.cell
    have c2 := b2.cell
    have c3 := b3.cell
    have hf : W.frozen? ⟨N + 3, 0, none⟩ = false := free_at b3 0
    have HP := hpre
    clear hpre
    by_cases h1 : u = t
    · subst h1
      have d1 : (u == u) = true := by simp
      by_cases h2 : i ≤ c
      · have d2 : decide (i ≤ c) = true := by simpa using h2
        have HX : HasHit true u c (pre ++ [(i, u)]) := (by unfold HasHit; simp [hitB, d2])
        gi_wp2
        exact ⟨KeepsOthers.setCell _ _ _, b3.set _, hBW.setCell (p := ⟨N + 3, 0, none⟩) (by simp) _, HX, rfl⟩
      · have d2 : decide (i ≤ c) = false := by simpa using h2
        have HX : HasHit false u c (pre ++ [(i, u)]) := (by unfold HasHit; rw [List.any_append, show pre.any (hitB u c) = false from HP]; simp [hitB, d2])
        gi_wp2
        exact ⟨KeepsOthers.refl _, ⟨Below.refl _ _, rfl⟩, b1, b2, b3, hBW, HX⟩
    · have d1 : (u == t) = false := by simpa using h1
      have HX : HasHit false t c (pre ++ [(i, u)]) := (by unfold HasHit; rw [List.any_append, show pre.any (hitB t c) = false from HP]; simp [hitB, d1])
      gi_wp2
      exact ⟨KeepsOthers.refl _, ⟨Below.refl _ _, rfl⟩, b1, b2, b3, hBW, HX⟩
  case done =>
    rintro D ys W hD hys ⟨b1, b2, b3, hBW, hpre⟩ hK
    have HF : Hid (R = false) := Lib.hid (by rw [HBG.out, ← hys]; exact hpre)
    have c3 := b3.cell
    have hf : W.frozen? ⟨N + 3, 0, none⟩ = false := free_at b3 0
    clear hys hpre
    gi_wp2
    have hK2 : (W.setCell ⟨N + 3, 0, none⟩ (.bool false)).heap[D]? = some (.deferred (some [])) := (heap_setCell_ne W ⟨N + 3, 0, none⟩ _ D (by simp only; omega)).trans hK
    have hR2 : Boxed (W.setCell ⟨N + 3, 0, none⟩ (.bool false)) (N + 3) 4 (.bool false) := b3.set _
    refine ⟨by simp, .inl ⟨_, _, rfl, run_takeDeferred hK2, ?_⟩⟩
    have hR3 : Boxed ((W.setCell ⟨N + 3, 0, none⟩ (.bool false)).putObj D (Obj.deferred none)) (N + 3) 4 (.bool false) := (World.putObj_heap_other (by omega)).trans hR2
    have hc4 : ((W.setCell ⟨N + 3, 0, none⟩ (.bool false)).putObj D (Obj.deferred none)).cell? ⟨N + 1 + 1 + 1, 0, none⟩ = some (.bool false) := hR3.cell
    refine ⟨_, (by simp [results, Try.results77, go_sem, hc4]; rfl), by rw [HF.out], ?_⟩
    rw [← HN.out]
    exact (hBW.setCell (p := ⟨N + 3, 0, none⟩) (by simp) _).trans (belowK_b (w := W0) (by omega) _ D _ _ hD hK2 rfl rfl)
  case stop =>
    rintro D k pre W hD ⟨j, hj, hpj, _⟩ ⟨b3, hBW, hpre, rfl⟩ hK
    have HF : Hid (R = true) := Lib.hid (HBK.out j hj (by rw [← hpj]; exact hpre))
    clear hpj hpre
    gi_wp2
    refine ⟨by simp, .inl ⟨_, _, rfl, run_takeDeferred hK, ?_⟩⟩
    have hR3 : Boxed (W.putObj D (Obj.deferred none)) (N + 3) 4 (.bool true) := (World.putObj_heap_other (by omega)).trans b3
    have hc4 : (W.putObj D (Obj.deferred none)).cell? ⟨N + 1 + 1 + 1, 0, none⟩ = some (.bool true) := hR3.cell
    refine ⟨_, (by simp [results, Try.results77, go_sem, hc4]; rfl), by rw [HF.out], ?_⟩
    rw [← HN.out]
    exact hBW.trans (belowK_b (w := W0) (by omega) W D _ _ hD hK rfl rfl)
end Go.Proofs.Ytnaoajdbopminaa
