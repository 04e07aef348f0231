/-
  Package virtual: no flow is picked; a flow is served. The document's answer beside it.
-/
import Derived.Test.YtnainlemnkfpkaaVu12
namespace Go.Proofs.Ytnainlemnkfpkaa
open Go.RowKit
set_option linter.unusedSimpArgs false
set_option linter.unusedVariables false

set_option maxRecDepth 100000 in
set_option maxHeartbeats 8000000 in
theorem pick_bad (V : Int) (a : Option Addr) (n c b o : Nat) (T : Nat → TagsE) (ra : Option Addr) (rn rc : Nat) (w : World) (hs : TagsIn w a n c b o T) (hrl : rn ≤ rc) (hrm : rc ≤ maxLen) (hh : vokB V n T = false ∨ (vokB V n T = true ∧ rn ≠ n)) :
    Calls Try.prog 28 #[.agg #[.int .i64 V, .slice a n c], .slice ra rn rc] w (PickOut w 0 0 zeroT 0 false) := by
  have hm := hs.max
  have hl := hs.le
  unfold maxLen at hm hrm
  have HQ := Lib.hid (P3.mk0 w #[.int .i64 V, .slice a n c] #[.slice ra rn rc] #[.int .i64 0, .slice none 0 0] 39 41 39)
  have HS := Lib.hid hs
  obtain ⟨C, hC⟩ : ∃ C, C = vokB V n T := ⟨_, rfl⟩
  have C1 : Hid (∀ W, TagsIn W a n c b o T → Calls Try.prog 42 #[.agg #[.int .i64 V, .slice a n c]] W fun e w' => e = .returned (.bool C) ∧ Below W.heap.size W w') := Lib.hid (fun W h => by rw [hC]; exact check_any V a n c b o T W h)
  rw [← hC] at hh
  have hb : rn ≠ n → ((rn : Int) != (n : Int)) = true := fun h => by rw [bne_iff_ne]; omega
  clear hs hC
  rcases hh with rfl | ⟨rfl, h⟩
  · clear hb
    go_enter Try.func28, Try.ntmps28
    go_wp2_with (go_at_call 42; refine Calls.mono (C1.out _ (HS.out.below HQ.out.2.2.2)) ?_; rintro e W1 ⟨rfl, hW1⟩; have HQ1 := Lib.hid (HQ.out.step hW1); have r0 := HQ1.out.1.1; have z0 := HQ1.out.1.2.2; have r1 := HQ1.out.2.1.1; have z1 := HQ1.out.2.1.2.2; have y0 := HQ1.out.2.2.1.1; have y1 := HQ1.out.2.2.1.2.1; have y2 := HQ1.out.2.2.1.2.2)
    refine bodyPost_ret (v := .tuple #[.agg #[.int .i64 0, .slice none 0 0], .int .i64 0, .bool false]) (by simp [results, Try.results28, go_sem, y0, y1, y2]) rfl ⟨_, rfl, none, 0, none, rfl, Row.nil _ _ _, (fun _ h => by cases h), ?_⟩
    exact (HQ1.out.2.2.2.setCell (by simp only; omega) _).setCell (by simp only; omega) _
  · have hne := hb h
    have hne2 : decide ((rn : Nat) = n) = false := by simpa using h
    clear hb
    go_enter Try.func28, Try.ntmps28
    go_wp2_with (go_at_call 42; refine Calls.mono (C1.out _ (HS.out.below HQ.out.2.2.2)) ?_; rintro e W1 ⟨rfl, hW1⟩; have HQ1 := Lib.hid (HQ.out.step hW1); have r0 := HQ1.out.1.1; have z0 := HQ1.out.1.2.2; have r1 := HQ1.out.2.1.1; have z1 := HQ1.out.2.1.2.2; have y0 := HQ1.out.2.2.1.1; have y1 := HQ1.out.2.2.1.2.1; have y2 := HQ1.out.2.2.1.2.2)
    refine bodyPost_ret (v := .tuple #[.agg #[.int .i64 0, .slice none 0 0], .int .i64 0, .bool false]) (by simp [results, Try.results28, go_sem, y0, y1, y2]) rfl ⟨_, rfl, none, 0, none, rfl, Row.nil _ _ _, (fun _ h => by cases h), ?_⟩
    exact (HQ1.out.2.2.2.setCell (by simp only; omega) _).setCell (by simp only; omega) _

set_option maxRecDepth 100000 in
set_option maxHeartbeats 8000000 in
theorem pick_none (V : Int) (a : Option Addr) (n c b o : Nat) (T : Nat → TagsE) (ra : Option Addr) (rc rb ro : Nat) (R : Nat → Bool) (w : World) (hs : TagsIn w a n c b o T) (hr : BoolsIn w ra n rc rb ro R) (hok : vokB V n T = true) (hk : firstS R (ltS T) n = none) :
    Calls Try.prog 28 #[.agg #[.int .i64 V, .slice a n c], .slice ra n rc] w (PickOut w 0 0 zeroT 0 false) := by
  have hm := hs.max
  have hl := hs.le
  unfold maxLen at hm
  have HQ := Lib.hid (P3.mk0 w #[.int .i64 V, .slice a n c] #[.slice ra n rc] #[.int .i64 0, .slice none 0 0] 39 41 39)
  have HS := Lib.hid hs
  have C1 : Hid (∀ W, TagsIn W a n c b o T → Calls Try.prog 42 #[.agg #[.int .i64 V, .slice a n c]] W fun e w' => e = .returned (.bool true) ∧ Below W.heap.size W w') := Lib.hid (fun W h => by rw [← hok]; exact check_any V a n c b o T W h)
  have C2 : Hid (∀ W g, Below w.heap.size w W → W.cell? ⟨g, 0, none⟩ = some (.slice ra n rc) → g < W.heap.size → Calls Try.prog 43 #[.slice a n c, .agg #[.func (.func 44) #[] #[.pointer (some ⟨g, 0, none⟩)], .func (.func 45) #[] #[]]] W fun e w' => e = .returned (.int .i64 (-1)) ∧ Below W.heap.size W w') := Lib.hid (fun W g h1 h2 h3 => by
    have := first_any a n c b o T 44 45 #[.pointer (some ⟨g, 0, none⟩)] R (ltS T) W (hs.below h1) (fun _ _ => rfl) (fun _ _ => rfl)
      (fun X j hX hj => (pick1_any j n g ra rc rb ro R X ((hX.cell (p := ⟨g, 0, none⟩) h3).trans h2) ((hr.below h1).below hX) hj).mono fun e w' ⟨he, hw⟩ => ⟨he, by rw [← hw]; exact Below.refl _ _⟩)
      (fun X i j _ _ => pick2_any _ _ _ _ X)
    rwa [firstI_none hk] at this)
  clear hs hr hok hk
  go_enter Try.func28, Try.ntmps28
  go_wp2_with (first
    | (go_at_call 42; refine Calls.mono (C1.out _ (HS.out.below HQ.out.2.2.2)) ?_; rintro e W1 ⟨rfl, hW1⟩; have HQ1 := Lib.hid (HQ.out.step hW1); have r0 := HQ1.out.1.1; have z0 := HQ1.out.1.2.2; have r1 := HQ1.out.2.1.1; have z1 := HQ1.out.2.1.2.2)
    | (go_at_call 43; refine Calls.mono (C2.out _ _ HQ1.out.2.2.2 (HQ1.out.2.1.1 0) HQ1.out.2.1.2.2) ?_; rintro e W2 ⟨rfl, hW2⟩; have HQ2 := Lib.hid (HQ1.out.step hW2); clear r0 z0 r1 z1; have y0 := HQ2.out.2.2.1.1; have y1 := HQ2.out.2.2.1.2.1; have y2 := HQ2.out.2.2.1.2.2))
  refine bodyPost_ret (v := .tuple #[.agg #[.int .i64 0, .slice none 0 0], .int .i64 0, .bool false]) (by simp [results, Try.results28, go_sem, y0, y1, y2]) rfl ⟨_, rfl, none, 0, none, rfl, Row.nil _ _ _, (fun _ h => by cases h), ?_⟩
  exact (HQ2.out.2.2.2.setCell (by simp only; omega) _).setCell (by simp only; omega) _

/-- what is picked -/
def PickP (w : World) (V : Int) (n : Nat) (T : Nat → TagsE) (rn : Nat) (R : Nat → Bool) (e : Ending) (w' : World) : Prop :=
  if vokB V n T = true ∧ rn = n then match firstS R (ltS T) n with
    | none => PickOut w 0 0 zeroT 0 false e w'
    | some k => PickOut w (max V (T k).s) n T (firstI (tkN T R (max V (T k).s)) (ltF T) n) true e w'
  else PickOut w 0 0 zeroT 0 false e w'

theorem pick_any (V : Int) (a : Option Addr) (n c b o : Nat) (T : Nat → TagsE) (ra : Option Addr) (rn rc rb ro : Nat) (R : Nat → Bool) (w : World) (hs : TagsIn w a n c b o T) (hn : n * 16 ≤ 140737488351232) (hr : BoolsIn w ra rn rc rb ro R) :
    Calls Try.prog 28 #[.agg #[.int .i64 V, .slice a n c], .slice ra rn rc] w (PickP w V n T rn R) := by
  by_cases hc : vokB V n T = true ∧ rn = n
  · obtain ⟨hok, rfl⟩ := hc
    cases hk : firstS R (ltS T) rn with
    | none => exact (pick_none V a rn c b o T ra rc rb ro R w hs hr hok hk).mono fun e w' h => by unfold PickP; rw [if_pos ⟨hok, rfl⟩, hk]; exact h
    | some k =>
      obtain ⟨m, hm⟩ := second_some (V := V) hk
      exact (pick_good V a rn c b o T ra rc rb ro R k m _ w hs hn hr hok hk rfl hm).mono fun e w' h => by unfold PickP; rw [if_pos ⟨hok, rfl⟩, hk]; simp only; rw [firstI_some hm]; exact h
  · refine (pick_bad V a n c b o T ra rn rc w hs hr.le hr.max ?_).mono fun e w' h => by unfold PickP; rw [if_neg hc]; exact h
    cases hv : vokB V n T
    · exact .inl rfl
    · exact .inr ⟨rfl, fun h => hc ⟨hv, h⟩⟩

/-- what a flow's serving comes to -/
def serveB (V : Int) (n : Nat) (T : Nat → TagsE) (s : Int) : Bool := vokB V n T && decide (1 ≤ s) && decide (s ≤ 1500) && decide (V ≤ 1152921504606846976 - s * 720720)
def ServeP (w : World) (V : Int) (n : Nat) (T : Nat → TagsE) (s : Int) (e : Ending) (w' : World) : Prop :=
  match serveB V n T s with
  | true => VRes w (V + s * 720720) n T 0 e w'
  | false => VRes w 0 0 zeroT 2 e w'
theorem serve_cases (V : Int) (n : Nat) (T : Nat → TagsE) (s : Int) :
    (serveB V n T s = false ∧ (vokB V n T = false ∨ (vokB V n T = true ∧ s < 1) ∨ (vokB V n T = true ∧ 1 ≤ s ∧ 1500 < s) ∨ (vokB V n T = true ∧ 1 ≤ s ∧ s ≤ 1500 ∧ 1152921504606846976 - s * 720720 < V))) ∨
    (serveB V n T s = true ∧ vokB V n T = true ∧ 1 ≤ s ∧ s ≤ 1500 ∧ V ≤ 1152921504606846976 - s * 720720) := by
  unfold serveB
  cases hv : vokB V n T
  · exact .inl ⟨by simp, .inl rfl⟩
  · by_cases h1 : s < 1
    · exact .inl ⟨by simp; omega, .inr (.inl ⟨rfl, h1⟩)⟩
    · by_cases h2 : 1500 < s
      · exact .inl ⟨by simp; omega, .inr (.inr (.inl ⟨rfl, by omega, h2⟩))⟩
      · by_cases h3 : 1152921504606846976 - s * 720720 < V
        · exact .inl ⟨by simp; omega, .inr (.inr (.inr ⟨rfl, by omega, by omega, h3⟩))⟩
        · exact .inr ⟨by simp; omega, rfl, by omega, by omega, by omega⟩
theorem vok_V {V : Int} {n : Nat} {T : Nat → TagsE} (h : vokB V n T = true) : 0 ≤ V ∧ V ≤ 1152921504606846976 := by
  unfold vokB timeB at h
  simp at h
  omega

set_option maxRecDepth 100000 in
set_option maxHeartbeats 8000000 in
theorem serve_any (V : Int) (a : Option Addr) (n c b o : Nat) (T : Nat → TagsE) (s : Int) (w : World) (hs : TagsIn w a n c b o T) (hn : n * 16 ≤ 140737488351232) :
    Calls Try.prog 30 #[.agg #[.int .i64 V, .slice a n c], .int .i64 s] w (ServeP w V n T s) := by
  unfold ServeP
  have HQ := Lib.hid (VB2.mk0 w #[.int .i64 V, .slice a n c] #[.int .i64 0, .slice none 0 0] 39 39)
  have HS := Lib.hid hs
  obtain ⟨C, hC⟩ : ∃ C, C = vokB V n T := ⟨_, rfl⟩
  have C1 : Hid (∀ W, TagsIn W a n c b o T → Calls Try.prog 42 #[.agg #[.int .i64 V, .slice a n c]] W fun e w' => e = .returned (.bool C) ∧ Below W.heap.size W w') := Lib.hid (fun W h => by rw [hC]; exact check_any V a n c b o T W h)
  have C3 := Lib.hid (fun W h => twin_any V a n c b o T W h hn)
  rcases serve_cases V n T s with ⟨hG, hh⟩ | ⟨hG, hv, h1, h2, h3⟩
  · rw [hG]
    simp only
    rw [← hC] at hh
    clear hs hC hG C3
    rcases hh with rfl | ⟨rfl, h⟩ | ⟨rfl, h, h2⟩ | ⟨rfl, h, h2, h3⟩
    all_goals
      go_enter Try.func30, Try.ntmps30
      go_wp2_with (go_at_call 42; refine Calls.mono (C1.out _ (HS.out.below HQ.out.2.2)) ?_; rintro e W1 ⟨rfl, hW1⟩; have HQ1 := Lib.hid (HQ.out.step hW1); have r0 := HQ1.out.1.1; have y0 := HQ1.out.1.2.1; have z0 := HQ1.out.1.2.2; have r1 := HQ1.out.2.1.1; have y1 := HQ1.out.2.1.2.1; have z1 := HQ1.out.2.1.2.2)
      refine bodyPost_ret (v := .tuple #[.agg #[.int .i64 0, .slice none 0 0], .int .i64 2]) (by simp [results, Try.results30, go_sem, z1, r1, y1]) rfl ⟨_, rfl, none, 0, none, rfl, Row.nil _ _ _, (fun _ h => by cases h), ?_⟩
      exact (HQ1.out.2.2.setCell (by simp only; omega) _).setCell (by simp only; omega) _
  · rw [hG]
    simp only
    rw [hv] at hC
    subst hC
    have hVV := vok_V hv
    have b1 : decide (1152921504606846976 - s * 720720 < V) = false := by simp; omega
    clear hs hG hv
    go_enter Try.func30, Try.ntmps30
    go_wp2_with (go_at_call 42; refine Calls.mono (C1.out _ (HS.out.below HQ.out.2.2)) ?_; rintro e W1 ⟨rfl, hW1⟩; have HQ1 := Lib.hid (HQ.out.step hW1); have r0 := HQ1.out.1.1; have y0 := HQ1.out.1.2.1; have z0 := HQ1.out.1.2.2; have r1 := HQ1.out.2.1.1; have y1 := HQ1.out.2.1.2.1; have z1 := HQ1.out.2.1.2.2)
    go_at_call 48
    refine Calls.mono (C3.out _ (HS.out.below HQ1.out.2.2)) ?_
    rintro e W5 ⟨v5, rfl, hV5⟩
    obtain ⟨a5, c5, ob5, rfl, hR5, hO5, hB5⟩ := hV5
    have HQ5 := Lib.hid (HQ1.out.step hB5)
    have HRR := Lib.hid hR5
    have HOO := Lib.hid hO5
    have zz := HQ1.out.2.1.2.2
    clear r0 y0 z0 r1 y1 z1 hR5 hO5 hB5
    have x0 := HQ5.out.1.1
    have x1 := HQ5.out.1.2.1
    have x2 := HQ5.out.1.2.2
    have y0 := HQ5.out.2.1.1
    have y1 := HQ5.out.2.1.2.1
    have y2 := HQ5.out.2.1.2.2
    have q7 : (w.heap.size + 1 = W5.heap.size) = False := eq_false (by omega)
    have q8 : (W5.heap.size = w.heap.size + 1) = False := eq_false (by omega)
    go_wp2_with fail
    refine bodyPost_ret (v := .tuple #[.agg #[.int .i64 (V + s * 720720), .slice a5 n c5], .int .i64 0]) (by simp [results, Try.results30, go_sem, x0, x1, x2, y0, y1, y2, q7, q8]) rfl ⟨_, rfl, a5, c5, ob5, rfl, ?_, ?_, ?_⟩
    · refine HRR.out.congr fun g e => ?_
      have := HOO.out g e
      repeat rw [heap_setCell_ne _ _ _ _ (by simp only; omega)]
    · exact fun g e => by have := HOO.out g e; omega
    · exact ((((HQ5.out.2.2.setCell (by simp only; omega) _).setCell (by simp only; omega) _).setCell (by simp only; omega) _).setCell (by simp only; omega) _).setCell (by simp only; omega) _

set_option maxRecDepth 100000 in
set_option maxHeartbeats 8000000 in
theorem rserve_any (V : Int) (a : Option Addr) (n c b o : Nat) (T : Nat → TagsE) (s : Int) (w : World) (hs : TagsIn w a n c b o T) (hn : n * 16 ≤ 140737488351232) :
    Calls Try.prog 34 #[.agg #[.int .i64 V, .slice a n c], .int .i64 s] w (ServeP w V n T s) := by
  unfold ServeP
  have HQ := Lib.hid (VB2.mk0 w #[.int .i64 V, .slice a n c] #[.int .i64 0, .slice none 0 0] 39 39)
  have HS := Lib.hid hs
  obtain ⟨C, hC⟩ : ∃ C, C = vokB V n T := ⟨_, rfl⟩
  have C1 : Hid (∀ W, TagsIn W a n c b o T → Calls Try.prog 51 #[.agg #[.int .i64 V, .slice a n c]] W fun e w' => e = .returned (.bool C) ∧ Below W.heap.size W w') := Lib.hid (fun W h => by rw [hC]; exact rcheck_any V a n c b o T W h)
  have C3 := Lib.hid (fun W h => copied_any V a n c b o T W h hn)
  rcases serve_cases V n T s with ⟨hG, hh⟩ | ⟨hG, hv, h1, h2, h3⟩
  · rw [hG]
    simp only
    rw [← hC] at hh
    clear hs hC hG C3
    rcases hh with rfl | ⟨rfl, h⟩ | ⟨rfl, h, h2⟩ | ⟨rfl, h, h2, h3⟩
    all_goals
      go_enter Try.func34, Try.ntmps34
      go_wp2_with (go_at_call 51; refine Calls.mono (C1.out _ (HS.out.below HQ.out.2.2)) ?_; rintro e W1 ⟨rfl, hW1⟩; have HQ1 := Lib.hid (HQ.out.step hW1); have r0 := HQ1.out.1.1; have y0 := HQ1.out.1.2.1; have z0 := HQ1.out.1.2.2; have r1 := HQ1.out.2.1.1; have y1 := HQ1.out.2.1.2.1; have z1 := HQ1.out.2.1.2.2)
      refine bodyPost_ret (v := .tuple #[.agg #[.int .i64 0, .slice none 0 0], .int .i64 2]) (by simp [results, Try.results34, go_sem, z1, r1, y1]) rfl ⟨_, rfl, none, 0, none, rfl, Row.nil _ _ _, (fun _ h => by cases h), ?_⟩
      exact (HQ1.out.2.2.setCell (by simp only; omega) _).setCell (by simp only; omega) _
  · rw [hG]
    simp only
    rw [hv] at hC
    subst hC
    have hVV := vok_V hv
    have b1 : decide (1152921504606846976 - s * 720720 < V) = false := by simp; omega
    clear hs hG hv
    go_enter Try.func34, Try.ntmps34
    go_wp2_with (go_at_call 51; refine Calls.mono (C1.out _ (HS.out.below HQ.out.2.2)) ?_; rintro e W1 ⟨rfl, hW1⟩; have HQ1 := Lib.hid (HQ.out.step hW1); have r0 := HQ1.out.1.1; have y0 := HQ1.out.1.2.1; have z0 := HQ1.out.1.2.2; have r1 := HQ1.out.2.1.1; have y1 := HQ1.out.2.1.2.1; have z1 := HQ1.out.2.1.2.2)
    go_at_call 52
    refine Calls.mono (C3.out _ (HS.out.below HQ1.out.2.2)) ?_
    rintro e W5 ⟨v5, rfl, hV5⟩
    obtain ⟨a5, c5, ob5, rfl, hR5, hO5, hB5⟩ := hV5
    have HQ5 := Lib.hid (HQ1.out.step hB5)
    have HRR := Lib.hid hR5
    have HOO := Lib.hid hO5
    have zz := HQ1.out.2.1.2.2
    clear r0 y0 z0 r1 y1 z1 hR5 hO5 hB5
    have x0 := HQ5.out.1.1
    have x1 := HQ5.out.1.2.1
    have x2 := HQ5.out.1.2.2
    have y0 := HQ5.out.2.1.1
    have y1 := HQ5.out.2.1.2.1
    have y2 := HQ5.out.2.1.2.2
    have q7 : (w.heap.size + 1 = W5.heap.size) = False := eq_false (by omega)
    have q8 : (W5.heap.size = w.heap.size + 1) = False := eq_false (by omega)
    go_wp2_with fail
    refine bodyPost_ret (v := .tuple #[.agg #[.int .i64 (V + s * 720720), .slice a5 n c5], .int .i64 0]) (by simp [results, Try.results34, go_sem, x0, x1, x2, y0, y1, y2, q7, q8]) rfl ⟨_, rfl, a5, c5, ob5, rfl, ?_, ?_, ?_⟩
    · refine (HRR.out.congr fun g e => ?_)
      have := HOO.out g e
      have hlt : g < W5.heap.size := by subst e; exact HRR.out.lt
      rw [Below.heap_alloc _ _ _ (by simp; omega), heap_setCell_ne _ _ _ _ (by simp only; omega), heap_setCell_ne _ _ _ _ (by simp only; omega)]
    · exact fun g e => by have := HOO.out g e; omega
    · exact ((HQ5.out.2.2.setCell (by simp only; omega) _).setCell (by simp only; omega) _).alloc (by have := HQ5.out.2.2.size; simp; omega) _
end Go.Proofs.Ytnainlemnkfpkaa
