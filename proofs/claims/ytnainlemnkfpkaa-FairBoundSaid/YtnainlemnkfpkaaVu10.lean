/-
  The document's answer: a flow is given a start.
-/
import Derived.Test.YtnainlemnkfpkaaVu9
import Derived.StillTailTactics
namespace Go.Proofs.Ytnainlemnkfpkaa
open Go.RowKit
set_option linter.unusedSimpArgs false
set_option linter.unusedVariables false

set_option maxRecDepth 100000 in
set_option maxHeartbeats 8000000 in
theorem rtag_good (V : Int) (a : Option Addr) (n c b o : Nat) (T : Nat → TagsE) (k : Nat) (at_ s wt al cost : Int) (w : World) (hs : TagsIn w a n c b o T) (hn : n * 16 ≤ 140737488351232) (hk : k < n)
    (hc : cost = costS s wt al) (h0 : 0 < cost) (hat : at_ ≤ 1152921504606846976 - cost) (ha0 : 0 ≤ at_) :
    Calls Try.prog 58 #[.agg #[.int .i64 V, .slice a n c], .int .i64 k, .int .i64 at_, .int .i64 s, .int .i64 wt, .int .i64 al] w (VRes w V n (updT T k ⟨at_, at_ + cost⟩) 0) := by
  have hm := hs.max
  have hl := hs.le
  unfold maxLen at hm
  have hcr := cost_range s wt al
  rw [← hc] at hcr
  obtain ⟨_, h1⟩ := hcr
  have HQ := Lib.hid (VB2.mk0 w #[.int .i64 V, .slice a n c] #[.int .i64 0, .slice none 0 0] 39 39)
  have HS := Lib.hid hs
  have C1 : Hid (∀ W, Calls Try.prog 59 #[.int .i64 s, .int .i64 wt, .int .i64 al] W fun e w' => e = .returned (.int .i64 cost) ∧ W = w') := Lib.hid (fun W => by rw [hc]; exact rcost_any s wt al W)
  have C3 := Lib.hid (fun W h => copied_any V a n c b o T W h hn)
  have b1 : (cost == 0) = false := by simp; omega
  have b2 : decide (1152921504606846976 - cost < at_) = false := by simp; omega
  clear hs hc
  go_enter Try.func58, Try.ntmps58
  go_wp2_with (first
    | (go_at_call 59; refine Calls.mono (C1.out _) ?_; rintro e w' ⟨rfl, rfl⟩))
  go_at_call 52
  refine Calls.mono (C3.out _ (HS.out.below HQ.out.2.2)) ?_
  rintro e W2 ⟨v2, rfl, hV2⟩
  obtain ⟨a2, c2, ob2, rfl, hR, hO, hB⟩ := hV2
  have T3 := own_k hR hk
  obtain ⟨g2, rfl, rfl, hg2, u0, u1, v0, v1⟩ := T3
  have hgo := hO g2 rfl
  have HQ2 := Lib.hid (HQ.out.step hB)
  have HR := Lib.hid hR
  simp only [World.size_alloc] at hgo
  clear hO hB hR
  have r1 := HQ2.out.2.1.1
  have y1 := HQ2.out.2.1.2.1
  have z1 := HQ2.out.2.1.2.2
  have q5 : (g2 = W2.heap.size) = False := eq_false (by omega)
  have q6 : (W2.heap.size = g2) = False := eq_false (by omega)
  have q7 : (w.heap.size + 1 = W2.heap.size) = False := eq_false (by omega)
  have q8 : (W2.heap.size = w.heap.size + 1) = False := eq_false (by omega)
  have q9 : g2 < W2.heap.size + 1 := by omega
  have q3 : (g2 = w.heap.size + 1) = False := eq_false (by omega)
  have q4 : (w.heap.size + 1 = g2) = False := eq_false (by omega)
  go_wp2_with fail
  refine bodyPost_ret (v := .tuple #[.agg #[.int .i64 V, .slice (some ⟨g2, 0, none⟩) n c2], .int .i64 0]) (by simp [results, Try.results58, go_sem, z1, r1, y1, q7, q8]) rfl ⟨_, rfl, _, _, some g2, rfl, ?_, ?_, ?_⟩
  · exact (((row_tag HR.out hk).other _ 0 (by omega) _).other _ 1 (by omega) _).alloc _
  · intro g' e
    obtain rfl := Option.some.inj e
    omega
  · exact ((((HQ2.out.2.2.setCell (by simp only; omega) _).setCell (by simp only; omega) _).setCell (by simp only; omega) _).setCell (by simp only; omega) _).alloc (by have := HQ2.out.2.2.size; simp; omega) _

set_option maxRecDepth 100000 in
set_option maxHeartbeats 8000000 in
theorem rtag_bad (V : Int) (a : Option Addr) (n c : Nat) (k at_ s wt al cost : Int) (w : World)
    (hc : cost = costS s wt al) (hh : cost = 0 ∨ (cost ≠ 0 ∧ 1152921504606846976 - cost < at_)) :
    Calls Try.prog 58 #[.agg #[.int .i64 V, .slice a n c], .int .i64 k, .int .i64 at_, .int .i64 s, .int .i64 wt, .int .i64 al] w (VRes w 0 0 zeroT 2) := by
  have hcr := cost_range s wt al
  rw [← hc] at hcr
  obtain ⟨h0, h1⟩ := hcr
  have C1 : Hid (∀ W, Calls Try.prog 59 #[.int .i64 s, .int .i64 wt, .int .i64 al] W fun e w' => e = .returned (.int .i64 cost) ∧ W = w') := Lib.hid (fun W => by rw [hc]; exact rcost_any s wt al W)
  clear hc
  rcases hh with rfl | ⟨h2, h3⟩
  · clear h0 h1
    go_enter Try.func58, Try.ntmps58
    go_wp2_with (first
      | (go_at_call 59; refine Calls.mono (C1.out _) ?_; rintro e w' ⟨rfl, rfl⟩))
    refine bodyPost_ret (v := .tuple #[.agg #[.int .i64 0, .slice none 0 0], .int .i64 2]) (by simp [results, Try.results58, go_sem]) rfl ⟨_, rfl, none, 0, none, rfl, Row.nil _ _ _, (fun _ h => by cases h), ?_⟩
    exact ((Below.refl _ _).alloc (Nat.le_refl _) _).alloc (by simp) _
  · have b1 : (cost == 0) = false := by simp; omega
    have b2 : decide (1152921504606846976 - cost < at_) = true := by simp; omega
    clear h2
    go_enter Try.func58, Try.ntmps58
    go_wp2_with (first
      | (go_at_call 59; refine Calls.mono (C1.out _) ?_; rintro e w' ⟨rfl, rfl⟩))
    refine bodyPost_ret (v := .tuple #[.agg #[.int .i64 0, .slice none 0 0], .int .i64 2]) (by simp [results, Try.results58, go_sem]) rfl ⟨_, rfl, none, 0, none, rfl, Row.nil _ _ _, (fun _ h => by cases h), ?_⟩
    exact ((Below.refl _ _).alloc (Nat.le_refl _) _).alloc (by simp) _

theorem rtag_any (V : Int) (a : Option Addr) (n c b o : Nat) (T : Nat → TagsE) (k : Nat) (at_ s wt al : Int) (w : World) (hs : TagsIn w a n c b o T) (hn : n * 16 ≤ 140737488351232) (hk : k < n) (hv : vokB V n T = true) (ha0 : 0 ≤ at_) :
    Calls Try.prog 58 #[.agg #[.int .i64 V, .slice a n c], .int .i64 k, .int .i64 at_, .int .i64 s, .int .i64 wt, .int .i64 al] w (TagP w V n T k (costS s wt al) at_) := by
  unfold TagP
  have hcr := cost_range s wt al
  rcases goodTag_cases V n T k (costS s wt al) at_ with ⟨hG, hh⟩ | ⟨hG, hv, k0, k1, hc, hat⟩ | ⟨hG, hv, k0, k1, hc, hat⟩
  · rw [hG]
    refine rtag_bad V a n c k at_ s wt al _ w rfl (.inl ?_)
    rcases hh with h | ⟨_, h⟩ | ⟨_, _, h⟩ | ⟨_, _, _, h⟩
    · rw [hv] at h; cases h
    · omega
    · omega
    · exact h
  · rw [hG]
    exact rtag_bad V a n c k at_ s wt al _ w rfl (.inr ⟨hc, hat⟩)
  · rw [hG]
    exact rtag_good V a n c b o T k at_ s wt al _ w hs hn hk rfl (by omega) hat ha0

set_option maxRecDepth 100000 in
set_option maxHeartbeats 8000000 in
theorem rwake_bad (V : Int) (a : Option Addr) (n c b o : Nat) (T : Nat → TagsE) (k s wt al : Int) (w : World) (hs : TagsIn w a n c b o T) (hh : vokB V n T = false ∨ (vokB V n T = true ∧ k < 0) ∨ (vokB V n T = true ∧ 0 ≤ k ∧ n ≤ k)) :
    Calls Try.prog 50 #[.agg #[.int .i64 V, .slice a n c], .int .i64 k, .int .i64 s, .int .i64 wt, .int .i64 al] w (VRes w 0 0 zeroT 2) := by
  have hm := hs.max
  have hl := hs.le
  unfold maxLen at hm
  have HQ := Lib.hid (VB2.mk0 w #[.int .i64 V, .slice a n c] #[.int .i64 0, .slice none 0 0] 39 39)
  have HS := Lib.hid hs
  obtain ⟨C, hC⟩ : ∃ C, C = vokB V n T := ⟨_, rfl⟩
  have C1 : Hid (∀ W, TagsIn W a n c b o T → Calls Try.prog 51 #[.agg #[.int .i64 V, .slice a n c]] W fun e w' => e = .returned (.bool C) ∧ Below W.heap.size W w') := Lib.hid (fun W h => by rw [hC]; exact rcheck_any V a n c b o T W h)
  rw [← hC] at hh
  clear hs hC
  rcases hh with rfl | ⟨rfl, h⟩ | ⟨rfl, h, h2⟩
  all_goals
    go_enter Try.func50, Try.ntmps50
    go_wp2_with (go_at_call 51; refine Calls.mono (C1.out _ (HS.out.below HQ.out.2.2)) ?_; rintro e W1 ⟨rfl, hW1⟩; have HQ1 := Lib.hid (HQ.out.step hW1); have r0 := HQ1.out.1.1; have y0 := HQ1.out.1.2.1; have z0 := HQ1.out.1.2.2; have r1 := HQ1.out.2.1.1; have y1 := HQ1.out.2.1.2.1; have z1 := HQ1.out.2.1.2.2)
    refine bodyPost_ret (v := .tuple #[.agg #[.int .i64 0, .slice none 0 0], .int .i64 2]) (by simp [results, Try.results50, go_sem, z1, r1, y1]) rfl ⟨_, rfl, none, 0, none, rfl, Row.nil _ _ _, (fun _ h => by cases h), ?_⟩
    exact (HQ1.out.2.2.setCell (by simp only; omega) _).setCell (by simp only; omega) _

set_option maxRecDepth 100000 in
set_option maxHeartbeats 8000000 in
theorem rwake_good (V : Int) (a : Option Addr) (n c b o : Nat) (T : Nat → TagsE) (k : Nat) (s wt al H : Int) (w : World) (hs : TagsIn w a n c b o T) (hn : n * 16 ≤ 140737488351232) (hv : vokB V n T = true) (hk : k < n) (hH : H = max (T k).f V) :
    Calls Try.prog 50 #[.agg #[.int .i64 V, .slice a n c], .int .i64 k, .int .i64 s, .int .i64 wt, .int .i64 al] w (TagP w V n T k (costS s wt al) H) := by
  have hm := hs.max
  have hl := hs.le
  unfold maxLen at hm
  have hb := vok_at hv hk
  have HQ := Lib.hid (VB2.mk0 w #[.int .i64 V, .slice a n c] #[.int .i64 0, .slice none 0 0] 39 39)
  have HS := Lib.hid hs
  have C1 : Hid (∀ W, TagsIn W a n c b o T → Calls Try.prog 51 #[.agg #[.int .i64 V, .slice a n c]] W fun e w' => e = .returned (.bool true) ∧ Below W.heap.size W w') := Lib.hid (fun W h => by rw [← hv]; exact rcheck_any V a n c b o T W h)
  obtain ⟨f, hf⟩ : ∃ f, f = (T k).f := ⟨_, rfl⟩
  have C2 : Hid (∀ W h, TagsIn W a n c b o T → h = H → Calls Try.prog 58 #[.agg #[.int .i64 V, .slice a n c], .int .i64 k, .int .i64 h, .int .i64 s, .int .i64 wt, .int .i64 al] W (TagP W V n T k (costS s wt al) H)) := Lib.hid (fun W h h1 h2 => by rw [h2]; exact rtag_any V a n c b o T k H s wt al W h1 hn hk hv (by omega))
  obtain ⟨C, hC⟩ : ∃ C, C = costS s wt al := ⟨_, rfl⟩
  rw [← hC] at C2 ⊢
  obtain ⟨e0, e1⟩ := hs.at_ (by omega)
  subst e0
  rw [← hf] at hb hH
  have HK : Hid (∀ W, Below w.heap.size w W → W.cell? ⟨b, o + k * 2 + 1, none⟩ = some (.int .i64 f)) := Lib.hid (fun W h => by rw [hf]; exact ((hs.below h).cell k hk).2)
  have b2 : decide (n ≤ k) = false := by simp; omega
  have b3 : decide ((k : Int) < 0) = false := by simp
  have hif : (if f < V then V else f) = H := by rw [hH]; split <;> omega
  clear hs hf hv hC hH
  go_enter Try.func50, Try.ntmps50
  go_wp2_with (go_at_call 51; refine Calls.mono (C1.out _ (HS.out.below HQ.out.2.2)) ?_; rintro e W1 ⟨rfl, hW1⟩; have HQ1 := Lib.hid (HQ.out.step hW1); have r0 := HQ1.out.1.1; have y0 := HQ1.out.1.2.1; have z0 := HQ1.out.1.2.2; have KK := HK.out W1 HQ1.out.2.2)
  have HQ1' := Lib.hid (HQ1.out.step (Below.refl _ _).drew)
  have rr1 := r0 1
  have rr0 := r0 0
  have qn1 : (b = w.heap.size + 1) = False := eq_false (by omega)
  have qn2 : (w.heap.size + 1 = b) = False := eq_false (by omega)
  clear r0
  go_region_held3 (fun X => X.cell? ⟨w.heap.size, 0, none⟩ = some (.int .i64 V) ∧ X.cell? ⟨w.heap.size, 1, none⟩ = some (.slice (some ⟨b, o, none⟩) n c) ∧ X.cell? ⟨b, o + k * 2 + 1, none⟩ = some (.int .i64 f)) (first | with_reducible exact ⟨rr0, rr1, KK⟩ | with_reducible exact ⟨qq0, qq1, qq2⟩ | go_keep)
    (first | (go_at_call 58; refine Calls.mono (C2.out _ _ (HS.out.below HQ1'.out.2.2) rfl) ?_; rintro e W2 hT; have hT2 := hT.res; obtain ⟨V', n', T', er, hR, hK⟩ := hT2; obtain ⟨v, rfl, a2, c2, ob2, rfl, hRow, hO, hB⟩ := hR; have HQ2 := Lib.hid (HQ1'.out.step hB); have qq0 : W2.cell? ⟨w.heap.size, 0, none⟩ = some (.int .i64 V) := HQ2.out.1.1 0; have qq1 : W2.cell? ⟨w.heap.size, 1, none⟩ = some (.slice (some ⟨b, o, none⟩) n c) := HQ2.out.1.1 1; have qq2 := HK.out _ HQ2.out.2.2; have z0 := HQ2.out.1.2.2; have r1 := HQ2.out.2.1.1; have y1 := HQ2.out.2.1.2.1; have z1 := HQ2.out.2.1.2.2; have HR := Lib.hid hRow; have HO := Lib.hid hO; have HKT := Lib.hid hK; have zz := HQ1.out.2.1.2.2; clear hT hRow hO hK hB))
  all_goals
    go_wp2_with fail
    refine bodyPost_ret (v := .tuple #[.agg #[.int .i64 V', .slice a2 n' c2], .int .i64 er]) (by simp [results, Try.results50, go_sem, z1, r1, y1]) rfl (HKT.out _ _ _ ⟨_, rfl, a2, c2, ob2, rfl, ?_, ?_, ?_⟩)
    · refine HR.out.congr fun g e => ?_
      have := HO.out g e
      simp at this
      rw [heap_setCell_ne _ _ _ _ (by simp only; omega), heap_setCell_ne _ _ _ _ (by simp only; omega)]
    · exact fun g e => by have := HO.out g e; simp at this; omega
    · exact (HQ2.out.2.2.setCell (by simp only; omega) _).setCell (by simp only; omega) _

theorem rwake_any (V : Int) (a : Option Addr) (n c b o : Nat) (T : Nat → TagsE) (k s wt al : Int) (w : World) (hs : TagsIn w a n c b o T) (hn : n * 16 ≤ 140737488351232) :
    Calls Try.prog 50 #[.agg #[.int .i64 V, .slice a n c], .int .i64 k, .int .i64 s, .int .i64 wt, .int .i64 al] w (TagP w V n T k (costS s wt al) (max (headF T k) V)) := by
  by_cases hv : vokB V n T = true
  · rcases (show k < 0 ∨ (0 ≤ k ∧ n ≤ k) ∨ (0 ≤ k ∧ k < n) by omega) with h | ⟨h, h2⟩ | ⟨h, h2⟩
    · have hG : goodTag V n T k (costS s wt al) (max (headF T k) V) = false := by unfold goodTag; simp; omega
      unfold TagP
      rw [hG]
      exact rwake_bad V a n c b o T k s wt al w hs (.inr (.inl ⟨hv, h⟩))
    · have hG : goodTag V n T k (costS s wt al) (max (headF T k) V) = false := by unfold goodTag; simp; omega
      unfold TagP
      rw [hG]
      exact rwake_bad V a n c b o T k s wt al w hs (.inr (.inr ⟨hv, h, h2⟩))
    · obtain ⟨k', rfl⟩ : ∃ k' : Nat, k = k' := ⟨k.toNat, by omega⟩
      exact rwake_good V a n c b o T k' s wt al _ w hs hn hv (by omega) (by simp [headF])
  · have hv' : vokB V n T = false := by simpa using hv
    have hG : goodTag V n T k (costS s wt al) (max (headF T k) V) = false := by unfold goodTag; rw [hv']; simp
    unfold TagP
    rw [hG]
    exact rwake_bad V a n c b o T k s wt al w hs (.inl hv')
set_option maxRecDepth 100000 in
set_option maxHeartbeats 8000000 in
theorem rnext_bad (V : Int) (a : Option Addr) (n c b o : Nat) (T : Nat → TagsE) (k s wt al : Int) (w : World) (hs : TagsIn w a n c b o T) (hh : vokB V n T = false ∨ (vokB V n T = true ∧ k < 0) ∨ (vokB V n T = true ∧ 0 ≤ k ∧ n ≤ k)) :
    Calls Try.prog 49 #[.agg #[.int .i64 V, .slice a n c], .int .i64 k, .int .i64 s, .int .i64 wt, .int .i64 al] w (VRes w 0 0 zeroT 2) := by
  have hm := hs.max
  have hl := hs.le
  unfold maxLen at hm
  have HQ := Lib.hid (VB2.mk0 w #[.int .i64 V, .slice a n c] #[.int .i64 0, .slice none 0 0] 39 39)
  have HS := Lib.hid hs
  obtain ⟨C, hC⟩ : ∃ C, C = vokB V n T := ⟨_, rfl⟩
  have C1 : Hid (∀ W, TagsIn W a n c b o T → Calls Try.prog 51 #[.agg #[.int .i64 V, .slice a n c]] W fun e w' => e = .returned (.bool C) ∧ Below W.heap.size W w') := Lib.hid (fun W h => by rw [hC]; exact rcheck_any V a n c b o T W h)
  rw [← hC] at hh
  clear hs hC
  rcases hh with rfl | ⟨rfl, h⟩ | ⟨rfl, h, h2⟩
  all_goals
    go_enter Try.func49, Try.ntmps49
    go_wp2_with (go_at_call 51; refine Calls.mono (C1.out _ (HS.out.below HQ.out.2.2)) ?_; rintro e W1 ⟨rfl, hW1⟩; have HQ1 := Lib.hid (HQ.out.step hW1); have r0 := HQ1.out.1.1; have y0 := HQ1.out.1.2.1; have z0 := HQ1.out.1.2.2; have r1 := HQ1.out.2.1.1; have y1 := HQ1.out.2.1.2.1; have z1 := HQ1.out.2.1.2.2)
    refine bodyPost_ret (v := .tuple #[.agg #[.int .i64 0, .slice none 0 0], .int .i64 2]) (by simp [results, Try.results49, go_sem, z1, r1, y1]) rfl ⟨_, rfl, none, 0, none, rfl, Row.nil _ _ _, (fun _ h => by cases h), ?_⟩
    exact (HQ1.out.2.2.setCell (by simp only; omega) _).setCell (by simp only; omega) _

set_option maxRecDepth 100000 in
set_option maxHeartbeats 8000000 in
theorem rnext_good (V : Int) (a : Option Addr) (n c b o : Nat) (T : Nat → TagsE) (k : Nat) (s wt al H : Int) (w : World) (hs : TagsIn w a n c b o T) (hn : n * 16 ≤ 140737488351232) (hv : vokB V n T = true) (hk : k < n) (hH : H = (T k).f) :
    Calls Try.prog 49 #[.agg #[.int .i64 V, .slice a n c], .int .i64 k, .int .i64 s, .int .i64 wt, .int .i64 al] w (TagP w V n T k (costS s wt al) H) := by
  have hm := hs.max
  have hl := hs.le
  unfold maxLen at hm
  have hb := vok_at hv hk
  have HQ := Lib.hid (VB2.mk0 w #[.int .i64 V, .slice a n c] #[.int .i64 0, .slice none 0 0] 39 39)
  have HS := Lib.hid hs
  have C1 : Hid (∀ W, TagsIn W a n c b o T → Calls Try.prog 51 #[.agg #[.int .i64 V, .slice a n c]] W fun e w' => e = .returned (.bool true) ∧ Below W.heap.size W w') := Lib.hid (fun W h => by rw [← hv]; exact rcheck_any V a n c b o T W h)
  obtain ⟨f, hf⟩ : ∃ f, f = (T k).f := ⟨_, rfl⟩
  have C2 : Hid (∀ W h, TagsIn W a n c b o T → h = H → Calls Try.prog 58 #[.agg #[.int .i64 V, .slice a n c], .int .i64 k, .int .i64 h, .int .i64 s, .int .i64 wt, .int .i64 al] W (TagP W V n T k (costS s wt al) H)) := Lib.hid (fun W h h1 h2 => by rw [h2]; exact rtag_any V a n c b o T k H s wt al W h1 hn hk hv (by omega))
  obtain ⟨C, hC⟩ : ∃ C, C = costS s wt al := ⟨_, rfl⟩
  rw [← hC] at C2 ⊢
  obtain ⟨e0, e1⟩ := hs.at_ (by omega)
  subst e0
  rw [← hf] at hb hH
  have HK : Hid (∀ W, Below w.heap.size w W → W.cell? ⟨b, o + k * 2 + 1, none⟩ = some (.int .i64 f)) := Lib.hid (fun W h => by rw [hf]; exact ((hs.below h).cell k hk).2)
  have b2 : decide (n ≤ k) = false := by simp; omega
  have b3 : decide ((k : Int) < 0) = false := by simp
  have HH := Lib.hid hH
  clear hs hf hv hC hH
  go_enter Try.func49, Try.ntmps49
  go_wp2_with (go_at_call 51; refine Calls.mono (C1.out _ (HS.out.below HQ.out.2.2)) ?_; rintro e W1 ⟨rfl, hW1⟩; have HQ1 := Lib.hid (HQ.out.step hW1); have r0 := HQ1.out.1.1; have y0 := HQ1.out.1.2.1; have z0 := HQ1.out.1.2.2; have KK := HK.out W1 HQ1.out.2.2)
  have HQ1' := Lib.hid (HQ1.out.step (Below.refl _ _).drew)
  have rr1 := r0 1
  have rr0 := r0 0
  have qn1 : (b = w.heap.size + 1) = False := eq_false (by omega)
  have qn2 : (w.heap.size + 1 = b) = False := eq_false (by omega)
  clear r0
  go_region_held3 (fun X => X.cell? ⟨w.heap.size, 0, none⟩ = some (.int .i64 V) ∧ X.cell? ⟨w.heap.size, 1, none⟩ = some (.slice (some ⟨b, o, none⟩) n c) ∧ X.cell? ⟨b, o + k * 2 + 1, none⟩ = some (.int .i64 f)) (first | with_reducible exact ⟨rr0, rr1, KK⟩ | with_reducible exact ⟨qq0, qq1, qq2⟩ | go_keep)
    (first | (go_at_call 58; refine Calls.mono (C2.out _ _ (HS.out.below HQ1'.out.2.2) HH.out.symm) ?_; rintro e W2 hT; have hT2 := hT.res; obtain ⟨V', n', T', er, hR, hK⟩ := hT2; obtain ⟨v, rfl, a2, c2, ob2, rfl, hRow, hO, hB⟩ := hR; have HQ2 := Lib.hid (HQ1'.out.step hB); have qq0 : W2.cell? ⟨w.heap.size, 0, none⟩ = some (.int .i64 V) := HQ2.out.1.1 0; have qq1 : W2.cell? ⟨w.heap.size, 1, none⟩ = some (.slice (some ⟨b, o, none⟩) n c) := HQ2.out.1.1 1; have qq2 := HK.out _ HQ2.out.2.2; have z0 := HQ2.out.1.2.2; have r1 := HQ2.out.2.1.1; have y1 := HQ2.out.2.1.2.1; have z1 := HQ2.out.2.1.2.2; have HR := Lib.hid hRow; have HO := Lib.hid hO; have HKT := Lib.hid hK; have zz := HQ1.out.2.1.2.2; clear hT hRow hO hK hB))
  all_goals
    go_wp2_with fail
    refine bodyPost_ret (v := .tuple #[.agg #[.int .i64 V', .slice a2 n' c2], .int .i64 er]) (by simp [results, Try.results49, go_sem, z1, r1, y1]) rfl (HKT.out _ _ _ ⟨_, rfl, a2, c2, ob2, rfl, ?_, ?_, ?_⟩)
    · refine HR.out.congr fun g e => ?_
      have := HO.out g e
      simp at this
      rw [heap_setCell_ne _ _ _ _ (by simp only; omega), heap_setCell_ne _ _ _ _ (by simp only; omega)]
    · exact fun g e => by have := HO.out g e; simp at this; omega
    · exact (HQ2.out.2.2.setCell (by simp only; omega) _).setCell (by simp only; omega) _

theorem rnext_any (V : Int) (a : Option Addr) (n c b o : Nat) (T : Nat → TagsE) (k s wt al : Int) (w : World) (hs : TagsIn w a n c b o T) (hn : n * 16 ≤ 140737488351232) :
    Calls Try.prog 49 #[.agg #[.int .i64 V, .slice a n c], .int .i64 k, .int .i64 s, .int .i64 wt, .int .i64 al] w (TagP w V n T k (costS s wt al) (headF T k)) := by
  by_cases hv : vokB V n T = true
  · rcases (show k < 0 ∨ (0 ≤ k ∧ n ≤ k) ∨ (0 ≤ k ∧ k < n) by omega) with h | ⟨h, h2⟩ | ⟨h, h2⟩
    · have hG : goodTag V n T k (costS s wt al) (headF T k) = false := by unfold goodTag; simp; omega
      unfold TagP
      rw [hG]
      exact rnext_bad V a n c b o T k s wt al w hs (.inr (.inl ⟨hv, h⟩))
    · have hG : goodTag V n T k (costS s wt al) (headF T k) = false := by unfold goodTag; simp; omega
      unfold TagP
      rw [hG]
      exact rnext_bad V a n c b o T k s wt al w hs (.inr (.inr ⟨hv, h, h2⟩))
    · obtain ⟨k', rfl⟩ : ∃ k' : Nat, k = k' := ⟨k.toNat, by omega⟩
      exact rnext_good V a n c b o T k' s wt al _ w hs hn hv (by omega) (by simp [headF])
  · have hv' : vokB V n T = false := by simpa using hv
    have hG : goodTag V n T k (costS s wt al) (headF T k) = false := by unfold goodTag; rw [hv']; simp
    unfold TagP
    rw [hG]
    exact rnext_bad V a n c b o T k s wt al w hs (.inl hv')
end Go.Proofs.Ytnainlemnkfpkaa
