/-
  Package virtual: Wake and Next.
-/
import Derived.Test.YtnainlemnkfpkaaVu8
namespace Go.Proofs.Ytnainlemnkfpkaa
open Go.RowKit
set_option linter.unusedSimpArgs false
set_option linter.unusedVariables false

def headF (T : Nat → TagsE) (k : Int) : Int := (T k.toNat).f
theorem goodTag_cases (V : Int) (n : Nat) (T : Nat → TagsE) (k cost at_ : Int) :
    (goodTag V n T k cost at_ = false ∧ (vokB V n T = false ∨ (vokB V n T = true ∧ k < 0) ∨ (vokB V n T = true ∧ 0 ≤ k ∧ n ≤ k) ∨ (vokB V n T = true ∧ 0 ≤ k ∧ k < n ∧ cost = 0))) ∨
    (goodTag V n T k cost at_ = false ∧ vokB V n T = true ∧ 0 ≤ k ∧ k < n ∧ cost ≠ 0 ∧ 1152921504606846976 - cost < at_) ∨
    (goodTag V n T k cost at_ = true ∧ vokB V n T = true ∧ 0 ≤ k ∧ k < n ∧ cost ≠ 0 ∧ at_ ≤ 1152921504606846976 - cost) := by
  unfold goodTag
  cases hv : vokB V n T
  · exact .inl ⟨by simp, .inl rfl⟩
  · by_cases h1 : k < 0
    · exact .inl ⟨by simp; omega, .inr (.inl ⟨rfl, h1⟩)⟩
    · by_cases h2 : (n : Int) ≤ k
      · exact .inl ⟨by simp; omega, .inr (.inr (.inl ⟨rfl, by omega, h2⟩))⟩
      · by_cases h3 : cost = 0
        · exact .inl ⟨by simp [h3], .inr (.inr (.inr ⟨rfl, by omega, by omega, h3⟩))⟩
        · by_cases h4 : at_ ≤ 1152921504606846976 - cost
          · exact .inr (.inr ⟨by simp; omega, rfl, by omega, by omega, h3, h4⟩)
          · exact .inr (.inl ⟨by simp; omega, rfl, by omega, by omega, h3, by omega⟩)
theorem vok_at {V : Int} {n : Nat} {T : Nat → TagsE} (h : vokB V n T = true) {k : Nat} (hk : k < n) : 0 ≤ (T k).s ∧ (T k).s ≤ (T k).f ∧ (T k).f ≤ 1152921504606846976 ∧ 0 ≤ V ∧ V ≤ 1152921504606846976 ∧ n ≤ 8 := by
  unfold vokB at h
  simp only [Bool.and_eq_true, decide_eq_true_eq] at h
  have h2 := (okN_iff T n).1 h.2 k hk
  have h3 := h.1.2
  unfold tagB timeB at h2
  unfold timeB at h3
  simp at h2 h3
  omega

/-- what a tag that is asked for comes to -/
def TagP (w : World) (V : Int) (n : Nat) (T : Nat → TagsE) (k : Int) (cost at_ : Int) (e : Ending) (w' : World) : Prop := TagRes w V n T k.toNat cost at_ e w' (goodTag V n T k cost at_)

theorem beginW_any (V : Int) (a : Option Addr) (n c b o : Nat) (T : Nat → TagsE) (k cost at_ : Int) (g : Nat) (w : World) (hs : TagsIn w a n c b o T) (hn : n * 16 ≤ 140737488351232) (h0 : 0 ≤ cost) (h1 : cost ≤ 138378240000) (ha : at_ = max (headF T k) V)
    (hg : w.cell? ⟨g, 0, none⟩ = some (.int .i64 V)) (hgl : g < w.heap.size) :
    Calls Try.prog 53 #[.agg #[.int .i64 V, .slice a n c], .int .i64 k, .int .i64 cost, .func (.func 56) #[] #[.pointer (some ⟨g, 0, none⟩)]] w (TagP w V n T k cost at_) := by
  unfold TagP
  rcases goodTag_cases V n T k cost at_ with ⟨hG, hh⟩ | ⟨hG, hv, k0, k1, hc, hat⟩ | ⟨hG, hv, k0, k1, hc, hat⟩
  · rw [hG]
    exact begin_bad V a n c b o T k cost _ w hs hh
  · rw [hG]
    obtain ⟨k', rfl⟩ : ∃ k' : Nat, k = k' := ⟨k.toNat, by omega⟩
    exact beginW_far V a n c b o T k' cost at_ g w hs hn (by omega) hv (by omega) h1 (by simpa [headF] using ha) hat hg hgl
  · rw [hG]
    obtain ⟨k', rfl⟩ : ∃ k' : Nat, k = k' := ⟨k.toNat, by omega⟩
    have hb := vok_at hv (k := k') (by omega)
    simp only [headF, Int.toNat_natCast] at ha
    exact beginW_good V a n c b o T k' cost at_ g w hs hn (by omega) hv (by omega) h1 ha hat (by omega) hg hgl
theorem beginN_any (V : Int) (a : Option Addr) (n c b o : Nat) (T : Nat → TagsE) (k cost at_ : Int) (w : World) (hs : TagsIn w a n c b o T) (hn : n * 16 ≤ 140737488351232) (h0 : 0 ≤ cost) (h1 : cost ≤ 138378240000) (ha : at_ = headF T k) :
    Calls Try.prog 53 #[.agg #[.int .i64 V, .slice a n c], .int .i64 k, .int .i64 cost, .func (.func 55) #[] #[]] w (TagP w V n T k cost at_) := by
  unfold TagP
  rcases goodTag_cases V n T k cost at_ with ⟨hG, hh⟩ | ⟨hG, hv, k0, k1, hc, hat⟩ | ⟨hG, hv, k0, k1, hc, hat⟩
  · rw [hG]
    exact begin_bad V a n c b o T k cost _ w hs hh
  · rw [hG]
    obtain ⟨k', rfl⟩ : ∃ k' : Nat, k = k' := ⟨k.toNat, by omega⟩
    exact beginN_far V a n c b o T k' cost at_ w hs hn (by omega) hv (by omega) h1 (by simpa [headF] using ha) hat
  · rw [hG]
    obtain ⟨k', rfl⟩ : ∃ k' : Nat, k = k' := ⟨k.toNat, by omega⟩
    have hb := vok_at hv (k := k') (by omega)
    simp only [headF, Int.toNat_natCast] at ha
    exact beginN_good V a n c b o T k' cost at_ w hs hn (by omega) hv (by omega) h1 ha hat (by omega)

theorem TagP.res {w : World} {V : Int} {n : Nat} {T : Nat → TagsE} {k cost at_ : Int} {e : Ending} {w' : World} (h : TagP w V n T k cost at_ e w') : ∃ V' n' T' er, VRes w V' n' T' er e w' ∧
    (∀ e2 w2 w3, VRes w3 V' n' T' er e2 w2 → TagP w3 V n T k cost at_ e2 w2) := by
  unfold TagP at h ⊢
  cases hG : goodTag V n T k cost at_
  · rw [hG] at h
    exact ⟨0, 0, zeroT, 2, h, fun _ _ _ h => h⟩
  · rw [hG] at h
    exact ⟨V, n, _, 0, h, fun _ _ _ h => h⟩

set_option maxRecDepth 100000 in
set_option maxHeartbeats 8000000 in
theorem wake_any (V : Int) (a : Option Addr) (n c b o : Nat) (T : Nat → TagsE) (k s wt al : Int) (w : World) (hs : TagsIn w a n c b o T) (hn : n * 16 ≤ 140737488351232) :
    Calls Try.prog 41 #[.agg #[.int .i64 V, .slice a n c], .int .i64 k, .int .i64 s, .int .i64 wt, .int .i64 al] w (TagP w V n T k (costS s wt al) (max (headF T k) V)) := by
  have hcr := cost_range s wt al
  obtain ⟨C, hC⟩ : ∃ C, C = costS s wt al := ⟨_, rfl⟩
  rw [← hC] at hcr ⊢
  have C1 : Hid (∀ W, Calls Try.prog 54 #[.int .i64 s, .int .i64 wt, .int .i64 al] W fun e w' => e = .returned (.int .i64 C) ∧ W = w') := Lib.hid (fun W => by rw [hC]; exact cost_any s wt al W)
  obtain ⟨H, hH⟩ : ∃ H, H = max (headF T k) V := ⟨_, rfl⟩
  rw [← hH]
  have C2 : Hid (∀ W g, TagsIn W a n c b o T → W.cell? ⟨g, 0, none⟩ = some (.int .i64 V) → g < W.heap.size → Calls Try.prog 53 #[.agg #[.int .i64 V, .slice a n c], .int .i64 k, .int .i64 C, .func (.func 56) #[] #[.pointer (some ⟨g, 0, none⟩)]] W (TagP W V n T k C H)) :=
    Lib.hid (fun W g h1 h2 h3 => beginW_any V a n c b o T k C H g W h1 hn hcr.1 hcr.2 hH h2 h3)
  have HQ := Lib.hid (VB2.mk0 w #[.int .i64 V, .slice a n c] #[.int .i64 0, .slice none 0 0] 39 39)
  have HQ1 := Lib.hid (HQ.out.step (Below.refl _ _).drew)
  have HS := Lib.hid hs
  clear hs hC hH hcr
  go_enter Try.func41, Try.ntmps41
  go_wp2_with fail
  go_region_with (first
    | (go_at_call 54; refine Calls.mono (C1.out _) ?_; rintro e w' ⟨rfl, rfl⟩)
    | (go_at_call 53; refine Calls.mono (C2.out _ _ (HS.out.below HQ1.out.2.2) (HQ1.out.1.1 0) HQ1.out.1.2.2) ?_; rintro e W2 hT; have hT2 := hT.res; obtain ⟨V', n', T', er, hR, hK⟩ := hT2; obtain ⟨v, rfl, a2, c2, ob2, rfl, hRow, hO, hB⟩ := hR; have HQ2 := Lib.hid (HQ1.out.step hB); have z0 := HQ2.out.1.2.2; have r1 := HQ2.out.2.1.1; have y1 := HQ2.out.2.1.2.1; have z1 := HQ2.out.2.1.2.2; have HR := Lib.hid hRow; have HO := Lib.hid hO; have HK := Lib.hid hK; have zz := HQ1.out.2.1.2.2; clear hT hRow hO hK hB))
  all_goals
    go_wp2_with fail
    refine bodyPost_ret (v := .tuple #[.agg #[.int .i64 V', .slice a2 n' c2], .int .i64 er]) (by simp [results, Try.results41, go_sem, z1, r1, y1]) rfl (HK.out _ _ _ ⟨_, rfl, a2, c2, ob2, rfl, ?_, ?_, ?_⟩)
    · refine HR.out.congr fun g e => ?_
      have := HO.out g e
      rw [heap_setCell_ne _ _ _ _ (by simp only; omega), heap_setCell_ne _ _ _ _ (by simp only; omega)]
    · exact fun g e => by have := HO.out g e; omega
    · exact (HQ2.out.2.2.setCell (by simp only; omega) _).setCell (by simp only; omega) _
set_option maxRecDepth 100000 in
set_option maxHeartbeats 8000000 in
theorem next_any (V : Int) (a : Option Addr) (n c b o : Nat) (T : Nat → TagsE) (k s wt al : Int) (w : World) (hs : TagsIn w a n c b o T) (hn : n * 16 ≤ 140737488351232) :
    Calls Try.prog 40 #[.agg #[.int .i64 V, .slice a n c], .int .i64 k, .int .i64 s, .int .i64 wt, .int .i64 al] w (TagP w V n T k (costS s wt al) (headF T k)) := by
  have hcr := cost_range s wt al
  obtain ⟨C, hC⟩ : ∃ C, C = costS s wt al := ⟨_, rfl⟩
  rw [← hC] at hcr ⊢
  have C1 : Hid (∀ W, Calls Try.prog 54 #[.int .i64 s, .int .i64 wt, .int .i64 al] W fun e w' => e = .returned (.int .i64 C) ∧ W = w') := Lib.hid (fun W => by rw [hC]; exact cost_any s wt al W)
  obtain ⟨H, hH⟩ : ∃ H, H = headF T k := ⟨_, rfl⟩
  rw [← hH]
  have C2 : Hid (∀ W, TagsIn W a n c b o T → Calls Try.prog 53 #[.agg #[.int .i64 V, .slice a n c], .int .i64 k, .int .i64 C, .func (.func 55) #[] #[]] W (TagP W V n T k C H)) :=
    Lib.hid (fun W h1 => beginN_any V a n c b o T k C H W h1 hn hcr.1 hcr.2 hH)
  have HQ := Lib.hid (VB2.mk0 w #[.int .i64 V, .slice a n c] #[.int .i64 0, .slice none 0 0] 39 39)
  have HQ1 := Lib.hid (HQ.out.step (Below.refl _ _).drew)
  have HS := Lib.hid hs
  clear hs hC hH hcr
  go_enter Try.func40, Try.ntmps40
  go_wp2_with fail
  go_region_with (first
    | (go_at_call 54; refine Calls.mono (C1.out _) ?_; rintro e w' ⟨rfl, rfl⟩)
    | (go_at_call 53; refine Calls.mono (C2.out _ (HS.out.below HQ1.out.2.2)) ?_; rintro e W2 hT; have hT2 := hT.res; obtain ⟨V', n', T', er, hR, hK⟩ := hT2; obtain ⟨v, rfl, a2, c2, ob2, rfl, hRow, hO, hB⟩ := hR; have HQ2 := Lib.hid (HQ1.out.step hB); have z0 := HQ2.out.1.2.2; have r1 := HQ2.out.2.1.1; have y1 := HQ2.out.2.1.2.1; have z1 := HQ2.out.2.1.2.2; have HR := Lib.hid hRow; have HO := Lib.hid hO; have HK := Lib.hid hK; have zz := HQ1.out.2.1.2.2; clear hT hRow hO hK hB))
  all_goals
    go_wp2_with fail
    refine bodyPost_ret (v := .tuple #[.agg #[.int .i64 V', .slice a2 n' c2], .int .i64 er]) (by simp [results, Try.results40, go_sem, z1, r1, y1]) rfl (HK.out _ _ _ ⟨_, rfl, a2, c2, ob2, rfl, ?_, ?_, ?_⟩)
    · refine HR.out.congr fun g e => ?_
      have := HO.out g e
      rw [heap_setCell_ne _ _ _ _ (by simp only; omega), heap_setCell_ne _ _ _ _ (by simp only; omega)]
    · exact fun g e => by have := HO.out g e; omega
    · exact (HQ2.out.2.2.setCell (by simp only; omega) _).setCell (by simp only; omega) _
end Go.Proofs.Ytnainlemnkfpkaa
