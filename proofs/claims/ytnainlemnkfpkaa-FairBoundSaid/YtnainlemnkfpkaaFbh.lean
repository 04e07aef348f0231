/-
  The bound, pick by pick.
-/
import Derived.Test.YtnainlemnkfpkaaFbg
namespace Go.Proofs.Ytnainlemnkfpkaa
open Go.RowKit
set_option linter.unusedSimpArgs false
set_option linter.unusedVariables false


theorem pX_hear {w al : Int} {k : Nat} {m : Int} {s : FS} (hm : 0 ≤ m) (hz : 0 ≤ s.z k) : pX (hearS w al k m s) k ≤ max (pX s k) s.V ∧ ((s.sv k = true ∨ s.z k = m) → 0 < m → pX (hearS w al k m s) k = pX s k) := by
  have hh := hear_k w al k m s hm hz
  have e1 := hear_zk w al k m s
  have e2 := hear_svk w al k m s
  generalize hearS w al k m s = N at hh e1 e2
  unfold pX
  rw [e1, e2]
  simp only [Bool.false_eq_true, if_false]
  cases hh with
  | r1 a1 a2 a3 =>
    rw [a3, a1, a2]
    simp only [if_true, Int.lt_irrefl, if_false]
    exact ⟨by omega, fun _ h => by first | exact h.elim | omega⟩
  | r2 a1 a2 a3 =>
    rw [a3, a1]
    simp only [if_true, if_pos a2]
    exact ⟨by omega, fun _ _ => by first | trivial | rfl⟩
  | r3 a1 a2 a3 =>
    rw [a3, a1, a2]
    simp only [Bool.false_eq_true, if_false]
    exact ⟨by split <;> omega, fun _ _ => by first | trivial | rfl⟩
  | r4 a1 a2 a4 a3 =>
    rw [a3, a1, a4]
    simp only [Bool.false_eq_true, if_false, Int.lt_irrefl, if_pos a2]
    exact ⟨by omega, fun _ h => by first | exact h.elim | omega⟩
  | r5 a1 a2 a4 a5 a3 =>
    rw [a3, a1]
    simp only [Bool.false_eq_true, if_false, if_pos a2, if_pos a4]
    exact ⟨by omega, fun h _ => by rcases h with h | h; exact h.elim; exact absurd h a5⟩
  | r6 a1 a2 a4 a3 =>
    rw [a3, a1, a2]
    simp only [Bool.false_eq_true, if_false, Int.lt_irrefl, if_pos a4]
    exact ⟨by omega, fun h h1 => by rcases h with h | h; exact h.elim; omega⟩
theorem pX_hearN {n : Nat} (wt : Nat → Int) (al : Int) {m : Nat → Int} (hm : ∀ k, k < n → 0 ≤ m k) {s : FS} {i : Nat} (hz : 0 ≤ s.z i) : ∀ k : Nat, k ≤ n → (k ≤ i → (hearN wt al m k s).T i = s.T i ∧ (hearN wt al m k s).z i = s.z i ∧ (hearN wt al m k s).sv i = s.sv i) ∧ (i < k → pX (hearN wt al m k s) i ≤ max (pX s i) s.V ∧ ((s.sv i = true ∨ s.z i = m i) → 0 < m i → pX (hearN wt al m k s) i = pX s i))
  | 0, _ => ⟨fun _ => ⟨rfl, rfl, rfl⟩, fun h => by omega⟩
  | k + 1, hk => by
    obtain ⟨h1, h2⟩ := pX_hearN wt al hm hz k (by omega)
    have hV := hearN_V wt al m s k
    show ((k + 1 ≤ i → (hearS (wt k) al k (m k) (hearN wt al m k s)).T i = _ ∧ _) ∧ _)
    generalize hN : hearN wt al m k s = N at h1 h2 hV
    constructor
    · intro hi
      have hik : i ≠ k := by omega
      rw [hear_T _ _ _ _ _ hik]
      show _ ∧ (hearS (wt k) al k (m k) (hearN wt al m k s)).z i = _ ∧ (hearS (wt k) al k (m k) (hearN wt al m k s)).sv i = _
      rw [hN, hear_z _ _ _ _ _ hik, hear_sv _ _ _ _ _ hik]
      exact h1 (by omega)
    · intro hi
      show pX (hearS (wt k) al k (m k) (hearN wt al m k s)) i ≤ _ ∧ (_ → _ → pX (hearS (wt k) al k (m k) (hearN wt al m k s)) i = _)
      rw [hN]
      by_cases hik : i = k
      · subst hik
        obtain ⟨g1, g2, g3⟩ := h1 (Nat.le_refl _)
        have hp := pX_hear (w := wt i) (al := al) (k := i) (m := m i) (s := N) (hm i (by omega)) (by rw [g2]; exact hz)
        have hx : pX N i = pX s i := by unfold pX; rw [g1, g2, g3]
        rw [hx, hV, g2, g3] at hp
        exact hp
      · have hx : pX (hearS (wt k) al k (m k) N) i = pX N i := by unfold pX; rw [hear_T _ _ _ _ _ hik, hear_z _ _ _ _ _ hik, hear_sv _ _ _ _ _ hik]
        rw [hx]
        exact h2 (by omega)
structure FbI (n : Nat) (wt : Nat → Int) (al : Int) (i : Nat) (own most : Int) (c : Nat) (s : FS) (hd : Int) (fr N : Nat) (U : Nat → Int) : Prop where
  inv : Inv n s
  lag : LagI n wt al (most * 720720) s
  lead : wt i * pX s i ≤ wt i * s.V + own * 720720 * (al - wt i)
  r : ∀ k, fr ≤ k → k ≤ N → wt i * pX s i - wt i * s.V - own * 720720 * (al - wt i) ≤ U N - U k
  le : fr ≤ N
  same : fr = N ∨ s.sv i = true ∨ s.z i = hd
  vb : s.V ≤ 139459320000 * c
theorem fb_step {n : Nat} {wt : Nat → Int} {al : Int} {i : Nat} {own most : Int} {c : Nat} {s : FS} {hd : Int} {fr N : Nat} {U : Nat → Int} (h : FbI n wt al i own most c s hd fr N U) (hw : WtOk n wt al) (hal : sumW wt n = al) (hi : i < n) {m : Nat → Int} (hm : ∀ k, k < n → 0 ≤ m k ∧ m k ≤ 1500) (hmost : ∀ k, k < n → m k ≤ most) (hown : m i ≤ own) (ho : 0 ≤ own) (hc : c ≤ 1000) (hrd : 0 < m i → m i = hd) :
    (pkK n wt al m s = none → FbI n wt al i own most (c + 1) (pkS n wt al m s) hd N N U) ∧
    (∀ q, pkK n wt al m s = some q → ∀ (U' : Nat → Int) (hd' : Int), (∀ k, k ≤ N → U' k = U k) → U' (N + 1) = U N + (if q = i then al * 720720 * m i else 0) - wt i * 720720 * m q → (q ≠ i → hd' = hd) →
      (m i = 0 → FbI n wt al i own most (c + 1) (pkS n wt al m s) hd' (N + 1) (N + 1) U') ∧
      (0 < m i → FbI n wt al i own most (c + 1) (pkS n wt al m s) hd' fr (N + 1) U' ∧ ∀ k, fr ≤ k → k ≤ N → -(wt i * (most * 720720)) - 2 * (own * 720720 * (al - wt i)) ≤ U' (N + 1) - U' k)) := by
  have hwi := hw.w i hi
  have hal0 : 0 ≤ al := by omega
  obtain ⟨P, hP⟩ : ∃ P, P = own * 720720 * (al - wt i) := ⟨_, rfl⟩
  have hP0 : 0 ≤ P := by rw [hP]; exact Int.mul_nonneg (by omega) (by omega)
  have hlead := h.lead
  have hr := h.r
  rw [← hP] at hlead hr ⊢
  have hz0 := (h.inv.k i hi).z0
  have hp := (pX_hearN (n := n) wt al (fun k hk => (hm k hk).1) (s := s) (i := i) hz0.1 n (Nat.le_refl _)).2 hi
  have hi1 := inv_hearN hw hm n h.inv (Nat.le_refl _)
  have hl1 := lag_hearN hw hm n h.lag h.inv (Nat.le_refl _)
  have hV1 := hearN_V wt al m s n
  have hz1 := hearN_z wt al m s n
  have hs1 := hearN_sv wt al m s n
  have hle := h.le
  have hvb := h.vb
  unfold pkS pkK
  generalize hearN wt al m n s = s1 at hp hi1 hl1 hV1 hz1 hs1 ⊢
  have hlead1 : wt i * pX s1 i ≤ wt i * s1.V + P := by
    rw [hV1]
    have h1 := mulL (w := wt i) (by omega) hp.1
    have h2 : wt i * max (pX s i) s.V ≤ wt i * s.V + P := by
      by_cases hx : pX s i ≤ s.V
      · rw [Int.max_eq_right hx]; omega
      · rw [Int.max_eq_left (by omega)]; exact hlead
    omega
  have hr1 : 0 < m i → ∀ k, fr ≤ k → k ≤ N → wt i * pX s1 i - wt i * s1.V - P ≤ U N - U k := by
    intro hmi k h1 h2
    rcases h.same with e | e
    · obtain rfl : k = N := by omega
      omega
    · have : pX s1 i = pX s i := hp.2 (by rcases e with e | e; exact .inl e; exact .inr (by rw [e, hrd hmi])) hmi
      rw [this, hV1]
      exact hr k h1 h2
  clear hp
  cases hpk : pickS n m s1 with
  | none =>
    refine ⟨fun _ => ⟨hi1, hl1, by rw [← hP]; exact hlead1, fun k h1 h2 => ?_, Nat.le_refl _, .inl rfl, by simp only; rw [hV1]; omega⟩, fun q e => by cases e⟩
    obtain rfl : k = N := by omega
    rw [← hP]
    simp only
    omega
  | some p =>
    obtain ⟨q0, s2⟩ := p
    refine ⟨fun e => (by cases e), fun q e U' hd' hU1 hU2 hhd => ?_⟩
    obtain rfl : q0 = q := by simpa using e
    simp only
    have hinv2 := (inv_pick hi1 hm (fun k hk => hz1 k hk) hpk).1
    obtain ⟨hl2, now, v1, v2, v3, v4, v5, v6, v7, v8, v9⟩ := lag_pick hl1 hi1 hw hal (fun j hj => hs1 j hj) (fun j hj => hz1 j hj) hpk (fun j hj => by have := hmost j hj; omega) (by rw [hV1]; omega)
    have hmq := hm q0 v8
    have hvb2 : s2.V ≤ 139459320000 * ((c + 1 : Nat) : Int) := by rw [v1]; omega
    have hmono : wt i * s1.V ≤ wt i * now := mulL (by omega) v2
    have hVe : wt i * s2.V = wt i * now + wt i * 720720 * m q0 := by rw [v1, Int.mul_add, Int.mul_comm (m q0) 720720, ← Int.mul_assoc]
    -- the place of flow i
    have hX : wt i * pX s2 i = wt i * pX s1 i + (if q0 = i then al * 720720 * m i else 0) ∧ wt i * pX s2 i ≤ wt i * s2.V + P := by
      by_cases hq : q0 = i
      · subst hq
        rw [if_pos rfl]
        have hx2 : pX s2 q0 = (s1.T q0).f := by unfold pX; rw [v7, upf_at, v5]; rfl
        have hx1 : pX s1 q0 = (s1.T q0).s := by unfold pX; rw [hs1 q0 v8, hz1 q0 v8]; simp only [Bool.false_eq_true, if_false]; rw [if_pos v9]
        have hcs := hl1.cost q0 v8 (hs1 q0 v8) (by rw [hz1 q0 v8]; exact v9)
        rw [hz1 q0 v8] at hcs
        have e1 : al * 720720 * m q0 = m q0 * al * 720720 := by rw [Int.mul_comm (al * 720720), ← Int.mul_assoc]
        rw [hx2, hx1, hcs, e1]
        refine ⟨rfl, ?_⟩
        have h1 := mulL (w := wt q0) (by omega) v4
        have h2 : m q0 * 720720 * (al - wt q0) ≤ P := by
          rw [hP]
          exact Int.mul_le_mul_of_nonneg_right (by omega) (by omega)
        have e2 : m q0 * 720720 * (al - wt q0) = m q0 * al * 720720 - wt q0 * 720720 * m q0 := by
          rw [Int.mul_sub, Int.mul_assoc (m q0) 720720 al, Int.mul_comm 720720 al, ← Int.mul_assoc]
          congr 1
          rw [Int.mul_comm (m q0) 720720, Int.mul_comm (720720 * m q0) (wt q0), Int.mul_assoc]
        omega
      · rw [if_neg hq]
        have hx : pX s2 i = pX s1 i := by unfold pX; rw [v7, upf_ne _ _ (fun e => hq e.symm), v5, v6]
        rw [hx]
        have : 0 ≤ wt i * 720720 * m q0 := Int.mul_nonneg (by omega) (by omega)
        exact ⟨by omega, by omega⟩
    obtain ⟨hX1, hX2⟩ := hX
    constructor
    · intro hm0
      refine ⟨hinv2, hl2, by rw [← hP]; exact hX2, fun k h1 h2 => ?_, Nat.le_refl _, .inl rfl, hvb2⟩
      obtain rfl : k = N + 1 := by omega
      rw [← hP]
      omega
    · intro hmi
      have hR : ∀ k, fr ≤ k → k ≤ N + 1 → wt i * pX s2 i - wt i * s2.V - P ≤ U' (N + 1) - U' k := by
        intro k h1 h2
        by_cases hk : k = N + 1
        · subst hk; omega
        · have h3 := hr1 hmi k h1 (by omega)
          rw [hU1 k (by omega), hU2]
          omega
      refine ⟨⟨hinv2, hl2, by rw [← hP]; exact hX2, fun k h1 h2 => by rw [← hP]; exact hR k h1 h2, by omega, ?_, hvb2⟩, fun k h1 h2 => ?_⟩
      · by_cases hq : q0 = i
        · right; left; rw [v7, hq, upf_at]
        · right; right; rw [v6, hz1 i hi, hhd hq, hrd hmi]
      · have h3 := hR k h1 (by omega)
        have hlagX : wt i * s2.V - wt i * (most * 720720) - P ≤ wt i * pX s2 i := by
          have hsf := (hinv2.k i hi).sf
          have hnn : ∀ j, j < n → 0 ≤ wt j * cF s2.V (s2.T i).f s2 j := fun j hj => Int.mul_nonneg (by have := hw.w j hj; omega) (cF_nn (hinv2.k j hj).sf)
          have hlg := hl2.lag (s2.T i).f (.inr ⟨i, hi, by by_cases hq : q0 = i; exact .inl (by rw [v7, hq, upf_at]); exact .inr (by rw [v6, hz1 i hi]; exact hmi), Int.le_refl _⟩)
          have hone := sumF_one (F := fun j => wt j * cF s2.V (s2.T i).f s2 j) (q := i) hnn hi
          try simp only at hone
          by_cases hq : q0 = i
          · have hx2 : pX s2 i = (s2.T i).f := by unfold pX; rw [v7, hq, upf_at]; rfl
            have h0 := hnn i hi
            have hle2 : al * s2.V ≤ al * ((s2.T i).f + most * 720720) := by omega
            have hle3 : s2.V ≤ (s2.T i).f + most * 720720 := Int.le_of_mul_le_mul_left hle2 (by omega)
            have h5 := mulL (w := wt i) (by omega) hle3
            rw [Int.mul_add] at h5
            rw [hx2]
            omega
          · have hsv2 : s2.sv i = false := by rw [v7, upf_ne _ _ (fun e => hq e.symm)]; exact hs1 i hi
            have hz2 : s2.z i = m i := by rw [v6, hz1 i hi]
            have hcs := hl2.cost i hi hsv2 (by rw [hz2]; exact hmi)
            rw [hz2] at hcs
            have hc1 : cF s2.V (s2.T i).f s2 i = (s2.T i).f - (s2.T i).s := by
              unfold cF
              rw [hsv2, hz2]
              simp only [Bool.false_eq_true, if_false]
              rw [if_pos hmi, if_pos (Int.le_refl _)]
            have hx2 : pX s2 i = (s2.T i).s := by unfold pX; rw [hsv2, hz2]; simp only [Bool.false_eq_true, if_false]; rw [if_pos hmi]
            rw [hc1, Int.mul_sub] at hone
            have e1 : m i * al * 720720 = al * (m i * 720720) := by rw [Int.mul_comm (m i) al, Int.mul_assoc]
            have hle2 : al * (s2.V + m i * 720720) ≤ al * ((s2.T i).f + most * 720720) := by
              rw [Int.mul_add]
              omega
            have hle3 : s2.V + m i * 720720 ≤ (s2.T i).f + most * 720720 := Int.le_of_mul_le_mul_left hle2 (by omega)
            have h5 := mulL (w := wt i) (by omega) hle3
            rw [Int.mul_add, Int.mul_add] at h5
            have h6 : m i * 720720 * (al - wt i) ≤ P := by
              rw [hP]
              exact Int.mul_le_mul_of_nonneg_right (by omega) (by omega)
            have e2 : m i * 720720 * (al - wt i) = m i * al * 720720 - wt i * (m i * 720720) := by
              rw [Int.mul_sub, Int.mul_assoc (m i) 720720 al, Int.mul_comm 720720 al, ← Int.mul_assoc]
              congr 1
              rw [Int.mul_comm]
            rw [hx2]
            omega
        omega
/-- at the beginning -/
theorem fb_start {n : Nat} {wt : Nat → Int} {al : Int} {i : Nat} {own most : Int} {hd : Int} {U : Nat → Int} (hw : WtOk n wt al) (hal : sumW wt n = al) (hi : i < n) (h8 : n ≤ 8) (ho : 0 ≤ own) (hmo : 0 ≤ most) : FbI n wt al i own most 0 s0F hd 0 0 U := by
  have hwi := hw.w i hi
  have hP0 : 0 ≤ own * 720720 * (al - wt i) := Int.mul_nonneg (by omega) (by omega)
  have hx : pX s0F i = 0 := rfl
  have hv : s0F.V = 0 := rfl
  refine ⟨inv0 h8, ⟨fun D hD => ?_, fun j hj h1 h2 => by cases h2⟩, by rw [hx, hv]; omega, fun k h1 h2 => ?_, Nat.le_refl _, .inl rfl, by rw [hv]; omega⟩
  · have hD0 : 0 ≤ D := by
      rcases hD with h | ⟨j, hj, h1, h2⟩
      · exact h
      · exact h2
    have hle := sumF_le (F := fun j => wt j * cF s0F.V D s0F j) (G := fun j => wt j * D) (n := n) (fun j hj => mulL (by have := hw.w j hj; omega) (by
      show max 0 (D - max 0 0) ≤ D
      omega))
    rw [sumF_mul, hal] at hle
    have := mulL (w := al) (a := D) (b := D + most * 720720) (by omega) (by omega)
    rw [hv] at hle ⊢
    omega
  · obtain rfl : k = 0 := by omega
    rw [hx, hv]
    omega
end Go.Proofs.Ytnainlemnkfpkaa
