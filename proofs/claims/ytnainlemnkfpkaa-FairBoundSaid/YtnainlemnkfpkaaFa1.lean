/-
  A scheduler as plain numbers: what it takes of heads, what it picks; what always holds of it.
-/
import Derived.Test.YtnainlemnkfpkaaVu9
import Derived.Test.YtnainlemnkfpkaaVu13
import Derived.Test.YtnainlemnkfpkaaVu22
namespace Go.Proofs.Ytnainlemnkfpkaa
open Go.RowKit
set_option linter.unusedSimpArgs false
set_option linter.unusedVariables false

structure FS where
  V : Int
  T : Nat → TagsE
  z : Nat → Int
  sv : Nat → Bool
def upf {α : Type} (f : Nat → α) (k : Nat) (x : α) : Nat → α := fun j => if j = k then x else f j
theorem upf_at {α : Type} (f : Nat → α) (k : Nat) (x : α) : upf f k x k = x := by simp [upf]
theorem upf_ne {α : Type} (f : Nat → α) {k j : Nat} (x : α) (h : j ≠ k) : upf f k x j = f j := by simp [upf, h]
theorem updT_at (T : Nat → TagsE) (k : Nat) (x : TagsE) : updT T k x k = x := by simp [updT]
theorem updT_ne (T : Nat → TagsE) {k j : Nat} (x : TagsE) (h : j ≠ k) : updT T k x j = T j := by simp [updT, h]
/-- what was not served starts no more -/
def hT1 (k : Nat) (m : Int) (s : FS) : Nat → TagsE := if s.sv k = false ∧ s.z k ≠ m ∧ 0 < s.z k then updT s.T k ⟨(s.T k).s, (s.T k).s⟩ else s.T
/-- where a flow's head starts, if it gets new tags -/
def hAt (k : Nat) (m : Int) (s : FS) : Int := if s.sv k = true then (s.T k).f else max (hT1 k m s k).f s.V
def hNew (k : Nat) (m : Int) (s : FS) : Bool := decide (m ≠ 0) && (s.sv k || decide (s.z k ≠ m))
def hearS (wt al : Int) (k : Nat) (m : Int) (s : FS) : FS :=
  ⟨s.V, if hNew k m s = true then updT (hT1 k m s) k ⟨hAt k m s, hAt k m s + costS m wt al⟩ else hT1 k m s, upf s.z k m, upf s.sv k false⟩
def hearN (wt : Nat → Int) (al : Int) (m : Nat → Int) : Nat → FS → FS
  | 0, s => s
  | k + 1, s => hearS (wt k) al k (m k) (hearN wt al m k s)
def rdy (m : Nat → Int) (k : Nat) : Bool := decide (0 < m k)
/-- what a pick leaves, of flow k at time now -/
def takeS (n k : Nat) (now size : Int) (s : FS) : FS :=
  ⟨if 1125899906842624 < now + size * 720720 then 1099511627776 else now + size * 720720,
   if 1125899906842624 < now + size * 720720 then rebT s.T (now + size * 720720 - 1099511627776) n else s.T, s.z, upf s.sv k true⟩
def pickS (n : Nat) (m : Nat → Int) (s : FS) : Option (Nat × FS) :=
  match firstS (rdy m) (ltS s.T) n with
  | none => none
  | some k0 => match firstS (tkN s.T (rdy m) (max s.V (s.T k0).s)) (ltF s.T) n with
    | none => none
    | some k => some (k, takeS n k (max s.V (s.T k0).s) (m k) s)
def pkS (n : Nat) (wt : Nat → Int) (al : Int) (m : Nat → Int) (s : FS) : FS := match pickS n m (hearN wt al m n s) with
  | none => hearN wt al m n s
  | some p => p.2
def pkK (n : Nat) (wt : Nat → Int) (al : Int) (m : Nat → Int) (s : FS) : Option Nat := (pickS n m (hearN wt al m n s)).map (·.1)

/-- what holds of one flow -/
structure InvK (s : FS) (k : Nat) : Prop where
  s0 : 0 ≤ (s.T k).s
  sf : (s.T k).s ≤ (s.T k).f
  fs : (s.T k).f ≤ (s.T k).s + 138378240000
  sV : (s.T k).s ≤ s.V + 138378240000
  z0 : 0 ≤ s.z k ∧ s.z k ≤ 1500
  fV : s.sv k = true ∨ s.z k = 0 → (s.T k).f ≤ s.V + 138378240000
structure Inv (n : Nat) (s : FS) : Prop where
  n8 : n ≤ 8
  V : 0 ≤ s.V ∧ s.V ≤ 1125899906842624
  k : ∀ k, k < n → InvK s k
structure WtOk (n : Nat) (wt : Nat → Int) (al : Int) : Prop where
  w : ∀ k, k < n → 1 ≤ wt k ∧ wt k ≤ 16 ∧ wt k ≤ al
  a : al ≤ 128
theorem InvK.tag {s : FS} {k : Nat} (h : InvK s k) (hV : 0 ≤ s.V ∧ s.V ≤ 1125899906842624) : tagB (s.T k) = true := by
  have := h.s0
  have := h.sf
  have := h.fs
  have := h.sV
  unfold tagB timeB
  simp
  omega
theorem Inv.vok {n : Nat} {s : FS} (h : Inv n s) : vokB s.V n s.T = true := by
  have h8 := h.n8
  have hV := h.V
  unfold vokB timeB
  simp only [Bool.and_eq_true, decide_eq_true_eq]
  exact ⟨⟨by omega, by omega, by omega⟩, (okN_iff s.T n).2 fun k hk => (h.k k hk).tag hV⟩
theorem Inv.tok {n : Nat} {s : FS} (h : Inv n s) (k : Nat) (hk : k < n) : (s.T k).ok := by
  have h1 := h.k k hk
  have := h.V
  have := h1.s0
  have := h1.sf
  have := h1.fs
  have := h1.sV
  unfold TagsE.ok
  omega
theorem cost_pos {m wt al : Int} (hm : 1 ≤ m ∧ m ≤ 1500) (hw : 1 ≤ wt ∧ wt ≤ 16 ∧ wt ≤ al) (ha : al ≤ 128) : 0 < costS m wt al := by
  unfold costS
  rw [if_pos (by unfold costB; simp; omega)]
  have h1 : 1 ≤ 720720 / wt := by
    rw [Int.le_ediv_iff_mul_le (by omega)]
    omega
  have h2 : 0 < m * al := Int.mul_pos (by omega) (by omega)
  exact Int.mul_pos h2 (by omega)
/-- the tags behind the first part -/
theorem hT1_k (k : Nat) (m : Int) (s : FS) : ((hT1 k m s) k).s = (s.T k).s ∧ (((hT1 k m s) k).f = (s.T k).f ∨ (((hT1 k m s) k).f = (s.T k).s ∧ s.sv k = false ∧ 0 < s.z k)) := by
  unfold hT1
  split
  · next h => rw [updT_at]; exact ⟨rfl, .inr ⟨rfl, h.1, h.2.2⟩⟩
  · exact ⟨rfl, .inl rfl⟩
theorem hT1_ne (k j : Nat) (m : Int) (s : FS) (h : j ≠ k) : (hT1 k m s) j = s.T j := by
  unfold hT1
  split
  · rw [updT_ne _ _ h]
  · rfl
theorem hAt_bd {s : FS} {k : Nat} (h : InvK s k) (hV : 0 ≤ s.V ∧ s.V ≤ 1125899906842624) (m : Int) (hn : hNew k m s = true) : 0 ≤ hAt k m s ∧ hAt k m s ≤ s.V + 138378240000 := by
  have h1 := h.s0
  have h2 := h.sf
  have h3 := h.sV
  have h4 := h.fV
  have h5 := h.z0
  obtain ⟨e1, e2⟩ := hT1_k k m s
  unfold hNew at hn
  unfold hAt
  cases hs : s.sv k
  · rw [hs] at hn h4 e2
    simp at hn
    simp only [Bool.false_eq_true, if_false]
    by_cases hz : 0 < s.z k
    · have hf : ((hT1 k m s) k).f = (s.T k).s := by
        unfold hT1
        rw [if_pos ⟨hs, hn.2, hz⟩, updT_at]
      omega
    · have h6 := h4 (.inr (by omega))
      rcases e2 with e2 | ⟨_, _, e2⟩ <;> omega
  · have h6 := h4 (.inl hs)
    simp only [if_true]
    omega
theorem inv_hear {n : Nat} {s : FS} (h : Inv n s) {k : Nat} (hk : k < n) {m : Int} (hm : 0 ≤ m ∧ m ≤ 1500) {wt al : Int} (hw : 1 ≤ wt ∧ wt ≤ 16 ∧ wt ≤ al) (ha : al ≤ 128) : Inv n (hearS wt al k m s) := by
  refine ⟨h.n8, h.V, fun j hj => ?_⟩
  have hc := cost_range m wt al
  by_cases hjk : j = k
  · subst hjk
    have h0 := h.k j hj
    have h1 := h0.s0
    have h2 := h0.sf
    have h3 := h0.fs
    have h4 := h0.sV
    have h5 := h0.fV
    have h6 := h0.z0
    have hV := h.V
    obtain ⟨e1, e2⟩ := hT1_k j m s
    unfold hearS
    cases hn : hNew j m s
    · simp only [Bool.false_eq_true, if_false]
      have hcase : m = 0 ∨ (s.sv j = false ∧ s.z j = m) := by
        unfold hNew at hn
        cases hs : s.sv j
        · rw [hs] at hn; simp at hn; by_cases h0 : m = 0; exact .inl h0; exact .inr ⟨rfl, hn h0⟩
        · rw [hs] at hn; simp at hn; exact .inl hn
      have hmz : m = 0 → ((hT1 j m s) j).f ≤ s.V + 138378240000 := by
        intro h0
        cases hs : s.sv j
        · by_cases hz : 0 < s.z j
          · have : ((hT1 j m s) j).f = (s.T j).s := by unfold hT1; rw [if_pos ⟨hs, by omega, hz⟩, updT_at]
            omega
          · have := h5 (.inr (by omega))
            rcases e2 with e | ⟨_, _, e⟩ <;> omega
        · have := h5 (.inl hs)
          rcases e2 with e | ⟨_, e, _⟩
          · omega
          · rw [hs] at e; cases e
      refine ⟨by simp only; omega, by simp only; rcases e2 with e | ⟨e, _⟩ <;> omega, by simp only; rcases e2 with e | ⟨e, _⟩ <;> omega, by simp only; omega, by simp only [upf_at]; exact hm, ?_⟩
      simp only [upf_at]
      rintro (e | e)
      · cases e
      · exact hmz e
    · simp only [if_true]
      obtain ⟨b1, b2⟩ := hAt_bd h0 hV m hn
      refine ⟨by simp only [updT_at]; exact b1, by simp only [updT_at]; omega, by simp only [updT_at]; omega, by simp only [updT_at]; exact b2, by simp only [upf_at]; exact hm, ?_⟩
      simp only [upf_at]
      rintro (e | e)
      · cases e
      · unfold hNew at hn; simp at hn; omega
  · have h0 := h.k j hj
    have hT : (hearS wt al k m s).T j = s.T j := by
      unfold hearS
      simp only
      split
      · rw [updT_ne _ _ hjk, hT1_ne _ _ _ _ hjk]
      · rw [hT1_ne _ _ _ _ hjk]
    have hz : (hearS wt al k m s).z j = s.z j := upf_ne _ _ hjk
    have hs : (hearS wt al k m s).sv j = s.sv j := upf_ne _ _ hjk
    exact ⟨by rw [hT]; exact h0.s0, by rw [hT]; exact h0.sf, by rw [hT]; exact h0.fs, by rw [hT]; exact h0.sV, by rw [hz]; exact h0.z0, by rw [hT, hz, hs]; exact h0.fV⟩
theorem inv_hearN {n : Nat} {wt : Nat → Int} {al : Int} (hw : WtOk n wt al) {m : Nat → Int} (hm : ∀ k, k < n → 0 ≤ m k ∧ m k ≤ 1500) : ∀ (k : Nat) {s : FS}, Inv n s → k ≤ n → Inv n (hearN wt al m k s)
  | 0, _, h, _ => h
  | k + 1, s, h, hk => by
    have ih := inv_hearN hw hm k h (by omega)
    exact inv_hear ih (by omega) (hm k (by omega)) (hw.w k (by omega)) hw.a
/-- what virtual is asked is never refused -/
theorem hear_good {n : Nat} {s : FS} (h : Inv n s) {k : Nat} (hk : k < n) {m : Int} (hm : 1 ≤ m ∧ m ≤ 1500) {wt al : Int} (hw : 1 ≤ wt ∧ wt ≤ 16 ∧ wt ≤ al) (ha : al ≤ 128) (hn : hNew k m s = true) :
    goodTag s.V n (hT1 k m s) k (costS m wt al) (hAt k m s) = true := by
  have hc := cost_range m wt al
  have hp := cost_pos hm hw ha
  obtain ⟨b1, b2⟩ := hAt_bd (h.k k hk) h.V m hn
  have hV := h.V
  have hv : vokB s.V n (hT1 k m s) = true := by
    have h8 := h.n8
    unfold vokB timeB
    simp only [Bool.and_eq_true, decide_eq_true_eq]
    refine ⟨⟨by omega, by omega, by omega⟩, (okN_iff _ n).2 fun j hj => ?_⟩
    have h1 := (h.k j hj).tag hV
    by_cases hjk : j = k
    · subst hjk
      obtain ⟨e1, e2⟩ := hT1_k j m s
      unfold tagB timeB at h1 ⊢
      simp at h1 ⊢
      rcases e2 with e | ⟨e, _⟩ <;> omega
    · rw [hT1_ne _ _ _ _ hjk]; exact h1
  unfold goodTag
  rw [hv]
  simp
  omega
theorem firstS_ex {tk : Nat → Bool} {lt : Nat → Nat → Bool} {n j : Nat} (hj : j < n) (h : tk j = true) : ∃ b, firstS tk lt n = some b := by
  cases hf : firstS tk lt n with
  | some b => exact ⟨b, rfl⟩
  | none => rw [firstS_none hf j hj] at h; cases h
theorem inv_pick {n : Nat} {s s' : FS} {m : Nat → Int} {k : Nat} (h : Inv n s) (hm : ∀ k, k < n → 0 ≤ m k ∧ m k ≤ 1500) (hz : ∀ k, k < n → s.z k = m k) (hp : pickS n m s = some (k, s')) : Inv n s' ∧ k < n ∧ 0 < m k := by
  unfold pickS at hp
  cases h1 : firstS (rdy m) (ltS s.T) n with
  | none => rw [h1] at hp; cases hp
  | some k0 =>
    rw [h1] at hp
    simp only at hp
    cases h2 : firstS (tkN s.T (rdy m) (max s.V (s.T k0).s)) (ltF s.T) n with
    | none => rw [h2] at hp; cases hp
    | some q =>
      rw [h2] at hp
      simp only [Option.some.injEq, Prod.mk.injEq] at hp
      obtain ⟨rfl, rfl⟩ := hp
      obtain ⟨k1, k2⟩ := firstS_some h1
      obtain ⟨q1, q2⟩ := firstS_some h2
      unfold tkN rdy at q2
      simp at q2
      obtain ⟨now, hnow⟩ : ∃ now, now = max s.V (s.T k0).s := ⟨_, rfl⟩
      rw [← hnow] at q2 ⊢
      have hk0 := h.k k0 k1
      have hV := h.V
      have g1 := hk0.sV
      have g2 := hk0.s0
      have hnow2 : s.V ≤ now ∧ now ≤ s.V + 138378240000 := by omega
      have hmk := hm q q1
      refine ⟨⟨h.n8, ?_, fun j hj => ?_⟩, q1, q2.1⟩
      · unfold takeS
        simp only
        split <;> omega
      · have h0 := h.k j hj
        have g3 := h0.s0
        have g4 := h0.sf
        have g5 := h0.fs
        have g6 := h0.sV
        have g7 := h0.fV
        have hsz : 0 ≤ m q * 720720 ∧ m q * 720720 ≤ 1081080000 := by omega
        obtain ⟨P, hP⟩ : ∃ P, P = m q * 720720 := ⟨_, rfl⟩
        have hfv : upf s.sv q true j = true ∨ s.z j = 0 → (s.T j).f ≤ now + P + 138378240000 := by
          by_cases hjq : j = q
          · subst hjq
            intro _
            omega
          · rw [upf_ne _ _ hjq]
            intro h9
            have := g7 h9
            omega
        unfold takeS
        rw [← hP] at hsz ⊢
        by_cases hl : 1125899906842624 < now + P
        · simp only [if_pos hl]
          have hr : rebT s.T (now + P - 1099511627776) n j = rebE (now + P - 1099511627776) (s.T j) := by unfold rebT; rw [if_pos hj]
          refine ⟨by simp only [hr, rebE]; omega, by simp only [hr, rebE]; omega, by simp only [hr, rebE]; omega, by simp only [hr, rebE]; omega, h0.z0, fun h9 => ?_⟩
          have := hfv h9
          simp only [hr, rebE]
          omega
        · simp only [if_neg hl]
          exact ⟨g3, g4, g5, by simp only; omega, h0.z0, hfv⟩
theorem hearN_z (wt : Nat → Int) (al : Int) (m : Nat → Int) (s : FS) : ∀ (n k : Nat), k < n → (hearN wt al m n s).z k = m k
  | 0, _, h => by omega
  | n + 1, k, h => by
    show upf (hearN wt al m n s).z n (m n) k = m k
    by_cases hk : k = n
    · subst hk; rw [upf_at]
    · rw [upf_ne _ _ hk]; exact hearN_z wt al m s n k (by omega)
theorem pk_some {n : Nat} {wt : Nat → Int} {al : Int} {m : Nat → Int} {s : FS} {j : Nat} (hj : j < n) (h : 0 < m j) : ∃ k, pkK n wt al m s = some k := by
  obtain ⟨k0, h1⟩ := firstS_ex (lt := ltS (hearN wt al m n s).T) hj (show rdy m j = true by simp [rdy, h])
  obtain ⟨k, h2⟩ := second_some (V := (hearN wt al m n s).V) h1
  exact ⟨k, by unfold pkK pickS; rw [h1]; simp only; rw [h2]; rfl⟩
theorem pk_none {n : Nat} {wt : Nat → Int} {al : Int} {m : Nat → Int} {s : FS} (h : pkK n wt al m s = none) : ∀ j, j < n → ¬ 0 < m j := by
  intro j hj h1
  obtain ⟨k, hk⟩ := pk_some (wt := wt) (al := al) (s := s) hj h1
  rw [h] at hk
  cases hk
theorem inv_pk {n : Nat} {wt : Nat → Int} {al : Int} (hw : WtOk n wt al) {m : Nat → Int} (hm : ∀ k, k < n → 0 ≤ m k ∧ m k ≤ 1500) {s : FS} (h : Inv n s) : Inv n (pkS n wt al m s) ∧ ∀ k, pkK n wt al m s = some k → k < n ∧ 0 < m k := by
  have hi := inv_hearN hw hm n h (Nat.le_refl _)
  unfold pkS pkK
  cases hp : pickS n m (hearN wt al m n s) with
  | none => exact ⟨hi, fun k e => by cases e⟩
  | some p =>
    obtain ⟨k, s'⟩ := p
    have := inv_pick hi hm (fun k hk => hearN_z wt al m s n k hk) hp
    refine ⟨this.1, fun k' e => ?_⟩
    obtain rfl : k = k' := by simpa using e
    exact this.2
end Go.Proofs.Ytnainlemnkfpkaa
