/-
  The bound: what always holds of how far flows lag behind, and lead.
-/
import Derived.Test.YtnainlemnkfpkaaFad
namespace Go.Proofs.Ytnainlemnkfpkaa
open Go.RowKit
set_option linter.unusedSimpArgs false
set_option linter.unusedVariables false


theorem cost_mul {m w al : Int} (hm : 1 ≤ m ∧ m ≤ 1500) (hw : 1 ≤ w ∧ w ≤ 16 ∧ w ≤ al) (ha : al ≤ 128) : w * costS m w al = m * al * 720720 := by
  have hq : w * (720720 / w) = 720720 := by
    have : w = 1 ∨ w = 2 ∨ w = 3 ∨ w = 4 ∨ w = 5 ∨ w = 6 ∨ w = 7 ∨ w = 8 ∨ w = 9 ∨ w = 10 ∨ w = 11 ∨ w = 12 ∨ w = 13 ∨ w = 14 ∨ w = 15 ∨ w = 16 := by omega
    rcases this with h | h | h | h | h | h | h | h | h | h | h | h | h | h | h | h <;> rw [h] <;> decide
  unfold costS
  rw [if_pos (by unfold costB; simp; omega)]
  rw [Int.mul_left_comm, hq]
def sumF (F : Nat → Int) : Nat → Int
  | 0 => 0
  | n + 1 => sumF F n + F n
theorem sumF_le {F G : Nat → Int} : ∀ {n : Nat}, (∀ j, j < n → F j ≤ G j) → sumF F n ≤ sumF G n
  | 0, _ => Int.le_refl _
  | n + 1, h => by
    have h1 := sumF_le (n := n) (fun j hj => h j (by omega))
    have h2 := h n (by omega)
    simp only [sumF]; omega
theorem sumF_drop {F G : Nat → Int} {c : Int} {q : Nat} : ∀ {n : Nat}, (∀ j, j < n → F j ≤ G j) → q < n → F q + c ≤ G q → sumF F n + c ≤ sumF G n
  | 0, _, h, _ => by omega
  | n + 1, h, hq, hc => by
    simp only [sumF]
    by_cases hqn : q = n
    · subst hqn
      have h1 := sumF_le (n := q) (fun j hj => h j (by omega))
      omega
    · have h1 := sumF_drop (n := n) (fun j hj => h j (by omega)) (by omega) hc
      have h2 := h n (by omega)
      omega
theorem sumF_nn {F : Nat → Int} : ∀ {n : Nat}, (∀ j, j < n → 0 ≤ F j) → 0 ≤ sumF F n
  | 0, _ => Int.le_refl _
  | n + 1, h => by
    have h1 := sumF_nn (n := n) (fun j hj => h j (by omega))
    have h2 := h n (by omega)
    simp only [sumF]; omega
theorem sumF_one {F : Nat → Int} {q : Nat} : ∀ {n : Nat}, (∀ j, j < n → 0 ≤ F j) → q < n → F q ≤ sumF F n
  | 0, _, h => by omega
  | n + 1, h, hq => by
    simp only [sumF]
    have h2 := h n (by omega)
    by_cases hqn : q = n
    · subst hqn
      have := sumF_nn (n := q) (fun j hj => h j (by omega))
      omega
    · have h1 := sumF_one (q := q) (n := n) (fun j hj => h j (by omega)) (by omega)
      omega
theorem sumF_mul (wt : Nat → Int) (x : Int) : ∀ n : Nat, sumF (fun j => wt j * x) n = sumW wt n * x
  | 0 => by simp [sumF, sumW]
  | n + 1 => by simp only [sumF, sumW, sumF_mul wt x n, Int.add_mul]
theorem mulL {w a b : Int} (hw : 0 ≤ w) (h : a ≤ b) : w * a ≤ w * b := Int.mul_le_mul_of_nonneg_left h hw
/-- how much work of a flow may be due by D -/
def cF (V D : Int) (s : FS) (j : Nat) : Int :=
  if s.sv j = true then max 0 (D - (s.T j).f)
  else if 0 < s.z j then (if (s.T j).f ≤ D then D - (s.T j).s else max 0 (D - max (s.T j).s V))
  else max 0 (D - max (s.T j).f V)
def pX (s : FS) (j : Nat) : Int := if s.sv j = true then (s.T j).f else if 0 < s.z j then (s.T j).s else (s.T j).f
theorem cF_nn {V D : Int} {s : FS} {j : Nat} (h : (s.T j).s ≤ (s.T j).f) : 0 ≤ cF V D s j := by
  unfold cF
  split
  · omega
  · split
    · split <;> omega
    · omega
def dueP (n : Nat) (D : Int) (s : FS) : Prop := ∃ j, j < n ∧ (s.sv j = true ∨ 0 < s.z j) ∧ (s.T j).f ≤ D
structure LagI (n : Nat) (wt : Nat → Int) (al Lm : Int) (s : FS) : Prop where
  lag : ∀ D, (s.V ≤ D ∨ dueP n D s) → al * s.V + sumF (fun j => wt j * cF s.V D s j) n ≤ al * (D + Lm)
  cost : ∀ j, j < n → s.sv j = false → 0 < s.z j → wt j * (s.T j).f = wt j * (s.T j).s + s.z j * al * 720720
/-- what hearing leaves of one flow -/
inductive HearK (w al : Int) (k : Nat) (m : Int) (s N : FS) : Prop
  | r1 (h1 : s.sv k = true) (h2 : m = 0) (h3 : N.T k = s.T k)
  | r2 (h1 : s.sv k = true) (h2 : 0 < m) (h3 : N.T k = ⟨(s.T k).f, (s.T k).f + costS m w al⟩)
  | r3 (h1 : s.sv k = false) (h2 : s.z k = m) (h3 : N.T k = s.T k)
  | r4 (h1 : s.sv k = false) (h2 : 0 < s.z k) (h4 : m = 0) (h3 : N.T k = ⟨(s.T k).s, (s.T k).s⟩)
  | r5 (h1 : s.sv k = false) (h2 : 0 < s.z k) (h4 : 0 < m) (h5 : s.z k ≠ m) (h3 : N.T k = ⟨max (s.T k).s s.V, max (s.T k).s s.V + costS m w al⟩)
  | r6 (h1 : s.sv k = false) (h2 : s.z k = 0) (h4 : 0 < m) (h3 : N.T k = ⟨max (s.T k).f s.V, max (s.T k).f s.V + costS m w al⟩)
theorem hear_k (w al : Int) (k : Nat) (m : Int) (s : FS) (hm : 0 ≤ m) (hz : 0 ≤ s.z k) : HearK w al k m s (hearS w al k m s) := by
  cases hs : s.sv k
  · by_cases hzm : s.z k = m
    · refine .r3 hs hzm ?_
      have hn : hNew k m s = false := by unfold hNew; rw [hs, hzm]; simp
      unfold hearS
      rw [hn]
      simp only [Bool.false_eq_true, if_false]
      unfold hT1
      rw [if_neg (fun h => h.2.1 hzm)]
    · by_cases hz0 : 0 < s.z k
      · have hh : hT1 k m s = updT s.T k ⟨(s.T k).s, (s.T k).s⟩ := by unfold hT1; rw [if_pos ⟨hs, hzm, hz0⟩]
        by_cases hm0 : m = 0
        · refine .r4 hs hz0 hm0 ?_
          have hn : hNew k m s = false := by unfold hNew; rw [hm0]; simp
          unfold hearS
          rw [hn, hh]
          simp only [Bool.false_eq_true, if_false]
          exact updT_at _ _ _
        · refine .r5 hs hz0 (by omega) hzm ?_
          have hn : hNew k m s = true := by unfold hNew; simp [hm0, hzm]
          have ha : hAt k m s = max (s.T k).s s.V := by unfold hAt; rw [hs, hh, updT_at]; simp
          unfold hearS
          rw [hn, ha]
          simp only [if_true]
          exact updT_at _ _ _
      · have hh : hT1 k m s = s.T := by unfold hT1; rw [if_neg (fun h => hz0 h.2.2)]
        refine .r6 hs (by omega) (by omega) ?_
        have hn : hNew k m s = true := by unfold hNew; simp [hzm]; omega
        have ha : hAt k m s = max (s.T k).f s.V := by unfold hAt; rw [hs, hh]; simp
        unfold hearS
        rw [hn, ha]
        simp only [if_true]
        exact updT_at _ _ _
  · have hh : hT1 k m s = s.T := by unfold hT1; rw [if_neg (fun h => by rw [hs] at h; cases h.1)]
    by_cases hm0 : m = 0
    · refine .r1 hs hm0 ?_
      have hn : hNew k m s = false := by unfold hNew; rw [hm0]; simp
      unfold hearS
      rw [hn, hh]
      simp
    · refine .r2 hs (by omega) ?_
      have hn : hNew k m s = true := by unfold hNew; rw [hs]; simp [hm0]
      have ha : hAt k m s = (s.T k).f := by unfold hAt; rw [hs]; simp
      unfold hearS
      rw [hn, ha]
      simp only [if_true]
      exact updT_at _ _ _
theorem hear_T (w al : Int) (k : Nat) (m : Int) (s : FS) {j : Nat} (h : j ≠ k) : (hearS w al k m s).T j = s.T j := by
  unfold hearS
  simp only
  split
  · rw [updT_ne _ _ h, hT1_ne _ _ _ _ h]
  · rw [hT1_ne _ _ _ _ h]
theorem hear_z (w al : Int) (k : Nat) (m : Int) (s : FS) {j : Nat} (h : j ≠ k) : (hearS w al k m s).z j = s.z j := upf_ne _ _ h
theorem hear_sv (w al : Int) (k : Nat) (m : Int) (s : FS) {j : Nat} (h : j ≠ k) : (hearS w al k m s).sv j = s.sv j := upf_ne _ _ h
theorem hear_zk (w al : Int) (k : Nat) (m : Int) (s : FS) : (hearS w al k m s).z k = m := upf_at _ _ _
theorem hear_svk (w al : Int) (k : Nat) (m : Int) (s : FS) : (hearS w al k m s).sv k = false := upf_at _ _ _
theorem hear_V (w al : Int) (k : Nat) (m : Int) (s : FS) : (hearS w al k m s).V = s.V := rfl
theorem cF_hear {w al : Int} {k : Nat} {m : Int} {s : FS} {D : Int} (hm : 0 ≤ m) (hi : InvK s k) (hc : 0 < m → 0 < costS m w al) :
    cF s.V D (hearS w al k m s) k ≤ cF s.V D s k ∧ (0 < m → ((hearS w al k m s).T k).f ≤ D → s.V ≤ D ∨ ((s.sv k = true ∨ 0 < s.z k) ∧ (s.T k).f ≤ D)) := by
  have h1 := hi.sf
  have h2 := hi.z0
  have hh := hear_k w al k m s hm h2.1
  have e1 := hear_zk w al k m s
  have e2 := hear_svk w al k m s
  generalize hearS w al k m s = N at hh e1 e2
  unfold cF
  rw [e1, e2]
  simp only [Bool.false_eq_true, if_false]
  cases hh with
  | r1 a1 a2 a3 =>
    rw [a3, a1, a2]
    simp only [if_true, Int.lt_irrefl, if_false]
    exact ⟨by omega, fun h => by first | exact h.elim | omega⟩
  | r2 a1 a2 a3 =>
    have := hc a2
    rw [a3, a1]
    simp only [if_true, if_pos a2]
    exact ⟨by split <;> omega, fun _ h => .inr ⟨.inl trivial, by omega⟩⟩
  | r3 a1 a2 a3 =>
    rw [a3, a1, a2]
    simp only [Bool.false_eq_true, if_false]
    exact ⟨Int.le_refl _, fun h1 h => .inr ⟨.inr h1, h⟩⟩
  | r4 a1 a2 a4 a3 =>
    rw [a3, a1, a4]
    simp only [Bool.false_eq_true, if_false, Int.lt_irrefl, if_pos a2]
    exact ⟨by split <;> omega, fun h => by first | exact h.elim | omega⟩
  | r5 a1 a2 a4 a5 a3 =>
    have := hc a4
    rw [a3, a1]
    simp only [Bool.false_eq_true, if_false, if_pos a2, if_pos a4]
    exact ⟨by split <;> split <;> omega, fun _ h => .inl (by omega)⟩
  | r6 a1 a2 a4 a3 =>
    have := hc a4
    rw [a3, a1, a2]
    simp only [Bool.false_eq_true, if_false, Int.lt_irrefl, if_pos a4]
    exact ⟨by split <;> omega, fun _ h => .inl (by omega)⟩
theorem lag_hear {n : Nat} {wt : Nat → Int} {al Lm : Int} {s : FS} (h : LagI n wt al Lm s) (hi : Inv n s) (hw : WtOk n wt al) {k : Nat} (hk : k < n) {m : Int} (hm : 0 ≤ m ∧ m ≤ 1500) : LagI n wt al Lm (hearS (wt k) al k m s) := by
  have hwk := hw.w k hk
  have hcp : 0 < m → 0 < costS m (wt k) al := fun h1 => cost_pos ⟨by omega, hm.2⟩ hwk hw.a
  refine ⟨fun D hD => ?_, fun j hj h1 h2 => ?_⟩
  · have hcf := cF_hear (w := wt k) (al := al) (D := D) hm.1 (hi.k k hk) hcp
    have hdom : s.V ≤ D ∨ dueP n D s := by
      rcases hD with h1 | ⟨j, hj, h1, h2⟩
      · exact .inl h1
      · by_cases hjk : j = k
        · subst hjk
          rw [hear_svk, hear_zk] at h1
          rcases h1 with h1 | h1
          · cases h1
          · rcases hcf.2 h1 h2 with h3 | h3
            · exact .inl h3
            · exact .inr ⟨j, hj, h3.1, h3.2⟩
        · rw [hear_sv _ _ _ _ _ hjk, hear_z _ _ _ _ _ hjk] at h1
          rw [hear_T _ _ _ _ _ hjk] at h2
          exact .inr ⟨j, hj, h1, h2⟩
    have h0 := h.lag D hdom
    have hle : sumF (fun j => wt j * cF s.V D (hearS (wt k) al k m s) j) n ≤ sumF (fun j => wt j * cF s.V D s j) n := sumF_le fun j hj => by
      have hwj := hw.w j hj
      refine mulL (by omega) ?_
      by_cases hjk : j = k
      · subst hjk; exact hcf.1
      · unfold cF
        rw [hear_sv _ _ _ _ _ hjk, hear_z _ _ _ _ _ hjk, hear_T _ _ _ _ _ hjk]
        exact Int.le_refl _
    rw [hear_V]
    omega
  · by_cases hjk : j = k
    · subst hjk
      rw [hear_zk] at h2 ⊢
      have hmul := cost_mul ⟨by omega, hm.2⟩ hwk hw.a (m := m)
      cases hear_k (wt j) al j m s hm.1 (hi.k j hj).z0.1 with
      | r1 a1 a2 a3 => omega
      | r2 a1 a2 a3 => rw [a3]; simp only; rw [Int.mul_add, hmul]
      | r3 a1 a2 a3 => rw [a3, ← a2]; exact h.cost j hj a1 (by omega)
      | r4 a1 a2 a4 a3 => omega
      | r5 a1 a2 a4 a5 a3 => rw [a3]; simp only; rw [Int.mul_add, hmul]
      | r6 a1 a2 a4 a3 => rw [a3]; simp only; rw [Int.mul_add, hmul]
    · rw [hear_sv _ _ _ _ _ hjk] at h1
      rw [hear_z _ _ _ _ _ hjk] at h2 ⊢
      rw [hear_T _ _ _ _ _ hjk]
      exact h.cost j hj h1 h2
theorem lag_hearN {n : Nat} {wt : Nat → Int} {al Lm : Int} (hw : WtOk n wt al) {m : Nat → Int} (hm : ∀ k, k < n → 0 ≤ m k ∧ m k ≤ 1500) : ∀ (k : Nat) {s : FS}, LagI n wt al Lm s → Inv n s → k ≤ n → LagI n wt al Lm (hearN wt al m k s)
  | 0, _, h, _, _ => h
  | k + 1, s, h, hi, hk => lag_hear (lag_hearN hw hm k h hi (by omega)) (inv_hearN hw hm k hi (by omega)) hw (by omega) (hm k (by omega))
theorem hearN_V (wt : Nat → Int) (al : Int) (m : Nat → Int) (s : FS) : ∀ k : Nat, (hearN wt al m k s).V = s.V
  | 0 => rfl
  | k + 1 => hearN_V wt al m s k
theorem hearN_sv (wt : Nat → Int) (al : Int) (m : Nat → Int) (s : FS) : ∀ (n k : Nat), k < n → (hearN wt al m n s).sv k = false
  | 0, _, h => by omega
  | n + 1, k, h => by
    show upf (hearN wt al m n s).sv n false k = false
    by_cases hk : k = n
    · subst hk; rw [upf_at]
    · rw [upf_ne _ _ hk]; exact hearN_sv wt al m s n k (by omega)
/-- behind a pick -/
theorem lag_pick {n : Nat} {wt : Nat → Int} {al Lm : Int} {s s' : FS} {m : Nat → Int} {q : Nat} (h : LagI n wt al Lm s) (hi : Inv n s) (hw : WtOk n wt al) (hal : sumW wt n = al) (hsv : ∀ j, j < n → s.sv j = false) (hz : ∀ j, j < n → s.z j = m j) (hp : pickS n m s = some (q, s')) (hLm : ∀ j, j < n → m j * 720720 ≤ Lm) (hV : s.V ≤ 1000000000000000) :
    LagI n wt al Lm s' ∧ ∃ now, s'.V = now + m q * 720720 ∧ s.V ≤ now ∧ now ≤ s.V + 138378240000 ∧ (s.T q).s ≤ now ∧ s'.T = s.T ∧ s'.z = s.z ∧ s'.sv = upf s.sv q true ∧ q < n ∧ 0 < m q := by
  unfold pickS at hp
  cases h1 : firstS (rdy m) (ltS s.T) n with
  | none => rw [h1] at hp; cases hp
  | some k0 =>
    rw [h1] at hp
    simp only at hp
    cases h2 : firstS (tkN s.T (rdy m) (max s.V (s.T k0).s)) (ltF s.T) n with
    | none => rw [h2] at hp; cases hp
    | some q' =>
      rw [h2] at hp
      simp only [Option.some.injEq, Prod.mk.injEq] at hp
      obtain ⟨rfl, rfl⟩ := hp
      obtain ⟨k1, k2⟩ := firstS_some h1
      obtain ⟨q1, q2⟩ := firstS_some h2
      have least1 := firstS_least (tk := rdy m) (key := fun j => (s.T j).s) h1
      have least2 := firstS_least (tk := tkN s.T (rdy m) (max s.V (s.T k0).s)) (key := fun j => (s.T j).f) h2
      obtain ⟨now, hnow⟩ : ∃ now, now = max s.V (s.T k0).s := ⟨_, rfl⟩
      rw [← hnow] at q2 least2 ⊢
      have hk0 := (hi.k k0 k1).sV
      have hrq : 0 < m q' ∧ (s.T q').s ≤ now := by
        unfold tkN rdy at q2
        simp at q2
        exact q2
      have hmq : 0 ≤ s.z q' ∧ s.z q' ≤ 1500 := (hi.k q' q1).z0
      rw [hz q' q1] at hmq
      have htk : takeS n q' now (m q') s = ⟨now + m q' * 720720, s.T, s.z, upf s.sv q' true⟩ := by
        unfold takeS
        rw [if_neg (by omega), if_neg (by omega)]
      rw [htk]
      have hwq := hw.w q' q1
      have hcost := h.cost q' q1 (hsv q' q1) (by rw [hz q' q1]; exact hrq.1)
      rw [hz q' q1] at hcost
      have hal0 : 0 ≤ al := by omega
      have hLq := hLm q' q1
      have hrdy : ∀ j, j < n → 0 < s.z j → (s.T k0).s ≤ (s.T j).s := fun j hj hzj => least1 j hj (by unfold rdy; rw [← hz j hj]; simp [hzj])
      have hfin : ∀ j, j < n → 0 < s.z j → (s.T j).s ≤ now → (s.T q').f ≤ (s.T j).f := fun j hj hzj hs => least2 j hj (by unfold tkN rdy; rw [← hz j hj]; simp [hzj, hs])
      refine ⟨⟨fun D hD => ?_, fun j hj g1 g2 => ?_⟩, now, rfl, by omega, by omega, hrq.2, rfl, rfl, rfl, q1, hrq.1⟩
      · simp only at hD ⊢
        obtain ⟨N, hN⟩ : ∃ N : FS, N = ⟨now + m q' * 720720, s.T, s.z, upf s.sv q' true⟩ := ⟨_, rfl⟩
        have nsv : ∀ j, j < n → j ≠ q' → N.sv j = false := fun j hj hjq => by rw [hN]; simp only; rw [upf_ne _ _ hjq]; exact hsv j hj
        have nsq : N.sv q' = true := by rw [hN]; exact upf_at _ _ _
        have nT : N.T = s.T := by rw [hN]
        have nz : N.z = s.z := by rw [hN]
        rw [← hN] at hD ⊢
        obtain ⟨V2, hV2⟩ : ∃ V2, V2 = now + m q' * 720720 := ⟨_, rfl⟩
        rw [← hV2] at hD ⊢
        by_cases hF : (s.T q').f ≤ D
        · have hdue : dueP n D s := ⟨q', q1, .inr (by rw [hz q' q1]; exact hrq.1), hF⟩
          have h0 := h.lag D (.inr hdue)
          have hcq : cF V2 D N q' = D - (s.T q').f := by unfold cF; rw [nsq, nT]; simp only [if_true]; omega
          by_cases hj : (s.T k0).s ≤ s.V
          · -- no jump
            have hnv : now = s.V := by omega
            have hdrop := sumF_drop (F := fun j => wt j * cF V2 D N j) (G := fun j => wt j * cF s.V D s j) (c := m q' * al * 720720) (q := q') (n := n) (fun j hj => by
              refine mulL (by have := hw.w j hj; omega) ?_
              by_cases hjq : j = q'
              · subst hjq
                rw [hcq]
                unfold cF
                rw [hsv j hj]
                simp only [Bool.false_eq_true, if_false]
                have := (hi.k j hj).sf
                rw [if_pos (by rw [hz j hj]; exact hrq.1), if_pos hF]
                omega
              · unfold cF
                rw [nsv j hj hjq, hsv j hj, nT, nz]
                simp only [Bool.false_eq_true, if_false]
                split
                · split <;> omega
                · omega) q1 (by
              have hcs : cF s.V D s q' = D - (s.T q').s := by
                unfold cF
                rw [hsv q' q1]
                simp only [Bool.false_eq_true, if_false]
                rw [if_pos (by rw [hz q' q1]; exact hrq.1), if_pos hF]
              simp only [hcq, hcs, Int.mul_sub]
              omega)
            have e1 : al * V2 = al * s.V + m q' * al * 720720 := by rw [hV2, hnv, Int.mul_add, ← Int.mul_assoc, Int.mul_comm al (m q')]
            omega
          · have hnv : now = (s.T k0).s := by omega
            have hsq := hrdy q' q1 (by rw [hz q' q1]; exact hrq.1)
            have hsf := (hi.k q' q1).sf
            have hdrop := sumF_drop (F := fun j => wt j * cF V2 D N j) (G := fun j => wt j * (D - now)) (c := m q' * al * 720720) (q := q') (n := n) (fun j hj => by
              refine mulL (by have := hw.w j hj; omega) ?_
              by_cases hjq : j = q'
              · subst hjq; rw [hcq]; omega
              · unfold cF
                rw [nsv j hj hjq, nT, nz]
                simp only [Bool.false_eq_true, if_false]
                by_cases hzj : 0 < s.z j
                · have := hrdy j hj hzj
                  rw [if_pos hzj]
                  split <;> omega
                · rw [if_neg hzj]; omega) q1 (by
              have := mulL (a := now) (b := (s.T q').s) (w := wt q') (by omega) (by omega)
              simp only [hcq, Int.mul_sub]
              omega)
            rw [sumF_mul, hal] at hdrop
            have e1 : al * V2 = al * now + m q' * al * 720720 := by rw [hV2, Int.mul_add, ← Int.mul_assoc, Int.mul_comm al (m q')]
            have e2 := mulL (a := D) (b := D + Lm) hal0 (by omega)
            rw [Int.mul_sub] at hdrop
            omega
        · have hst : ∀ j, j < n → 0 < s.z j → (s.T j).f ≤ D → now < (s.T j).s := fun j hj hzj hf => by
            by_cases hle : (s.T j).s ≤ now
            · have := hfin j hj hzj hle; omega
            · omega
          by_cases hnD : now ≤ D
          · have hcq : cF V2 D N q' = 0 := by unfold cF; rw [nsq, nT]; simp only [if_true]; omega
            have hle := sumF_le (F := fun j => wt j * cF V2 D N j) (G := fun j => wt j * (D - now)) (n := n) (fun j hj => by
              refine mulL (by have := hw.w j hj; omega) ?_
              by_cases hjq : j = q'
              · subst hjq; rw [hcq]; omega
              · unfold cF
                rw [nsv j hj hjq, nT, nz]
                simp only [Bool.false_eq_true, if_false]
                by_cases hzj : 0 < s.z j
                · rw [if_pos hzj]
                  by_cases hfD : (s.T j).f ≤ D
                  · have := hst j hj hzj hfD
                    rw [if_pos hfD]; omega
                  · rw [if_neg hfD]; omega
                · rw [if_neg hzj]; omega)
            rw [sumF_mul, hal, Int.mul_sub] at hle
            have e1 : al * V2 = al * now + al * (m q' * 720720) := by rw [hV2, Int.mul_add]
            have e2 := mulL (a := m q' * 720720) (b := Lm) hal0 hLq
            rw [Int.mul_add]
            omega
          · exfalso
            rcases hD with h9 | ⟨j, hj, g1, g2⟩
            · have : 0 ≤ m q' := by omega
              omega
            · rw [nT] at g2
              rw [nz] at g1
              by_cases hjq : j = q'
              · subst hjq; omega
              · rw [nsv j hj hjq] at g1
                rcases g1 with g1 | g1
                · cases g1
                · have := hst j hj g1 g2
                  have := (hi.k j hj).sf
                  omega
      · simp only at g1 g2 ⊢
        by_cases hjq : j = q'
        · subst hjq; rw [upf_at] at g1; cases g1
        · exact h.cost j hj (hsv j hj) g2
end Go.Proofs.Ytnainlemnkfpkaa
