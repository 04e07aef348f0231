/-
  Texts of this claim, put together: Fbg, Fbh, Va, Vb, Vc0, Vi.
-/
import Derived.Test.YtoodmocapagapaaJdl
import Derived.Test.YtoodmocapagapaaJdn
import Derived.Test.YtoodmocapagapaaOa2
import Derived.Test.YtoodmocapagapaaOd1
import Derived.Test.YtoodmocapagapaaOe1
namespace Go.Proofs.Ytoodmocapagapaa
open Go.RowKit
set_option linter.unusedSimpArgs false
set_option linter.unusedVariables false


theorem cost_mul {m w al : Int} (hm : 1 ≤ m ∧ m ≤ 1500) (hw : 1 ≤ w ∧ w ≤ 16 ∧ w ≤ al) (ha : al ≤ 128) : w * costS m w al = m * al * 720720 := by
  have hq : w * (720720 / w) = 720720 := by
    have : w = 1 ∨ w = 2 ∨ w = 3 ∨ w = 4 ∨ w = 5 ∨ w = 6 ∨ w = 7 ∨ w = 8 ∨ w = 9 ∨ w = 10 ∨ w = 11 ∨ w = 12 ∨ w = 13 ∨ w = 14 ∨ w = 15 ∨ w = 16 := by omega
    rcases this with h | h | h | h | h | h | h | h | h | h | h | h | h | h | h | h <;> rw [h] <;> decide
  unfold costS
  rw [if_pos (by unfold costB; simp; omega)]
  rw [Int.mul_left_comm, hq]
def sumF (F : Nat → Int) : Nat → Int
  | 0 => 0
  | n + 1 => sumF F n + F n
theorem sumF_le {F G : Nat → Int} : ∀ {n : Nat}, (∀ j, j < n → F j ≤ G j) → sumF F n ≤ sumF G n
  | 0, _ => Int.le_refl _
  | n + 1, h => by
    have h1 := sumF_le (n := n) (fun j hj => h j (by omega))
    have h2 := h n (by omega)
    simp only [sumF]; omega
theorem sumF_drop {F G : Nat → Int} {c : Int} {q : Nat} : ∀ {n : Nat}, (∀ j, j < n → F j ≤ G j) → q < n → F q + c ≤ G q → sumF F n + c ≤ sumF G n
  | 0, _, h, _ => by omega
  | n + 1, h, hq, hc => by
    simp only [sumF]
    by_cases hqn : q = n
    · subst hqn
      have h1 := sumF_le (n := q) (fun j hj => h j (by omega))
      omega
    · have h1 := sumF_drop (n := n) (fun j hj => h j (by omega)) (by omega) hc
      have h2 := h n (by omega)
      omega
theorem sumF_nn {F : Nat → Int} : ∀ {n : Nat}, (∀ j, j < n → 0 ≤ F j) → 0 ≤ sumF F n
  | 0, _ => Int.le_refl _
  | n + 1, h => by
    have h1 := sumF_nn (n := n) (fun j hj => h j (by omega))
    have h2 := h n (by omega)
    simp only [sumF]; omega
theorem sumF_one {F : Nat → Int} {q : Nat} : ∀ {n : Nat}, (∀ j, j < n → 0 ≤ F j) → q < n → F q ≤ sumF F n
  | 0, _, h => by omega
  | n + 1, h, hq => by
    simp only [sumF]
    have h2 := h n (by omega)
    by_cases hqn : q = n
    · subst hqn
      have := sumF_nn (n := q) (fun j hj => h j (by omega))
      omega
    · have h1 := sumF_one (q := q) (n := n) (fun j hj => h j (by omega)) (by omega)
      omega
theorem sumF_mul (wt : Nat → Int) (x : Int) : ∀ n : Nat, sumF (fun j => wt j * x) n = sumW wt n * x
  | 0 => by simp [sumF, sumW]
  | n + 1 => by simp only [sumF, sumW, sumF_mul wt x n, Int.add_mul]
theorem mulL {w a b : Int} (hw : 0 ≤ w) (h : a ≤ b) : w * a ≤ w * b := Int.mul_le_mul_of_nonneg_left h hw
/-- how much work of a flow may be due by D -/
def cF (V D : Int) (s : FS) (j : Nat) : Int :=
  if s.sv j = true then max 0 (D - (s.T j).f)
  else if 0 < s.z j then (if (s.T j).f ≤ D then D - (s.T j).s else max 0 (D - max (s.T j).s V))
  else max 0 (D - max (s.T j).f V)
def pX (s : FS) (j : Nat) : Int := if s.sv j = true then (s.T j).f else if 0 < s.z j then (s.T j).s else (s.T j).f
theorem cF_nn {V D : Int} {s : FS} {j : Nat} (h : (s.T j).s ≤ (s.T j).f) : 0 ≤ cF V D s j := by
  unfold cF
  split
  · omega
  · split
    · split <;> omega
    · omega
def dueP (n : Nat) (D : Int) (s : FS) : Prop := ∃ j, j < n ∧ (s.sv j = true ∨ 0 < s.z j) ∧ (s.T j).f ≤ D
structure LagI (n : Nat) (wt : Nat → Int) (al Lm : Int) (s : FS) : Prop where
  lag : ∀ D, (s.V ≤ D ∨ dueP n D s) → al * s.V + sumF (fun j => wt j * cF s.V D s j) n ≤ al * (D + Lm)
  cost : ∀ j, j < n → s.sv j = false → 0 < s.z j → wt j * (s.T j).f = wt j * (s.T j).s + s.z j * al * 720720
/-- what hearing leaves of one flow -/
inductive HearK (w al : Int) (k : Nat) (m : Int) (s N : FS) : Prop
  | r1 (h1 : s.sv k = true) (h2 : m = 0) (h3 : N.T k = s.T k)
  | r2 (h1 : s.sv k = true) (h2 : 0 < m) (h3 : N.T k = ⟨(s.T k).f, (s.T k).f + costS m w al⟩)
  | r3 (h1 : s.sv k = false) (h2 : s.z k = m) (h3 : N.T k = s.T k)
  | r4 (h1 : s.sv k = false) (h2 : 0 < s.z k) (h4 : m = 0) (h3 : N.T k = ⟨(s.T k).s, (s.T k).s⟩)
  | r5 (h1 : s.sv k = false) (h2 : 0 < s.z k) (h4 : 0 < m) (h5 : s.z k ≠ m) (h3 : N.T k = ⟨max (s.T k).s s.V, max (s.T k).s s.V + costS m w al⟩)
  | r6 (h1 : s.sv k = false) (h2 : s.z k = 0) (h4 : 0 < m) (h3 : N.T k = ⟨max (s.T k).f s.V, max (s.T k).f s.V + costS m w al⟩)
theorem hear_k (w al : Int) (k : Nat) (m : Int) (s : FS) (hm : 0 ≤ m) (hz : 0 ≤ s.z k) : HearK w al k m s (hearS w al k m s) := by
  cases hs : s.sv k
  · by_cases hzm : s.z k = m
    · refine .r3 hs hzm ?_
      have hn : hNew k m s = false := by unfold hNew; rw [hs, hzm]; simp
      unfold hearS
      rw [hn]
      simp only [Bool.false_eq_true, if_false]
      unfold hT1
      rw [if_neg (fun h => h.2.1 hzm)]
    · by_cases hz0 : 0 < s.z k
      · have hh : hT1 k m s = updT s.T k ⟨(s.T k).s, (s.T k).s⟩ := by unfold hT1; rw [if_pos ⟨hs, hzm, hz0⟩]
        by_cases hm0 : m = 0
        · refine .r4 hs hz0 hm0 ?_
          have hn : hNew k m s = false := by unfold hNew; rw [hm0]; simp
          unfold hearS
          rw [hn, hh]
          simp only [Bool.false_eq_true, if_false]
          exact updT_at _ _ _
        · refine .r5 hs hz0 (by omega) hzm ?_
          have hn : hNew k m s = true := by unfold hNew; simp [hm0, hzm]
          have ha : hAt k m s = max (s.T k).s s.V := by unfold hAt; rw [hs, hh, updT_at]; simp
          unfold hearS
          rw [hn, ha]
          simp only [if_true]
          exact updT_at _ _ _
      · have hh : hT1 k m s = s.T := by unfold hT1; rw [if_neg (fun h => hz0 h.2.2)]
        refine .r6 hs (by omega) (by omega) ?_
        have hn : hNew k m s = true := by unfold hNew; simp [hzm]; omega
        have ha : hAt k m s = max (s.T k).f s.V := by unfold hAt; rw [hs, hh]; simp
        unfold hearS
        rw [hn, ha]
        simp only [if_true]
        exact updT_at _ _ _
  · have hh : hT1 k m s = s.T := by unfold hT1; rw [if_neg (fun h => by rw [hs] at h; cases h.1)]
    by_cases hm0 : m = 0
    · refine .r1 hs hm0 ?_
      have hn : hNew k m s = false := by unfold hNew; rw [hm0]; simp
      unfold hearS
      rw [hn, hh]
      simp
    · refine .r2 hs (by omega) ?_
      have hn : hNew k m s = true := by unfold hNew; rw [hs]; simp [hm0]
      have ha : hAt k m s = (s.T k).f := by unfold hAt; rw [hs]; simp
      unfold hearS
      rw [hn, ha]
      simp only [if_true]
      exact updT_at _ _ _
theorem hear_T (w al : Int) (k : Nat) (m : Int) (s : FS) {j : Nat} (h : j ≠ k) : (hearS w al k m s).T j = s.T j := by
  unfold hearS
  simp only
  split
  · rw [updT_ne _ _ h, hT1_ne _ _ _ _ h]
  · rw [hT1_ne _ _ _ _ h]
theorem hear_z (w al : Int) (k : Nat) (m : Int) (s : FS) {j : Nat} (h : j ≠ k) : (hearS w al k m s).z j = s.z j := upf_ne _ _ h
theorem hear_sv (w al : Int) (k : Nat) (m : Int) (s : FS) {j : Nat} (h : j ≠ k) : (hearS w al k m s).sv j = s.sv j := upf_ne _ _ h
theorem hear_zk (w al : Int) (k : Nat) (m : Int) (s : FS) : (hearS w al k m s).z k = m := upf_at _ _ _
theorem hear_svk (w al : Int) (k : Nat) (m : Int) (s : FS) : (hearS w al k m s).sv k = false := upf_at _ _ _
theorem hear_V (w al : Int) (k : Nat) (m : Int) (s : FS) : (hearS w al k m s).V = s.V := rfl
theorem cF_hear {w al : Int} {k : Nat} {m : Int} {s : FS} {D : Int} (hm : 0 ≤ m) (hi : InvK s k) (hc : 0 < m → 0 < costS m w al) :
    cF s.V D (hearS w al k m s) k ≤ cF s.V D s k ∧ (0 < m → ((hearS w al k m s).T k).f ≤ D → s.V ≤ D ∨ ((s.sv k = true ∨ 0 < s.z k) ∧ (s.T k).f ≤ D)) := by
  have h1 := hi.sf
  have h2 := hi.z0
  have hh := hear_k w al k m s hm h2.1
  have e1 := hear_zk w al k m s
  have e2 := hear_svk w al k m s
  generalize hearS w al k m s = N at hh e1 e2
  unfold cF
  rw [e1, e2]
  simp only [Bool.false_eq_true, if_false]
  cases hh with
  | r1 a1 a2 a3 =>
    rw [a3, a1, a2]
    simp only [if_true, Int.lt_irrefl, if_false]
    exact ⟨by omega, fun h => by first | exact h.elim | omega⟩
  | r2 a1 a2 a3 =>
    have := hc a2
    rw [a3, a1]
    simp only [if_true, if_pos a2]
    exact ⟨by split <;> omega, fun _ h => .inr ⟨.inl trivial, by omega⟩⟩
  | r3 a1 a2 a3 =>
    rw [a3, a1, a2]
    simp only [Bool.false_eq_true, if_false]
    exact ⟨Int.le_refl _, fun h1 h => .inr ⟨.inr h1, h⟩⟩
  | r4 a1 a2 a4 a3 =>
    rw [a3, a1, a4]
    simp only [Bool.false_eq_true, if_false, Int.lt_irrefl, if_pos a2]
    exact ⟨by split <;> omega, fun h => by first | exact h.elim | omega⟩
  | r5 a1 a2 a4 a5 a3 =>
    have := hc a4
    rw [a3, a1]
    simp only [Bool.false_eq_true, if_false, if_pos a2, if_pos a4]
    exact ⟨by split <;> split <;> omega, fun _ h => .inl (by omega)⟩
  | r6 a1 a2 a4 a3 =>
    have := hc a4
    rw [a3, a1, a2]
    simp only [Bool.false_eq_true, if_false, Int.lt_irrefl, if_pos a4]
    exact ⟨by split <;> omega, fun _ h => .inl (by omega)⟩
theorem lag_hear {n : Nat} {wt : Nat → Int} {al Lm : Int} {s : FS} (h : LagI n wt al Lm s) (hi : Inv n s) (hw : WtOk n wt al) {k : Nat} (hk : k < n) {m : Int} (hm : 0 ≤ m ∧ m ≤ 1500) : LagI n wt al Lm (hearS (wt k) al k m s) := by
  have hwk := hw.w k hk
  have hcp : 0 < m → 0 < costS m (wt k) al := fun h1 => cost_pos ⟨by omega, hm.2⟩ hwk hw.a
  refine ⟨fun D hD => ?_, fun j hj h1 h2 => ?_⟩
  · have hcf := cF_hear (w := wt k) (al := al) (D := D) hm.1 (hi.k k hk) hcp
    have hdom : s.V ≤ D ∨ dueP n D s := by
      rcases hD with h1 | ⟨j, hj, h1, h2⟩
      · exact .inl h1
      · by_cases hjk : j = k
        · subst hjk
          rw [hear_svk, hear_zk] at h1
          rcases h1 with h1 | h1
          · cases h1
          · rcases hcf.2 h1 h2 with h3 | h3
            · exact .inl h3
            · exact .inr ⟨j, hj, h3.1, h3.2⟩
        · rw [hear_sv _ _ _ _ _ hjk, hear_z _ _ _ _ _ hjk] at h1
          rw [hear_T _ _ _ _ _ hjk] at h2
          exact .inr ⟨j, hj, h1, h2⟩
    have h0 := h.lag D hdom
    have hle : sumF (fun j => wt j * cF s.V D (hearS (wt k) al k m s) j) n ≤ sumF (fun j => wt j * cF s.V D s j) n := sumF_le fun j hj => by
      have hwj := hw.w j hj
      refine mulL (by omega) ?_
      by_cases hjk : j = k
      · subst hjk; exact hcf.1
      · unfold cF
        rw [hear_sv _ _ _ _ _ hjk, hear_z _ _ _ _ _ hjk, hear_T _ _ _ _ _ hjk]
        exact Int.le_refl _
    rw [hear_V]
    omega
  · by_cases hjk : j = k
    · subst hjk
      rw [hear_zk] at h2 ⊢
      have hmul := cost_mul ⟨by omega, hm.2⟩ hwk hw.a (m := m)
      cases hear_k (wt j) al j m s hm.1 (hi.k j hj).z0.1 with
      | r1 a1 a2 a3 => omega
      | r2 a1 a2 a3 => rw [a3]; simp only; rw [Int.mul_add, hmul]
      | r3 a1 a2 a3 => rw [a3, ← a2]; exact h.cost j hj a1 (by omega)
      | r4 a1 a2 a4 a3 => omega
      | r5 a1 a2 a4 a5 a3 => rw [a3]; simp only; rw [Int.mul_add, hmul]
      | r6 a1 a2 a4 a3 => rw [a3]; simp only; rw [Int.mul_add, hmul]
    · rw [hear_sv _ _ _ _ _ hjk] at h1
      rw [hear_z _ _ _ _ _ hjk] at h2 ⊢
      rw [hear_T _ _ _ _ _ hjk]
      exact h.cost j hj h1 h2
theorem lag_hearN {n : Nat} {wt : Nat → Int} {al Lm : Int} (hw : WtOk n wt al) {m : Nat → Int} (hm : ∀ k, k < n → 0 ≤ m k ∧ m k ≤ 1500) : ∀ (k : Nat) {s : FS}, LagI n wt al Lm s → Inv n s → k ≤ n → LagI n wt al Lm (hearN wt al m k s)
  | 0, _, h, _, _ => h
  | k + 1, s, h, hi, hk => lag_hear (lag_hearN hw hm k h hi (by omega)) (inv_hearN hw hm k hi (by omega)) hw (by omega) (hm k (by omega))
theorem hearN_V (wt : Nat → Int) (al : Int) (m : Nat → Int) (s : FS) : ∀ k : Nat, (hearN wt al m k s).V = s.V
  | 0 => rfl
  | k + 1 => hearN_V wt al m s k
theorem hearN_sv (wt : Nat → Int) (al : Int) (m : Nat → Int) (s : FS) : ∀ (n k : Nat), k < n → (hearN wt al m n s).sv k = false
  | 0, _, h => by omega
  | n + 1, k, h => by
    show upf (hearN wt al m n s).sv n false k = false
    by_cases hk : k = n
    · subst hk; rw [upf_at]
    · rw [upf_ne _ _ hk]; exact hearN_sv wt al m s n k (by omega)
/-- behind a pick -/
theorem lag_pick {n : Nat} {wt : Nat → Int} {al Lm : Int} {s s' : FS} {m : Nat → Int} {q : Nat} (h : LagI n wt al Lm s) (hi : Inv n s) (hw : WtOk n wt al) (hal : sumW wt n = al) (hsv : ∀ j, j < n → s.sv j = false) (hz : ∀ j, j < n → s.z j = m j) (hp : pickS n m s = some (q, s')) (hLm : ∀ j, j < n → m j * 720720 ≤ Lm) (hV : s.V ≤ 1000000000000000) :
    LagI n wt al Lm s' ∧ ∃ now, s'.V = now + m q * 720720 ∧ s.V ≤ now ∧ now ≤ s.V + 138378240000 ∧ (s.T q).s ≤ now ∧ s'.T = s.T ∧ s'.z = s.z ∧ s'.sv = upf s.sv q true ∧ q < n ∧ 0 < m q := by
  unfold pickS at hp
  cases h1 : firstS (rdy m) (ltS s.T) n with
  | none => rw [h1] at hp; cases hp
  | some k0 =>
    rw [h1] at hp
    simp only at hp
    cases h2 : firstS (tkN s.T (rdy m) (max s.V (s.T k0).s)) (ltF s.T) n with
    | none => rw [h2] at hp; cases hp
    | some q' =>
      rw [h2] at hp
      simp only [Option.some.injEq, Prod.mk.injEq] at hp
      obtain ⟨rfl, rfl⟩ := hp
      obtain ⟨k1, k2⟩ := firstS_some h1
      obtain ⟨q1, q2⟩ := firstS_some h2
      have least1 := firstS_least (tk := rdy m) (key := fun j => (s.T j).s) h1
      have least2 := firstS_least (tk := tkN s.T (rdy m) (max s.V (s.T k0).s)) (key := fun j => (s.T j).f) h2
      obtain ⟨now, hnow⟩ : ∃ now, now = max s.V (s.T k0).s := ⟨_, rfl⟩
      rw [← hnow] at q2 least2 ⊢
      have hk0 := (hi.k k0 k1).sV
      have hrq : 0 < m q' ∧ (s.T q').s ≤ now := by
        unfold tkN rdy at q2
        simp at q2
        exact q2
      have hmq : 0 ≤ s.z q' ∧ s.z q' ≤ 1500 := (hi.k q' q1).z0
      rw [hz q' q1] at hmq
      have htk : takeS n q' now (m q') s = ⟨now + m q' * 720720, s.T, s.z, upf s.sv q' true⟩ := by
        unfold takeS
        rw [if_neg (by omega), if_neg (by omega)]
      rw [htk]
      have hwq := hw.w q' q1
      have hcost := h.cost q' q1 (hsv q' q1) (by rw [hz q' q1]; exact hrq.1)
      rw [hz q' q1] at hcost
      have hal0 : 0 ≤ al := by omega
      have hLq := hLm q' q1
      have hrdy : ∀ j, j < n → 0 < s.z j → (s.T k0).s ≤ (s.T j).s := fun j hj hzj => least1 j hj (by unfold rdy; rw [← hz j hj]; simp [hzj])
      have hfin : ∀ j, j < n → 0 < s.z j → (s.T j).s ≤ now → (s.T q').f ≤ (s.T j).f := fun j hj hzj hs => least2 j hj (by unfold tkN rdy; rw [← hz j hj]; simp [hzj, hs])
      refine ⟨⟨fun D hD => ?_, fun j hj g1 g2 => ?_⟩, now, rfl, by omega, by omega, hrq.2, rfl, rfl, rfl, q1, hrq.1⟩
      · simp only at hD ⊢
        obtain ⟨N, hN⟩ : ∃ N : FS, N = ⟨now + m q' * 720720, s.T, s.z, upf s.sv q' true⟩ := ⟨_, rfl⟩
        have nsv : ∀ j, j < n → j ≠ q' → N.sv j = false := fun j hj hjq => by rw [hN]; simp only; rw [upf_ne _ _ hjq]; exact hsv j hj
        have nsq : N.sv q' = true := by rw [hN]; exact upf_at _ _ _
        have nT : N.T = s.T := by rw [hN]
        have nz : N.z = s.z := by rw [hN]
        rw [← hN] at hD ⊢
        obtain ⟨V2, hV2⟩ : ∃ V2, V2 = now + m q' * 720720 := ⟨_, rfl⟩
        rw [← hV2] at hD ⊢
        by_cases hF : (s.T q').f ≤ D
        · have hdue : dueP n D s := ⟨q', q1, .inr (by rw [hz q' q1]; exact hrq.1), hF⟩
          have h0 := h.lag D (.inr hdue)
          have hcq : cF V2 D N q' = D - (s.T q').f := by unfold cF; rw [nsq, nT]; simp only [if_true]; omega
          by_cases hj : (s.T k0).s ≤ s.V
          · -- no jump
            have hnv : now = s.V := by omega
            have hdrop := sumF_drop (F := fun j => wt j * cF V2 D N j) (G := fun j => wt j * cF s.V D s j) (c := m q' * al * 720720) (q := q') (n := n) (fun j hj => by
              refine mulL (by have := hw.w j hj; omega) ?_
              by_cases hjq : j = q'
              · subst hjq
                rw [hcq]
                unfold cF
                rw [hsv j hj]
                simp only [Bool.false_eq_true, if_false]
                have := (hi.k j hj).sf
                rw [if_pos (by rw [hz j hj]; exact hrq.1), if_pos hF]
                omega
              · unfold cF
                rw [nsv j hj hjq, hsv j hj, nT, nz]
                simp only [Bool.false_eq_true, if_false]
                split
                · split <;> omega
                · omega) q1 (by
              have hcs : cF s.V D s q' = D - (s.T q').s := by
                unfold cF
                rw [hsv q' q1]
                simp only [Bool.false_eq_true, if_false]
                rw [if_pos (by rw [hz q' q1]; exact hrq.1), if_pos hF]
              simp only [hcq, hcs, Int.mul_sub]
              omega)
            have e1 : al * V2 = al * s.V + m q' * al * 720720 := by rw [hV2, hnv, Int.mul_add, ← Int.mul_assoc, Int.mul_comm al (m q')]
            omega
          · have hnv : now = (s.T k0).s := by omega
            have hsq := hrdy q' q1 (by rw [hz q' q1]; exact hrq.1)
            have hsf := (hi.k q' q1).sf
            have hdrop := sumF_drop (F := fun j => wt j * cF V2 D N j) (G := fun j => wt j * (D - now)) (c := m q' * al * 720720) (q := q') (n := n) (fun j hj => by
              refine mulL (by have := hw.w j hj; omega) ?_
              by_cases hjq : j = q'
              · subst hjq; rw [hcq]; omega
              · unfold cF
                rw [nsv j hj hjq, nT, nz]
                simp only [Bool.false_eq_true, if_false]
                by_cases hzj : 0 < s.z j
                · have := hrdy j hj hzj
                  rw [if_pos hzj]
                  split <;> omega
                · rw [if_neg hzj]; omega) q1 (by
              have := mulL (a := now) (b := (s.T q').s) (w := wt q') (by omega) (by omega)
              simp only [hcq, Int.mul_sub]
              omega)
            rw [sumF_mul, hal] at hdrop
            have e1 : al * V2 = al * now + m q' * al * 720720 := by rw [hV2, Int.mul_add, ← Int.mul_assoc, Int.mul_comm al (m q')]
            have e2 := mulL (a := D) (b := D + Lm) hal0 (by omega)
            rw [Int.mul_sub] at hdrop
            omega
        · have hst : ∀ j, j < n → 0 < s.z j → (s.T j).f ≤ D → now < (s.T j).s := fun j hj hzj hf => by
            by_cases hle : (s.T j).s ≤ now
            · have := hfin j hj hzj hle; omega
            · omega
          by_cases hnD : now ≤ D
          · have hcq : cF V2 D N q' = 0 := by unfold cF; rw [nsq, nT]; simp only [if_true]; omega
            have hle := sumF_le (F := fun j => wt j * cF V2 D N j) (G := fun j => wt j * (D - now)) (n := n) (fun j hj => by
              refine mulL (by have := hw.w j hj; omega) ?_
              by_cases hjq : j = q'
              · subst hjq; rw [hcq]; omega
              · unfold cF
                rw [nsv j hj hjq, nT, nz]
                simp only [Bool.false_eq_true, if_false]
                by_cases hzj : 0 < s.z j
                · rw [if_pos hzj]
                  by_cases hfD : (s.T j).f ≤ D
                  · have := hst j hj hzj hfD
                    rw [if_pos hfD]; omega
                  · rw [if_neg hfD]; omega
                · rw [if_neg hzj]; omega)
            rw [sumF_mul, hal, Int.mul_sub] at hle
            have e1 : al * V2 = al * now + al * (m q' * 720720) := by rw [hV2, Int.mul_add]
            have e2 := mulL (a := m q' * 720720) (b := Lm) hal0 hLq
            rw [Int.mul_add]
            omega
          · exfalso
            rcases hD with h9 | ⟨j, hj, g1, g2⟩
            · have : 0 ≤ m q' := by omega
              omega
            · rw [nT] at g2
              rw [nz] at g1
              by_cases hjq : j = q'
              · subst hjq; omega
              · rw [nsv j hj hjq] at g1
                rcases g1 with g1 | g1
                · cases g1
                · have := hst j hj g1 g2
                  have := (hi.k j hj).sf
                  omega
      · simp only at g1 g2 ⊢
        by_cases hjq : j = q'
        · subst hjq; rw [upf_at] at g1; cases g1
        · exact h.cost j hj (hsv j hj) g2
end Go.Proofs.Ytoodmocapagapaa
namespace Go.Proofs.Ytoodmocapagapaa
open Go.RowKit
set_option linter.unusedSimpArgs false
set_option linter.unusedVariables false


theorem pX_hear {w al : Int} {k : Nat} {m : Int} {s : FS} (hm : 0 ≤ m) (hz : 0 ≤ s.z k) : pX (hearS w al k m s) k ≤ max (pX s k) s.V ∧ ((s.sv k = true ∨ s.z k = m) → 0 < m → pX (hearS w al k m s) k = pX s k) := by
  have hh := hear_k w al k m s hm hz
  have e1 := hear_zk w al k m s
  have e2 := hear_svk w al k m s
  generalize hearS w al k m s = N at hh e1 e2
  unfold pX
  rw [e1, e2]
  simp only [Bool.false_eq_true, if_false]
  cases hh with
  | r1 a1 a2 a3 =>
    rw [a3, a1, a2]
    simp only [if_true, Int.lt_irrefl, if_false]
    exact ⟨by omega, fun _ h => by first | exact h.elim | omega⟩
  | r2 a1 a2 a3 =>
    rw [a3, a1]
    simp only [if_true, if_pos a2]
    exact ⟨by omega, fun _ _ => by first | trivial | rfl⟩
  | r3 a1 a2 a3 =>
    rw [a3, a1, a2]
    simp only [Bool.false_eq_true, if_false]
    exact ⟨by split <;> omega, fun _ _ => by first | trivial | rfl⟩
  | r4 a1 a2 a4 a3 =>
    rw [a3, a1, a4]
    simp only [Bool.false_eq_true, if_false, Int.lt_irrefl, if_pos a2]
    exact ⟨by omega, fun _ h => by first | exact h.elim | omega⟩
  | r5 a1 a2 a4 a5 a3 =>
    rw [a3, a1]
    simp only [Bool.false_eq_true, if_false, if_pos a2, if_pos a4]
    exact ⟨by omega, fun h _ => by rcases h with h | h; exact h.elim; exact absurd h a5⟩
  | r6 a1 a2 a4 a3 =>
    rw [a3, a1, a2]
    simp only [Bool.false_eq_true, if_false, Int.lt_irrefl, if_pos a4]
    exact ⟨by omega, fun h h1 => by rcases h with h | h; exact h.elim; omega⟩
theorem pX_hearN {n : Nat} (wt : Nat → Int) (al : Int) {m : Nat → Int} (hm : ∀ k, k < n → 0 ≤ m k) {s : FS} {i : Nat} (hz : 0 ≤ s.z i) : ∀ k : Nat, k ≤ n → (k ≤ i → (hearN wt al m k s).T i = s.T i ∧ (hearN wt al m k s).z i = s.z i ∧ (hearN wt al m k s).sv i = s.sv i) ∧ (i < k → pX (hearN wt al m k s) i ≤ max (pX s i) s.V ∧ ((s.sv i = true ∨ s.z i = m i) → 0 < m i → pX (hearN wt al m k s) i = pX s i))
  | 0, _ => ⟨fun _ => ⟨rfl, rfl, rfl⟩, fun h => by omega⟩
  | k + 1, hk => by
    obtain ⟨h1, h2⟩ := pX_hearN wt al hm hz k (by omega)
    have hV := hearN_V wt al m s k
    show ((k + 1 ≤ i → (hearS (wt k) al k (m k) (hearN wt al m k s)).T i = _ ∧ _) ∧ _)
    generalize hN : hearN wt al m k s = N at h1 h2 hV
    constructor
    · intro hi
      have hik : i ≠ k := by omega
      rw [hear_T _ _ _ _ _ hik]
      show _ ∧ (hearS (wt k) al k (m k) (hearN wt al m k s)).z i = _ ∧ (hearS (wt k) al k (m k) (hearN wt al m k s)).sv i = _
      rw [hN, hear_z _ _ _ _ _ hik, hear_sv _ _ _ _ _ hik]
      exact h1 (by omega)
    · intro hi
      show pX (hearS (wt k) al k (m k) (hearN wt al m k s)) i ≤ _ ∧ (_ → _ → pX (hearS (wt k) al k (m k) (hearN wt al m k s)) i = _)
      rw [hN]
      by_cases hik : i = k
      · subst hik
        obtain ⟨g1, g2, g3⟩ := h1 (Nat.le_refl _)
        have hp := pX_hear (w := wt i) (al := al) (k := i) (m := m i) (s := N) (hm i (by omega)) (by rw [g2]; exact hz)
        have hx : pX N i = pX s i := by unfold pX; rw [g1, g2, g3]
        rw [hx, hV, g2, g3] at hp
        exact hp
      · have hx : pX (hearS (wt k) al k (m k) N) i = pX N i := by unfold pX; rw [hear_T _ _ _ _ _ hik, hear_z _ _ _ _ _ hik, hear_sv _ _ _ _ _ hik]
        rw [hx]
        exact h2 (by omega)
structure FbI (n : Nat) (wt : Nat → Int) (al : Int) (i : Nat) (own most : Int) (c : Nat) (s : FS) (hd : Int) (fr N : Nat) (U : Nat → Int) : Prop where
  inv : Inv n s
  lag : LagI n wt al (most * 720720) s
  lead : wt i * pX s i ≤ wt i * s.V + own * 720720 * (al - wt i)
  r : ∀ k, fr ≤ k → k ≤ N → wt i * pX s i - wt i * s.V - own * 720720 * (al - wt i) ≤ U N - U k
  le : fr ≤ N
  same : fr = N ∨ s.sv i = true ∨ s.z i = hd
  vb : s.V ≤ 139459320000 * c
theorem fb_step {n : Nat} {wt : Nat → Int} {al : Int} {i : Nat} {own most : Int} {c : Nat} {s : FS} {hd : Int} {fr N : Nat} {U : Nat → Int} (h : FbI n wt al i own most c s hd fr N U) (hw : WtOk n wt al) (hal : sumW wt n = al) (hi : i < n) {m : Nat → Int} (hm : ∀ k, k < n → 0 ≤ m k ∧ m k ≤ 1500) (hmost : ∀ k, k < n → m k ≤ most) (hown : m i ≤ own) (ho : 0 ≤ own) (hc : c ≤ 1000) (hrd : 0 < m i → m i = hd) :
    (pkK n wt al m s = none → FbI n wt al i own most (c + 1) (pkS n wt al m s) hd N N U) ∧
    (∀ q, pkK n wt al m s = some q → ∀ (U' : Nat → Int) (hd' : Int), (∀ k, k ≤ N → U' k = U k) → U' (N + 1) = U N + (if q = i then al * 720720 * m i else 0) - wt i * 720720 * m q → (q ≠ i → hd' = hd) →
      (m i = 0 → FbI n wt al i own most (c + 1) (pkS n wt al m s) hd' (N + 1) (N + 1) U') ∧
      (0 < m i → FbI n wt al i own most (c + 1) (pkS n wt al m s) hd' fr (N + 1) U' ∧ ∀ k, fr ≤ k → k ≤ N → -(wt i * (most * 720720)) - 2 * (own * 720720 * (al - wt i)) ≤ U' (N + 1) - U' k)) := by
  have hwi := hw.w i hi
  have hal0 : 0 ≤ al := by omega
  obtain ⟨P, hP⟩ : ∃ P, P = own * 720720 * (al - wt i) := ⟨_, rfl⟩
  have hP0 : 0 ≤ P := by rw [hP]; exact Int.mul_nonneg (by omega) (by omega)
  have hlead := h.lead
  have hr := h.r
  rw [← hP] at hlead hr ⊢
  have hz0 := (h.inv.k i hi).z0
  have hp := (pX_hearN (n := n) wt al (fun k hk => (hm k hk).1) (s := s) (i := i) hz0.1 n (Nat.le_refl _)).2 hi
  have hi1 := inv_hearN hw hm n h.inv (Nat.le_refl _)
  have hl1 := lag_hearN hw hm n h.lag h.inv (Nat.le_refl _)
  have hV1 := hearN_V wt al m s n
  have hz1 := hearN_z wt al m s n
  have hs1 := hearN_sv wt al m s n
  have hle := h.le
  have hvb := h.vb
  unfold pkS pkK
  generalize hearN wt al m n s = s1 at hp hi1 hl1 hV1 hz1 hs1 ⊢
  have hlead1 : wt i * pX s1 i ≤ wt i * s1.V + P := by
    rw [hV1]
    have h1 := mulL (w := wt i) (by omega) hp.1
    have h2 : wt i * max (pX s i) s.V ≤ wt i * s.V + P := by
      by_cases hx : pX s i ≤ s.V
      · rw [Int.max_eq_right hx]; omega
      · rw [Int.max_eq_left (by omega)]; exact hlead
    omega
  have hr1 : 0 < m i → ∀ k, fr ≤ k → k ≤ N → wt i * pX s1 i - wt i * s1.V - P ≤ U N - U k := by
    intro hmi k h1 h2
    rcases h.same with e | e
    · obtain rfl : k = N := by omega
      omega
    · have : pX s1 i = pX s i := hp.2 (by rcases e with e | e; exact .inl e; exact .inr (by rw [e, hrd hmi])) hmi
      rw [this, hV1]
      exact hr k h1 h2
  clear hp
  cases hpk : pickS n m s1 with
  | none =>
    refine ⟨fun _ => ⟨hi1, hl1, by rw [← hP]; exact hlead1, fun k h1 h2 => ?_, Nat.le_refl _, .inl rfl, by simp only; rw [hV1]; omega⟩, fun q e => by cases e⟩
    obtain rfl : k = N := by omega
    rw [← hP]
    simp only
    omega
  | some p =>
    obtain ⟨q0, s2⟩ := p
    refine ⟨fun e => (by cases e), fun q e U' hd' hU1 hU2 hhd => ?_⟩
    obtain rfl : q0 = q := by simpa using e
    simp only
    have hinv2 := (inv_pick hi1 hm (fun k hk => hz1 k hk) hpk).1
    obtain ⟨hl2, now, v1, v2, v3, v4, v5, v6, v7, v8, v9⟩ := lag_pick hl1 hi1 hw hal (fun j hj => hs1 j hj) (fun j hj => hz1 j hj) hpk (fun j hj => by have := hmost j hj; omega) (by rw [hV1]; omega)
    have hmq := hm q0 v8
    have hvb2 : s2.V ≤ 139459320000 * ((c + 1 : Nat) : Int) := by rw [v1]; omega
    have hmono : wt i * s1.V ≤ wt i * now := mulL (by omega) v2
    have hVe : wt i * s2.V = wt i * now + wt i * 720720 * m q0 := by rw [v1, Int.mul_add, Int.mul_comm (m q0) 720720, ← Int.mul_assoc]
    -- the place of flow i
    have hX : wt i * pX s2 i = wt i * pX s1 i + (if q0 = i then al * 720720 * m i else 0) ∧ wt i * pX s2 i ≤ wt i * s2.V + P := by
      by_cases hq : q0 = i
      · subst hq
        rw [if_pos rfl]
        have hx2 : pX s2 q0 = (s1.T q0).f := by unfold pX; rw [v7, upf_at, v5]; rfl
        have hx1 : pX s1 q0 = (s1.T q0).s := by unfold pX; rw [hs1 q0 v8, hz1 q0 v8]; simp only [Bool.false_eq_true, if_false]; rw [if_pos v9]
        have hcs := hl1.cost q0 v8 (hs1 q0 v8) (by rw [hz1 q0 v8]; exact v9)
        rw [hz1 q0 v8] at hcs
        have e1 : al * 720720 * m q0 = m q0 * al * 720720 := by rw [Int.mul_comm (al * 720720), ← Int.mul_assoc]
        rw [hx2, hx1, hcs, e1]
        refine ⟨rfl, ?_⟩
        have h1 := mulL (w := wt q0) (by omega) v4
        have h2 : m q0 * 720720 * (al - wt q0) ≤ P := by
          rw [hP]
          exact Int.mul_le_mul_of_nonneg_right (by omega) (by omega)
        have e2 : m q0 * 720720 * (al - wt q0) = m q0 * al * 720720 - wt q0 * 720720 * m q0 := by
          rw [Int.mul_sub, Int.mul_assoc (m q0) 720720 al, Int.mul_comm 720720 al, ← Int.mul_assoc]
          congr 1
          rw [Int.mul_comm (m q0) 720720, Int.mul_comm (720720 * m q0) (wt q0), Int.mul_assoc]
        omega
      · rw [if_neg hq]
        have hx : pX s2 i = pX s1 i := by unfold pX; rw [v7, upf_ne _ _ (fun e => hq e.symm), v5, v6]
        rw [hx]
        have : 0 ≤ wt i * 720720 * m q0 := Int.mul_nonneg (by omega) (by omega)
        exact ⟨by omega, by omega⟩
    obtain ⟨hX1, hX2⟩ := hX
    constructor
    · intro hm0
      refine ⟨hinv2, hl2, by rw [← hP]; exact hX2, fun k h1 h2 => ?_, Nat.le_refl _, .inl rfl, hvb2⟩
      obtain rfl : k = N + 1 := by omega
      rw [← hP]
      omega
    · intro hmi
      have hR : ∀ k, fr ≤ k → k ≤ N + 1 → wt i * pX s2 i - wt i * s2.V - P ≤ U' (N + 1) - U' k := by
        intro k h1 h2
        by_cases hk : k = N + 1
        · subst hk; omega
        · have h3 := hr1 hmi k h1 (by omega)
          rw [hU1 k (by omega), hU2]
          omega
      refine ⟨⟨hinv2, hl2, by rw [← hP]; exact hX2, fun k h1 h2 => by rw [← hP]; exact hR k h1 h2, by omega, ?_, hvb2⟩, fun k h1 h2 => ?_⟩
      · by_cases hq : q0 = i
        · right; left; rw [v7, hq, upf_at]
        · right; right; rw [v6, hz1 i hi, hhd hq, hrd hmi]
      · have h3 := hR k h1 (by omega)
        have hlagX : wt i * s2.V - wt i * (most * 720720) - P ≤ wt i * pX s2 i := by
          have hsf := (hinv2.k i hi).sf
          have hnn : ∀ j, j < n → 0 ≤ wt j * cF s2.V (s2.T i).f s2 j := fun j hj => Int.mul_nonneg (by have := hw.w j hj; omega) (cF_nn (hinv2.k j hj).sf)
          have hlg := hl2.lag (s2.T i).f (.inr ⟨i, hi, by by_cases hq : q0 = i; exact .inl (by rw [v7, hq, upf_at]); exact .inr (by rw [v6, hz1 i hi]; exact hmi), Int.le_refl _⟩)
          have hone := sumF_one (F := fun j => wt j * cF s2.V (s2.T i).f s2 j) (q := i) hnn hi
          try simp only at hone
          by_cases hq : q0 = i
          · have hx2 : pX s2 i = (s2.T i).f := by unfold pX; rw [v7, hq, upf_at]; rfl
            have h0 := hnn i hi
            have hle2 : al * s2.V ≤ al * ((s2.T i).f + most * 720720) := by omega
            have hle3 : s2.V ≤ (s2.T i).f + most * 720720 := Int.le_of_mul_le_mul_left hle2 (by omega)
            have h5 := mulL (w := wt i) (by omega) hle3
            rw [Int.mul_add] at h5
            rw [hx2]
            omega
          · have hsv2 : s2.sv i = false := by rw [v7, upf_ne _ _ (fun e => hq e.symm)]; exact hs1 i hi
            have hz2 : s2.z i = m i := by rw [v6, hz1 i hi]
            have hcs := hl2.cost i hi hsv2 (by rw [hz2]; exact hmi)
            rw [hz2] at hcs
            have hc1 : cF s2.V (s2.T i).f s2 i = (s2.T i).f - (s2.T i).s := by
              unfold cF
              rw [hsv2, hz2]
              simp only [Bool.false_eq_true, if_false]
              rw [if_pos hmi, if_pos (Int.le_refl _)]
            have hx2 : pX s2 i = (s2.T i).s := by unfold pX; rw [hsv2, hz2]; simp only [Bool.false_eq_true, if_false]; rw [if_pos hmi]
            rw [hc1, Int.mul_sub] at hone
            have e1 : m i * al * 720720 = al * (m i * 720720) := by rw [Int.mul_comm (m i) al, Int.mul_assoc]
            have hle2 : al * (s2.V + m i * 720720) ≤ al * ((s2.T i).f + most * 720720) := by
              rw [Int.mul_add]
              omega
            have hle3 : s2.V + m i * 720720 ≤ (s2.T i).f + most * 720720 := Int.le_of_mul_le_mul_left hle2 (by omega)
            have h5 := mulL (w := wt i) (by omega) hle3
            rw [Int.mul_add, Int.mul_add] at h5
            have h6 : m i * 720720 * (al - wt i) ≤ P := by
              rw [hP]
              exact Int.mul_le_mul_of_nonneg_right (by omega) (by omega)
            have e2 : m i * 720720 * (al - wt i) = m i * al * 720720 - wt i * (m i * 720720) := by
              rw [Int.mul_sub, Int.mul_assoc (m i) 720720 al, Int.mul_comm 720720 al, ← Int.mul_assoc]
              congr 1
              rw [Int.mul_comm]
            rw [hx2]
            omega
        omega
/-- at the beginning -/
theorem fb_start {n : Nat} {wt : Nat → Int} {al : Int} {i : Nat} {own most : Int} {hd : Int} {U : Nat → Int} (hw : WtOk n wt al) (hal : sumW wt n = al) (hi : i < n) (h8 : n ≤ 8) (ho : 0 ≤ own) (hmo : 0 ≤ most) : FbI n wt al i own most 0 s0F hd 0 0 U := by
  have hwi := hw.w i hi
  have hP0 : 0 ≤ own * 720720 * (al - wt i) := Int.mul_nonneg (by omega) (by omega)
  have hx : pX s0F i = 0 := rfl
  have hv : s0F.V = 0 := rfl
  refine ⟨inv0 h8, ⟨fun D hD => ?_, fun j hj h1 h2 => by cases h2⟩, by rw [hx, hv]; omega, fun k h1 h2 => ?_, Nat.le_refl _, .inl rfl, by rw [hv]; omega⟩
  · have hD0 : 0 ≤ D := by
      rcases hD with h | ⟨j, hj, h1, h2⟩
      · exact h
      · exact h2
    have hle := sumF_le (F := fun j => wt j * cF s0F.V D s0F j) (G := fun j => wt j * D) (n := n) (fun j hj => mulL (by have := hw.w j hj; omega) (by
      show max 0 (D - max 0 0) ≤ D
      omega))
    rw [sumF_mul, hal] at hle
    have := mulL (w := al) (a := D) (b := D + most * 720720) (by omega) (by omega)
    rw [hv] at hle ⊢
    omega
  · obtain rfl : k = 0 := by omega
    rw [hx, hv]
    omega
end Go.Proofs.Ytoodmocapagapaa
namespace Go.Proofs.Ytoodmocapagapaa
open Go.RowKit
set_option linter.unusedSimpArgs false
set_option linter.unusedVariables false

def alS : List (Nat × PD) → Int
  | [] => 0
  | x :: r => x.2.sz + alS r
def mnS (i : Nat) : List (Nat × PD) → Int
  | [] => 0
  | x :: r => (if x.1 = i then x.2.sz else 0) + mnS i r
theorem alS_append (a b : List (Nat × PD)) : alS (a ++ b) = alS a + alS b := by
  induction a with
  | nil => simp [alS]
  | cons x a ih => rw [List.cons_append, alS, alS, ih]; omega
theorem mnS_append (i : Nat) (a b : List (Nat × PD)) : mnS i (a ++ b) = mnS i a + mnS i b := by
  induction a with
  | nil => simp [mnS]
  | cons x a ih => rw [List.cons_append, mnS, mnS, ih]; omega
/-- how far a flow lies behind its share of what went out -/
def lagL (w al : Int) (i : Nat) (R : List (Nat × PD)) : Int := w * alS R - al * mnS i R
theorem lagL_append (w al : Int) (i : Nat) (a b : List (Nat × PD)) : lagL w al i (a ++ b) = lagL w al i a + lagL w al i b := by
  unfold lagL
  rw [alS_append, mnS_append, Int.mul_add, Int.mul_add]
  omega
theorem sumZ_nn : ∀ l : List PD, 0 ≤ sumZ l
  | [] => Int.le_refl _
  | x :: l => by have := sumZ_nn l; rw [sumZ]; unfold PD.sz; omega
def graG (w al own most : Int) : Int := w * most + 2 * (own * (al - w))
def okP (w al : Int) (i : Nat) (own most : Int) (R : List (Nat × PD)) : Prop := ∀ j k, j ≤ k → k < R.length → lagL w al i (R.take (k + 1)) - lagL w al i (R.take j) ≤ graG w al own most
theorem okP_nil (w al : Int) (i : Nat) (own most : Int) : okP w al i own most [] := fun j k _ h => absurd h (by simp)
theorem graG_mono {w al own most own' most' : Int} (hw : 0 ≤ w ∧ w ≤ al) (h1 : own ≤ own') (h2 : most ≤ most') : graG w al own most ≤ graG w al own' most' := by
  unfold graG
  have := mulL (w := w) hw.1 h2
  have := Int.mul_le_mul_of_nonneg_right h1 (show 0 ≤ al - w by omega)
  omega
theorem okP.mono {w al : Int} {i : Nat} {own most own' most' : Int} {R : List (Nat × PD)} (h : okP w al i own most R) (hw : 0 ≤ w ∧ w ≤ al) (h1 : own ≤ own') (h2 : most ≤ most') : okP w al i own' most' R := fun j k hj hk => Int.le_trans (h j k hj hk) (graG_mono hw h1 h2)
def wI (fl : Nat → FlowE) (n i : Nat) : Int := gI (wL fl n) i
def potU (fl : Nat → FlowE) (n i : Nat) (O : List (Nat × PD)) (k : Nat) : Int := -(720720 * lagL (wI fl n i) (alF fl n) i (O.take k))
def hdI (s : SS) (i : Nat) : Int := match s.q i with
  | [] => 0
  | p :: _ => p.sz
/-- where a scheduler stands, for one flow -/
structure FI (fl : Nat → FlowE) (n i : Nat) (own most : Int) (c : Nat) (s : SS) (O : List (Nat × PD)) (fr : Nat) : Prop where
  fb : FbI n (gI (wL fl n)) (alF fl n) i own most c s.fs (hdI s i) fr O.length (potU fl n i O)
  em : s.q i = [] → fr = O.length ∨ s.fs.sv i = true
/-- sizes of what waits -/
structure SzI (fl : Nat → FlowE) (n i : Nat) (own most : Int) (s : SS) : Prop where
  al_ : ∀ k, k < n → ∀ p ∈ s.q k, 8 ≤ p.sz ∧ p.sz ≤ most ∧ (k = i → p.sz ≤ own) ∧ p.t = (fl k).t
  bd : (0 ≤ own ∧ own ≤ 1500) ∧ 0 ≤ most ∧ most ≤ 1500
theorem FbI.hd {n : Nat} {wt : Nat → Int} {al : Int} {i : Nat} {own most : Int} {c : Nat} {s : FS} {hd hd' : Int} {fr N : Nat} {U : Nat → Int} (h : FbI n wt al i own most c s hd fr N U) (he : fr = N ∨ s.sv i = true ∨ hd' = hd) : FbI n wt al i own most c s hd' fr N U :=
  ⟨h.inv, h.lag, h.lead, h.r, h.le, by
    rcases he with he | he | he
    · exact .inl he
    · exact .inr (.inl he)
    · rw [he]; exact h.same, h.vb⟩
theorem FbI.mono {n : Nat} {wt : Nat → Int} {al : Int} {i : Nat} {own most own' most' : Int} {c c' : Nat} {s : FS} {hd : Int} {fr N : Nat} {U : Nat → Int} (h : FbI n wt al i own most c s hd fr N U) (hw : 0 ≤ wt i ∧ wt i ≤ al) (ha : 0 ≤ al) (h1 : own ≤ own') (h2 : most ≤ most') (hc : c ≤ c') : FbI n wt al i own' most' c' s hd fr N U := by
  have e1 := Int.mul_le_mul_of_nonneg_right (Int.mul_le_mul_of_nonneg_right h1 (show (0 : Int) ≤ 720720 by omega)) (show 0 ≤ al - wt i by omega)
  refine ⟨h.inv, ⟨fun D hD => ?_, h.lag.cost⟩, by have := h.lead; omega, fun k hk1 hk2 => by have := h.r k hk1 hk2; omega, h.le, h.same, by have := h.vb; omega⟩
  have := h.lag.lag D hD
  have := mulL (w := al) ha (show D + most * 720720 ≤ D + most' * 720720 by omega)
  omega
theorem pk_sv {n : Nat} {wt : Nat → Int} {al : Int} {m : Nat → Int} {s : FS} {k : Nat} (h : pkK n wt al m s = some k) : (pkS n wt al m s).sv k = true := by
  unfold pkK at h
  unfold pkS
  cases hp : pickS n m (hearN wt al m n s) with
  | none => rw [hp] at h; cases h
  | some x =>
    obtain ⟨k', s'⟩ := x
    rw [hp] at h
    obtain rfl : k' = k := by simpa using h
    unfold pickS at hp
    split at hp
    · cases hp
    · split at hp
      · cases hp
      · injection hp with hp
        injection hp with e1 e2
        subst e1 e2
        simp [takeS, upf_at]
theorem potU_le (fl : Nat → FlowE) (n i : Nat) (O : List (Nat × PD)) (x : Nat × PD) (k : Nat) (hk : k ≤ O.length) : potU fl n i (O ++ [x]) k = potU fl n i O k := by
  unfold potU
  rw [List.take_append_of_le_length hk]
theorem potU_new (fl : Nat → FlowE) (n i : Nat) (O : List (Nat × PD)) (x : Nat × PD) : potU fl n i (O ++ [x]) (O.length + 1) = potU fl n i O O.length + (if x.1 = i then alF fl n * 720720 * x.2.sz else 0) - wI fl n i * 720720 * x.2.sz := by
  unfold potU
  rw [List.take_of_length_le (by simp), List.take_of_length_le (Nat.le_refl _), lagL_append]
  have e1 : lagL (wI fl n i) (alF fl n) i [x] = wI fl n i * x.2.sz - (if x.1 = i then alF fl n * x.2.sz else 0) := by
    unfold lagL
    simp only [alS, mnS, Int.add_zero]
    split
    · rfl
    · simp
  rw [e1]
  have e2 : alF fl n * 720720 * x.2.sz = 720720 * (alF fl n * x.2.sz) := by rw [Int.mul_comm (alF fl n) 720720, Int.mul_assoc]
  have e3 : wI fl n i * 720720 * x.2.sz = 720720 * (wI fl n i * x.2.sz) := by rw [Int.mul_comm (wI fl n i) 720720, Int.mul_assoc]
  rw [e2, e3]
  split <;> omega
theorem snd_le {fl : Nat → FlowE} {n i : Nat} {own most : Int} {s : SS} (h : SzI fl n i own most s) {k : Nat} (hk : k < n) : (0 ≤ sndK fl s k ∧ sndK fl s k ≤ 1500) ∧ sndK fl s k ≤ most ∧ (k = i → sndK fl s k ≤ own ∧ (0 < sndK fl s k → sndK fl s k = hdI s k)) := by
  have hb := h.bd
  cases hq : s.q k with
  | nil =>
    rw [sndK_nil hq]
    exact ⟨by omega, by omega, fun _ => ⟨by omega, fun h => by omega⟩⟩
  | cons p r =>
    have hp := h.al_ k hk p (by rw [hq]; simp)
    rw [sndK_cons hq]
    split
    · exact ⟨by omega, hp.2.1, fun e => ⟨hp.2.2.1 e, fun _ => by unfold hdI; rw [hq]⟩⟩
    · exact ⟨by omega, by omega, fun _ => ⟨by omega, fun h => by omega⟩⟩
theorem SzI.let_ {fl : Nat → FlowE} {n i : Nat} {own most : Int} {s : SS} (h : SzI fl n i own most s) {k : Nat} {p : PD} {r : List PD} (hq : s.q k = p :: r) (f' : FS) : SzI fl n i own most (letS s f' k p r) := by
  refine ⟨fun k' hk' p' hp' => ?_, h.bd⟩
  have hp2 : p' ∈ upf s.q k r k' := hp'
  by_cases e : k' = k
  · subst e
    rw [upf_at] at hp2
    exact h.al_ _ hk' p' (by rw [hq]; exact List.mem_cons_of_mem _ hp2)
  · rw [upf_ne _ _ e] at hp2
    exact h.al_ k' hk' p' hp2
theorem SzI.same {fl : Nat → FlowE} {n i : Nat} {own most : Int} {s s' : SS} (h : SzI fl n i own most s) (e : s'.q = s.q) : SzI fl n i own most s' := ⟨by rw [e]; exact h.al_, h.bd⟩
theorem FlOk.wi {fl : Nat → FlowE} {n : Nat} (h : FlOk fl n) {i : Nat} (hi : i < n) : (1 ≤ wI fl n i ∧ wI fl n i ≤ 16 ∧ wI fl n i ≤ alF fl n) ∧ alF fl n ≤ 128 := ⟨h.wt.w i hi, h.wt.a⟩
/-- one pick of none -/
theorem fi_none {fl : Nat → FlowE} {n i : Nat} {own most : Int} {c : Nat} {s : SS} {O : List (Nat × PD)} {fr : Nat} (hf : FlOk fl n) (hi : i < n) (h : FI fl n i own most c s O fr) (hs : SzI fl n i own most s) (hc : c ≤ 1000) (hp : pkK n (gI (wL fl n)) (alF fl n) (sndK fl s) s.fs = none) : FI fl n i own most (c + 1) ⟨pkS n (gI (wL fl n)) (alF fl n) (sndK fl s) s.fs, s.q, s.tok, s.bud, s.num⟩ O O.length := by
  have hm := fun k hk => (snd_le hs (k := k) hk)
  have := (fb_step h.fb hf.wt rfl hi (m := sndK fl s) (fun k hk => (hm k hk).1) (fun k hk => (hm k hk).2.1) ((hm i hi).2.2 rfl).1 hs.bd.1.1 hc ((hm i hi).2.2 rfl).2).1 hp
  exact ⟨this, fun _ => .inl rfl⟩
/-- one pick of a flow -/
theorem fi_some {fl : Nat → FlowE} {n i : Nat} {own most : Int} {c : Nat} {s : SS} {O : List (Nat × PD)} {fr : Nat} (hf : FlOk fl n) (hi : i < n) (h : FI fl n i own most c s O fr) (hs : SzI fl n i own most s) (hc : c ≤ 1000) {k : Nat} {p : PD} {r : List PD} (hp : pkK n (gI (wL fl n)) (alF fl n) (sndK fl s) s.fs = some k) (hq : s.q k = p :: r) (hz : sndK fl s k = p.sz) :
    (sndK fl s i = 0 → FI fl n i own most (c + 1) (letS s (pkS n (gI (wL fl n)) (alF fl n) (sndK fl s) s.fs) k p r) (O ++ [(k, p)]) (O.length + 1)) ∧
    (0 < sndK fl s i → FI fl n i own most (c + 1) (letS s (pkS n (gI (wL fl n)) (alF fl n) (sndK fl s) s.fs) k p r) (O ++ [(k, p)]) fr ∧ ∀ j, fr ≤ j → j ≤ O.length → lagL (wI fl n i) (alF fl n) i (O ++ [(k, p)]) - lagL (wI fl n i) (alF fl n) i (O.take j) ≤ graG (wI fl n i) (alF fl n) own most) := by
  have hm := fun k hk => (snd_le hs (k := k) hk)
  have hlen : (O ++ [(k, p)]).length = O.length + 1 := by simp
  have hq' : ∀ j, (letS s (pkS n (gI (wL fl n)) (alF fl n) (sndK fl s) s.fs) k p r).q j = upf s.q k r j := fun _ => rfl
  have hne : k ≠ i → hdI (letS s (pkS n (gI (wL fl n)) (alF fl n) (sndK fl s) s.fs) k p r) i = hdI s i := fun e => by
    unfold hdI
    rw [hq', upf_ne _ _ (fun e' => e e'.symm)]
  obtain ⟨h1, h2⟩ := (fb_step h.fb hf.wt rfl hi (m := sndK fl s) (fun k hk => (hm k hk).1) (fun k hk => (hm k hk).2.1) ((hm i hi).2.2 rfl).1 hs.bd.1.1 hc ((hm i hi).2.2 rfl).2).2 k hp (potU fl n i (O ++ [(k, p)])) (hdI (letS s (pkS n (gI (wL fl n)) (alF fl n) (sndK fl s) s.fs) k p r) i) (fun j hj => potU_le _ _ _ _ _ _ hj) (by
    rw [potU_new, hz]
    by_cases e : k = i
    · subst e; rw [if_pos rfl, if_pos rfl, hz]; rfl
    · rw [if_neg e, if_neg e]; rfl) hne
  refine ⟨fun h0 => ⟨by rw [hlen]; exact h1 h0, fun _ => .inl hlen.symm⟩, fun h0 => ?_⟩
  obtain ⟨g1, g2⟩ := h2 h0
  refine ⟨⟨by rw [hlen]; exact g1, fun he => ?_⟩, fun j hj1 hj2 => ?_⟩
  · by_cases e : k = i
    · subst e; exact .inr (pk_sv hp)
    · exfalso
      rw [hq', upf_ne _ _ (fun e' => e e'.symm)] at he
      rw [sndK_nil he] at h0
      omega
  · have := g2 j hj1 hj2
    rw [potU_le _ _ _ _ _ _ hj2] at this
    unfold potU at this
    rw [List.take_of_length_le (by simp)] at this
    unfold graG
    have e1 : gI (wL fl n) i = wI fl n i := rfl
    rw [e1] at this
    have e2 : wI fl n i * (most * 720720) = 720720 * (wI fl n i * most) := by rw [← Int.mul_assoc, Int.mul_comm]
    have e3 : own * 720720 * (alF fl n - wI fl n i) = 720720 * (own * (alF fl n - wI fl n i)) := by rw [Int.mul_comm own 720720, Int.mul_assoc]
    rw [e2, e3] at this
    omega
theorem snd_same {fl : Nat → FlowE} {s : SS} {k : Nat} {p : PD} {r : List PD} (h : 0 < sndK fl s k) (hq : s.q k = p :: r) : sndK fl s k = p.sz := by
  rw [sndK_cons hq] at h ⊢
  split
  · rfl
  · rename_i h1; rw [if_neg h1] at h; omega
/-- a pump, whatever goes out -/
theorem fi_pump {fl : Nat → FlowE} {n i : Nat} {own most : Int} (hf : FlOk fl n) (hi : i < n) : ∀ (f : Nat) {c : Nat} {s : SS} {O : List (Nat × PD)} {fr : Nat}, FI fl n i own most c s O fr → SzI fl n i own most s → c + (pumpF fl n f s).2.length ≤ 1000 → ∃ fr', FI fl n i own most (c + (pumpF fl n f s).2.length + 1) (pumpF fl n f s).1 (O ++ (pumpF fl n f s).2) fr' ∧ SzI fl n i own most (pumpF fl n f s).1
  | 0, c, s, O, fr, h, hs, hc => ⟨fr, by
      show FI fl n i own most (c + 0 + 1) s (O ++ []) fr
      rw [List.append_nil]
      exact ⟨h.fb.mono ⟨by have := (hf.wi hi).1; exact Int.le_trans (by omega) this.1, (hf.wi hi).1.2.2⟩ (by have := (hf.wi hi).1; omega) (Int.le_refl _) (Int.le_refl _) (by omega), h.em⟩, hs⟩
  | f + 1, c, s, O, fr, h, hs, hc => by
    by_cases hb : s.bud ≤ 0
    · rw [pumpF_stop hb]
      refine ⟨fr, ?_, hs⟩
      show FI fl n i own most (c + 0 + 1) s (O ++ []) fr
      rw [List.append_nil]
      exact ⟨h.fb.mono ⟨by have := (hf.wi hi).1; exact Int.le_trans (by omega) this.1, (hf.wi hi).1.2.2⟩ (by have := (hf.wi hi).1; omega) (Int.le_refl _) (Int.le_refl _) (by omega), h.em⟩
    · cases hp : pkK n (gI (wL fl n)) (alF fl n) (sndK fl s) s.fs with
      | none =>
        rw [pumpF_none hb hp]
        exact ⟨O.length, by
          show FI fl n i own most (c + 1) _ (O ++ []) O.length
          rw [List.append_nil]
          exact fi_none hf hi h hs (by omega) hp, hs.same rfl⟩
      | some k =>
        have hpk := inv_pk hf.wt (fun k hk => (snd_le hs (k := k) hk).1) h.fb.inv
        obtain ⟨hk, hz⟩ := hpk.2 k hp
        obtain ⟨p, r, hq, hle⟩ := snd_pos hz
        have hc' : c + ((pumpF fl n f (letS s (pkS n (gI (wL fl n)) (alF fl n) (sndK fl s) s.fs) k p r)).2.length + 1) ≤ 1000 := by have h9 := hc; rw [pumpF_some hb hp hq] at h9; simpa using h9
        rw [pumpF_some hb hp hq]
        simp only [List.length_cons]
        obtain ⟨g1, g2⟩ := fi_some hf hi h hs (by omega) hp hq (snd_same hz hq)
        have hst : ∃ fr1, FI fl n i own most (c + 1) (letS s (pkS n (gI (wL fl n)) (alF fl n) (sndK fl s) s.fs) k p r) (O ++ [(k, p)]) fr1 := by
          rcases Int.lt_or_eq_of_le (snd_le hs hi).1.1 with h0 | h0
          · exact ⟨_, (g2 h0).1⟩
          · exact ⟨_, g1 h0.symm⟩
        obtain ⟨fr1, hst⟩ := hst
        obtain ⟨fr', h1, h2⟩ := fi_pump hf hi f hst (hs.let_ hq _) (by omega)
        refine ⟨fr', ?_, h2⟩
        rw [List.append_assoc] at h1
        rw [show c + ((pumpF fl n f (letS s (pkS n (gI (wL fl n)) (alF fl n) (sndK fl s) s.fs) k p r)).2.length + 1) + 1 = c + 1 + (pumpF fl n f (letS s (pkS n (gI (wL fl n)) (alF fl n) (sndK fl s) s.fs) k p r)).2.length + 1 by omega]
        exact h1
/-- how the law goes on with a stretch -/
def pmF (i : Nat) : Nat → List (Nat × PD) → List (Nat × PD) → List (Nat × PD) × Nat
  | w, R, [] => (R, w)
  | w, R, x :: r => pmF i (if x.1 = i then w - 1 else w) (if w = 0 then [] else R ++ [x]) r
/-- a pump while the flow has tokens for all that it wants -/
theorem fi_pumped {fl : Nat → FlowE} {n i : Nat} {own most : Int} (hf : FlOk fl n) (hi : i < n) (hap : ∀ k, k < n → k ≠ i → (fl k).t ≠ (fl i).t) : ∀ (f : Nat) {c : Nat} {s : SS} {O R : List (Nat × PD)} {fr : Nat}, FI fl n i own most c s O fr → SzI fl n i own most s → c + (pumpF fl n f s).2.length ≤ 1000 → sumZ (s.q i) ≤ s.tok (fl i).t.toNat → okP (wI fl n i) (alF fl n) i own most R → (s.q i ≠ [] → ∃ pre, O = pre ++ R ∧ fr ≤ pre.length) →
    ∃ fr', FI fl n i own most (c + (pumpF fl n f s).2.length + 1) (pumpF fl n f s).1 (O ++ (pumpF fl n f s).2) fr' ∧ SzI fl n i own most (pumpF fl n f s).1 ∧ okP (wI fl n i) (alF fl n) i own most (pmF i (s.q i).length R (pumpF fl n f s).2).1 ∧ (pmF i (s.q i).length R (pumpF fl n f s).2).2 = ((pumpF fl n f s).1.q i).length ∧ ((pumpF fl n f s).1.q i ≠ [] → ∃ pre, O ++ (pumpF fl n f s).2 = pre ++ (pmF i (s.q i).length R (pumpF fl n f s).2).1 ∧ fr' ≤ pre.length)
  | 0, c, s, O, R, fr, h, hs, hc, ht, hR, hpre => ⟨fr, by
      show FI fl n i own most (c + 0 + 1) s (O ++ []) fr
      rw [List.append_nil]
      exact ⟨h.fb.mono ⟨by have := (hf.wi hi).1; exact Int.le_trans (by omega) this.1, (hf.wi hi).1.2.2⟩ (by have := (hf.wi hi).1; omega) (Int.le_refl _) (Int.le_refl _) (by omega), h.em⟩, hs, hR, rfl, fun he => by
      obtain ⟨pre, e1, e2⟩ := hpre he
      exact ⟨pre, by show O ++ [] = _; rw [List.append_nil]; exact e1, e2⟩⟩
  | f + 1, c, s, O, R, fr, h, hs, hc, ht, hR, hpre => by
    by_cases hb : s.bud ≤ 0
    · rw [pumpF_stop hb]
      refine ⟨fr, ?_, hs, hR, rfl, fun he => ?_⟩
      · show FI fl n i own most (c + 0 + 1) s (O ++ []) fr
        rw [List.append_nil]
        exact ⟨h.fb.mono ⟨by have := (hf.wi hi).1; exact Int.le_trans (by omega) this.1, (hf.wi hi).1.2.2⟩ (by have := (hf.wi hi).1; omega) (Int.le_refl _) (Int.le_refl _) (by omega), h.em⟩
      · obtain ⟨pre, e1, e2⟩ := hpre he
        exact ⟨pre, by rw [List.append_nil]; exact e1, e2⟩
    · have hpos : s.q i ≠ [] → 0 < sndK fl s i := fun he => by
        cases hq : s.q i with
        | nil => exact absurd hq he
        | cons p r =>
          rw [sndK_cons hq]
          have h8 := (hs.al_ i hi p (by rw [hq]; simp)).1
          rw [hq, sumZ] at ht
          have h9 := sumZ_nn r
          rw [if_pos (by omega)]
          omega
      cases hp : pkK n (gI (wL fl n)) (alF fl n) (sndK fl s) s.fs with
      | none =>
        rw [pumpF_none hb hp]
        refine ⟨O.length, by
          show FI fl n i own most (c + 1) _ (O ++ []) O.length
          rw [List.append_nil]
          exact fi_none hf hi h hs (by omega) hp, hs.same rfl, hR, rfl, fun he => ?_⟩
        exact absurd (hpos he) (pk_none hp i hi)
      | some k =>
        have hpk := inv_pk hf.wt (fun k hk => (snd_le hs (k := k) hk).1) h.fb.inv
        obtain ⟨hk, hz⟩ := hpk.2 k hp
        obtain ⟨p, r, hq, hle⟩ := snd_pos hz
        have hpt := (hs.al_ k hk p (by rw [hq]; simp)).2.2.2
        have hp8 := (hs.al_ k hk p (by rw [hq]; simp)).1
        have hc' : c + ((pumpF fl n f (letS s (pkS n (gI (wL fl n)) (alF fl n) (sndK fl s) s.fs) k p r)).2.length + 1) ≤ 1000 := by have h9 := hc; rw [pumpF_some hb hp hq] at h9; simpa using h9
        rw [pumpF_some hb hp hq]
        simp only [List.length_cons]
        obtain ⟨g1, g2⟩ := fi_some hf hi h hs (by omega) hp hq (snd_same hz hq)
        have hqi : (letS s (pkS n (gI (wL fl n)) (alF fl n) (sndK fl s) s.fs) k p r).q i = upf s.q k r i := rfl
        have hti : (letS s (pkS n (gI (wL fl n)) (alF fl n) (sndK fl s) s.fs) k p r).tok (fl i).t.toNat = upf s.tok p.t.toNat (s.tok p.t.toNat - p.sz) (fl i).t.toNat := rfl
        have ht' : sumZ ((letS s (pkS n (gI (wL fl n)) (alF fl n) (sndK fl s) s.fs) k p r).q i) ≤ (letS s (pkS n (gI (wL fl n)) (alF fl n) (sndK fl s) s.fs) k p r).tok (fl i).t.toNat := by
          rw [hqi, hti]
          by_cases e : k = i
          · subst e
            rw [upf_at, hpt, upf_at]
            rw [hq, sumZ] at ht
            omega
          · have h1 := hf.t k hk
            have h2 := hf.t i hi
            have h3 := hap k hk e
            rw [upf_ne _ _ (fun e' => e e'.symm), upf_ne _ _ (by rw [hpt]; omega)]
            exact ht
        have hlen : (if k = i then (s.q i).length - 1 else (s.q i).length) = ((letS s (pkS n (gI (wL fl n)) (alF fl n) (sndK fl s) s.fs) k p r).q i).length := by
          rw [hqi]
          by_cases e : k = i
          · subst e; rw [if_pos rfl, upf_at, hq]; simp
          · rw [if_neg e, upf_ne _ _ (fun e' => e e'.symm)]
        have hpm : pmF i (s.q i).length R ((k, p) :: (pumpF fl n f (letS s (pkS n (gI (wL fl n)) (alF fl n) (sndK fl s) s.fs) k p r)).2) = pmF i ((letS s (pkS n (gI (wL fl n)) (alF fl n) (sndK fl s) s.fs) k p r).q i).length (if (s.q i).length = 0 then [] else R ++ [(k, p)]) (pumpF fl n f (letS s (pkS n (gI (wL fl n)) (alF fl n) (sndK fl s) s.fs) k p r)).2 := by
          rw [pmF, ← hlen]
        rw [hpm]
        have hcc : c + ((pumpF fl n f (letS s (pkS n (gI (wL fl n)) (alF fl n) (sndK fl s) s.fs) k p r)).2.length + 1) + 1 = c + 1 + (pumpF fl n f (letS s (pkS n (gI (wL fl n)) (alF fl n) (sndK fl s) s.fs) k p r)).2.length + 1 := by omega
        rw [hcc]
        by_cases he : s.q i = []
        · have h0 : sndK fl s i = 0 := sndK_nil he
          have hki : k ≠ i := fun e => by subst e; rw [hq] at he; cases he
          obtain ⟨fr', a1, a2, a3, a4, a5⟩ := fi_pumped hf hi hap f (R := []) (g1 h0) (hs.let_ hq _) (by omega) ht' (okP_nil _ _ _ _ _) (fun hne => by
            rw [hqi, upf_ne _ _ (fun e' => hki e'.symm)] at hne
            exact absurd he hne)
          rw [if_pos (by rw [he]; rfl)]
          rw [List.append_assoc] at a1 a5
          exact ⟨fr', a1, a2, a3, a4, a5⟩
        · obtain ⟨b1, b2⟩ := g2 (hpos he)
          obtain ⟨pre, e1, e2⟩ := hpre he
          have hR' : okP (wI fl n i) (alF fl n) i own most (R ++ [(k, p)]) := fun j k' hj hk' => by
            by_cases hl : k' < R.length
            · rw [List.take_append_of_le_length (by omega), List.take_append_of_le_length (by omega)]
              exact hR j k' hj hl
            · have hk2 : k' = R.length := by simp at hk'; omega
              subst hk2
              rw [List.take_of_length_le (by simp), List.take_append_of_le_length (by omega)]
              have := b2 (pre.length + j) (by omega) (by rw [e1, List.length_append]; omega)
              have e3 : lagL (wI fl n i) (alF fl n) i (O ++ [(k, p)]) = lagL (wI fl n i) (alF fl n) i pre + lagL (wI fl n i) (alF fl n) i (R ++ [(k, p)]) := by rw [e1, List.append_assoc, lagL_append]
              have e4 : lagL (wI fl n i) (alF fl n) i (O.take (pre.length + j)) = lagL (wI fl n i) (alF fl n) i pre + lagL (wI fl n i) (alF fl n) i (R.take j) := by rw [e1, List.take_append, List.take_of_length_le (by omega), Nat.add_sub_cancel_left, lagL_append]
              rw [e3, e4] at this
              omega
          obtain ⟨fr', a1, a2, a3, a4, a5⟩ := fi_pumped hf hi hap f (R := R ++ [(k, p)]) b1 (hs.let_ hq _) (by omega) ht' hR' (fun _ => ⟨pre, by rw [e1, List.append_assoc], e2⟩)
          rw [if_neg (by intro h0; exact he (List.eq_nil_of_length_eq_zero h0))]
          rw [List.append_assoc] at a1 a5
          exact ⟨fr', a1, a2, a3, a4, a5⟩
end Go.Proofs.Ytoodmocapagapaa
namespace Go.Proofs.Ytoodmocapagapaa
open Go.RowKit
set_option linter.unusedSimpArgs false
set_option linter.unusedVariables false

theorem sn_grow2 {W : World} {M b : Nat} {ty : TypeId} {v : Value} {ob : Option Nat} {O : List (Nat × PD)} {k : Nat} {p : PD} (h : SnO W M v ob O) (hb : Blk W b (sentV k p) 46) (hM : M ≤ W.heap.size) (hn : O.length ≤ 100000) :
    ∃ v' ob' w', (Builtin.append_ #[27, 27] ty #[v, .slice (some ⟨b, 0, none⟩) 1 1]).run Try.prog W = .ok v' w' ∧ SnO w' M v' (some ob') (O ++ [(k, p)]) ∧ Fr ob.toList W w' ∧ Below M W w' ∧ (ob = some ob' ∨ ob' = W.heap.size) := by
  obtain ⟨r1, r5⟩ := h
  obtain ⟨i0, hi, hz0, hz1, hz2⟩ := info_parts senInfo
  obtain ⟨v', ob', w', hrun, s1, s2, s3⟩ := run_append_row (P := Try.prog) W 27 ty 46 i0 _ 6 48 Try.underlying27 hi hz0 hz1 hz2 rfl (by decide) v ob O.length (snL O) r1 ⟨b, 0, none⟩ 1 1 (sentV k p).toList (by decide) rfl (fun j u hu => by
    rw [addr_add, cell_at hb, Nat.zero_add]
    simpa using hu) (sentV_ones k p) (by unfold maxLen; omega) (by omega)
  refine ⟨v', ob', w', hrun, ⟨by rw [List.length_append, snL_push]; exact s1, fun g e => ?_⟩, fr_grown s2, (Below.refl M W).grown s2 hM r5, s3⟩
  obtain rfl := Option.some.inj e
  rcases s3 with h | h
  · exact r5 _ h
  · omega
theorem SnO.frN {W W' : World} {M : Nat} {v : Value} {ob : Option Nat} {O : List (Nat × PD)} (h : SnO W M v ob O) {L : List Nat} (hf : Fr L W W') (hn : ∀ g, ob = some g → g ∉ L) : SnO W' M v ob O := ⟨h.row.congr fun g e => hf.block g (by have := h.row; subst e; exact this.lt) (hn g e), h.ge⟩
structure ApP (W : World) (fl : Nat → FlowE) (n : Nat) (e : Ending) (w' : World) : Prop where
  ex : ∃ B : Bool, e = .returned (.bool B) ∧ (B = true → ∀ i k, k < i → i < n → (fl k).t ≠ (fl i).t)
  b : Below W.heap.size W w'
set_option maxRecDepth 100000 in
set_option maxHeartbeats 16000000 in
theorem apart_any (a : Option Addr) (n c b o : Nat) (fl : Nat → FlowE) (W : World) (hs : FlowIn W a n c b o fl) (hn : n ≤ 1000) : Calls Try.prog 18 #[.slice a n c] W (ApP W fl n) := by
  have m1 := hs.le
  have m2 := hs.max
  unfold maxLen at m2
  have HH := Lib.hid hs
  have HN := Lib.hid hn
  clear hs hn
  go_enter Try.func18, Try.ntmps18
  go_wp2_with fail
  go_loopw [3, 4, 7] (fun _ _ vi wr => ∃ i : Nat, i ≤ n ∧ vi = .int .i64 i ∧ (∀ i' k, k < i' → i' < i → (fl k).t ≠ (fl i').t) ∧ Below W.heap.size W wr) (fun _ _ vi _ => n - (intOf vi).toNat)
  case atStart => exact ⟨0, Nat.zero_le _, rfl, fun i' k _ h => absurd h (by omega), Below.refl _ _⟩
  case round =>
    obtain ⟨i, hi, rfl, hp, hB⟩ := hrel
    have HP := Lib.hid hp
    have HB := Lib.hid hB
    by_cases hlt : i < n
    rotate_left
    · obtain rfl : i = n := by omega
      clear hp hB hlt hi
      go_wp2_with fail
      try rw [Exit.noGoto_ret]
      go_ret
      exact ⟨⟨true, rfl, fun _ => HP.out⟩, HB.out⟩
    have HLT := Lib.hid hlt
    obtain ⟨e0, _⟩ := HH.out.at_ (by omega)
    subst e0
    have i1 : (i < n) = True := eq_true hlt
    have i2 : ((i : Int) < (n : Int)) = True := eq_true (by omega)
    have i0 : ((0 : Int) ≤ (i : Int)) = True := eq_true (by omega)
    have wi : IntKind.i64.wrap ((i : Int) + 1) = (i : Int) + 1 := IntWalk.i64_in _ (by have := HN.out; omega)
    clear hp hB hlt hi
    go_wp2_with fail
    go_loopw [4, 11] (fun _ vk wq => ∃ k : Nat, k ≤ i ∧ vk = .int .i64 k ∧ (∀ k', k' < k → (fl k').t ≠ (fl i).t) ∧ Below W.heap.size W wq) (fun _ vk _ => i - (intOf vk).toNat)
    case atStart => exact ⟨0, Nat.zero_le _, rfl, fun k' h => absurd h (by omega), HB.out⟩
    case round =>
      clear HB
      obtain ⟨k, hk, rfl, hq, hB⟩ := hrel
      have HQ := Lib.hid hq
      have HB := Lib.hid hB
      by_cases hlk : k < i
      rotate_left
      · obtain rfl : k = i := by omega
        clear hq hB hlk hk
        go_wp2_with fail
        go_roundw
        case rel => exact ⟨k + 1, HLT.out, by go_num, fun i' k' h1 h2 => by
          by_cases e : i' = k
          · subst e; exact HQ.out k' h1
          · exact HP.out i' k' h1 (by omega), HB.out⟩
        case measure => (have h8 := HLT.out; first | (simp [intOf]; done) | (simp [intOf]; omega))
      have hh := HH.out.below hB
      have hlt := HLT.out
      obtain ⟨f0, _, _⟩ := hh.cell k (by omega)
      obtain ⟨g0, _, _⟩ := hh.cell i hlt
      have bl := (hh.at_ (by omega)).2
      have k1 : (k < n) = True := eq_true (by omega)
      have k2 : ((k : Int) < (n : Int)) = True := eq_true (by omega)
      have k0 : ((0 : Int) ≤ (k : Int)) = True := eq_true (by omega)
      have k3 : ((k : Int) < (i : Int)) = True := eq_true (by omega)
      have wk : IntKind.i64.wrap ((k : Int) + 1) = (k : Int) + 1 := IntWalk.i64_in _ (by have := HN.out; omega)
      obtain ⟨x, hx⟩ : ∃ x, x = (fl k).t := ⟨_, rfl⟩
      obtain ⟨y, hy⟩ : ∃ y, y = (fl i).t := ⟨_, rfl⟩
      rw [← hx] at f0
      rw [← hy] at g0
      have HXY : Hid (x = (fl k).t ∧ y = (fl i).t) := Lib.hid ⟨hx, hy⟩
      have HLK := Lib.hid hlk
      clear hq hB hh hx hy hlt hlk hk
      go_upto_region 7 with fail
      (refine wp_region_quiet_lit (by kernel_rfl) (by kernel_rfl) ?_; (repeat (first | go_big_quiet_step (fail) | (refine BigFrame.wpQuiet_skip (by rfl) ?_; try simp only [Act.put, List.setIfInBounds_toArray, List.set_cons_zero, List.set_cons_succ]))); refine wpQuiet_nil ?_; intro _ hw9; obtain ⟨nq, hw8⟩ := hw9; subst hw8)
      by_cases hxy : x = y
      · have d1 : (x == y) = true := by simpa using hxy
        have HNE := Lib.hid hxy
        clear hxy
        go_wp2_with fail
        try rw [Exit.noGoto_ret]
        go_ret
        exact ⟨⟨false, rfl, fun h => Bool.noConfusion h⟩, HB.out.trans ((dN _ _).mono HB.out.size)⟩
      · have d1 : (x == y) = false := by simpa using hxy
        have HNE : Hid ((fl k).t ≠ (fl i).t) := Lib.hid (fun e => hxy (by rw [HXY.out.1, HXY.out.2, e]))
        clear hxy
        go_wp2_with fail
        go_roundw
        case rel => exact ⟨k + 1, by have := HLK.out; omega, by go_num, fun k' h => by
          by_cases e : k' = k
          · subst e; exact HNE.out
          · exact HQ.out k' (by omega), HB.out.trans ((dN _ _).mono HB.out.size)⟩
        case measure => (have h8 := HLK.out; first | (simp [intOf]; done) | (simp [intOf]; omega))
def cntI (i : Nat) : List (Nat × PD) → Nat
  | [] => 0
  | x :: r => (if x.1 = i then 1 else 0) + cntI i r
theorem cntI_append (i : Nat) (a b : List (Nat × PD)) : cntI i (a ++ b) = cntI i a + cntI i b := by
  induction a with
  | nil => simp [cntI]
  | cons x a ih => rw [List.cons_append, cntI, cntI, ih]; omega
theorem pmF_w (i : Nat) : ∀ (l : List (Nat × PD)) (w : Nat) (R : List (Nat × PD)), cntI i l ≤ w → (pmF i w R l).2 + cntI i l = w
  | [], w, R, _ => rfl
  | x :: r, w, R, h => by
    rw [cntI] at h
    rw [pmF, cntI]
    by_cases e : x.1 = i
    · rw [if_pos e] at h ⊢
      rw [if_pos e]
      have := pmF_w i r (w - 1) (if w = 0 then [] else R ++ [x]) (by omega)
      omega
    · rw [if_neg e] at h ⊢
      rw [if_neg e]
      have := pmF_w i r w (if w = 0 then [] else R ++ [x]) (by omega)
      omega
theorem pmF_snoc (i : Nat) : ∀ (l : List (Nat × PD)) (w : Nat) (R : List (Nat × PD)) (x : Nat × PD), pmF i w R (l ++ [x]) = (if (pmF i w R l).2 = 0 then [] else (pmF i w R l).1 ++ [x], if x.1 = i then (pmF i w R l).2 - 1 else (pmF i w R l).2)
  | [], w, R, x => rfl
  | y :: l, w, R, x => by rw [List.cons_append, pmF, pmF_snoc i l, pmF]
theorem pmF_len (i : Nat) : ∀ (l : List (Nat × PD)) (w : Nat) (R : List (Nat × PD)), (pmF i w R l).1.length ≤ R.length + l.length
  | [], w, R => Nat.le_refl _
  | x :: l, w, R => by
    have := pmF_len i l (if x.1 = i then w - 1 else w) (if w = 0 then [] else R ++ [x])
    rw [pmF]
    refine Nat.le_trans this ?_
    split <;> simp <;> omega
theorem pump_tot {fl : Nat → FlowE} {n : Nat} (hf : FlOk fl n) : ∀ (f : Nat) {s : SS}, Inv n s.fs → (∀ k, k < n → ∀ p ∈ s.q k, p.n ≤ 1492) → (pumpF fl n f s).2.length ≤ totL s.q n
  | 0, s, _, _ => Nat.zero_le _
  | f + 1, s, hi, hq1 => by
    by_cases hb : s.bud ≤ 0
    · rw [pumpF_stop hb]; exact Nat.zero_le _
    · have hm : okHd (sndK fl s) n := fun k hk => by
        cases hq : s.q k with
        | nil => rw [sndK_nil hq]; omega
        | cons p r =>
          rw [sndK_cons hq]
          have := hq1 k hk p (by rw [hq]; simp)
          unfold PD.sz
          split <;> omega
      have hpk := inv_pk hf.wt hm hi
      cases hp : pkK n (gI (wL fl n)) (alF fl n) (sndK fl s) s.fs with
      | none => rw [pumpF_none hb hp]; exact Nat.zero_le _
      | some k =>
        obtain ⟨hk, hz⟩ := hpk.2 k hp
        obtain ⟨p, r, hq, hle⟩ := snd_pos hz
        rw [pumpF_some hb hp hq]
        have h := pump_tot hf f (s := letS s (pkS n (gI (wL fl n)) (alF fl n) (sndK fl s) s.fs) k p r) hpk.1 (fun k' hk' p' hp' => by
          have hp2 : p' ∈ upf s.q k r k' := hp'
          by_cases e : k' = k
          · subst e; rw [upf_at] at hp2; exact hq1 _ hk' p' (by rw [hq]; exact List.mem_cons_of_mem _ hp2)
          · rw [upf_ne _ _ e] at hp2; exact hq1 k' hk' p' hp2)
        have e1 : totL (letS s (pkS n (gI (wL fl n)) (alF fl n) (sndK fl s) s.fs) k p r).q n = totL (upf s.q k r) n := rfl
        have e2 := totL_up hq hk
        rw [e1] at h
        rw [List.length_cons]
        omega
theorem pump_cnt {fl : Nat → FlowE} {n : Nat} (i : Nat) : ∀ (f : Nat) (s : SS), cntI i (pumpF fl n f s).2 + ((pumpF fl n f s).1.q i).length = (s.q i).length
  | 0, s => by show cntI i [] + _ = _; simp [cntI]; rfl
  | f + 1, s => by
    by_cases hb : s.bud ≤ 0
    · rw [pumpF_stop hb]; simp [cntI]
    · cases hp : pkK n (gI (wL fl n)) (alF fl n) (sndK fl s) s.fs with
      | none => rw [pumpF_none hb hp]; simp [cntI]
      | some k =>
        cases hq : s.q k with
        | nil =>
          rw [pumpF, if_neg hb, hp]
          simp only [hq]
          simp [cntI]
        | cons p r =>
          rw [pumpF_some hb hp hq]
          have h := pump_cnt (fl := fl) (n := n) i f (letS s (pkS n (gI (wL fl n)) (alF fl n) (sndK fl s) s.fs) k p r)
          have e1 : (letS s (pkS n (gI (wL fl n)) (alF fl n) (sndK fl s) s.fs) k p r).q i = upf s.q k r i := rfl
          rw [e1] at h
          show cntI i ((k, p) :: (pumpF fl n f (letS s (pkS n (gI (wL fl n)) (alF fl n) (sndK fl s) s.fs) k p r)).2) + ((pumpF fl n f (letS s (pkS n (gI (wL fl n)) (alF fl n) (sndK fl s) s.fs) k p r)).1.q i).length = _
          rw [cntI]
          by_cases e : k = i
          · subst e
            rw [upf_at] at h
            rw [if_pos rfl, hq, List.length_cons]
            omega
          · rw [upf_ne _ _ (fun e' => e e'.symm)] at h
            rw [if_neg e]
            omega
set_option maxRecDepth 100000 in
set_option maxHeartbeats 40000000 in
theorem pumped_any (W : World) (M S : Nat) (fl : Nat → FlowE) (n c : Nat) (m : ShM) (s : SS) (h : ShAt W M S fl n c m s) (hf : FlOk fl n) (b : Int) (i : Nat) (hi : i < n) (MR : Nat) (hMR : MR ≤ M) (ra : Option Addr) (rc : Nat) (ob : Option Nat) (R : List (Nat × PD)) (hR : SnO W MR (.slice ra R.length rc) ob R) (hRl : R.length ≤ 1000) : Calls Try.prog 20 #[.pointer (some ⟨S, 0, none⟩), .int .i64 b, .int .i64 (i : Nat), .slice ra R.length rc] W fun e w' => ∃ v' ob' m', e = .returned (.tuple #[v', .int .i64 ((pmF i (s.q i).length (if (s.q i).length = 0 then [] else R) (pumpS fl n b s).2).2 : Nat)]) ∧ SnO w' MR v' ob' (pmF i (s.q i).length (if (s.q i).length = 0 then [] else R) (pumpS fl n b s).2).1 ∧ ShAt w' M S fl n c m' (pumpS fl n b s).1 ∧ Below MR W w' := by
  have WT := Lib.hid (waiting_any W M S fl n c m s h (i : Nat))
  have hv : waitV s n (i : Nat) = (((s.q i).length : Nat) : Int) := by unfold waitV; rw [if_pos (by omega), Int.toNat_natCast]
  rw [hv] at WT
  have PU := Lib.hid (pump_any W M S fl n c m s h hf b)
  have hcn := pump_cnt (fl := fl) (n := n) i (totL s.q n + 1) (budIn s b)
  have hq0 : (budIn s b).q i = s.q i := rfl
  rw [hq0] at hcn
  have hlo : (pumpS fl n b s).2.length ≤ 512 := by
    have h1 := pump_tot (fl := fl) (n := n) hf (totL s.q n + 1) (s := budIn s b) (by show Inv n s.fs; exact h.iv) (fun k hk p hp => (h.q.qt k hk p hp).2.2)
    have h2 := tot_bd h.q n (Nat.le_refl _)
    have h3 := hf.n1
    have e1 : totL (budIn s b).q n = totL s.q n := rfl
    show (pumpF fl n (totL s.q n + 1) (budIn s b)).2.length ≤ 512
    omega
  have hO2 : (pumpS fl n b s).2 = (pumpF fl n (totL s.q n + 1) (budIn s b)).2 := rfl
  obtain ⟨O1, hO1⟩ : ∃ O, O = (pumpS fl n b s).2 := ⟨_, rfl⟩
  obtain ⟨s1, hs1⟩ : ∃ x, x = (pumpS fl n b s).1 := ⟨_, rfl⟩
  obtain ⟨w0, hw0⟩ : ∃ x, x = (s.q i).length := ⟨_, rfl⟩
  rw [← hO1] at hlo hO2
  rw [← hO2, ← hw0] at hcn
  rw [← hO1, ← hs1] at PU ⊢
  rw [← hw0] at WT ⊢
  have HC : Hid (cntI i O1 ≤ w0 ∧ O1.length ≤ 512 ∧ R.length ≤ 1000) := Lib.hid ⟨by omega, hlo, hRl⟩
  have HS := Lib.hid h
  have hwb : w0 ≤ 64 := by rw [hw0]; exact (h.q.sz hi).2
  have HM : Hid (MR ≤ W.heap.size ∧ MR ≤ M ∧ w0 ≤ 64) := Lib.hid ⟨by have := h.ge; have := h.blk.lt; omega, hMR, hwb⟩
  obtain ⟨v0, ob0, R0, hR0, hv0, he0⟩ : ∃ v0 ob0 R0, SnO W MR v0 ob0 R0 ∧ (v0 = if w0 = 0 then .slice none 0 0 else .slice ra R.length rc) ∧ R0 = (if w0 = 0 then [] else R) := by
    by_cases e : w0 = 0
    · exact ⟨_, none, [], SnO.none _ _, by rw [if_pos e], by rw [if_pos e]⟩
    · exact ⟨_, ob, R, hR, by rw [if_neg e], by rw [if_neg e]⟩
  rw [← he0]
  have HR0 := Lib.hid hR0
  have HV0 := Lib.hid hv0
  have HRL : Hid (R0.length ≤ 1000) := Lib.hid (by
    rw [he0]
    split
    · simp
    · exact hRl)
  clear h hf hR hv hcn hq0 hlo hO2 hO1 hs1 hw0 hRl hMR hR0 hv0 he0 hwb
  go_enter Try.func20, Try.ntmps20
  go_wp2_with fail
  go_at_call 11
  go_fit WT.out
  rintro e W1 ⟨rfl, rfl⟩
  by_cases e : w0 = 0
  · have d1 : ((w0 : Int) == 0) = true := by simp [e]
    have d2 : (w0 == 0) = true := by simp [e]
    have HV : Hid (v0 = .slice none 0 0) := Lib.hid (by rw [HV0.out, if_pos e])
    clear e
    go_wp2_with fail
    go_at_call 8
    go_fit PU.out
    rintro e W2 ⟨v11, v12, o11, o12, m2, rfl, hsn, hby, hx, hs⟩
    obtain ⟨za, zc, rfl, _, _, e11⟩ := hsn.row.shape
    obtain ⟨ya, yc, rfl, _, _, e12⟩ : ∃ a c, _ := hby.ex.choose_spec.1.shape
    have HZ := Lib.hid e11
    have HSN := Lib.hid hsn
    have HX := Lib.hid hx
    have HR2 : Hid (SnO W2 MR v0 ob0 R0) := Lib.hid (HR0.out.ty hs.t (by decide))
    have HB2 : Hid (Below MR W W2) := Lib.hid (hs.b.mono HM.out.2.1)
    have HNE : Hid (∀ g, ob0 = some g → o11 ≠ some g) := Lib.hid (fun g eg e2 => by
      have h1 := HR0.out.row
      subst eg
      have h2 := h1.lt
      have h3 := hsn.ge g e2
      omega)
    have HV2 : Hid ((.slice none 0 0 : Value) = v0) := Lib.hid HV.out.symm
    clear e11 e12 hsn hby hx hs PU HR0 HV0 HV d1 d2 WT
    go_wp2_with fail
    go_loopw [3, 10, 13, 27] (fun v3 v10 _ vi wr => ∃ (j : Nat) (o3 : Option Nat), j ≤ O1.length ∧ vi = .int .i64 j ∧ v10 = .int .i64 ((pmF i w0 R0 (O1.take j)).2 : Nat) ∧ SnO wr MR v3 o3 (pmF i w0 R0 (O1.take j)).1 ∧ SnO wr W.heap.size (.slice za O1.length zc) o11 O1 ∧ ShAt wr M S fl n c m2 s1 ∧ Below MR W wr ∧ (∀ g, o3 = some g → o11 ≠ some g)) (fun _ _ _ vi _ => O1.length - (intOf vi).toNat)
    case atStart => exact ⟨0, ob0, Nat.zero_le _, rfl, rfl, by rw [HV2.out]; exact HR2.out, HSN.out, HX.out, HB2.out, HNE.out⟩
    case round =>
      clear HSN HX HR2 HB2 HNE HV2
      obtain ⟨j, o3, hj, rfl, rfl, hr3, hsn, hx, hB, hne⟩ := hrel
      obtain ⟨xa, xc, rfl, _, _, e3⟩ := hr3.row.shape
      clear e3
      obtain ⟨PM, hPM⟩ : ∃ P, P = pmF i w0 R0 (O1.take j) := ⟨_, rfl⟩
      rw [← hPM] at hr3 ⊢
      have HPM := Lib.hid hPM
      by_cases hlj : j < O1.length
      rotate_left
      · obtain rfl : j = O1.length := by omega
        have HEQ : Hid (pmF i w0 R0 O1 = PM) := Lib.hid (by rw [hPM, List.take_length])
        have HR3 := Lib.hid hr3
        have HX := Lib.hid hx
        have HB := Lib.hid hB
        clear hPM hr3 hsn hx hB hne hlj hj HPM
        go_wp2_with fail
        try rw [Exit.noGoto_ret]
        go_ret2
        exact ⟨_, o3, m2, by rw [HEQ.out]; rfl, by rw [HEQ.out]; exact HR3.out, HX.out, HB.out⟩
      obtain ⟨z, hz⟩ : ∃ z, O1[j]? = some z := ⟨O1[j], List.getElem?_eq_getElem hlj⟩
      obtain ⟨x, y⟩ := z
      have htk : O1.take (j + 1) = O1.take j ++ [(x, y)] := by
        rw [List.take_add_one, hz]
        rfl
      have hcj : cntI i (O1.take (j + 1)) ≤ cntI i O1 := by
        have := cntI_append i (O1.take (j + 1)) (O1.drop (j + 1))
        rw [List.take_append_drop] at this
        omega
      have hwj := pmF_w i (O1.take j) w0 R0 (by
        have := cntI_append i (O1.take j) (O1.drop j)
        rw [List.take_append_drop] at this
        have := HC.out.1
        omega)
      rw [← hPM] at hwj
      have hpos : x = i → 0 < PM.2 := fun ex => by
        rw [htk, cntI_append] at hcj
        have e1 : cntI i [(x, y)] = 1 := by show (if x = i then 1 else 0) + 0 = 1; rw [if_pos ex]
        have := HC.out.1
        omega
      have HNX : Hid (pmF i w0 R0 (O1.take (j + 1)) = (if PM.2 = 0 then [] else PM.1 ++ [(x, y)], if x = i then PM.2 - 1 else PM.2)) := Lib.hid (by rw [htk, pmF_snoc, ← hPM])
      have hPL : PM.1.length ≤ 1512 := by rw [hPM]; have := pmF_len i (O1.take j) w0 R0; have h2 := HRL.out; have h3 := HC.out.2.1; have h4 : (O1.take j).length ≤ O1.length := (by rw [List.length_take]; omega); omega
      obtain ⟨⟨PR, wj⟩, hP2⟩ : ∃ Q, Q = PM := ⟨PM, rfl⟩
      rw [← hP2] at hr3 hwj hpos HNX hPL ⊢
      simp only at hr3 hwj hpos HNX hPL ⊢
      have hwb : wj ≤ 64 := by have := HM.out.2.2; omega
      obtain ⟨g11, eg, hcl⟩ := hsn.row.cell (j * 6) (by omega)
      clear hcl
      subst eg
      obtain rfl : za = some ⟨g11, 0, none⟩ := HZ.out
      have hcc : ∀ q, q < 6 → wr.cell? ⟨g11, j * 6 + q, none⟩ = (sentV x y)[q]? := fun q hq => by
        obtain ⟨g, e, hc, _⟩ := hsn.row.cell (j * 6 + q) (by omega)
        obtain rfl := Option.some.inj e
        exact hc.trans (snL_at O1 j q _ hz hq)
      have c0 : wr.cell? ⟨g11, j * 6, none⟩ = some (.int .i64 0) := hcc 0 (by omega)
      have c1 : wr.cell? ⟨g11, j * 6 + 1, none⟩ = some (.int .i64 0) := hcc 1 (by omega)
      have c2 : wr.cell? ⟨g11, j * 6 + 2, none⟩ = some (.int .i64 y.t) := hcc 2 (by omega)
      have c3 : wr.cell? ⟨g11, j * 6 + 3, none⟩ = some (.int .i64 (x : Nat)) := hcc 3 (by omega)
      have c4 : wr.cell? ⟨g11, j * 6 + 4, none⟩ = some (.int .i64 y.sz) := hcc 4 (by omega)
      have c5 : wr.cell? ⟨g11, j * 6 + 5, none⟩ = some (.int .i64 y.num) := hcc 5 (by omega)
      have gl := hsn.row.lt
      have j1 : (j < O1.length) = True := eq_true hlj
      have j2 : ((j : Int) < (O1.length : Int)) = True := eq_true (by omega)
      have j0 : ((0 : Int) ≤ (j : Int)) = True := eq_true (by omega)
      have wJ : IntKind.i64.wrap ((j : Int) + 1) = (j : Int) + 1 := IntWalk.i64_in _ (by have := HC.out; omega)
      have wM : IntKind.i64.wrap ((wj : Int) - 1) = (wj : Int) - 1 := IntWalk.i64_in _ (by omega)
      have HLJ := Lib.hid hlj
      have HSN := Lib.hid hsn
      have HX := Lib.hid hx
      have HB := Lib.hid hB
      have HNE := Lib.hid hne
      have HR3 := Lib.hid hr3
      have HPOS := Lib.hid hpos
      have HPL := Lib.hid hPL
      have HWJ : Hid (wj = 0 ∨ 0 < wj) := Lib.hid (by omega)
      clear hPM hP2 hr3 hsn hx hB hne hj hz htk hcj hwj hpos hcc hlj hwb HPM hPL
      by_cases hw : wj = 0
      · subst hw
        have hxi : x ≠ i := fun e => by have := HPOS.out e; omega
        have d3 : ((x : Int) == (i : Int)) = false := by simp; omega
        have d4 : (x == i) = false := by simp; omega
        have HXI := Lib.hid hxi
        clear hxi
        go_wp2_with fail
        go_roundw
        case rel => exact ⟨j + 1, none, HLJ.out, by go_num, by rw [HNX.out, if_neg HXI.out], by rw [HNX.out, if_pos rfl]; exact SnO.none _ _, HSN.out, HX.out, HB.out, fun g e => by cases e⟩
        case measure => (have h8 := HLJ.out; first | (simp [intOf]; done) | (simp [intOf]; omega))
      have HW0 := Lib.hid hw
      have d3 : ((wj : Int) == 0) = false := by simp; omega
      have d4 : (wj == 0) = false := by simp; omega
      have hB8 : Below wr.heap.size wr (wr.alloc (.cells #[.int .i64 0, .int .i64 0, .int .i64 y.t, .int .i64 (x : Nat), .int .i64 y.sz, .int .i64 y.num] 46)) := alloc_b _ _
      have hk8 : Blk (wr.alloc (.cells #[.int .i64 0, .int .i64 0, .int .i64 y.t, .int .i64 (x : Nat), .int .i64 y.sz, .int .i64 y.num] 46)) wr.heap.size (sentV x y) 46 := blk_new _ _ _
      obtain ⟨v9, o9, W9, hrun9, hsn9, hf9, hB9, hs9⟩ := sn_grow2 (M := MR) (ty := 27) (HR3.out.step hB8) hk8 (by have := HB.out.size; have := hB8.size; have := HM.out.1; omega) (by have := HPL.out; omega)
      have HRUN9 := Lib.hid hrun9
      have HNEG : Hid (∀ g, (some g11 : Option Nat) = some g → g ∉ o3.toList) := Lib.hid (fun g e hm => by
        cases o3 with
        | none => simp at hm
        | some g' =>
          obtain rfl : g = g' := by simpa using hm
          exact HNE.out _ rfl e)
      have HSN9 := Lib.hid ((HSN.out.step hB8).frN hf9 HNEG.out)
      have HX9 := Lib.hid ((HX.out.step hB8).ot hf9 (ot_row (HR3.out.step hB8).row (by decide)))
      have HB9 := Lib.hid ((HB.out.trans (hB8.mono (by have := HB.out.size; have := HM.out.1; omega))).trans hB9)
      have HNE9 : Hid (∀ g, (some o9 : Option Nat) = some g → (some g11 : Option Nat) ≠ some g) := Lib.hid (fun g e e2 => by
        obtain rfl := Option.some.inj e
        obtain rfl := Option.some.inj e2
        rcases hs9 with h | h
        · exact HNE.out _ h rfl
        · have := (HSN.out.step hB8).row.lt; omega)
      obtain ⟨ua, uc, rfl, _, _, eu⟩ := hsn9.row.shape
      have HR9 := Lib.hid hsn9
      have hcc9 : ∀ q, q < 6 → W9.cell? ⟨g11, j * 6 + q, none⟩ = wr.cell? ⟨g11, j * 6 + q, none⟩ := fun q _ => by
        have h1 := hf9.block g11 (by have := hB8.size; omega) (HNEG.out g11 rfl)
        exact (cell_congr (h1.trans (hB8.block g11 gl)) _)
      have r3 : W9.cell? ⟨g11, j * 6 + 3, none⟩ = some (.int .i64 (x : Nat)) := (hcc9 3 (by omega)).trans c3
      have rl := HSN9.out.row.lt
      clear eu hB8 hk8 hrun9 hsn9 hf9 hB9 hs9 hw hcc9 HR3 HSN HX HB HNE HNEG
      have hlen : (PR ++ [(x, y)]).length = PR.length + 1 := by simp
      rw [hlen] at HRUN9 HR9
      clear hlen
      by_cases hxi : x = i
      · have d5 : ((x : Int) == (i : Int)) = true := by simp; omega
        have d6 : (x == i) = true := by simp; omega
        have HXI := Lib.hid hxi
        have hwe : ((wj : Int) - 1) = (((wj - 1 : Nat)) : Int) := by have := HPOS.out hxi; omega
        have HWE := Lib.hid hwe
        clear hxi hwe
        go_wp2_with (at_builtin; refine Lib.wpList_append_run _ rfl (.tmp 32) (.tmp 37) 27 27 rfl _ _ rfl rfl _ _ HRUN9.out ?_)
        go_roundw
        case rel => exact ⟨j + 1, some o9, HLJ.out, by go_num, by rw [HNX.out, if_pos HXI.out, ← HWE.out], by rw [HNX.out, if_neg HW0.out]; exact HR9.out, HSN9.out, HX9.out, HB9.out, HNE9.out⟩
        case measure => (have h8 := HLJ.out; first | (simp [intOf]; done) | (simp [intOf]; omega))
      · have d5 : ((x : Int) == (i : Int)) = false := by simp; omega
        have d6 : (x == i) = false := by simp; omega
        have HXI := Lib.hid hxi
        clear hxi
        go_wp2_with (at_builtin; refine Lib.wpList_append_run _ rfl (.tmp 32) (.tmp 37) 27 27 rfl _ _ rfl rfl _ _ HRUN9.out ?_)
        go_roundw
        case rel => exact ⟨j + 1, some o9, HLJ.out, by go_num, by rw [HNX.out, if_neg HXI.out], by rw [HNX.out, if_neg HW0.out]; exact HR9.out, HSN9.out, HX9.out, HB9.out, HNE9.out⟩
        case measure => (have h8 := HLJ.out; first | (simp [intOf]; done) | (simp [intOf]; omega))
  · have d1 : ((w0 : Int) == 0) = false := by simp; omega
    have d2 : (w0 == 0) = false := by simp; omega
    have HV : Hid (v0 = .slice ra R.length rc) := Lib.hid (by rw [HV0.out, if_neg e])
    clear e
    go_wp2_with fail
    go_at_call 8
    go_fit PU.out
    rintro e W2 ⟨v11, v12, o11, o12, m2, rfl, hsn, hby, hx, hs⟩
    obtain ⟨za, zc, rfl, _, _, e11⟩ := hsn.row.shape
    obtain ⟨ya, yc, rfl, _, _, e12⟩ : ∃ a c, _ := hby.ex.choose_spec.1.shape
    have HZ := Lib.hid e11
    have HSN := Lib.hid hsn
    have HX := Lib.hid hx
    have HR2 : Hid (SnO W2 MR v0 ob0 R0) := Lib.hid (HR0.out.ty hs.t (by decide))
    have HB2 : Hid (Below MR W W2) := Lib.hid (hs.b.mono HM.out.2.1)
    have HNE : Hid (∀ g, ob0 = some g → o11 ≠ some g) := Lib.hid (fun g eg e2 => by
      have h1 := HR0.out.row
      subst eg
      have h2 := h1.lt
      have h3 := hsn.ge g e2
      omega)
    have HV2 : Hid ((.slice ra R.length rc : Value) = v0) := Lib.hid HV.out.symm
    clear e11 e12 hsn hby hx hs PU HR0 HV0 HV d1 d2 WT
    go_wp2_with fail
    go_loopw [3, 10, 13, 27] (fun v3 v10 _ vi wr => ∃ (j : Nat) (o3 : Option Nat), j ≤ O1.length ∧ vi = .int .i64 j ∧ v10 = .int .i64 ((pmF i w0 R0 (O1.take j)).2 : Nat) ∧ SnO wr MR v3 o3 (pmF i w0 R0 (O1.take j)).1 ∧ SnO wr W.heap.size (.slice za O1.length zc) o11 O1 ∧ ShAt wr M S fl n c m2 s1 ∧ Below MR W wr ∧ (∀ g, o3 = some g → o11 ≠ some g)) (fun _ _ _ vi _ => O1.length - (intOf vi).toNat)
    case atStart => exact ⟨0, ob0, Nat.zero_le _, rfl, rfl, by rw [HV2.out]; exact HR2.out, HSN.out, HX.out, HB2.out, HNE.out⟩
    case round =>
      clear HSN HX HR2 HB2 HNE HV2
      obtain ⟨j, o3, hj, rfl, rfl, hr3, hsn, hx, hB, hne⟩ := hrel
      obtain ⟨xa, xc, rfl, _, _, e3⟩ := hr3.row.shape
      clear e3
      obtain ⟨PM, hPM⟩ : ∃ P, P = pmF i w0 R0 (O1.take j) := ⟨_, rfl⟩
      rw [← hPM] at hr3 ⊢
      have HPM := Lib.hid hPM
      by_cases hlj : j < O1.length
      rotate_left
      · obtain rfl : j = O1.length := by omega
        have HEQ : Hid (pmF i w0 R0 O1 = PM) := Lib.hid (by rw [hPM, List.take_length])
        have HR3 := Lib.hid hr3
        have HX := Lib.hid hx
        have HB := Lib.hid hB
        clear hPM hr3 hsn hx hB hne hlj hj HPM
        go_wp2_with fail
        try rw [Exit.noGoto_ret]
        go_ret2
        exact ⟨_, o3, m2, by rw [HEQ.out]; rfl, by rw [HEQ.out]; exact HR3.out, HX.out, HB.out⟩
      obtain ⟨z, hz⟩ : ∃ z, O1[j]? = some z := ⟨O1[j], List.getElem?_eq_getElem hlj⟩
      obtain ⟨x, y⟩ := z
      have htk : O1.take (j + 1) = O1.take j ++ [(x, y)] := by
        rw [List.take_add_one, hz]
        rfl
      have hcj : cntI i (O1.take (j + 1)) ≤ cntI i O1 := by
        have := cntI_append i (O1.take (j + 1)) (O1.drop (j + 1))
        rw [List.take_append_drop] at this
        omega
      have hwj := pmF_w i (O1.take j) w0 R0 (by
        have := cntI_append i (O1.take j) (O1.drop j)
        rw [List.take_append_drop] at this
        have := HC.out.1
        omega)
      rw [← hPM] at hwj
      have hpos : x = i → 0 < PM.2 := fun ex => by
        rw [htk, cntI_append] at hcj
        have e1 : cntI i [(x, y)] = 1 := by show (if x = i then 1 else 0) + 0 = 1; rw [if_pos ex]
        have := HC.out.1
        omega
      have HNX : Hid (pmF i w0 R0 (O1.take (j + 1)) = (if PM.2 = 0 then [] else PM.1 ++ [(x, y)], if x = i then PM.2 - 1 else PM.2)) := Lib.hid (by rw [htk, pmF_snoc, ← hPM])
      have hPL : PM.1.length ≤ 1512 := by rw [hPM]; have := pmF_len i (O1.take j) w0 R0; have h2 := HRL.out; have h3 := HC.out.2.1; have h4 : (O1.take j).length ≤ O1.length := (by rw [List.length_take]; omega); omega
      obtain ⟨⟨PR, wj⟩, hP2⟩ : ∃ Q, Q = PM := ⟨PM, rfl⟩
      rw [← hP2] at hr3 hwj hpos HNX hPL ⊢
      simp only at hr3 hwj hpos HNX hPL ⊢
      have hwb : wj ≤ 64 := by have := HM.out.2.2; omega
      obtain ⟨g11, eg, hcl⟩ := hsn.row.cell (j * 6) (by omega)
      clear hcl
      subst eg
      obtain rfl : za = some ⟨g11, 0, none⟩ := HZ.out
      have hcc : ∀ q, q < 6 → wr.cell? ⟨g11, j * 6 + q, none⟩ = (sentV x y)[q]? := fun q hq => by
        obtain ⟨g, e, hc, _⟩ := hsn.row.cell (j * 6 + q) (by omega)
        obtain rfl := Option.some.inj e
        exact hc.trans (snL_at O1 j q _ hz hq)
      have c0 : wr.cell? ⟨g11, j * 6, none⟩ = some (.int .i64 0) := hcc 0 (by omega)
      have c1 : wr.cell? ⟨g11, j * 6 + 1, none⟩ = some (.int .i64 0) := hcc 1 (by omega)
      have c2 : wr.cell? ⟨g11, j * 6 + 2, none⟩ = some (.int .i64 y.t) := hcc 2 (by omega)
      have c3 : wr.cell? ⟨g11, j * 6 + 3, none⟩ = some (.int .i64 (x : Nat)) := hcc 3 (by omega)
      have c4 : wr.cell? ⟨g11, j * 6 + 4, none⟩ = some (.int .i64 y.sz) := hcc 4 (by omega)
      have c5 : wr.cell? ⟨g11, j * 6 + 5, none⟩ = some (.int .i64 y.num) := hcc 5 (by omega)
      have gl := hsn.row.lt
      have j1 : (j < O1.length) = True := eq_true hlj
      have j2 : ((j : Int) < (O1.length : Int)) = True := eq_true (by omega)
      have j0 : ((0 : Int) ≤ (j : Int)) = True := eq_true (by omega)
      have wJ : IntKind.i64.wrap ((j : Int) + 1) = (j : Int) + 1 := IntWalk.i64_in _ (by have := HC.out; omega)
      have wM : IntKind.i64.wrap ((wj : Int) - 1) = (wj : Int) - 1 := IntWalk.i64_in _ (by omega)
      have HLJ := Lib.hid hlj
      have HSN := Lib.hid hsn
      have HX := Lib.hid hx
      have HB := Lib.hid hB
      have HNE := Lib.hid hne
      have HR3 := Lib.hid hr3
      have HPOS := Lib.hid hpos
      have HPL := Lib.hid hPL
      have HWJ : Hid (wj = 0 ∨ 0 < wj) := Lib.hid (by omega)
      clear hPM hP2 hr3 hsn hx hB hne hj hz htk hcj hwj hpos hcc hlj hwb HPM hPL
      by_cases hw : wj = 0
      · subst hw
        have hxi : x ≠ i := fun e => by have := HPOS.out e; omega
        have d3 : ((x : Int) == (i : Int)) = false := by simp; omega
        have d4 : (x == i) = false := by simp; omega
        have HXI := Lib.hid hxi
        clear hxi
        go_wp2_with fail
        go_roundw
        case rel => exact ⟨j + 1, none, HLJ.out, by go_num, by rw [HNX.out, if_neg HXI.out], by rw [HNX.out, if_pos rfl]; exact SnO.none _ _, HSN.out, HX.out, HB.out, fun g e => by cases e⟩
        case measure => (have h8 := HLJ.out; first | (simp [intOf]; done) | (simp [intOf]; omega))
      have HW0 := Lib.hid hw
      have d3 : ((wj : Int) == 0) = false := by simp; omega
      have d4 : (wj == 0) = false := by simp; omega
      have hB8 : Below wr.heap.size wr (wr.alloc (.cells #[.int .i64 0, .int .i64 0, .int .i64 y.t, .int .i64 (x : Nat), .int .i64 y.sz, .int .i64 y.num] 46)) := alloc_b _ _
      have hk8 : Blk (wr.alloc (.cells #[.int .i64 0, .int .i64 0, .int .i64 y.t, .int .i64 (x : Nat), .int .i64 y.sz, .int .i64 y.num] 46)) wr.heap.size (sentV x y) 46 := blk_new _ _ _
      obtain ⟨v9, o9, W9, hrun9, hsn9, hf9, hB9, hs9⟩ := sn_grow2 (M := MR) (ty := 27) (HR3.out.step hB8) hk8 (by have := HB.out.size; have := hB8.size; have := HM.out.1; omega) (by have := HPL.out; omega)
      have HRUN9 := Lib.hid hrun9
      have HNEG : Hid (∀ g, (some g11 : Option Nat) = some g → g ∉ o3.toList) := Lib.hid (fun g e hm => by
        cases o3 with
        | none => simp at hm
        | some g' =>
          obtain rfl : g = g' := by simpa using hm
          exact HNE.out _ rfl e)
      have HSN9 := Lib.hid ((HSN.out.step hB8).frN hf9 HNEG.out)
      have HX9 := Lib.hid ((HX.out.step hB8).ot hf9 (ot_row (HR3.out.step hB8).row (by decide)))
      have HB9 := Lib.hid ((HB.out.trans (hB8.mono (by have := HB.out.size; have := HM.out.1; omega))).trans hB9)
      have HNE9 : Hid (∀ g, (some o9 : Option Nat) = some g → (some g11 : Option Nat) ≠ some g) := Lib.hid (fun g e e2 => by
        obtain rfl := Option.some.inj e
        obtain rfl := Option.some.inj e2
        rcases hs9 with h | h
        · exact HNE.out _ h rfl
        · have := (HSN.out.step hB8).row.lt; omega)
      obtain ⟨ua, uc, rfl, _, _, eu⟩ := hsn9.row.shape
      have HR9 := Lib.hid hsn9
      have hcc9 : ∀ q, q < 6 → W9.cell? ⟨g11, j * 6 + q, none⟩ = wr.cell? ⟨g11, j * 6 + q, none⟩ := fun q _ => by
        have h1 := hf9.block g11 (by have := hB8.size; omega) (HNEG.out g11 rfl)
        exact (cell_congr (h1.trans (hB8.block g11 gl)) _)
      have r3 : W9.cell? ⟨g11, j * 6 + 3, none⟩ = some (.int .i64 (x : Nat)) := (hcc9 3 (by omega)).trans c3
      have rl := HSN9.out.row.lt
      clear eu hB8 hk8 hrun9 hsn9 hf9 hB9 hs9 hw hcc9 HR3 HSN HX HB HNE HNEG
      have hlen : (PR ++ [(x, y)]).length = PR.length + 1 := by simp
      rw [hlen] at HRUN9 HR9
      clear hlen
      by_cases hxi : x = i
      · have d5 : ((x : Int) == (i : Int)) = true := by simp; omega
        have d6 : (x == i) = true := by simp; omega
        have HXI := Lib.hid hxi
        have hwe : ((wj : Int) - 1) = (((wj - 1 : Nat)) : Int) := by have := HPOS.out hxi; omega
        have HWE := Lib.hid hwe
        clear hxi hwe
        go_wp2_with (at_builtin; refine Lib.wpList_append_run _ rfl (.tmp 32) (.tmp 37) 27 27 rfl _ _ rfl rfl _ _ HRUN9.out ?_)
        go_roundw
        case rel => exact ⟨j + 1, some o9, HLJ.out, by go_num, by rw [HNX.out, if_pos HXI.out, ← HWE.out], by rw [HNX.out, if_neg HW0.out]; exact HR9.out, HSN9.out, HX9.out, HB9.out, HNE9.out⟩
        case measure => (have h8 := HLJ.out; first | (simp [intOf]; done) | (simp [intOf]; omega))
      · have d5 : ((x : Int) == (i : Int)) = false := by simp; omega
        have d6 : (x == i) = false := by simp; omega
        have HXI := Lib.hid hxi
        clear hxi
        go_wp2_with (at_builtin; refine Lib.wpList_append_run _ rfl (.tmp 32) (.tmp 37) 27 27 rfl _ _ rfl rfl _ _ HRUN9.out ?_)
        go_roundw
        case rel => exact ⟨j + 1, some o9, HLJ.out, by go_num, by rw [HNX.out, if_neg HXI.out], by rw [HNX.out, if_neg HW0.out]; exact HR9.out, HSN9.out, HX9.out, HB9.out, HNE9.out⟩
        case measure => (have h8 := HLJ.out; first | (simp [intOf]; done) | (simp [intOf]; omega))
end Go.Proofs.Ytoodmocapagapaa
namespace Go.Proofs.Ytoodmocapagapaa
open Go.RowKit
set_option linter.unusedSimpArgs false
set_option linter.unusedVariables false

def ownN (fl : Nat → FlowE) (i : Nat) (own : Int) (X : Nat → Nat) (len : Nat) : Int := if ((X 1 : Nat) : Int) = (fl i).t then max own (len : Int) else own
theorem fi_in {fl : Nat → FlowE} {n i : Nat} {own most : Int} {c : Nat} {s : SS} {O : List (Nat × PD)} {fr : Nat} (hf : FlOk fl n) (hi : i < n) (h : FI fl n i own most c s O fr) (hs : SzI fl n i own most s) {X : Nat → Nat} {len : Nat} (he : inE fl n s X len = 0) : FI fl n i (ownN fl i own X len) (max most (len : Int)) c (inS fl n s X len) O fr ∧ SzI fl n i (ownN fl i own X len) (max most (len : Int)) (inS fl n s X len) := by
  obtain ⟨h1, h2⟩ := inE_parts he
  obtain ⟨⟨b1, b2⟩, _, _⟩ := parse_bd h1
  have hk := inK_lt h2
  obtain ⟨k', e1, e2, e3⟩ := flow_in h2
  have hkk : inK fl n X = k' := by unfold inK; rw [e1, Int.toNat_natCast]
  rw [← hkk] at e3
  have hb := hs.bd
  have ho1 : own ≤ ownN fl i own X len := by unfold ownN; split <;> omega
  have ho2 : ownN fl i own X len ≤ 1500 := by unfold ownN; split <;> omega
  have hsz : (inP s X len).sz = (len : Int) := by show 8 + ((len - 8 : Nat) : Int) = _; omega
  have hq : (inS fl n s X len).q = upf s.q (inK fl n X) (s.q (inK fl n X) ++ [inP s X len]) := by unfold inS; rw [if_pos he]
  have hfs : (inS fl n s X len).fs = s.fs := by unfold inS; rw [if_pos he]
  have hwi := (hf.wi hi).1
  refine ⟨⟨?_, fun h0 => ?_⟩, ⟨fun k hk2 p hp => ?_, by omega, by omega⟩⟩
  · rw [hfs]
    refine (h.fb.mono (own' := ownN fl i own X len) (most' := max most (len : Int)) (c' := c) ⟨?_, hwi.2.2⟩ ?_ ho1 (by omega) (Nat.le_refl _)).hd ?_
    · show 0 ≤ wI fl n i; omega
    · have := hwi; omega
    · by_cases e : i = inK fl n X
      · cases hqi : s.q i with
        | nil =>
          rcases h.em hqi with h3 | h3
          · exact .inl h3
          · exact .inr (.inl h3)
        | cons p r =>
          refine .inr (.inr ?_)
          unfold hdI
          rw [hq, ← e, upf_at, hqi]
          rfl
      · refine .inr (.inr ?_)
        unfold hdI
        rw [hq, upf_ne _ _ e]
  · rw [hq] at h0
    rw [hfs]
    by_cases e : i = inK fl n X
    · rw [← e, upf_at] at h0
      simp at h0
    · rw [upf_ne _ _ e] at h0
      exact h.em h0
  · rw [hq] at hp
    have hold : ∀ p ∈ s.q k, 8 ≤ p.sz ∧ p.sz ≤ max most (len : Int) ∧ (k = i → p.sz ≤ ownN fl i own X len) ∧ p.t = (fl k).t := fun p hp => by
      have := hs.al_ k hk2 p hp
      exact ⟨this.1, by omega, fun e => by have := this.2.2.1 e; omega, this.2.2.2⟩
    by_cases e : k = inK fl n X
    · subst e
      rw [upf_at] at hp
      rcases List.mem_append.1 hp with hp | hp
      · exact hold p hp
      · obtain rfl : p = inP s X len := by simpa using hp
        rw [hsz]
        refine ⟨by omega, by omega, fun e => ?_, e3.symm⟩
        unfold ownN
        rw [if_pos (by rw [← e]; exact e3.symm)]
        omega
    · rw [upf_ne _ _ e] at hp
      exact hold p hp
theorem FI.same {fl : Nat → FlowE} {n i : Nat} {own most : Int} {c : Nat} {s s' : SS} {O : List (Nat × PD)} {fr : Nat} (h : FI fl n i own most c s O fr) (h1 : s'.q = s.q) (h2 : s'.fs = s.fs) : FI fl n i own most c s' O fr := by
  have e : hdI s' i = hdI s i := by unfold hdI; rw [h1]
  exact ⟨by rw [h2, e]; exact h.fb, by rw [h1, h2]; exact h.em⟩
theorem want_one {fl : Nat → FlowE} {s : SS} {i : Nat} : ∀ n : Nat, (∀ k, k < n → k ≠ i → (fl k).t ≠ (fl i).t) → wantF fl s (fl i).t n = if i < n then sumZ (s.q i) else 0
  | 0, _ => by simp [wantF]
  | n + 1, h => by
    rw [wantF, want_one n (fun k hk => h k (by omega))]
    by_cases e : n = i
    · subst e
      rw [if_neg (by omega), if_pos rfl, if_pos (by omega)]
      omega
    · rw [if_neg (h n (by omega) e)]
      by_cases h2 : i < n
      · rw [if_pos h2, if_pos (by omega)]; omega
      · rw [if_neg h2, if_neg (by omega)]; omega
theorem pmF_mem (i : Nat) : ∀ (l : List (Nat × PD)) (w : Nat) (R : List (Nat × PD)) (x : Nat × PD), x ∈ (pmF i w R l).1 → x ∈ R ∨ x ∈ l
  | [], w, R, x, h => .inl h
  | y :: l, w, R, x, h => by
    rw [pmF] at h
    rcases pmF_mem i l _ _ x h with h | h
    · by_cases hw : w = 0
      · rw [if_pos hw] at h; cases h
      · rw [if_neg hw] at h
        rcases List.mem_append.1 h with h | h
        · exact .inl h
        · exact .inr (by obtain rfl : x = y := by simpa using h
                         simp)
    · exact .inr (List.mem_cons_of_mem _ h)
theorem allW_al {fl : Nat → FlowE} {n : Nat} (hf : FlOk fl n) : allW fl n = alF fl n ∧ okW fl n = true := by
  have hw : ∀ k, k < n → gI (wL fl n) k = (fl k).w ∧ 1 ≤ (fl k).w ∧ (fl k).w ≤ 16 := fun k hk => by
    have h := hf.w.2.2 k (by rw [wL_len]; exact hk)
    rw [wL_at fl hk] at h
    exact ⟨wL_at fl hk, h⟩
  have h1 : ∀ k, k ≤ n → allW fl k = sumW (gI (wL fl n)) k ∧ okW fl k = true := fun k => by
    induction k with
    | zero => exact fun _ => ⟨rfl, rfl⟩
    | succ k ih =>
      intro hk
      obtain ⟨a1, a2⟩ := ih (by omega)
      obtain ⟨b1, b2⟩ := hw k (by omega)
      rw [allW, okW, sumW, a1, a2, b1, decide_eq_true b2]
      exact ⟨rfl, rfl⟩
  exact h1 n (Nat.le_refl _)
theorem tog_alS {R : List (Nat × PD)} (hb : ∀ x ∈ R, 0 ≤ x.2.sz ∧ x.2.sz ≤ 1500) (i : Nat) : ∀ k, k ≤ R.length → tog (snS R) k = alS (R.take k) ∧ srv (snS R) (i : Int) k = mnS i (R.take k)
  | 0, _ => by simp [tog, srv, alS, mnS]
  | k + 1, hk => by
    obtain ⟨h1, h2⟩ := tog_alS hb i k (by omega)
    have hx : R[k]? = some R[k] := List.getElem?_eq_getElem (by omega)
    have hbk := hb R[k] (List.getElem_mem _)
    rw [tog, srv, h1, h2, List.take_add_one, hx]
    have hz : zS (snS R) k = (R[k]).2.sz := by
      unfold zS
      rw [snS_at hx]
      unfold clip
      simp only
      omega
    have hfl : (snS R k).fl = ((R[k]).1 : Int) := by rw [snS_at hx]
    rw [hz, hfl]
    simp only [Option.toList_some]
    rw [alS_append, mnS_append]
    simp only [alS, mnS, Int.add_zero]
    refine ⟨trivial, ?_⟩
    by_cases e : (R[k]).1 = i
    · rw [if_pos e, if_pos (by rw [e])]
    · rw [if_neg e, if_neg (by omega)]
theorem fair_true {fl : Nat → FlowE} {n i : Nat} {own most : Int} {R : List (Nat × PD)} (hf : FlOk fl n) (hi : i < n) (hb : ∀ x ∈ R, 0 ≤ x.2.sz ∧ x.2.sz ≤ 1500) (ho : (0 ≤ own ∧ own ≤ 1500) ∧ 0 ≤ most ∧ most ≤ 1500) (h : okP (wI fl n i) (alF fl n) i own most R) : fairQ fl n (snS R) R.length (i : Int) own most = true := by
  obtain ⟨a1, a2⟩ := allW_al hf
  have hn := hf.n1
  unfold fairQ
  rw [a1, a2, Int.toNat_natCast, decide_eq_true (by omega), Bool.true_and, Bool.true_and]
  refine okF_good fun j k hj hk => ?_
  have hw : (fl i).w = wI fl n i := (wL_at fl hi).symm
  have hc1 : clip own = own := by unfold clip; omega
  have hc2 : clip most = most := by unfold clip; omega
  obtain ⟨t1, t2⟩ := tog_alS hb i (k + 1) (by omega)
  obtain ⟨t3, t4⟩ := tog_alS hb i j (by omega)
  have := h j k hj hk
  unfold lagN graceF
  rw [t1, t2, t3, t4, hw, hc1, hc2]
  unfold lagL graG at this
  have e1 : 2 * own * alF fl n = 2 * (own * alF fl n) := Int.mul_assoc _ _ _
  have e2 : (most - 2 * own) * wI fl n i = wI fl n i * most - 2 * (own * wI fl n i) := by rw [Int.sub_mul, Int.mul_comm most, Int.mul_assoc]
  have e3 : own * (alF fl n - wI fl n i) = own * alF fl n - own * wI fl n i := Int.mul_sub _ _ _
  rw [e1, e2]
  rw [e3] at this
  omega
theorem fi_start {fl : Nat → FlowE} {n i : Nat} (hf : FlOk fl n) (hi : i < n) : FI fl n i 0 0 0 s0S [] 0 ∧ SzI fl n i 0 0 s0S := by
  refine ⟨⟨fb_start hf.wt rfl hi hf.n1.2 (Int.le_refl _) (Int.le_refl _), fun _ => .inl rfl⟩, ⟨fun k hk p hp => by simp [s0S] at hp, by omega⟩⟩
end Go.Proofs.Ytoodmocapagapaa
namespace Go.Proofs.Ytoodmocapagapaa
open Go.RowKit
set_option linter.unusedSimpArgs false
set_option linter.unusedVariables false

def KeepO (W W' : World) (S n : Nat) (D R : Nat → Nat) : Prop := ∀ q, q < W.heap.size → q ≠ S → (∀ k, k < n → q ≠ D k ∧ q ≠ R k) → W'.heap[q]? = W.heap[q]?
theorem KeepO.below {W W' : World} {S n : Nat} {D R : Nat → Nat} (h : Below W.heap.size W W') : KeepO W W' S n D R := fun q h1 _ _ => h.block q h1
set_option maxRecDepth 100000 in
set_option maxHeartbeats 40000000 in
theorem in_any2 (W : World) (M S : Nat) (fl : Nat → FlowE) (n c : Nat) (m : ShM) (s : SS) (h : ShAt W M S fl n c m s) (hf : FlOk fl n) (hc : c ≤ 100000) (a : Option Addr) (len cap b o : Nat) (X : Nat → Nat) (hby : ByIn W a len cap b o X) : Calls Try.prog 6 #[.pointer (some ⟨S, 0, none⟩), .slice a len cap] W fun e w' => e = .returned (.tuple #[.int .i64 (inN fl n s X len), .int .i64 (inE fl n s X len)]) ∧ (∃ m', ShAt w' M S fl n (c + 1) m' (inS fl n s X len)) ∧ BS M W w' ∧ KeepO W w' S n m.D m.R := by
  have hnil : ∀ W, (binOp .eql 22 (.pointer (some ⟨S, 0, none⟩)) (.pointer none)).run Try.prog W = .ok (.bool false) W := fun _ => rfl
  have HF := Lib.hid hf
  have HX0 := Lib.hid h
  have HC := Lib.hid hc
  have HXB := Lib.hid hby.bd
  have HMW : Hid (M ≤ W.heap.size) := Lib.hid (by have := h.ge; have := h.blk.lt; omega)
  have PA := Lib.hid (parse_any a len cap b o X W hby)
  clear h hf hc hby
  go_enter Try.func6, Try.ntmps6
  go_wp2_with fail
  go_at_call 22
  go_fit PA.out
  rintro e W1 ⟨hB1, ⟨hpf, rfl⟩ | ⟨hpt, a', c', b', rfl, hby1, hb1⟩⟩
  · have HE : Hid (inE fl n s X len = 230) := Lib.hid (by unfold inE; rw [if_pos hpf])
    have HB1 := Lib.hid hB1
    clear hB1 hpf PA
    go_wp2_with fail
    exact bodyPost_ret (v := .tuple #[.int .i64 0, .int .i64 230]) (by simp [results, Try.results6, go_sem]) rfl ⟨by rw [inN, HE.out]; rfl, ⟨m, by rw [inS, HE.out]; exact (HX0.out.cnt (Nat.le_succ _)).step (HB1.out.alloc HB1.out.size _)⟩, BS.new (HB1.out.alloc HB1.out.size _) HMW.out, KeepO.below (HB1.out.alloc HB1.out.size _)⟩
  have HPT := Lib.hid hpt
  obtain ⟨N, hN⟩ : ∃ N, N = W1.heap.size := ⟨_, rfl⟩
  obtain ⟨W2, hW2⟩ : ∃ Y, Y = W1.alloc (.cells #[.int .i64 0, .int .i64 (X 1 : Nat), .int .i64 (X 2 : Nat), .slice a' ((len - 8 : Nat)) c'] 53) := ⟨_, rfl⟩
  have hB2 : Below W1.heap.size W1 W2 := by rw [hW2]; exact alloc_b _ _
  have hp : Blk W2 N #[.int .i64 0, .int .i64 (X 1 : Nat), .int .i64 (X 2 : Nat), .slice a' ((len - 8 : Nat)) c'] 53 := by rw [hW2, hN]; exact blk_new _ _ _
  have hx2 := (HX0.out.step hB1).step hB2
  have HBW2 : Hid (Below W.heap.size W W2.drew) := Lib.hid ((hB1.trans (hB2.mono hB1.size)).drew)
  have HX := Lib.hid (hx2.step ((Below.refl W2.heap.size W2).drew))
  have HP := Lib.hid (hp.step ((Below.refl W2.heap.size W2).drew))
  have HBY := Lib.hid (ByIn.below (ByIn.below hby1 hB2) ((Below.refl W2.heap.size W2).drew))
  have HNM : Hid (0 ≤ s.num ∧ s.num ≤ c ∧ W.heap.size ≤ N ∧ (8 ≤ len ∧ len ≤ 1500)) := Lib.hid ⟨hx2.nm.1, hx2.nm.2, by rw [hN]; exact hB1.size, by
    have := hpt
    unfold parseOk at this
    simp only [Bool.and_eq_true, decide_eq_true_eq] at this
    exact this.1⟩
  have FLW := Lib.hid (flow_any 0 (X 1 : Nat) (X 2 : Nat) a' (len - 8) c' (some ⟨m.fb, 0, none⟩) n m.fc m.fb 0 fl W2.drew (HX.out.r.flow HF.out.fok))
  have HNE : Hid (0 < len - 8 → b' ≠ N) := Lib.hid (fun h0 => by have := (hby1.at_ h0).2; rw [hN]; omega)
  clear hB1 hpt hby1 hb1 hB2 hp hx2 PA
  go_upto_region 4 with fail
  rw [← hN, ← hW2]
  clear hN hW2
  go_wp2_with fail
  refine wp_region_held_drew (S := fun Y => Y.cell? ⟨S, 0, none⟩ = some (.slice (some ⟨m.fb, 0, none⟩) n m.fc) ∧ Y.cell? ⟨N, 0, none⟩ = some (.int .i64 0) ∧ Y.cell? ⟨N, 1, none⟩ = some (.int .i64 (X 1 : Nat)) ∧ Y.cell? ⟨N, 2, none⟩ = some (.int .i64 (X 2 : Nat)) ∧ Y.cell? ⟨N, 3, none⟩ = some (.slice a' ((len - 8 : Nat)) c') ∧ S < Y.heap.size ∧ N < Y.heap.size) (by kernel_rfl) ⟨HX.out.c.c0, cell_at HP.out 0, cell_at HP.out 1, cell_at HP.out 2, cell_at HP.out 3, HX.out.c.l, HP.out.lt⟩ (fun hHeld => ?_)
  ((refine wpAnyH_take (i := 0) (v := ?_) (by (simp only [List.getElem?_toArray, List.getElem?_cons_succ, List.getElem?_cons_zero]); rfl) (by kernel_rfl) (by kernel_rfl) (by kernel_rfl) (by exact fun _ _ _ h => h) (Or.inl ⟨by rfl, ?_⟩) (by assumption) ?_); rotate_left; focus (intro wS hSw; (try dsimp only at hSw); go_simp; first | done | with_reducible rfl); try simp only [Act.put, List.setIfInBounds_toArray, List.set_cons_zero, List.set_cons_succ])
  ((refine wpAnyH_take (i := 1) (v := ?_) (by (simp only [List.getElem?_toArray, List.getElem?_cons_succ, List.getElem?_cons_zero]); rfl) (by kernel_rfl) (by kernel_rfl) (by kernel_rfl) (by exact fun _ _ _ h => h) (Or.inl ⟨by rfl, ?_⟩) (by assumption) ?_); rotate_left; focus (intro wS hSw; (try dsimp only at hSw); go_simp; first | done | with_reducible rfl); try simp only [Act.put, List.setIfInBounds_toArray, List.set_cons_zero, List.set_cons_succ])
  ((refine wpAnyH_take (i := 2) (v := ?_) (by (simp only [List.getElem?_toArray, List.getElem?_cons_succ, List.getElem?_cons_zero]); rfl) (by kernel_rfl) (by kernel_rfl) (by kernel_rfl) (by exact fun _ _ _ h => h) (Or.inl ⟨by rfl, ?_⟩) (by assumption) ?_); rotate_left; focus (intro wS hSw; (try dsimp only at hSw); go_simp; first | done | with_reducible rfl); try simp only [Act.put, List.setIfInBounds_toArray, List.set_cons_zero, List.set_cons_succ])
  ((refine wpAnyH_take (i := 3) (v := ?_) (by (simp only [List.getElem?_toArray, List.getElem?_cons_succ, List.getElem?_cons_zero]); rfl) (by kernel_rfl) (by kernel_rfl) (by kernel_rfl) (by exact fun _ _ _ h => h) (Or.inl ⟨by rfl, ?_⟩) (by assumption) ?_); rotate_left; focus (intro wS hSw; (try dsimp only at hSw); go_simp; first | done | with_reducible rfl); try simp only [Act.put, List.setIfInBounds_toArray, List.set_cons_zero, List.set_cons_succ])
  ((refine wpAnyH_take (i := 4) (v := ?_) (by (simp only [List.getElem?_toArray, List.getElem?_cons_succ, List.getElem?_cons_zero]); rfl) (by kernel_rfl) (by kernel_rfl) (by kernel_rfl) (by exact fun _ _ _ h => h) (Or.inl ⟨by rfl, ?_⟩) (by assumption) ?_); rotate_left; focus (intro wS hSw; (try dsimp only at hSw); go_simp; first | done | with_reducible rfl); try simp only [Act.put, List.setIfInBounds_toArray, List.set_cons_zero, List.set_cons_succ])
  refine wpAnyH_ready (rs := [5]) (by kernel_rfl) (by simp) ?_
  refine AllReadyH.cons (by (simp only [List.getElem?_toArray, List.getElem?_cons_succ, List.getElem?_cons_zero]); rfl) (fun K hK => ?_) AllReadyH.nil
  go_simp
  go_fit FLW.out
  rintro e W3 ⟨rfl, hB3⟩
  have HX3 := Lib.hid (HX.out.step hB3)
  have HP3 := Lib.hid (HP.out.step hB3)
  have HBY3 := Lib.hid (ByIn.below HBY.out hB3)
  have HBW3 := Lib.hid (HBW2.out.trans (hB3.mono HBW2.out.size))
  clear hB3 HX HP HBY HBW2 FLW
  go_wp2_with fail
  refine hK.out _ _ ⟨HX3.out.c.c0, cell_at HP3.out 0, cell_at HP3.out 1, cell_at HP3.out 2, cell_at HP3.out 3, HX3.out.c.l, HP3.out.lt⟩ (fun hHeld => ?_)
  clear hK K
  try simp only [Act.put, List.setIfInBounds_toArray, List.set_cons_zero, List.set_cons_succ]
  ((refine wpAnyH_take (i := 6) (v := ?_) (by (simp only [List.getElem?_toArray, List.getElem?_cons_succ, List.getElem?_cons_zero]); rfl) (by kernel_rfl) (by kernel_rfl) (by kernel_rfl) (by exact fun _ _ _ h => h) (Or.inl ⟨by rfl, ?_⟩) (by assumption) ?_); rotate_left; focus (intro wS hSw; (try dsimp only at hSw); go_simp; first | done | with_reducible rfl); try simp only [Act.put, List.setIfInBounds_toArray, List.set_cons_zero, List.set_cons_succ])
  ((refine wpAnyH_take (i := 7) (v := ?_) (by (simp only [List.getElem?_toArray, List.getElem?_cons_succ, List.getElem?_cons_zero]); rfl) (by kernel_rfl) (by kernel_rfl) (by kernel_rfl) (by exact fun _ _ _ h => h) (Or.inl ⟨by rfl, ?_⟩) (by assumption) ?_); rotate_left; focus (intro wS hSw; (try dsimp only at hSw); go_simp; first | done | with_reducible rfl); try simp only [Act.put, List.setIfInBounds_toArray, List.set_cons_zero, List.set_cons_succ])
  ((refine wpAnyH_take (i := 8) (v := ?_) (by (simp only [List.getElem?_toArray, List.getElem?_cons_succ, List.getElem?_cons_zero]); rfl) (by kernel_rfl) (by kernel_rfl) (by kernel_rfl) (by exact fun _ _ _ h => h) (Or.inl ⟨by rfl, ?_⟩) (by assumption) ?_); rotate_left; focus (intro wS hSw; (try dsimp only at hSw); go_simp; first | done | with_reducible rfl); try simp only [Act.put, List.setIfInBounds_toArray, List.set_cons_zero, List.set_cons_succ])
  ((refine wpAnyH_take (i := 9) (v := ?_) (by (simp only [List.getElem?_toArray, List.getElem?_cons_succ, List.getElem?_cons_zero]); rfl) (by kernel_rfl) (by kernel_rfl) (by kernel_rfl) (by exact fun _ _ _ h => h) (Or.inl ⟨by rfl, ?_⟩) (by assumption) ?_); rotate_left; focus (intro wS hSw; (try dsimp only at hSw); go_simp; first | done | with_reducible rfl); try simp only [Act.put, List.setIfInBounds_toArray, List.set_cons_zero, List.set_cons_succ])
  ((refine wpAnyH_take (i := 10) (v := ?_) (by (simp only [List.getElem?_toArray, List.getElem?_cons_succ, List.getElem?_cons_zero]); rfl) (by kernel_rfl) (by kernel_rfl) (by kernel_rfl) (by exact fun _ _ _ h => h) (Or.inl ⟨by rfl, ?_⟩) (by assumption) ?_); rotate_left; focus (intro wS hSw; (try dsimp only at hSw); go_simp; first | done | with_reducible rfl); try simp only [Act.put, List.setIfInBounds_toArray, List.set_cons_zero, List.set_cons_succ])
  refine wpAnyH_done (by kernel_rfl) ?_ _
  try simp only [Act.put, List.setIfInBounds_toArray, List.set_cons_zero, List.set_cons_succ]
  by_cases hfe : flowE (X 1 : Nat) (X 2 : Nat) fl n = 0
  rotate_left
  · have d1 : (flowE (X 1 : Nat) (X 2 : Nat) fl n != 0) = true := by simpa using hfe
    have HE : Hid (inE fl n s X len = flowE (X 1 : Nat) (X 2 : Nat) fl n ∧ flowE (X 1 : Nat) (X 2 : Nat) fl n ≠ 0) := Lib.hid ⟨by unfold inE; rw [if_neg (by rw [HPT.out]; simp), if_pos hfe], hfe⟩
    obtain ⟨fe, hfe2⟩ : ∃ x, x = flowE (X 1 : Nat) (X 2 : Nat) fl n := ⟨_, rfl⟩
    rw [← hfe2] at d1 HE
    rw [← hfe2]
    clear hfe hfe2
    go_wp2_with fail
    exact bodyPost_ret (v := .tuple #[.int .i64 0, .int .i64 fe]) (by simp [results, Try.results6, go_sem]) rfl ⟨by rw [inN, HE.out.1, if_neg HE.out.2], ⟨m, by rw [inS, HE.out.1, if_neg HE.out.2]; exact HX3.out.cnt (Nat.le_succ _)⟩, BS.new HBW3.out HMW.out, KeepO.below HBW3.out⟩
  obtain ⟨k, hfk, hk, hft⟩ := flow_in hfe
  have HK := Lib.hid hk
  have HIK : Hid (inK fl n X = k ∧ (fl k).t = (X 1 : Nat)) := Lib.hid ⟨by unfold inK; rw [hfk, Int.toNat_natCast], hft⟩
  have HFE := Lib.hid hfe
  rw [hfe, hfk]
  clear hfe hfk hft
  have w1 : IntKind.i64.wrap (s.num + 1) = s.num + 1 := IntWalk.i64_in _ (by have := HNM.out; have := HC.out; omega)
  have cn := HX3.out.c.cn
  have cl := HX3.out.c.l
  have p0 : W3.cell? ⟨N, 0, none⟩ = some (.int .i64 0) := cell_at HP3.out 0
  have pz : ∀ j, W3.frozen? ⟨N, j, none⟩ = false := fun j => free_at HP3.out j
  have pl := HP3.out.lt
  obtain ⟨W4, hW4⟩ : ∃ Y, Y = W3.setCell ⟨N, 0, none⟩ (.int .i64 (s.num + 1)) := ⟨_, rfl⟩
  have hf4 : Fr [N] W3 W4 := by rw [hW4]; exact (Fr.refl _ _).setCell _ (.inl (by simp)) _
  have hp4 : Blk W4 N #[.int .i64 (s.num + 1), .int .i64 (X 1 : Nat), .int .i64 (X 2 : Nat), .slice a' ((len - 8 : Nat)) c'] 53 := by rw [hW4]; exact HP3.out.set 0 _
  have hB4 : Below W.heap.size W W4 := HBW3.out.trans (hf4.below HBW3.out.size (by simpa using HNM.out.2.2.1))
  have HBW4 := Lib.hid hB4.drew
  have HX4 := Lib.hid (HX0.out.step hB4.drew)
  have HP4 := Lib.hid (show Blk W4.drew N _ _ from hp4)
  have hby4 : ByIn W4 a' (len - 8) c' b' 0 (fun j => X (8 + j)) := by
    refine ⟨HBY3.out.le, HBY3.out.max, fun h0 => ⟨(HBY3.out.at_ h0).1, by have := (HBY3.out.at_ h0).2; have := hf4.size; omega⟩, fun j hj => ?_, HBY3.out.bd⟩
    exact (cell_congr (hf4.block b' (HBY3.out.at_ (by omega)).2 (by have := HNE.out (by omega); simpa using this)) _).trans (HBY3.out.cell j hj)
  have HBY4 := Lib.hid (show ByIn W4.drew a' (len - 8) c' b' 0 (fun j => X (8 + j)) from hby4.below ((Below.refl _ _).drew))
  have HD := Lib.hid (show m.D k < N ∧ m.R k < N ∧ S < N from by
    obtain ⟨cr, hcr⟩ := (HX0.out.q.qs k hk).rblk
    have := (HX0.out.q.qs k hk).own.lt
    have := hcr.lt
    have := HX0.out.blk.lt
    have := HNM.out.2.2.1
    omega)
  have b1 : (k < n) = True := eq_true hk
  have b2 : ((k : Int) < (n : Int)) = True := eq_true (by omega)
  have b0 : ((0 : Int) ≤ (k : Int)) = True := eq_true (by omega)
  clear hf4 hp4 hB4 hby4 hk HBY3 HX3 HP3 HBW3
  go_upto_region 10 with fail
  rw [← hW4]
  clear hW4 cn cl p0 pz pl w1
  go_wp2_with fail
  refine wp_region_held_drew (S := fun Y => Y.cell? ⟨S, 1, none⟩ = some (.slice (some ⟨m.qb, 0, none⟩) n m.qc) ∧ Y.cell? ⟨m.qb, k, none⟩ = some (.pointer (some ⟨m.D k, 0, none⟩)) ∧ Y.cell? ⟨N, 0, none⟩ = some (.int .i64 (s.num + 1)) ∧ Y.cell? ⟨N, 1, none⟩ = some (.int .i64 (X 1 : Nat)) ∧ Y.cell? ⟨N, 2, none⟩ = some (.int .i64 (X 2 : Nat)) ∧ Y.cell? ⟨N, 3, none⟩ = some (.slice a' ((len - 8 : Nat)) c') ∧ S < Y.heap.size ∧ N < Y.heap.size ∧ m.qb < Y.heap.size) (by kernel_rfl) ⟨HX4.out.c.c1, (HX4.out.r.qat HK.out).1, cell_at HP4.out 0, cell_at HP4.out 1, cell_at HP4.out 2, cell_at HP4.out 3, HX4.out.c.l, HP4.out.lt, (HX4.out.r.qat HK.out).2⟩ (fun hHeld => ?_)
  ((refine wpAnyH_take (i := 0) (v := ?_) (by (simp only [List.getElem?_toArray, List.getElem?_cons_succ, List.getElem?_cons_zero]); rfl) (by kernel_rfl) (by kernel_rfl) (by kernel_rfl) (by exact fun _ _ _ h => h) (Or.inl ⟨by rfl, ?_⟩) (by assumption) ?_); rotate_left; focus (intro wS hSw; (try dsimp only at hSw); go_simp; first | done | with_reducible rfl); try simp only [Act.put, List.setIfInBounds_toArray, List.set_cons_zero, List.set_cons_succ])
  ((refine wpAnyH_take (i := 1) (v := ?_) (by (simp only [List.getElem?_toArray, List.getElem?_cons_succ, List.getElem?_cons_zero]); rfl) (by kernel_rfl) (by kernel_rfl) (by kernel_rfl) (by exact fun _ _ _ h => h) (Or.inl ⟨by rfl, ?_⟩) (by assumption) ?_); rotate_left; focus (intro wS hSw; (try dsimp only at hSw); go_simp; first | done | with_reducible rfl); try simp only [Act.put, List.setIfInBounds_toArray, List.set_cons_zero, List.set_cons_succ])
  ((refine wpAnyH_take (i := 2) (v := ?_) (by (simp only [List.getElem?_toArray, List.getElem?_cons_succ, List.getElem?_cons_zero]); rfl) (by kernel_rfl) (by kernel_rfl) (by kernel_rfl) (by exact fun _ _ _ h => h) (Or.inl ⟨by rfl, ?_⟩) (by assumption) ?_); rotate_left; focus (intro wS hSw; (try dsimp only at hSw); go_simp; first | done | with_reducible rfl); try simp only [Act.put, List.setIfInBounds_toArray, List.set_cons_zero, List.set_cons_succ])
  ((refine wpAnyH_take (i := 3) (v := ?_) (by (simp only [List.getElem?_toArray, List.getElem?_cons_succ, List.getElem?_cons_zero]); rfl) (by kernel_rfl) (by kernel_rfl) (by kernel_rfl) (by exact fun _ _ _ h => h) (Or.inl ⟨by rfl, ?_⟩) (by assumption) ?_); rotate_left; focus (intro wS hSw; (try dsimp only at hSw); go_simp; first | done | with_reducible rfl); try simp only [Act.put, List.setIfInBounds_toArray, List.set_cons_zero, List.set_cons_succ])
  ((refine wpAnyH_take (i := 4) (v := ?_) (by (simp only [List.getElem?_toArray, List.getElem?_cons_succ, List.getElem?_cons_zero]); rfl) (by kernel_rfl) (by kernel_rfl) (by kernel_rfl) (by exact fun _ _ _ h => h) (Or.inl ⟨by rfl, ?_⟩) (by assumption) ?_); rotate_left; focus (intro wS hSw; (try dsimp only at hSw); go_simp; first | done | with_reducible rfl); try simp only [Act.put, List.setIfInBounds_toArray, List.set_cons_zero, List.set_cons_succ])
  ((refine wpAnyH_take (i := 5) (v := ?_) (by (simp only [List.getElem?_toArray, List.getElem?_cons_succ, List.getElem?_cons_zero]); rfl) (by kernel_rfl) (by kernel_rfl) (by kernel_rfl) (by exact fun _ _ _ h => h) (Or.inl ⟨by rfl, ?_⟩) (by assumption) ?_); rotate_left; focus (intro wS hSw; (try dsimp only at hSw); go_simp; first | done | with_reducible rfl); try simp only [Act.put, List.setIfInBounds_toArray, List.set_cons_zero, List.set_cons_succ])
  ((refine wpAnyH_take (i := 6) (v := ?_) (by (simp only [List.getElem?_toArray, List.getElem?_cons_succ, List.getElem?_cons_zero]); rfl) (by kernel_rfl) (by kernel_rfl) (by kernel_rfl) (by exact fun _ _ _ h => h) (Or.inl ⟨by rfl, ?_⟩) (by assumption) ?_); rotate_left; focus (intro wS hSw; (try dsimp only at hSw); go_simp; first | done | with_reducible rfl); try simp only [Act.put, List.setIfInBounds_toArray, List.set_cons_zero, List.set_cons_succ])
  ((refine wpAnyH_take (i := 7) (v := ?_) (by (simp only [List.getElem?_toArray, List.getElem?_cons_succ, List.getElem?_cons_zero]); rfl) (by kernel_rfl) (by kernel_rfl) (by kernel_rfl) (by exact fun _ _ _ h => h) (Or.inl ⟨by rfl, ?_⟩) (by assumption) ?_); rotate_left; focus (intro wS hSw; (try dsimp only at hSw); go_simp; first | done | with_reducible rfl); try simp only [Act.put, List.setIfInBounds_toArray, List.set_cons_zero, List.set_cons_succ])
  refine wpAnyH_ready (rs := [8]) (by kernel_rfl) (by simp) ?_
  refine AllReadyH.cons (by (simp only [List.getElem?_toArray, List.getElem?_cons_succ, List.getElem?_cons_zero]); rfl) (fun K hK => ?_) AllReadyH.nil
  go_simp
  by_cases hfull : (s.q k).length = (fl k).r.toNat
  · go_fit (fpush_full (m.D k) (m.R k) 0 (fl k).r.toNat (m.f k) (s.q k).length (sumZ (s.q k)) (m.dr k) (m.E k) (s.num + 1) (X 1 : Nat) (X 2 : Nat) a' (len - 8) c' W4.drew (HX4.out.q.qs k HK.out) hfull b' 0 _ HBY4.out (by have := HNM.out; omega) (by have := HX4.out.q.dr k HK.out; have := HC.out; omega))
    rintro e W5 ⟨rfl, hq5, hf5⟩
    have HE : Hid (inE fl n s X len = 100) := Lib.hid (by unfold inE; rw [if_neg (by rw [HPT.out]; simp), if_neg (by rw [HFE.out]; simp), HIK.out.1, if_pos hfull])
    have hx5 := (HX4.out.cnt (Nat.le_succ c)).queue HK.out hf5 hq5 rfl (HX4.out.q.qd k HK.out) (HX4.out.q.qt k HK.out) (fun j hj h0 => by
      obtain ⟨cr, hcr⟩ := (HX4.out.q.qs k HK.out).rblk
      obtain ⟨cs, hb⟩ := HX4.out.q.ld k HK.out j hj h0
      exact ⟨cs, (blk_ot hb hf5 (l := [5]) (ot_cons (HX4.out.q.qs k HK.out).own (by decide) (ot_one hcr (by decide))) (by simp)).trans hb⟩) (by have := HX4.out.q.dr k HK.out; omega)
    rw [upf_same s.q] at hx5
    have HX5 := Lib.hid hx5
    have HP5 : Hid (Blk W5 N #[.int .i64 (s.num + 1), .int .i64 (X 1 : Nat), .int .i64 (X 2 : Nat), .slice a' ((len - 8 : Nat)) c'] 53) := Lib.hid ((hf5.block N HP4.out.lt (by have := HD.out; simp; omega)).trans HP4.out)
    have HSB : Hid (BS M W W5) := Lib.hid ((BS.new HBW4.out HMW.out).trans (BS.fr hf5 (by have := HBW4.out.size; have := HMW.out; omega) (fun q hq => by
      obtain ⟨cr, hcr⟩ := (HX4.out.q.qs k HK.out).rblk
      have hg := HX4.out.q.ge k HK.out
      simp only [List.mem_cons, List.not_mem_nil, or_false] at hq
      rcases hq with rfl | rfl
      · exact ⟨hg.1, _, _, (HX4.out.q.qs k HK.out).own, by decide⟩
      · exact ⟨hg.2, _, _, hcr, by decide⟩)))
    have HS5 := Lib.hid (show W5.cell? ⟨S, 1, none⟩ = some (.slice (some ⟨m.qb, 0, none⟩) n m.qc) ∧ W5.cell? ⟨m.qb, k, none⟩ = some (.pointer (some ⟨m.D k, 0, none⟩)) ∧ W5.cell? ⟨N, 0, none⟩ = some (.int .i64 (s.num + 1)) ∧ W5.cell? ⟨N, 1, none⟩ = some (.int .i64 (X 1 : Nat)) ∧ W5.cell? ⟨N, 2, none⟩ = some (.int .i64 (X 2 : Nat)) ∧ W5.cell? ⟨N, 3, none⟩ = some (.slice a' ((len - 8 : Nat)) c') ∧ S < W5.heap.size ∧ N < W5.heap.size ∧ m.qb < W5.heap.size from ⟨HX5.out.c.c1, (HX5.out.r.qat HK.out).1, cell_at HP5.out 0, cell_at HP5.out 1, cell_at HP5.out 2, cell_at HP5.out 3, HX5.out.c.l, HP5.out.lt, (HX5.out.r.qat HK.out).2⟩)
    have HKO : Hid (KeepO W W5 S n m.D m.R) := Lib.hid (fun q h1 h2 h3 => (hf5.block q (by have := HBW4.out.size; omega) (by simp [h3 k HK.out])).trans (HBW4.out.block q h1))
    clear hq5 hf5 hx5 hfull HX4 HP4 HBY4 HBW4
    go_wp2_with fail
    refine hK.out _ _ HS5.out (fun hHeld => ?_)
    clear hK K
    try simp only [Act.put, List.setIfInBounds_toArray, List.set_cons_zero, List.set_cons_succ]
    ((refine wpAnyH_take (i := 9) (v := ?_) (by (simp only [List.getElem?_toArray, List.getElem?_cons_succ, List.getElem?_cons_zero]); rfl) (by kernel_rfl) (by kernel_rfl) (by kernel_rfl) (by exact fun _ _ _ h => h) (Or.inl ⟨by rfl, ?_⟩) (by assumption) ?_); rotate_left; focus (intro wS hSw; (try dsimp only at hSw); go_simp; first | done | with_reducible rfl); try simp only [Act.put, List.setIfInBounds_toArray, List.set_cons_zero, List.set_cons_succ])
    refine wpAnyH_done (by kernel_rfl) ?_ _
    try simp only [Act.put, List.setIfInBounds_toArray, List.set_cons_zero, List.set_cons_succ]
    clear HS5
    go_wp2_with fail
    exact bodyPost_ret (v := .tuple #[.int .i64 0, .int .i64 100]) (by simp [results, Try.results6, go_sem]) rfl ⟨by rw [inN, HE.out]; rfl, ⟨_, by rw [inS, HE.out, if_neg (by decide)]; exact HX5.out⟩, HSB.out, HKO.out⟩
  · go_fit (fpush_t (m.D k) (m.R k) 0 (fl k).r.toNat (m.f k) (s.q k).length (sumZ (s.q k)) (m.dr k) (m.E k) (s.num + 1) (X 1 : Nat) (X 2 : Nat) a' (len - 8) c' W4.drew (HX4.out.q.qs k HK.out) (by have := (HX4.out.q.qs k HK.out).nl; omega) b' 0 _ HBY4.out (by have := HNM.out; omega) (by have := (HX4.out.q.sz HK.out).1; omega))
    rintro e W5 ⟨rfl, ⟨a5, c5, b5, hb5, hq5⟩, hf5⟩
    have HE : Hid (inE fl n s X len = 0) := Lib.hid (by unfold inE; rw [if_neg (by rw [HPT.out]; simp), if_neg (by rw [HFE.out]; simp), HIK.out.1, if_neg hfull])
    obtain ⟨m5, hx5⟩ := push_at (p := ⟨s.num + 1, (X 1 : Nat), (X 2 : Nat), a5, len - 8, c5, b5, 0, fun j => X (8 + j)⟩) HX4.out HK.out hf5 hq5 (fun h0 => (hb5 h0).2) ⟨HIK.out.2.symm, by have h2 := HXB.out 2; show (0 : Int) ≤ (X 2 : Nat) ∧ ((X 2 : Nat) : Int) ≤ 255; omega, by show len - 8 ≤ 1492; have := HNM.out; omega⟩
    have HX5 := Lib.hid hx5
    have HP5 : Hid (Blk W5 N #[.int .i64 (s.num + 1), .int .i64 (X 1 : Nat), .int .i64 (X 2 : Nat), .slice a' ((len - 8 : Nat)) c'] 53) := Lib.hid ((hf5.block N HP4.out.lt (by have := HD.out; simp; omega)).trans HP4.out)
    have HSB : Hid (BS M W W5) := Lib.hid ((BS.new HBW4.out HMW.out).trans (BS.fr hf5 (by have := HBW4.out.size; have := HMW.out; omega) (fun q hq => by
      obtain ⟨cr, hcr⟩ := (HX4.out.q.qs k HK.out).rblk
      have hg := HX4.out.q.ge k HK.out
      simp only [List.mem_cons, List.not_mem_nil, or_false] at hq
      rcases hq with rfl | rfl
      · exact ⟨hg.1, _, _, (HX4.out.q.qs k HK.out).own, by decide⟩
      · exact ⟨hg.2, _, _, hcr, by decide⟩)))
    have hq1 : W5.cell? ⟨m.qb, k, none⟩ = some (.pointer (some ⟨m.D k, 0, none⟩)) ∧ m.qb < W5.heap.size ∧ W5.cell? ⟨S, 1, none⟩ = some (.slice (some ⟨m.qb, 0, none⟩) n m.qc) := by
      have ho : OT W4.drew [m.D k, m.R k] [65, 64] := by
        obtain ⟨cr, hcr⟩ := (HX4.out.q.qs k HK.out).rblk
        exact ot_cons (HX4.out.q.qs k HK.out).own (by decide) (ot_one hcr (by decide))
      obtain ⟨cs, hcs⟩ := blk_row HX4.out.r.qr
      have h1 := blk_ot hcs hf5 ho (by simp)
      have h2 := blk_ot HX4.out.blk hf5 ho (by simp)
      exact ⟨(cell_congr h1 _).trans (HX4.out.r.qat HK.out).1, by have := hcs.lt; have := hf5.size; omega, (cell_congr h2 _).trans HX4.out.c.c1⟩
    have HS5 := Lib.hid (show W5.cell? ⟨S, 1, none⟩ = some (.slice (some ⟨m.qb, 0, none⟩) n m.qc) ∧ W5.cell? ⟨m.qb, k, none⟩ = some (.pointer (some ⟨m.D k, 0, none⟩)) ∧ W5.cell? ⟨N, 0, none⟩ = some (.int .i64 (s.num + 1)) ∧ W5.cell? ⟨N, 1, none⟩ = some (.int .i64 (X 1 : Nat)) ∧ W5.cell? ⟨N, 2, none⟩ = some (.int .i64 (X 2 : Nat)) ∧ W5.cell? ⟨N, 3, none⟩ = some (.slice a' ((len - 8 : Nat)) c') ∧ S < W5.heap.size ∧ N < W5.heap.size ∧ m.qb < W5.heap.size from ⟨hq1.2.2, hq1.1, cell_at HP5.out 0, cell_at HP5.out 1, cell_at HP5.out 2, cell_at HP5.out 3, HX5.out.c.l, HP5.out.lt, hq1.2.1⟩)
    have HKO : Hid (KeepO W W5 S n m.D m.R) := Lib.hid (fun q h1 h2 h3 => (hf5.block q (by have := HBW4.out.size; omega) (by simp [h3 k HK.out])).trans (HBW4.out.block q h1))
    clear hq5 hf5 hb5 hx5 hfull hq1 HX4 HP4 HBY4 HBW4
    go_wp2_with fail
    refine hK.out _ _ HS5.out (fun hHeld => ?_)
    clear hK K
    try simp only [Act.put, List.setIfInBounds_toArray, List.set_cons_zero, List.set_cons_succ]
    ((refine wpAnyH_take (i := 9) (v := ?_) (by (simp only [List.getElem?_toArray, List.getElem?_cons_succ, List.getElem?_cons_zero]); rfl) (by kernel_rfl) (by kernel_rfl) (by kernel_rfl) (by exact fun _ _ _ h => h) (Or.inl ⟨by rfl, ?_⟩) (by assumption) ?_); rotate_left; focus (intro wS hSw; (try dsimp only at hSw); go_simp; first | done | with_reducible rfl); try simp only [Act.put, List.setIfInBounds_toArray, List.set_cons_zero, List.set_cons_succ])
    refine wpAnyH_done (by kernel_rfl) ?_ _
    try simp only [Act.put, List.setIfInBounds_toArray, List.set_cons_zero, List.set_cons_succ]
    clear HS5 b0 b1 b2
    have cn := HX5.out.c.cn
    have cl := HX5.out.c.l
    have cz := HX5.out.c.z
    have w1 : IntKind.i64.wrap (s.num + 1) = s.num + 1 := IntWalk.i64_in _ (by have := HNM.out; have := HC.out; omega)
    obtain ⟨W6, hW6⟩ : ∃ Y, Y = W5.setCell ⟨S, 21, none⟩ (.int .i64 (s.num + 1)) := ⟨_, rfl⟩
    have h6 := HX5.out.numset (c' := c + 1) (v := s.num + 1) (by have := HNM.out; omega) (Nat.le_succ _) hW6
    have HX6 := Lib.hid h6.1
    have HKO6 : Hid (KeepO W W6 S n m.D m.R) := Lib.hid (fun q h1 h2 h3 => (h6.2.block q (by have := HSB.out.size; omega) (by simpa using h2)).trans (HKO.out q h1 h2 h3))
    have HSB6 := Lib.hid (HSB.out.trans (BS.fr h6.2 (Nat.le_trans HMW.out HSB.out.size) (by simpa using ⟨HX5.out.ge, _, _, HX5.out.blk, by decide⟩)))
    clear h6
    go_upto_region 14 with fail
    rw [← hW6]
    clear hW6 cn cl cz w1 HX5 HP5 HSB
    have cn : W6.cell? ⟨S, 21, none⟩ = some (.int .i64 (s.num + 1)) := HX6.out.c.cn
    have cl := HX6.out.c.l
    go_wp2_with fail
    go_ret2
    exact ⟨by rw [inN, HE.out]; rfl, ⟨m5, by rw [inS, HE.out, if_pos rfl, HIK.out.1]; exact HX6.out⟩, HSB6.out, HKO6.out⟩
end Go.Proofs.Ytoodmocapagapaa
