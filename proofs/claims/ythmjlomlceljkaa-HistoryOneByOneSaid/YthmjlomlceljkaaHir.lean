/-
  Calls one by one: what is found.
-/
import Derived.Test.YthmjlomlceljkaaHif
import Derived.Test.YthmjlomlceljkaaHij
import Derived.Deep.DeepFit
import Derived.Lib.AppendZeros
import Derived.Deep.RegionLaw
import Derived.Deep.RegionWith
import Derived.Lib.EndianBits
import Derived.Deep.MidRow
namespace Go.Proofs.Ythmjlomlceljkaa
open Go.RowKit
set_option linter.unusedSimpArgs false
set_option linter.unusedVariables false

theorem stB_true {L : List CaE} {D : Nat} {fr : Int} : ∀ (m p : Nat), p + m = L.length → (∀ j, p ≤ j → j < L.length → 0 < (gCa L j).til → D.testBit j = false → ¬ (gCa L j).til < fr) → stB D fr p (L.drop p) = true
  | 0, p, hp, _ => by rw [show p = L.length by omega]; exact stB_end _ _ _ _
  | m + 1, p, hp, h => by
    rw [stB_step _ _ (by omega), stB_true m (p + 1) (by omega) (fun j h1 => h j (by omega)), Bool.and_true]
    have hj := h p (Nat.le_refl _) (by omega)
    by_cases h0 : 0 < (gCa L p).til
    · cases hb : D.testBit p
      · rw [decide_eq_false (hj h0 hb)]; simp
      · simp
    · rw [decide_eq_false h0]; simp
theorem stB_false {L : List CaE} {D : Nat} {fr : Int} (j : Nat) (h1 : j < L.length) (h2 : 0 < (gCa L j).til) (h3 : D.testBit j = false) (h4 : (gCa L j).til < fr) : ∀ (m p : Nat), p + m = j → stB D fr p (L.drop p) = false
  | 0, p, hp => by
    obtain rfl : p = j := by omega
    rw [stB_step _ _ h1, decide_eq_true h2, h3, decide_eq_true h4]; rfl
  | m + 1, p, hp => by rw [stB_step _ _ (by omega), stB_false j h1 h2 h3 h4 m (p + 1) (by omega), Bool.and_false]
theorem alB_true {L : List CaE} {D : Nat} : ∀ (m p : Nat), p + m = L.length → (∀ j, p ≤ j → j < L.length → D.testBit j = true) → alB D p (L.drop p) = true
  | 0, p, hp, _ => by rw [show p = L.length by omega]; exact alB_end _ _ _
  | m + 1, p, hp, h => by rw [alB_step _ (by omega), alB_true m (p + 1) (by omega) (fun j h1 => h j (by omega)), h p (Nat.le_refl _) (by omega)]; simp
theorem alB_false {L : List CaE} {D : Nat} (j : Nat) (h1 : j < L.length) (h2 : 0 < (gCa L j).til) (h3 : D.testBit j = false) : ∀ (m p : Nat), p + m = j → alB D p (L.drop p) = false
  | 0, p, hp => by
    obtain rfl : p = j := by omega
    rw [alB_step _ h1, decide_eq_true h2, h3]; rfl
  | m + 1, p, hp => by rw [alB_step _ (by omega), alB_false j h1 h2 h3 m (p + 1) (by omega), Bool.and_false]
theorem srL_skip {f : Nat → List FcE → Option (List Int)} {L : List CaE} {D : Nat} {t : List FcE} : ∀ (m p : Nat), p + m ≤ L.length → (∀ j, p ≤ j → j < p + m → (D.testBit j || !stB D (gCa L j).fr 0 L) = true) → srL f L D t p (L.drop p) = srL f L D t (p + m) (L.drop (p + m))
  | 0, p, _, _ => rfl
  | m + 1, p, hp, h => by
    rw [srL_step (by omega), if_pos (h p (Nat.le_refl _) (by omega)), srL_skip m (p + 1) (by omega) (fun j h1 h2 => h j (by omega) (by omega)), show p + 1 + m = p + (m + 1) by omega]
theorem low_or (k : Nat) : (2 ^ k - 1) ||| 2 ^ k = 2 ^ (k + 1) - 1 := by
  apply Nat.eq_of_testBit_eq
  intro i
  rw [bit_or, Nat.testBit_two_pow_sub_one, Nat.testBit_two_pow_sub_one]
  by_cases h1 : i < k
  · simp [h1]; omega
  · by_cases h2 : k = i
    · subst h2; simp
    · simp [h1, h2]; omega
/-- calls one by one: each asked behind the answer of the one ahead, each answered as a service alone would, but for place a -/
structure OneB (L : List CaE) (T : Nat → List FcE) (a : Int) : Prop where
  fr : ∀ k, k < L.length → (gCa L k).fr = 2 * (k : Int) + 1
  til : ∀ k, k < L.length → (gCa L k).til = 2 * (k : Int) + 2
  tab : ∀ k, k < L.length → T (k + 1) = (doC (T k) (gCa L k)).l
  ans : ∀ k, k < L.length → neA (gCa L k) (doC (T k) (gCa L k)) = decide ((k : Int) = a)
theorem one_row {L : List CaE} {T : Nat → List FcE} {a : Int} (h : OneB L T a) : ∀ (m k : Nat), k + m = L.length → sr L (2 ^ k - 1) (T k) = if (k : Int) ≤ a ∧ a < (L.length : Int) then none else some ((List.range' k m).map fun (j : Nat) => (j : Int))
  | 0, k, hk => by
    rw [sr_eq, if_pos (show alB (2 ^ k - 1) 0 L = true from alB_true L.length 0 (by omega) (fun j _ hj => by rw [Nat.testBit_two_pow_sub_one]; simp; omega)), if_neg (by omega)]
    rfl
  | m + 1, k, hk => by
    have hb : ∀ j, (2 ^ k - 1).testBit j = decide (j < k) := fun j => Nat.testBit_two_pow_sub_one k j
    have hbk : (2 ^ k - 1).testBit k = false := by rw [hb]; simp
    have htk := h.til k (by omega)
    rw [sr_eq, if_neg (by rw [show alB (2 ^ k - 1) 0 L = false from alB_false k (by omega) (by omega) hbk k 0 (by omega)]; simp)]
    have e0 : srL (sr L) L (2 ^ k - 1) (T k) 0 L = srL (sr L) L (2 ^ k - 1) (T k) k (L.drop k) := by
      have := srL_skip (f := sr L) (L := L) (D := 2 ^ k - 1) (t := T k) k 0 (by omega) (fun j _ h2 => by rw [hb, decide_eq_true (show j < k by omega)]; rfl)
      rw [Nat.zero_add] at this
      exact this
    have e1 : srL (sr L) L (2 ^ k - 1) (T k) (k + 1) (L.drop (k + 1)) = none := by
      have := srL_skip (f := sr L) (L := L) (D := 2 ^ k - 1) (t := T k) m (k + 1) (by omega) (fun j h1 h2 => by
        rw [show stB (2 ^ k - 1) (gCa L j).fr 0 L = false from stB_false k (by omega) (by omega) hbk (by rw [h.fr j (by omega)]; omega) k 0 (by omega)]
        simp)
      rw [this, List.drop_of_length_le (by omega)]
      rfl
    have hst : stB (2 ^ k - 1) (gCa L k).fr 0 L = true := stB_true L.length 0 (by omega) (fun j _ h2 _ h4 => by
      rw [hb] at h4
      have h5 : ¬ j < k := of_decide_eq_false h4
      rw [h.til j h2, h.fr k (by omega)]
      omega)
    rw [e0, srL_step (by omega), if_neg (by rw [hbk, hst]; simp), h.ans k (by omega), low_or, ← h.tab k (by omega), one_row h m (k + 1) (by omega), e1]
    by_cases hka : (k : Int) = a
    · rw [if_pos (decide_eq_true hka), if_pos (by omega)]
    · rw [if_neg (by rw [decide_eq_false hka]; simp)]
      by_cases hc : (k : Int) ≤ a ∧ a < (L.length : Int)
      · rw [if_pos hc, if_pos (by omega)]
      · rw [if_neg hc, if_neg (by omega), List.range'_succ]
        rfl
/-- what a search finds among calls one by one -/
theorem one_fits {L : List CaE} {T : Nat → List FcE} {a : Int} (h : OneB L T a) (h0 : T 0 = []) (hn : L.length ≤ 12) (hc : ∀ c ∈ L, cmdB c.kind c.tenant = true) :
    fitsE L = 0 ∧ fitsB L = !decide (0 ≤ a ∧ a < (L.length : Int)) ∧ fitsO L = if 0 ≤ a ∧ a < (L.length : Int) then [] else (List.range L.length).map fun (j : Nat) => (j : Int) := by
  have hall : ∀ (l : List CaE), (∀ c ∈ l, mayC c = true) → allC l = true := by
    intro l
    induction l with
    | nil => intro _; rfl
    | cons x l ih => intro hl; simp only [allC, Bool.and_eq_true]; exact ⟨hl x List.mem_cons_self, ih fun c hc => hl c (List.mem_cons_of_mem _ hc)⟩
  have hck : ckB L = true := by
    unfold ckB
    rw [decide_eq_true hn, hall L (fun c hcm => ?_)]
    · rfl
    · obtain ⟨k, hk, rfl⟩ := List.mem_iff_getElem.1 hcm
      have e : gCa L k = L[k] := gCa_of (List.getElem?_eq_getElem hk)
      have h1 := h.fr k hk
      have h2 := h.til k hk
      have h3 := hc _ hcm
      rw [e] at h1 h2
      unfold mayC
      rw [h3, h1, h2]
      simp
      omega
  have hr := one_row h L.length 0 (by omega)
  rw [h0, show 2 ^ 0 - 1 = 0 from rfl, show ((0 : Nat) : Int) = 0 from rfl] at hr
  refine ⟨by unfold fitsE; rw [if_pos hck], ?_, ?_⟩
  · unfold fitsB
    rw [hck, hr]
    by_cases hc : 0 ≤ a ∧ a < (L.length : Int)
    · rw [if_pos hc]; simp [hc]
    · rw [if_neg hc]; simp [hc]
  · unfold fitsO
    rw [if_pos hck, hr]
    by_cases hc : 0 ≤ a ∧ a < (L.length : Int)
    · rw [if_pos hc, if_pos hc]; rfl
    · rw [if_neg hc, if_neg hc, List.range_eq_range']; rfl
end Go.Proofs.Ythmjlomlceljkaa
