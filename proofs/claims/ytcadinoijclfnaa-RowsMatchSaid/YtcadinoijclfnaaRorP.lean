/-
  Entries stand where they belong: pure.
-/
import Derived.Test.YtcadinoijclfnaaRog
import Derived.Deep.DeepFit
namespace Go.Proofs.Ytcadinoijclfnaa
open Go.RowKit
set_option linter.unusedSimpArgs false
set_option linter.unusedVariables false

theorem putL_low {L l : List EnD} {i j : Nat} (hi : i ≤ L.length) (hj : j < i) : (putL L l i)[j]? = L[j]? := by
  unfold putL
  split
  · rw [List.getElem?_append_left (by rw [List.length_take]; have := pfx_le1 (L.drop i) l; rw [List.length_drop] at this; omega), List.getElem?_take, if_pos (by omega)]
  · rfl
theorem pfx_dl (L l : List EnD) (i : Nat) : pfx (L.drop i) l ≤ L.length - i := by have := pfx_le1 (L.drop i) l; rwa [List.length_drop] at this
theorem putL_len {L l : List EnD} {i : Nat} (hi : i ≤ L.length) : i + l.length ≤ (putL L l i).length := by
  have h1 := pfx_dl L l i
  have h2 := pfx_le2 (L.drop i) l
  unfold putL
  split
  · rw [List.length_append, List.length_take, List.length_drop]; omega
  · omega
theorem putL_at {L l : List EnD} {i q : Nat} {z : EnD} (hi : i ≤ L.length) (hz : l[q]? = some z) : ∃ y, (putL L l i)[i + q]? = some y ∧ y.t = z.t := by
  have h1 := pfx_dl L l i
  have h2 := pfx_le2 (L.drop i) l
  have hq : q < l.length := (List.getElem?_eq_some_iff.1 hz).1
  by_cases hk : q < pfx (L.drop i) l
  · obtain ⟨y, hy⟩ : ∃ y, L[i + q]? = some y := ⟨_, List.getElem?_eq_getElem (by omega)⟩
    have ht := pfx_lt (L.drop i) l q y z (by rw [List.getElem?_drop]; exact hy) hz hk
    refine ⟨y, ?_, ht⟩
    unfold putL
    split
    · rw [List.getElem?_append_left (by rw [List.length_take]; omega), List.getElem?_take, if_pos (by omega)]
      exact hy
    · exact hy
  · refine ⟨z, ?_, rfl⟩
    unfold putL
    rw [if_pos (by omega), List.getElem?_append_right (by rw [List.length_take]; omega), List.length_take, List.getElem?_drop, ← hz]
    congr 1
    omega
theorem pfx_all : ∀ (A l : List EnD), (∀ (q : Nat) (z : EnD), l[q]? = some z → ∃ y, A[q]? = some y ∧ y.t = z.t) → pfx A l = l.length
  | [], [], _ => rfl
  | _ :: _, [], _ => rfl
  | [], z :: r, h => by obtain ⟨y, hy, _⟩ := h 0 z rfl; simp at hy
  | y :: A, z :: r, h => by
    obtain ⟨y', hy, ht⟩ := h 0 z rfl
    obtain rfl : y = y' := by simpa using hy
    unfold pfx
    rw [if_pos ht, pfx_all A r (fun q z' hz => h (q + 1) z' (by simpa using hz))]
    rfl
theorem putL_again {L l : List EnD} {i : Nat} (hi : i ≤ L.length) : putL (putL L l i) l i = putL L l i := by
  have h : pfx ((putL L l i).drop i) l = l.length := pfx_all _ _ fun q z hz => by
    obtain ⟨y, hy, ht⟩ := putL_at hi hz
    exact ⟨y, by rw [List.getElem?_drop]; exact hy, ht⟩
  rw [show putL (putL L l i) l i = if pfx ((putL L l i).drop i) l < l.length then (putL L l i).take (i + pfx ((putL L l i).drop i) l) ++ l.drop (pfx ((putL L l i).drop i) l) else putL L l i from rfl, h, if_neg (by omega)]
theorem putF_fit {base term : Int} {L : List EnD} {idx first : Int} {l : List EnD} (hk : okE base term L = 0) (h1 : l.length ≤ 16) (h2 : okE idx first l = 0) : putF base term L idx first l = endF base term L (fitF base term L idx first l) := by
  unfold putF
  rw [if_neg (by simp [hk]), if_neg (by omega), if_neg (by simp [h2])]
theorem fit_lo {base term : Int} {L : List EnD} {idx first : Int} {l : List EnD} (h1 : idx ≤ base + L.length) (h2 : base - idx ≤ l.length) (h3 : idx < base) : fitF base term L idx first l = ⟨l.drop (base - idx).toNat, base + ((0 : Nat) : Int), idx + l.length, true⟩ := by
  unfold fitF
  rw [if_neg (by omega), if_neg (by omega), if_pos (by omega)]
  congr 1 <;> omega
theorem fit_hi {base term : Int} {L : List EnD} {idx first : Int} {l : List EnD} (h1 : idx ≤ base + L.length) (h3 : base ≤ idx) (h4 : termL base term L idx = first) : fitF base term L idx first l = ⟨l, base + ((idx - base).toNat : Int), idx + l.length, true⟩ := by
  unfold fitF
  rw [if_neg (by omega), if_neg (by omega), if_neg (by omega), if_neg (by simp [h4])]
  congr 1
  omega
theorem endF_made {base term : Int} {L l : List EnD} {i : Nat} {s : Int} (hi : i ≤ L.length) (h : (madeF base term (putL L l i)).e = 0) : endF base term L ⟨l, base + (i : Int), s, true⟩ = ⟨base, term, putL L l i, s, true, 0⟩ ∧ okE base term (putL L l i) = 0 ∧ (putL L l i).length ≤ 4096 := by
  rw [endF_yes hi]
  unfold madeF at h ⊢
  by_cases h1 : 4096 < (putL L l i).length
  · rw [if_pos h1] at h; cases h
  · rw [if_neg h1] at h ⊢
    by_cases h2 : okE base term (putL L l i) ≠ 0
    · rw [if_pos h2] at h; cases h
    · rw [if_neg h2]
      exact ⟨rfl, by simpa using h2, by omega⟩
theorem endF_e {base term : Int} {L l : List EnD} {i : Nat} {s : Int} (hi : i ≤ L.length) : (endF base term L ⟨l, base + (i : Int), s, true⟩).e = (madeF base term (putL L l i)).e := by rw [endF_yes hi]
theorem putF_arg {base term : Int} {L : List EnD} {idx first : Int} {l : List EnD} (hk : okE base term L = 0) (he : (putF base term L idx first l).e = 0) : l.length ≤ 16 ∧ okE idx first l = 0 := by
  unfold putF at he
  rw [if_neg (by simp [hk])] at he
  by_cases h1 : 16 < l.length
  · rw [if_pos h1] at he; cases he
  · rw [if_neg h1] at he
    by_cases h2 : okE idx first l ≠ 0
    · rw [if_pos h2] at he; cases he
    · exact ⟨by omega, by simpa using h2⟩
/-- what Put answers where it tells OK -/
def MatchP (base term : Int) (L : List EnD) (idx first : Int) (l : List EnD) : Prop :=
  (∃ s, putF base term L idx first l = ⟨base, term, L, s, false, 0⟩ ∧ base ≤ s ∧ s ≤ base + L.length ∧ (s < idx ∨ idx ≤ base)) ∨
  (∃ i d : Nat, d ≤ l.length ∧ i ≤ L.length ∧ idx = base + (i : Int) - (d : Int) ∧ (i = 0 ∨ d = 0) ∧ putF base term L idx first l = ⟨base, term, putL L (l.drop d) i, idx + l.length, true, 0⟩ ∧ okE base term (putL L (l.drop d) i) = 0 ∧ (putL L (l.drop d) i).length ≤ 4096 ∧
    putF base term (putL L (l.drop d) i) idx first l = ⟨base, term, putL L (l.drop d) i, idx + l.length, true, 0⟩)
theorem match_p {base term : Int} {L : List EnD} {idx first : Int} {l : List EnD} (hk : okE base term L = 0) (he : (putF base term L idx first l).e = 0) : MatchP base term L idx first l := by
  obtain ⟨h1, h2⟩ := putF_arg hk he
  have hb := (okE_head hk).1
  have hpf := putF_fit hk h1 h2
  unfold MatchP
  rw [hpf] at he ⊢
  by_cases k1 : base + L.length < idx
  · left
    have hf : fitF base term L idx first l = ⟨[], 0, base + L.length, false⟩ := by unfold fitF; rw [if_pos k1]
    rw [hf, endF_no hk rfl]
    exact ⟨_, rfl, by simp only; omega, by simp only; omega, by simp only; omega⟩
  · by_cases k2 : (l.length : Int) < base - idx
    · left
      have hf : fitF base term L idx first l = ⟨[], 0, base, false⟩ := by unfold fitF; rw [if_neg k1, if_pos k2]
      rw [hf, endF_no hk rfl]
      exact ⟨_, rfl, by simp only; omega, by simp only; omega, by simp only; omega⟩
    · by_cases k3 : 0 < base - idx
      · right
        obtain ⟨d, hd⟩ := Int.eq_ofNat_of_zero_le (show 0 ≤ base - idx by omega)
        have hf := fit_lo (term := term) (first := first) (L := L) (l := l) (show idx ≤ base + L.length by omega) (by omega) (show idx < base by omega)
        rw [hd, Int.toNat_natCast] at hf
        rw [hf] at he ⊢
        rw [endF_e (Nat.zero_le _)] at he
        obtain ⟨e1, e2, e3⟩ := endF_made (s := idx + l.length) (Nat.zero_le L.length) he
        refine ⟨0, d, by omega, Nat.zero_le _, by omega, .inl rfl, e1, e2, e3, ?_⟩
        rw [putF_fit e2 h1 h2]
        have hf2 := fit_lo (term := term) (first := first) (L := putL L (l.drop d) 0) (l := l) (show idx ≤ base + (putL L (l.drop d) 0).length by omega) (by omega) (show idx < base by omega)
        rw [hd, Int.toNat_natCast] at hf2
        rw [hf2]
        have ha := putL_again (L := L) (l := l.drop d) (i := 0) (Nat.zero_le _)
        have hm : (madeF base term (putL (putL L (l.drop d) 0) (l.drop d) 0)).e = 0 := by rw [ha]; exact he
        have := (endF_made (s := idx + l.length) (Nat.zero_le (putL L (l.drop d) 0).length) hm).1
        rw [this, ha]
      · by_cases k4 : termL base term L idx = first
        · right
          obtain ⟨i, hi⟩ := Int.eq_ofNat_of_zero_le (show 0 ≤ idx - base by omega)
          have hil : i ≤ L.length := by omega
          have hf := fit_hi (term := term) (L := L) (l := l) (show idx ≤ base + L.length by omega) (show base ≤ idx by omega) k4
          rw [hi, Int.toNat_natCast] at hf
          rw [hf] at he ⊢
          rw [endF_e hil] at he
          obtain ⟨e1, e2, e3⟩ := endF_made (s := idx + l.length) hil he
          refine ⟨i, 0, by omega, hil, by omega, .inr rfl, by rw [List.drop_zero]; exact e1, by rw [List.drop_zero]; exact e2, by rw [List.drop_zero]; exact e3, ?_⟩
          rw [List.drop_zero, putF_fit e2 h1 h2]
          have hln := putL_len (L := L) (l := l) hil
          have ht : termL base term (putL L l i) idx = first := by
            rw [← k4]
            unfold termL
            by_cases h0 : idx = base
            · rw [if_pos h0, if_pos h0]
            · rw [if_neg h0, if_neg h0, putL_low hil (by omega)]
          have hf2 := fit_hi (term := term) (L := putL L l i) (l := l) (show idx ≤ base + (putL L l i).length by omega) (show base ≤ idx by omega) ht
          rw [hi, Int.toNat_natCast] at hf2
          rw [hf2]
          have ha := putL_again (L := L) (l := l) hil
          have hm : (madeF base term (putL (putL L l i) l i)).e = 0 := by rw [ha]; exact he
          have := (endF_made (s := idx + l.length) (show i ≤ (putL L l i).length by omega) hm).1
          rw [this, ha]
        · left
          have hf : fitF base term L idx first l = ⟨[], 0, max (idx - 1) base, false⟩ := by unfold fitF; rw [if_neg k1, if_neg k2, if_neg k3, if_pos k4]
          rw [hf, endF_no hk rfl]
          exact ⟨_, rfl, by simp only; omega, by simp only; omega, by simp only; omega⟩
end Go.Proofs.Ytcadinoijclfnaa
