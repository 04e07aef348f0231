/-
  Entries put behind a place: the document; pure.
-/
import Derived.Test.YtcadinoijclfnaaRoe
import Derived.Test.YtcadinoijclfnaaRod
import Derived.Test.YtcadinoijclfnaaRo8
import Derived.Deep.DeepFit
import Derived.Lib.AppendZeros
namespace Go.Proofs.Ytcadinoijclfnaa
open Go.RowKit
set_option linter.unusedSimpArgs false
set_option linter.unusedVariables false

theorem midA_zero2 {W : World} {a : Option Addr} {n n' c : Nat} {ob : Option Nat} {e : TypeId} {s m : Nat} {xs : List Value} (h : Row W (.slice a n c) ob e s n' xs) : midA a 0 m = a := by
  have hn : n = n' := by
    obtain ⟨a', c', e', _⟩ := h.shape
    injection e'
  subst hn
  exact midA_zero h
theorem below_undrewM {B : Nat} {w X : World} (h : Below B w.drew X) : Below B w X := ⟨h.os, h.tape, h.output, h.size, h.block⟩
theorem layP_pfx (L l : List EnD) (i : Nat) : layP L l i = if pfx (L.drop i) l < l.length then (i + pfx (L.drop i) l, l.drop (pfx (L.drop i) l)) else (L.length, []) := by
  have h1 := pfx_le1 (L.drop i) l
  have h2 := pfx_le2 (L.drop i) l
  have hd : dfr (L.drop i) l = if pfx (L.drop i) l = (L.drop i).length ∧ pfx (L.drop i) l = l.length then -1 else ((pfx (L.drop i) l : Nat) : Int) := rfl
  unfold layP
  by_cases h : pfx (L.drop i) l < l.length
  · rw [if_neg (show ¬ (pfx (L.drop i) l = (L.drop i).length ∧ pfx (L.drop i) l = l.length) by omega)] at hd
    rw [if_pos h, hd, if_neg (by omega), Int.toNat_natCast]
  · rw [if_neg h, if_pos]
    rw [hd]
    split <;> omega
theorem joinE_same {base term : Int} {L : List EnD} (h : okE base term L = 0) : joinE base term L.length L [] = 0 := by
  have h4 := (okE_head h).2.2.1
  unfold joinE
  rw [if_neg (by simp; omega), List.take_length, List.append_nil]
  exact h
theorem endF_no {base term : Int} {L : List EnD} {f : FitP} (h : okE base term L = 0) (hf : f.ok = false) : endF base term L f = ⟨base, term, L, f.s, false, 0⟩ := by
  have hJ : layJ base term L f = 0 := by unfold layJ; rw [hf]; exact joinE_same h
  have hY : layY base L f = L := by
    unfold layY
    rw [hf, List.take_length, List.append_nil]
    rfl
  unfold endF
  rw [hJ, hY, zi_eq, zi_eq, zi_eq, zl_eq]
  unfold zb
  rw [if_pos rfl, hf]
/-- the rows that are made of it, where it fits at i -/
def putL (L l : List EnD) (i : Nat) : List EnD := if pfx (L.drop i) l < l.length then L.take (i + pfx (L.drop i) l) ++ l.drop (pfx (L.drop i) l) else L
theorem dl_putL {L l : List EnD} {i : Nat} (h1 : dlB L) (h2 : dlB l) : dlB (putL L l i) := by
  unfold putL
  split
  · intro x hx
    rcases List.mem_append.1 hx with h | h
    · exact h1 x (List.mem_of_mem_take h)
    · exact h2 x (List.mem_of_mem_drop h)
  · exact h1
theorem endF_yes {base term : Int} {L l : List EnD} {i : Nat} {s : Int} (hi : i ≤ L.length) : endF base term L ⟨l, base + (i : Int), s, true⟩ = ⟨(madeF base term (putL L l i)).b, (madeF base term (putL L l i)).t, (madeF base term (putL L l i)).l, zi (madeF base term (putL L l i)).e s, zb (madeF base term (putL L l i)).e true, (madeF base term (putL L l i)).e⟩ := by
  have e9 : (base + (i : Int) - base).toNat = i := by omega
  have hJ : layJ base term L ⟨l, base + (i : Int), s, true⟩ = joinE base term (layP L l i).1 L (layP L l i).2 := by unfold layJ; simp only [if_true, e9]
  have hY : layY base L ⟨l, base + (i : Int), s, true⟩ = L.take (layP L l i).1 ++ (layP L l i).2 := by unfold layY; simp only [if_true, e9]
  have hle : (layP L l i).1 ≤ L.length := by
    rw [layP_pfx]
    have h1 := pfx_le1 (L.drop i) l
    rw [List.length_drop] at h1
    split
    · simp only; omega
    · exact Nat.le_refl _
  have hq : putL L l i = L.take (layP L l i).1 ++ (layP L l i).2 := by
    unfold putL
    rw [layP_pfx]
    by_cases h : pfx (L.drop i) l < l.length
    · rw [if_pos h, if_pos h]
    · rw [if_neg h, if_neg h]
      simp
  unfold endF
  rw [hJ, hY, hq, madeF_join hle]
theorem madeF_e (base term : Int) (L : List EnD) : (madeF base term L).e = 0 ∨ ((madeF base term L).b = 0 ∧ (madeF base term L).t = 0 ∧ (madeF base term L).l = [] ∧ ((madeF base term L).e = 3 ∨ (madeF base term L).e = 90)) := by
  unfold madeF
  split
  · simp
  · split <;> simp
end Go.Proofs.Ytcadinoijclfnaa
