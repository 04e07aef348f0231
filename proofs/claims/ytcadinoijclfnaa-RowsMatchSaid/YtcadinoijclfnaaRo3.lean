/-
  Rows of entries joined.
-/
import Derived.Test.YtcadinoijclfnaaRo1
import Derived.Test.YtcadinoijclfnaaRo2
import Derived.Test.YtcadinoijclfnaaAs4
namespace Go.Proofs.Ytcadinoijclfnaa
open Go.RowKit
set_option linter.unusedSimpArgs false
set_option linter.unusedVariables false

theorem rv_row {W : World} {v : Value} {ob : Option Nat} {n : Nat} {F : Nat → DE} {L : List EnD} (h : Row W v ob 47 5 n (dL F n)) (hby : ∀ k, k < n → (F k).by_ W) (hn : n = L.length) (hp : ∀ k, k < n → L[k]? = some (F k).pure) (hok : ∀ x ∈ L, x.ok) (hf : n * 56 ≤ 140737488351232) : RV W v L := by
  subst hn
  obtain ⟨a, c, rfl, h1, h2, h3⟩ := h.shape
  refine ⟨a, c, ob.getD 0, 0, F, rfl, ⟨h1, h2, fun hk => ?_, fun j hj i hi => ?_, hby⟩, hp, hok, hf⟩
  · obtain ⟨g, hg, _⟩ := h.cell 0 (by omega)
    have hr := h
    subst hg
    exact ⟨h3, hr.lt⟩
  · obtain ⟨g, hg, hc, _⟩ := h.cell (j * 5 + i) (by omega)
    subst hg
    rw [Option.getD_some, Nat.zero_add, hc, dL_at F _ j i hj hi]
def catF (n : Nat) (F G : Nat → DE) (k : Nat) : DE := if k < n then F k else G (k - n)
theorem dL_cat (n : Nat) (F G : Nat → DE) : ∀ m, dL (catF n F G) (n + m) = dL F n ++ dL G m
  | 0 => by
    rw [Nat.add_zero, show dL G 0 = [] from rfl, List.append_nil]
    exact dL_congr fun k hk => by unfold catF; rw [if_pos hk]
  | m + 1 => by
    rw [← Nat.add_assoc, dL_succ, dL_succ, dL_cat n F G m, List.append_assoc]
    congr 2
    unfold catF
    rw [if_neg (by omega), show n + m - n = m by omega]
theorem dL_one (F : Nat → DE) (n : Nat) : ∀ u ∈ dL F n, u.oneCell' = true := by
  intro u hu
  simp only [dL, List.mem_flatMap] at hu
  obtain ⟨k, _, hk⟩ := hu
  have : (F k).cells.all (fun u => u.oneCell') = true := rfl
  exact List.all_eq_true.1 this u hk
theorem pc_din {W : World} {a : Option Addr} {n c g o : Nat} {F : Nat → DE} (h : DIn W a n c g o F) : PcIn W ⟨a, n, c, g, o, dL F n⟩ := by
  refine ⟨dL_len F n, h.le, h.max, h.at_, fun j hj => ?_, dL_one F n⟩
  simp only at hj ⊢
  obtain ⟨k, i, hk, hi, rfl⟩ : ∃ k i, k < n ∧ i < 5 ∧ j = k * 5 + i := ⟨j / 5, j % 5, by omega, by omega, by omega⟩
  rw [dL_at F n k i hk hi, ← Nat.add_assoc]
  exact h.cell k hk i hi
theorem cat_pure {L1 L2 : List EnD} {F G : Nat → DE} (h1 : ∀ k, k < L1.length → L1[k]? = some (F k).pure) (h2 : ∀ k, k < L2.length → L2[k]? = some (G k).pure) : ∀ k, k < L1.length + L2.length → (L1 ++ L2)[k]? = some (catF L1.length F G k).pure := fun k hk => by
  unfold catF
  by_cases h : k < L1.length
  · rw [List.getElem?_append_left h, if_pos h, h1 k h]
  · rw [List.getElem?_append_right (by omega), if_neg h, h2 _ (by omega)]
theorem concatR_any (v1 v2 : Value) (L1 L2 : List EnD) (B : Nat) (w : World) (h1 : RV w v1 L1) (h2 : RV w v2 L2) (hB : Blk w B #[v1, v2] 22) (hn : L1.length + L2.length ≤ 5000) : Calls Try.prog 49 #[.slice (some ⟨B, 0, none⟩) 2 2] w fun e w' => ∃ v', e = .returned v' ∧ RV w' v' (L1 ++ L2) ∧ Below w.heap.size w w' := by
  obtain ⟨a1, c1, g1, o1, F1, rfl, d1, p1, k1, q1⟩ := h1
  obtain ⟨a2, c2, g2, o2, F2, rfl, d2, p2, k2, q2⟩ := h2
  have e0 : cntP (fun k => if k = 0 then ⟨a1, L1.length, c1, g1, o1, dL F1 L1.length⟩ else ⟨a2, L2.length, c2, g2, o2, dL F2 L2.length⟩) 2 = L1.length + L2.length := by simp [cntP]
  have e1 : flatP (fun k => if k = 0 then ⟨a1, L1.length, c1, g1, o1, dL F1 L1.length⟩ else ⟨a2, L2.length, c2, g2, o2, dL F2 L2.length⟩) 2 = dL F1 L1.length ++ dL F2 L2.length := by simp [flatP]
  have := concat_en B 2 2 (fun k => if k = 0 then ⟨a1, L1.length, c1, g1, o1, dL F1 L1.length⟩ else ⟨a2, L2.length, c2, g2, o2, dL F2 L2.length⟩) w hB.lt (Nat.le_refl _) (by omega) (fun k hk => by
    obtain rfl | rfl : k = 0 ∨ k = 1 := by omega
    · exact cell_at hB 0
    · exact cell_at hB 1) (fun k hk => by
    obtain rfl | rfl : k = 0 ∨ k = 1 := by omega
    · exact pc_din d1
    · exact pc_din d2) (by rw [e0]; exact hn)
  rw [e0, e1, ← dL_cat] at this
  refine this.mono ?_
  rintro e w' ⟨v', ob, rfl, hr, hg, hb⟩
  refine ⟨v', rfl, rv_row hr (fun k hk => ?_) (by simp) (cat_pure p1 p2) (fun x hx => ?_) (by omega), hb⟩
  · unfold catF
    split
    · exact ByIn.below (d1.ld k (by assumption)) hb
    · exact ByIn.below (d2.ld _ (by omega)) hb
  · rcases List.mem_append.1 hx with h | h
    · exact k1 x h
    · exact k2 x h
end Go.Proofs.Ytcadinoijclfnaa
