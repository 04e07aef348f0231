/-
  Where rows differ: the program.
-/
import Derived.Test.YtcadinoijclfnaaRo4
import Derived.Test.YtcadinoijclfnaaAs4
namespace Go.Proofs.Ytcadinoijclfnaa
open Go.RowKit
set_option linter.unusedSimpArgs false
set_option linter.unusedVariables false

theorem below_dN {B : Nat} {w X : World} (h : Below B w X) (n : Nat) : Below B w (X.drewN n) := ⟨h.os, h.tape, h.output, h.size, h.block⟩
theorem ret_bool {a b : Bool} (h : a = b) : Ending.returned (.bool a) = .returned (.bool b) := by rw [h]
def pfx : List EnD → List EnD → Nat
  | x :: r, y :: s => if x.t = y.t then pfx r s + 1 else 0
  | _, _ => 0
theorem pfx_le1 : ∀ L1 L2, pfx L1 L2 ≤ L1.length
  | [], _ => by simp [pfx]
  | _ :: _, [] => by simp [pfx]
  | x :: r, y :: s => by
    have := pfx_le1 r s
    unfold pfx
    split <;> simp <;> omega
theorem pfx_le2 : ∀ L1 L2, pfx L1 L2 ≤ L2.length
  | [], _ => by simp [pfx]
  | _ :: _, [] => by simp [pfx]
  | x :: r, y :: s => by
    have := pfx_le2 r s
    unfold pfx
    split <;> simp <;> omega
theorem pfx_lt : ∀ (L1 L2 : List EnD) (j : Nat) (x y : EnD), L1[j]? = some x → L2[j]? = some y → j < pfx L1 L2 → x.t = y.t
  | [], _, _, _, _, h, _, _ => by simp at h
  | _ :: _, [], _, _, _, _, h, _ => by simp at h
  | a :: r, b :: s, 0, x, y, h1, h2, h => by
    obtain rfl : a = x := by simpa using h1
    obtain rfl : b = y := by simpa using h2
    unfold pfx at h
    by_cases hab : a.t = b.t
    · exact hab
    · rw [if_neg hab] at h; omega
  | a :: r, b :: s, j + 1, x, y, h1, h2, h => by
    unfold pfx at h
    by_cases hab : a.t = b.t
    · rw [if_pos hab] at h
      exact pfx_lt r s j x y (by simpa using h1) (by simpa using h2) (by omega)
    · rw [if_neg hab] at h; omega
theorem pfx_at : ∀ (L1 L2 : List EnD) (x y : EnD), L1[pfx L1 L2]? = some x → L2[pfx L1 L2]? = some y → x.t ≠ y.t
  | [], _, _, _, h, _ => by simp at h
  | _ :: _, [], _, _, _, h => by simp at h
  | a :: r, b :: s, x, y, h1, h2 => by
    unfold pfx at h1 h2
    by_cases hab : a.t = b.t
    · rw [if_pos hab] at h1 h2
      exact pfx_at r s x y (by simpa using h1) (by simpa using h2)
    · rw [if_neg hab] at h1 h2
      obtain rfl : a = x := by simpa using h1
      obtain rfl : b = y := by simpa using h2
      exact hab
def dfr (L1 L2 : List EnD) : Int := if pfx L1 L2 = L1.length ∧ pfx L1 L2 = L2.length then -1 else (pfx L1 L2 : Nat)
set_option maxRecDepth 100000 in
set_option maxHeartbeats 2000000 in
theorem lay1_any (x y : Ent) (w : World) : Calls Try.prog 52 #[.agg #[.int .i64 x.t, .int .i8 x.k, .int .i64 x.s, .int .u8 x.st, .slice x.da x.dl x.dc], .agg #[.int .i64 y.t, .int .i8 y.k, .int .i64 y.s, .int .u8 y.st, .slice y.da y.dl y.dc]] w fun e w' => e = .returned (.bool (decide (x.t = y.t))) ∧ Below w.heap.size w w' := by
  obtain ⟨N, hN⟩ : ∃ N, N = w.heap.size := ⟨_, rfl⟩
  obtain ⟨W0, hW0⟩ : ∃ W0, W0 = w.alloc (.cells #[.int .i64 x.t, .int .i8 x.k, .int .i64 x.s, .int .u8 x.st, .slice x.da x.dl x.dc] 47) := ⟨_, rfl⟩
  obtain ⟨W1, hW1⟩ : ∃ W1, W1 = W0.alloc (.cells #[.int .i64 y.t, .int .i8 y.k, .int .i64 y.s, .int .u8 y.st, .slice y.da y.dl y.dc] 47) := ⟨_, rfl⟩
  have hB0 : Below w.heap.size w W0 := by rw [hW0]; exact (Below.refl _ _).alloc (Nat.le_refl _) _
  have hB1 : Below w.heap.size w W1 := by rw [hW1]; exact hB0.alloc hB0.size _
  have hk0 : Blk W0 N #[.int .i64 x.t, .int .i8 x.k, .int .i64 x.s, .int .u8 x.st, .slice x.da x.dl x.dc] 47 := by rw [hW0, hN]; exact blk_new _ _ _
  have hs0 : W0.heap.size = N + 1 := by rw [hW0, hN]; simp
  have hk1 : Blk W1 N #[.int .i64 x.t, .int .i8 x.k, .int .i64 x.s, .int .u8 x.st, .slice x.da x.dl x.dc] 47 := by rw [hW1]; exact hk0.alloc _
  have hk2 : Blk W1 (N + 1) #[.int .i64 y.t, .int .i8 y.k, .int .i64 y.s, .int .u8 y.st, .slice y.da y.dl y.dc] 47 := by rw [hW1, ← hs0]; exact blk_new _ _ _
  have c0 : W1.cell? ⟨N, 0, none⟩ = some (.int .i64 x.t) := cell_at hk1 0
  have d0 : W1.cell? ⟨N + 1, 0, none⟩ = some (.int .i64 y.t) := cell_at hk2 0
  have l1 := hk1.lt
  have l2 := hk2.lt
  have HB1 := Lib.hid hB1
  clear hB0 hB1 hk0 hs0 hk1 hk2
  go_enter Try.func52, Try.ntmps52
  go_upto_region 1 with fail
  rw [← hN, ← hW0, ← hW1]
  clear hN hW0 hW1
  go_wp2_with fail
  go_ret
  exact ⟨ret_bool (by first | rfl | simp), HB1.out⟩
set_option maxRecDepth 100000 in
set_option maxHeartbeats 8000000 in
theorem differ_any (v1 v2 : Value) (L1 L2 : List EnD) (w : World) (h1 : RV w v1 L1) (h2 : RV w v2 L2) : Calls Try.prog 51 #[v1, v2, .func (.func 52) #[] #[]] w fun e w' => e = .returned (.int .i64 (dfr L1 L2)) ∧ Below w.heap.size w w' := by
  obtain ⟨a1, c1, g1, o1, F1, rfl, d1, p1, k1, q1⟩ := h1
  obtain ⟨a2, c2, g2, o2, F2, rfl, d2, p2, k2, q2⟩ := h2
  have E1 := Lib.hid (rv_ents d1 rfl p1 k1 q1)
  have E2 := Lib.hid (rv_ents d2 rfl p2 k2 q2)
  have m1 := d1.le
  have m2 := d1.max
  have m3 := d2.le
  have m4 := d2.max
  unfold maxLen at m2 m4
  obtain ⟨P, hP⟩ : ∃ P, P = pfx L1 L2 := ⟨_, rfl⟩
  have hp1 : P ≤ L1.length := by rw [hP]; exact pfx_le1 _ _
  have hp2 : P ≤ L2.length := by rw [hP]; exact pfx_le2 _ _
  have HPL : Hid (∀ j, j < P → j < L1.length → j < L2.length → (F1 j).ent.t = (F2 j).ent.t) := Lib.hid (fun j hj ha hb => pfx_lt L1 L2 j _ _ (p1 j ha) (p2 j hb) (by rw [← hP]; exact hj))
  have HPA : Hid (P < L1.length → P < L2.length → (F1 P).ent.t ≠ (F2 P).ent.t) := Lib.hid (fun ha hb => by rw [hP] at ha hb ⊢; exact pfx_at L1 L2 _ _ (p1 _ ha) (p2 _ hb))
  obtain ⟨R, hR⟩ : ∃ R, R = dfr L1 L2 := ⟨_, rfl⟩
  have HR : Hid (R = if P = L1.length ∧ P = L2.length then -1 else (P : Int)) := Lib.hid (by rw [hR, hP]; rfl)
  rw [← hR]
  obtain ⟨n1, hn1⟩ : ∃ n1, n1 = L1.length := ⟨_, rfl⟩
  obtain ⟨n2, hn2⟩ : ∃ n2, n2 = L2.length := ⟨_, rfl⟩
  rw [← hn1] at E1 m1 hp1 HPL HPA HR
  rw [← hn2] at E2 m3 hp2 HPL HPA HR
  rw [← hn1, ← hn2]
  clear hP hR hn1 hn2 d1 d2 p1 p2 k1 k2 q1 q2
  go_enter Try.func51, Try.ntmps51
  go_wp2_with fail
  go_step3
  go_wp2_with fail
  go_step3
  go_wp2_with fail
  go_loopw [7] (fun i wr => ∃ k : Nat, k ≤ P ∧ i = .int .i64 k ∧ Below w.heap.size w wr) (fun i _ => P + 1 - (intOf i).toNat)
  case atStart => exact ⟨0, Nat.zero_le _, rfl, Below.refl _ _⟩
  case round =>
    obtain ⟨k, hk, rfl, hB⟩ := hrel
    have HB := Lib.hid hB
    clear hB
    by_cases hb : k < n1 ∧ k < n2
    · obtain ⟨hb1, hb2⟩ := hb
      have hs1 := E1.out.below HB.out
      have hs2 := E2.out.below HB.out
      obtain ⟨e0, e1⟩ := hs1.at_ (by omega)
      obtain ⟨f0, f1⟩ := hs2.at_ (by omega)
      subst e0 f0
      obtain ⟨c0, c1, c2, c3, c4⟩ := hs1.cell k hb1
      obtain ⟨d0, d1, d2, d3, d4⟩ := hs2.cell k hb2
      have hpl := HPL.out k
      have hpl' := HPL.out k
      have hpa := HPA.out
      obtain ⟨x, hx⟩ : ∃ x, x = (F1 k).ent := ⟨_, rfl⟩
      obtain ⟨y, hy⟩ : ∃ y, y = (F2 k).ent := ⟨_, rfl⟩
      simp only [← hx] at c0 c1 c2 c3 c4 hpl
      simp only [← hy] at d0 d1 d2 d3 d4 hpl
      have HLY := Lib.hid (fun W => lay1_any x y W)
      have ff1 : ((k : Int) = n1) = False := eq_false (by omega)
      have ff2 : ((k : Int) = n2) = False := eq_false (by omega)
      have ff3 : ((k : Int) == n1) = false := by rw [beq_eq_false_iff_ne]; omega
      have ff4 : ((k : Int) == n2) = false := by rw [beq_eq_false_iff_ne]; omega
      have ff5 : (k = n1) = False := eq_false (by omega)
      have ff6 : (k = n2) = False := eq_false (by omega)
      have ff7 : (k < n1) = True := eq_true hb1
      have ff8 : (k < n2) = True := eq_true hb2
      clear hs1 hs2
      by_cases ht : x.t = y.t
      · have hkP : k < P := by
          rcases Nat.lt_or_ge k P with h | h
          · exact h
          · obtain rfl : k = P := by omega
            exact absurd ht (by rw [hx, hy]; exact hpa hb1 hb2)
        have HT := Lib.hid (decide_eq_true ht)
        rw [HT.out] at HLY
        clear hx hy hpl hpl' hpa ht
        go_wp2_with fail
        refine wp_region_held_drew (S := fun X => ((X.cell? ⟨g1, o1 + k * 5, none⟩ = some (.int .i64 x.t) ∧ X.cell? ⟨g1, o1 + k * 5 + 1, none⟩ = some (.int .i8 x.k) ∧ X.cell? ⟨g1, o1 + k * 5 + 2, none⟩ = some (.int .i64 x.s) ∧ X.cell? ⟨g1, o1 + k * 5 + 3, none⟩ = some (.int .u8 x.st) ∧ X.cell? ⟨g1, o1 + k * 5 + 4, none⟩ = some (.slice x.da x.dl x.dc)) ∧ (X.cell? ⟨g2, o2 + k * 5, none⟩ = some (.int .i64 y.t) ∧ X.cell? ⟨g2, o2 + k * 5 + 1, none⟩ = some (.int .i8 y.k) ∧ X.cell? ⟨g2, o2 + k * 5 + 2, none⟩ = some (.int .i64 y.s) ∧ X.cell? ⟨g2, o2 + k * 5 + 3, none⟩ = some (.int .u8 y.st) ∧ X.cell? ⟨g2, o2 + k * 5 + 4, none⟩ = some (.slice y.da y.dl y.dc)) ∧ g1 < X.heap.size ∧ g2 < X.heap.size)) (by kernel_rfl) ⟨⟨c0, c1, c2, c3, c4⟩, ⟨d0, d1, d2, d3, d4⟩, e1, f1⟩ (fun hHeld => ?_)
        ((refine wpAnyH_take (i := 0) (v := ?_) (by (simp only [List.getElem?_toArray, List.getElem?_cons_succ, List.getElem?_cons_zero]); rfl) (by kernel_rfl) (by kernel_rfl) (by kernel_rfl) (by exact fun _ _ _ h => h) (Or.inl ⟨by rfl, ?_⟩) (by assumption) ?_); rotate_left; focus (intro wS hSw; (try dsimp only at hSw); go_simp; first | done | with_reducible rfl); try simp only [Act.put, List.setIfInBounds_toArray, List.set_cons_zero, List.set_cons_succ])
        ((refine wpAnyH_take (i := 1) (v := ?_) (by (simp only [List.getElem?_toArray, List.getElem?_cons_succ, List.getElem?_cons_zero]); rfl) (by kernel_rfl) (by kernel_rfl) (by kernel_rfl) (by exact fun _ _ _ h => h) (Or.inl ⟨by rfl, ?_⟩) (by assumption) ?_); rotate_left; focus (intro wS hSw; (try dsimp only at hSw); go_simp; first | done | with_reducible rfl); try simp only [Act.put, List.setIfInBounds_toArray, List.set_cons_zero, List.set_cons_succ])
        ((refine wpAnyH_take (i := 2) (v := ?_) (by (simp only [List.getElem?_toArray, List.getElem?_cons_succ, List.getElem?_cons_zero]); rfl) (by kernel_rfl) (by kernel_rfl) (by kernel_rfl) (by exact fun _ _ _ h => h) (Or.inl ⟨by rfl, ?_⟩) (by assumption) ?_); rotate_left; focus (intro wS hSw; (try dsimp only at hSw); go_simp; first | done | with_reducible rfl); try simp only [Act.put, List.setIfInBounds_toArray, List.set_cons_zero, List.set_cons_succ])
        ((refine wpAnyH_take (i := 3) (v := ?_) (by (simp only [List.getElem?_toArray, List.getElem?_cons_succ, List.getElem?_cons_zero]); rfl) (by kernel_rfl) (by kernel_rfl) (by kernel_rfl) (by exact fun _ _ _ h => h) (Or.inl ⟨by rfl, ?_⟩) (by assumption) ?_); rotate_left; focus (intro wS hSw; (try dsimp only at hSw); go_simp; first | done | with_reducible rfl); try simp only [Act.put, List.setIfInBounds_toArray, List.set_cons_zero, List.set_cons_succ])
        ((refine wpAnyH_take (i := 4) (v := ?_) (by (simp only [List.getElem?_toArray, List.getElem?_cons_succ, List.getElem?_cons_zero]); rfl) (by kernel_rfl) (by kernel_rfl) (by kernel_rfl) (by exact fun _ _ _ h => h) (Or.inl ⟨by rfl, ?_⟩) (by assumption) ?_); rotate_left; focus (intro wS hSw; (try dsimp only at hSw); go_simp; first | done | with_reducible rfl); try simp only [Act.put, List.setIfInBounds_toArray, List.set_cons_zero, List.set_cons_succ])
        ((refine wpAnyH_take (i := 5) (v := ?_) (by (simp only [List.getElem?_toArray, List.getElem?_cons_succ, List.getElem?_cons_zero]); rfl) (by kernel_rfl) (by kernel_rfl) (by kernel_rfl) (by exact fun _ _ _ h => h) (Or.inl ⟨by (go_simp; try rfl), ?_⟩) (by assumption) ?_); rotate_left; focus (intro wS hSw; (try dsimp only at hSw); go_simp; first | done | with_reducible rfl); try simp only [Act.put, List.setIfInBounds_toArray, List.set_cons_zero, List.set_cons_succ])
        ((refine wpAnyH_take (i := 6) (v := ?_) (by (simp only [List.getElem?_toArray, List.getElem?_cons_succ, List.getElem?_cons_zero]); rfl) (by kernel_rfl) (by kernel_rfl) (by kernel_rfl) (by exact fun _ _ _ h => h) (Or.inl ⟨by (go_simp; try rfl), ?_⟩) (by assumption) ?_); rotate_left; focus (intro wS hSw; (try dsimp only at hSw); go_simp; first | done | with_reducible rfl); try simp only [Act.put, List.setIfInBounds_toArray, List.set_cons_zero, List.set_cons_succ])
        ((refine wpAnyH_take (i := 7) (v := ?_) (by (simp only [List.getElem?_toArray, List.getElem?_cons_succ, List.getElem?_cons_zero]); rfl) (by kernel_rfl) (by kernel_rfl) (by kernel_rfl) (by exact fun _ _ _ h => h) (Or.inl ⟨by (go_simp; try rfl), ?_⟩) (by assumption) ?_); rotate_left; focus (intro wS hSw; (try dsimp only at hSw); go_simp; first | done | with_reducible rfl); try simp only [Act.put, List.setIfInBounds_toArray, List.set_cons_zero, List.set_cons_succ])
        ((refine wpAnyH_take (i := 8) (v := ?_) (by (simp only [List.getElem?_toArray, List.getElem?_cons_succ, List.getElem?_cons_zero]); rfl) (by kernel_rfl) (by kernel_rfl) (by kernel_rfl) (by exact fun _ _ _ h => h) (Or.inl ⟨by (go_simp; try rfl), ?_⟩) (by assumption) ?_); rotate_left; focus (intro wS hSw; (try dsimp only at hSw); go_simp; first | done | with_reducible rfl); try simp only [Act.put, List.setIfInBounds_toArray, List.set_cons_zero, List.set_cons_succ])
        ((refine wpAnyH_take (i := 9) (v := ?_) (by (simp only [List.getElem?_toArray, List.getElem?_cons_succ, List.getElem?_cons_zero]); rfl) (by kernel_rfl) (by kernel_rfl) (by kernel_rfl) (by exact fun _ _ _ h => h) (Or.inl ⟨by rfl, ?_⟩) (by assumption) ?_); rotate_left; focus (intro wS hSw; (try dsimp only at hSw); go_simp; first | done | with_reducible rfl); try simp only [Act.put, List.setIfInBounds_toArray, List.set_cons_zero, List.set_cons_succ])
        ((refine wpAnyH_take (i := 10) (v := ?_) (by (simp only [List.getElem?_toArray, List.getElem?_cons_succ, List.getElem?_cons_zero]); rfl) (by kernel_rfl) (by kernel_rfl) (by kernel_rfl) (by exact fun _ _ _ h => h) (Or.inl ⟨by rfl, ?_⟩) (by assumption) ?_); rotate_left; focus (intro wS hSw; (try dsimp only at hSw); go_simp; first | done | with_reducible rfl); try simp only [Act.put, List.setIfInBounds_toArray, List.set_cons_zero, List.set_cons_succ])
        ((refine wpAnyH_take (i := 11) (v := ?_) (by (simp only [List.getElem?_toArray, List.getElem?_cons_succ, List.getElem?_cons_zero]); rfl) (by kernel_rfl) (by kernel_rfl) (by kernel_rfl) (by exact fun _ _ _ h => h) (Or.inl ⟨by (go_simp; try rfl), ?_⟩) (by assumption) ?_); rotate_left; focus (intro wS hSw; (try dsimp only at hSw); go_simp; first | done | with_reducible rfl); try simp only [Act.put, List.setIfInBounds_toArray, List.set_cons_zero, List.set_cons_succ])
        ((refine wpAnyH_take (i := 12) (v := ?_) (by (simp only [List.getElem?_toArray, List.getElem?_cons_succ, List.getElem?_cons_zero]); rfl) (by kernel_rfl) (by kernel_rfl) (by kernel_rfl) (by exact fun _ _ _ h => h) (Or.inl ⟨by (go_simp; try rfl), ?_⟩) (by assumption) ?_); rotate_left; focus (intro wS hSw; (try dsimp only at hSw); go_simp; first | done | with_reducible rfl); try simp only [Act.put, List.setIfInBounds_toArray, List.set_cons_zero, List.set_cons_succ])
        ((refine wpAnyH_take (i := 13) (v := ?_) (by (simp only [List.getElem?_toArray, List.getElem?_cons_succ, List.getElem?_cons_zero]); rfl) (by kernel_rfl) (by kernel_rfl) (by kernel_rfl) (by exact fun _ _ _ h => h) (Or.inl ⟨by (go_simp; try rfl), ?_⟩) (by assumption) ?_); rotate_left; focus (intro wS hSw; (try dsimp only at hSw); go_simp; first | done | with_reducible rfl); try simp only [Act.put, List.setIfInBounds_toArray, List.set_cons_zero, List.set_cons_succ])
        ((refine wpAnyH_take (i := 14) (v := ?_) (by (simp only [List.getElem?_toArray, List.getElem?_cons_succ, List.getElem?_cons_zero]); rfl) (by kernel_rfl) (by kernel_rfl) (by kernel_rfl) (by exact fun _ _ _ h => h) (Or.inl ⟨by (go_simp; try rfl), ?_⟩) (by assumption) ?_); rotate_left; focus (intro wS hSw; (try dsimp only at hSw); go_simp; first | done | with_reducible rfl); try simp only [Act.put, List.setIfInBounds_toArray, List.set_cons_zero, List.set_cons_succ])
        ((refine wpAnyH_take (i := 15) (v := ?_) (by (simp only [List.getElem?_toArray, List.getElem?_cons_succ, List.getElem?_cons_zero]); rfl) (by kernel_rfl) (by kernel_rfl) (by kernel_rfl) (by exact fun _ _ _ h => h) (Or.inl ⟨by (go_simp; try rfl), ?_⟩) (by assumption) ?_); rotate_left; focus (intro wS hSw; (try dsimp only at hSw); go_simp; first | done | with_reducible rfl); try simp only [Act.put, List.setIfInBounds_toArray, List.set_cons_zero, List.set_cons_succ])
        ((refine wpAnyH_take (i := 16) (v := ?_) (by (simp only [List.getElem?_toArray, List.getElem?_cons_succ, List.getElem?_cons_zero]); rfl) (by kernel_rfl) (by kernel_rfl) (by kernel_rfl) (by exact fun _ _ _ h => h) (Or.inl ⟨by (go_simp; try rfl), ?_⟩) (by assumption) ?_); rotate_left; focus (intro wS hSw; (try dsimp only at hSw); go_simp; first | done | with_reducible rfl); try simp only [Act.put, List.setIfInBounds_toArray, List.set_cons_zero, List.set_cons_succ])
        ((refine wpAnyH_take (i := 17) (v := ?_) (by (simp only [List.getElem?_toArray, List.getElem?_cons_succ, List.getElem?_cons_zero]); rfl) (by kernel_rfl) (by kernel_rfl) (by kernel_rfl) (by exact fun _ _ _ h => h) (Or.inl ⟨by (go_simp; try rfl), ?_⟩) (by assumption) ?_); rotate_left; focus (intro wS hSw; (try dsimp only at hSw); go_simp; first | done | with_reducible rfl); try simp only [Act.put, List.setIfInBounds_toArray, List.set_cons_zero, List.set_cons_succ])
        ((refine wpAnyH_take (i := 18) (v := ?_) (by (simp only [List.getElem?_toArray, List.getElem?_cons_succ, List.getElem?_cons_zero]); rfl) (by kernel_rfl) (by kernel_rfl) (by kernel_rfl) (by exact fun _ _ _ h => h) (Or.inl ⟨by (go_simp; try rfl), ?_⟩) (by assumption) ?_); rotate_left; focus (intro wS hSw; (try dsimp only at hSw); go_simp; first | done | with_reducible rfl); try simp only [Act.put, List.setIfInBounds_toArray, List.set_cons_zero, List.set_cons_succ])
        ((refine wpAnyH_take (i := 19) (v := ?_) (by (simp only [List.getElem?_toArray, List.getElem?_cons_succ, List.getElem?_cons_zero]); rfl) (by kernel_rfl) (by kernel_rfl) (by kernel_rfl) (by exact fun _ _ _ h => h) (Or.inl ⟨by (go_simp; try rfl), ?_⟩) (by assumption) ?_); rotate_left; focus (intro wS hSw; (try dsimp only at hSw); go_simp; first | done | with_reducible rfl); try simp only [Act.put, List.setIfInBounds_toArray, List.set_cons_zero, List.set_cons_succ])
        refine wpAnyH_ready (rs := [20]) (by kernel_rfl) (by simp) ?_
        refine AllReadyH.cons (by (simp only [List.getElem?_toArray, List.getElem?_cons_succ, List.getElem?_cons_zero]); rfl) (fun K hK => ?_) AllReadyH.nil
        go_simp
        refine Calls.mono (HLY.out _) ?_
        rintro e W3 ⟨rfl, hB3⟩
        have HB3 := Lib.hid (HB.out.trans ((((Below.refl wr.heap.size wr).drew).trans hB3).mono HB.out.size))
        go_wp2_with fail
        refine hK.out _ _ ⟨⟨(hB3.cell (p := ⟨g1, _, none⟩) e1).trans c0, (hB3.cell (p := ⟨g1, _, none⟩) e1).trans c1, (hB3.cell (p := ⟨g1, _, none⟩) e1).trans c2, (hB3.cell (p := ⟨g1, _, none⟩) e1).trans c3, (hB3.cell (p := ⟨g1, _, none⟩) e1).trans c4⟩, ⟨(hB3.cell (p := ⟨g2, _, none⟩) f1).trans d0, (hB3.cell (p := ⟨g2, _, none⟩) f1).trans d1, (hB3.cell (p := ⟨g2, _, none⟩) f1).trans d2, (hB3.cell (p := ⟨g2, _, none⟩) f1).trans d3, (hB3.cell (p := ⟨g2, _, none⟩) f1).trans d4⟩, Nat.lt_of_lt_of_le e1 hB3.size, Nat.lt_of_lt_of_le f1 hB3.size⟩ (fun hHeld => ?_)
        clear hK K hB3
        try simp only [Act.put, List.setIfInBounds_toArray, List.set_cons_zero, List.set_cons_succ]
        ((refine wpAnyH_take (i := 21) (v := ?_) (by (simp only [List.getElem?_toArray, List.getElem?_cons_succ, List.getElem?_cons_zero]); rfl) (by kernel_rfl) (by kernel_rfl) (by kernel_rfl) (by exact fun _ _ _ h => h) (Or.inl ⟨by (go_simp; try rfl), ?_⟩) (by assumption) ?_); rotate_left; focus (intro wS hSw; (try dsimp only at hSw); go_simp; first | done | with_reducible rfl); try simp only [Act.put, List.setIfInBounds_toArray, List.set_cons_zero, List.set_cons_succ])
        ((refine wpAnyH_take (i := 22) (v := ?_) (by (simp only [List.getElem?_toArray, List.getElem?_cons_succ, List.getElem?_cons_zero]); rfl) (by kernel_rfl) (by kernel_rfl) (by kernel_rfl) (by exact fun _ _ _ h => h) (Or.inl ⟨by rfl, ?_⟩) (by assumption) ?_); rotate_left; focus (intro wS hSw; (try dsimp only at hSw); go_simp; first | done | with_reducible rfl); try simp only [Act.put, List.setIfInBounds_toArray, List.set_cons_zero, List.set_cons_succ])
        ((refine wpAnyH_take (i := 23) (v := ?_) (by (simp only [List.getElem?_toArray, List.getElem?_cons_succ, List.getElem?_cons_zero]); rfl) (by kernel_rfl) (by kernel_rfl) (by kernel_rfl) (by exact fun _ _ _ h => h) (Or.inl ⟨by rfl, ?_⟩) (by assumption) ?_); rotate_left; focus (intro wS hSw; (try dsimp only at hSw); go_simp; first | done | with_reducible rfl); try simp only [Act.put, List.setIfInBounds_toArray, List.set_cons_zero, List.set_cons_succ])
        refine wpAnyH_done (by kernel_rfl) ?_ _
        go_wp2_with fail
        go_roundw
        case rel => exact ⟨k + 1, by omega, by go_num, HB3.out⟩
        case measure => first | (simp [intOf]; done) | (simp [intOf]; omega)
      · obtain rfl : k = P := by
          rcases Nat.lt_or_ge k P with h | h
          · exact absurd (by rw [hx, hy]; exact hpl' h hb1 hb2) ht
          · omega
        have hRx : R = (k : Nat) := by rw [HR.out, if_neg (by omega)]
        subst hRx
        have HT := Lib.hid (decide_eq_false ht)
        rw [HT.out] at HLY
        clear hx hy hpl hpl' hpa ht
        go_wp2_with fail
        refine wp_region_held_drew (S := fun X => ((X.cell? ⟨g1, o1 + k * 5, none⟩ = some (.int .i64 x.t) ∧ X.cell? ⟨g1, o1 + k * 5 + 1, none⟩ = some (.int .i8 x.k) ∧ X.cell? ⟨g1, o1 + k * 5 + 2, none⟩ = some (.int .i64 x.s) ∧ X.cell? ⟨g1, o1 + k * 5 + 3, none⟩ = some (.int .u8 x.st) ∧ X.cell? ⟨g1, o1 + k * 5 + 4, none⟩ = some (.slice x.da x.dl x.dc)) ∧ (X.cell? ⟨g2, o2 + k * 5, none⟩ = some (.int .i64 y.t) ∧ X.cell? ⟨g2, o2 + k * 5 + 1, none⟩ = some (.int .i8 y.k) ∧ X.cell? ⟨g2, o2 + k * 5 + 2, none⟩ = some (.int .i64 y.s) ∧ X.cell? ⟨g2, o2 + k * 5 + 3, none⟩ = some (.int .u8 y.st) ∧ X.cell? ⟨g2, o2 + k * 5 + 4, none⟩ = some (.slice y.da y.dl y.dc)) ∧ g1 < X.heap.size ∧ g2 < X.heap.size)) (by kernel_rfl) ⟨⟨c0, c1, c2, c3, c4⟩, ⟨d0, d1, d2, d3, d4⟩, e1, f1⟩ (fun hHeld => ?_)
        ((refine wpAnyH_take (i := 0) (v := ?_) (by (simp only [List.getElem?_toArray, List.getElem?_cons_succ, List.getElem?_cons_zero]); rfl) (by kernel_rfl) (by kernel_rfl) (by kernel_rfl) (by exact fun _ _ _ h => h) (Or.inl ⟨by rfl, ?_⟩) (by assumption) ?_); rotate_left; focus (intro wS hSw; (try dsimp only at hSw); go_simp; first | done | with_reducible rfl); try simp only [Act.put, List.setIfInBounds_toArray, List.set_cons_zero, List.set_cons_succ])
        ((refine wpAnyH_take (i := 1) (v := ?_) (by (simp only [List.getElem?_toArray, List.getElem?_cons_succ, List.getElem?_cons_zero]); rfl) (by kernel_rfl) (by kernel_rfl) (by kernel_rfl) (by exact fun _ _ _ h => h) (Or.inl ⟨by rfl, ?_⟩) (by assumption) ?_); rotate_left; focus (intro wS hSw; (try dsimp only at hSw); go_simp; first | done | with_reducible rfl); try simp only [Act.put, List.setIfInBounds_toArray, List.set_cons_zero, List.set_cons_succ])
        ((refine wpAnyH_take (i := 2) (v := ?_) (by (simp only [List.getElem?_toArray, List.getElem?_cons_succ, List.getElem?_cons_zero]); rfl) (by kernel_rfl) (by kernel_rfl) (by kernel_rfl) (by exact fun _ _ _ h => h) (Or.inl ⟨by rfl, ?_⟩) (by assumption) ?_); rotate_left; focus (intro wS hSw; (try dsimp only at hSw); go_simp; first | done | with_reducible rfl); try simp only [Act.put, List.setIfInBounds_toArray, List.set_cons_zero, List.set_cons_succ])
        ((refine wpAnyH_take (i := 3) (v := ?_) (by (simp only [List.getElem?_toArray, List.getElem?_cons_succ, List.getElem?_cons_zero]); rfl) (by kernel_rfl) (by kernel_rfl) (by kernel_rfl) (by exact fun _ _ _ h => h) (Or.inl ⟨by rfl, ?_⟩) (by assumption) ?_); rotate_left; focus (intro wS hSw; (try dsimp only at hSw); go_simp; first | done | with_reducible rfl); try simp only [Act.put, List.setIfInBounds_toArray, List.set_cons_zero, List.set_cons_succ])
        ((refine wpAnyH_take (i := 4) (v := ?_) (by (simp only [List.getElem?_toArray, List.getElem?_cons_succ, List.getElem?_cons_zero]); rfl) (by kernel_rfl) (by kernel_rfl) (by kernel_rfl) (by exact fun _ _ _ h => h) (Or.inl ⟨by rfl, ?_⟩) (by assumption) ?_); rotate_left; focus (intro wS hSw; (try dsimp only at hSw); go_simp; first | done | with_reducible rfl); try simp only [Act.put, List.setIfInBounds_toArray, List.set_cons_zero, List.set_cons_succ])
        ((refine wpAnyH_take (i := 5) (v := ?_) (by (simp only [List.getElem?_toArray, List.getElem?_cons_succ, List.getElem?_cons_zero]); rfl) (by kernel_rfl) (by kernel_rfl) (by kernel_rfl) (by exact fun _ _ _ h => h) (Or.inl ⟨by (go_simp; try rfl), ?_⟩) (by assumption) ?_); rotate_left; focus (intro wS hSw; (try dsimp only at hSw); go_simp; first | done | with_reducible rfl); try simp only [Act.put, List.setIfInBounds_toArray, List.set_cons_zero, List.set_cons_succ])
        ((refine wpAnyH_take (i := 6) (v := ?_) (by (simp only [List.getElem?_toArray, List.getElem?_cons_succ, List.getElem?_cons_zero]); rfl) (by kernel_rfl) (by kernel_rfl) (by kernel_rfl) (by exact fun _ _ _ h => h) (Or.inl ⟨by (go_simp; try rfl), ?_⟩) (by assumption) ?_); rotate_left; focus (intro wS hSw; (try dsimp only at hSw); go_simp; first | done | with_reducible rfl); try simp only [Act.put, List.setIfInBounds_toArray, List.set_cons_zero, List.set_cons_succ])
        ((refine wpAnyH_take (i := 7) (v := ?_) (by (simp only [List.getElem?_toArray, List.getElem?_cons_succ, List.getElem?_cons_zero]); rfl) (by kernel_rfl) (by kernel_rfl) (by kernel_rfl) (by exact fun _ _ _ h => h) (Or.inl ⟨by (go_simp; try rfl), ?_⟩) (by assumption) ?_); rotate_left; focus (intro wS hSw; (try dsimp only at hSw); go_simp; first | done | with_reducible rfl); try simp only [Act.put, List.setIfInBounds_toArray, List.set_cons_zero, List.set_cons_succ])
        ((refine wpAnyH_take (i := 8) (v := ?_) (by (simp only [List.getElem?_toArray, List.getElem?_cons_succ, List.getElem?_cons_zero]); rfl) (by kernel_rfl) (by kernel_rfl) (by kernel_rfl) (by exact fun _ _ _ h => h) (Or.inl ⟨by (go_simp; try rfl), ?_⟩) (by assumption) ?_); rotate_left; focus (intro wS hSw; (try dsimp only at hSw); go_simp; first | done | with_reducible rfl); try simp only [Act.put, List.setIfInBounds_toArray, List.set_cons_zero, List.set_cons_succ])
        ((refine wpAnyH_take (i := 9) (v := ?_) (by (simp only [List.getElem?_toArray, List.getElem?_cons_succ, List.getElem?_cons_zero]); rfl) (by kernel_rfl) (by kernel_rfl) (by kernel_rfl) (by exact fun _ _ _ h => h) (Or.inl ⟨by rfl, ?_⟩) (by assumption) ?_); rotate_left; focus (intro wS hSw; (try dsimp only at hSw); go_simp; first | done | with_reducible rfl); try simp only [Act.put, List.setIfInBounds_toArray, List.set_cons_zero, List.set_cons_succ])
        ((refine wpAnyH_take (i := 10) (v := ?_) (by (simp only [List.getElem?_toArray, List.getElem?_cons_succ, List.getElem?_cons_zero]); rfl) (by kernel_rfl) (by kernel_rfl) (by kernel_rfl) (by exact fun _ _ _ h => h) (Or.inl ⟨by rfl, ?_⟩) (by assumption) ?_); rotate_left; focus (intro wS hSw; (try dsimp only at hSw); go_simp; first | done | with_reducible rfl); try simp only [Act.put, List.setIfInBounds_toArray, List.set_cons_zero, List.set_cons_succ])
        ((refine wpAnyH_take (i := 11) (v := ?_) (by (simp only [List.getElem?_toArray, List.getElem?_cons_succ, List.getElem?_cons_zero]); rfl) (by kernel_rfl) (by kernel_rfl) (by kernel_rfl) (by exact fun _ _ _ h => h) (Or.inl ⟨by (go_simp; try rfl), ?_⟩) (by assumption) ?_); rotate_left; focus (intro wS hSw; (try dsimp only at hSw); go_simp; first | done | with_reducible rfl); try simp only [Act.put, List.setIfInBounds_toArray, List.set_cons_zero, List.set_cons_succ])
        ((refine wpAnyH_take (i := 12) (v := ?_) (by (simp only [List.getElem?_toArray, List.getElem?_cons_succ, List.getElem?_cons_zero]); rfl) (by kernel_rfl) (by kernel_rfl) (by kernel_rfl) (by exact fun _ _ _ h => h) (Or.inl ⟨by (go_simp; try rfl), ?_⟩) (by assumption) ?_); rotate_left; focus (intro wS hSw; (try dsimp only at hSw); go_simp; first | done | with_reducible rfl); try simp only [Act.put, List.setIfInBounds_toArray, List.set_cons_zero, List.set_cons_succ])
        ((refine wpAnyH_take (i := 13) (v := ?_) (by (simp only [List.getElem?_toArray, List.getElem?_cons_succ, List.getElem?_cons_zero]); rfl) (by kernel_rfl) (by kernel_rfl) (by kernel_rfl) (by exact fun _ _ _ h => h) (Or.inl ⟨by (go_simp; try rfl), ?_⟩) (by assumption) ?_); rotate_left; focus (intro wS hSw; (try dsimp only at hSw); go_simp; first | done | with_reducible rfl); try simp only [Act.put, List.setIfInBounds_toArray, List.set_cons_zero, List.set_cons_succ])
        ((refine wpAnyH_take (i := 14) (v := ?_) (by (simp only [List.getElem?_toArray, List.getElem?_cons_succ, List.getElem?_cons_zero]); rfl) (by kernel_rfl) (by kernel_rfl) (by kernel_rfl) (by exact fun _ _ _ h => h) (Or.inl ⟨by (go_simp; try rfl), ?_⟩) (by assumption) ?_); rotate_left; focus (intro wS hSw; (try dsimp only at hSw); go_simp; first | done | with_reducible rfl); try simp only [Act.put, List.setIfInBounds_toArray, List.set_cons_zero, List.set_cons_succ])
        ((refine wpAnyH_take (i := 15) (v := ?_) (by (simp only [List.getElem?_toArray, List.getElem?_cons_succ, List.getElem?_cons_zero]); rfl) (by kernel_rfl) (by kernel_rfl) (by kernel_rfl) (by exact fun _ _ _ h => h) (Or.inl ⟨by (go_simp; try rfl), ?_⟩) (by assumption) ?_); rotate_left; focus (intro wS hSw; (try dsimp only at hSw); go_simp; first | done | with_reducible rfl); try simp only [Act.put, List.setIfInBounds_toArray, List.set_cons_zero, List.set_cons_succ])
        ((refine wpAnyH_take (i := 16) (v := ?_) (by (simp only [List.getElem?_toArray, List.getElem?_cons_succ, List.getElem?_cons_zero]); rfl) (by kernel_rfl) (by kernel_rfl) (by kernel_rfl) (by exact fun _ _ _ h => h) (Or.inl ⟨by (go_simp; try rfl), ?_⟩) (by assumption) ?_); rotate_left; focus (intro wS hSw; (try dsimp only at hSw); go_simp; first | done | with_reducible rfl); try simp only [Act.put, List.setIfInBounds_toArray, List.set_cons_zero, List.set_cons_succ])
        ((refine wpAnyH_take (i := 17) (v := ?_) (by (simp only [List.getElem?_toArray, List.getElem?_cons_succ, List.getElem?_cons_zero]); rfl) (by kernel_rfl) (by kernel_rfl) (by kernel_rfl) (by exact fun _ _ _ h => h) (Or.inl ⟨by (go_simp; try rfl), ?_⟩) (by assumption) ?_); rotate_left; focus (intro wS hSw; (try dsimp only at hSw); go_simp; first | done | with_reducible rfl); try simp only [Act.put, List.setIfInBounds_toArray, List.set_cons_zero, List.set_cons_succ])
        ((refine wpAnyH_take (i := 18) (v := ?_) (by (simp only [List.getElem?_toArray, List.getElem?_cons_succ, List.getElem?_cons_zero]); rfl) (by kernel_rfl) (by kernel_rfl) (by kernel_rfl) (by exact fun _ _ _ h => h) (Or.inl ⟨by (go_simp; try rfl), ?_⟩) (by assumption) ?_); rotate_left; focus (intro wS hSw; (try dsimp only at hSw); go_simp; first | done | with_reducible rfl); try simp only [Act.put, List.setIfInBounds_toArray, List.set_cons_zero, List.set_cons_succ])
        ((refine wpAnyH_take (i := 19) (v := ?_) (by (simp only [List.getElem?_toArray, List.getElem?_cons_succ, List.getElem?_cons_zero]); rfl) (by kernel_rfl) (by kernel_rfl) (by kernel_rfl) (by exact fun _ _ _ h => h) (Or.inl ⟨by (go_simp; try rfl), ?_⟩) (by assumption) ?_); rotate_left; focus (intro wS hSw; (try dsimp only at hSw); go_simp; first | done | with_reducible rfl); try simp only [Act.put, List.setIfInBounds_toArray, List.set_cons_zero, List.set_cons_succ])
        refine wpAnyH_ready (rs := [20]) (by kernel_rfl) (by simp) ?_
        refine AllReadyH.cons (by (simp only [List.getElem?_toArray, List.getElem?_cons_succ, List.getElem?_cons_zero]); rfl) (fun K hK => ?_) AllReadyH.nil
        go_simp
        refine Calls.mono (HLY.out _) ?_
        rintro e W3 ⟨rfl, hB3⟩
        have HB3 := Lib.hid (HB.out.trans ((((Below.refl wr.heap.size wr).drew).trans hB3).mono HB.out.size))
        go_wp2_with fail
        refine hK.out _ _ ⟨⟨(hB3.cell (p := ⟨g1, _, none⟩) e1).trans c0, (hB3.cell (p := ⟨g1, _, none⟩) e1).trans c1, (hB3.cell (p := ⟨g1, _, none⟩) e1).trans c2, (hB3.cell (p := ⟨g1, _, none⟩) e1).trans c3, (hB3.cell (p := ⟨g1, _, none⟩) e1).trans c4⟩, ⟨(hB3.cell (p := ⟨g2, _, none⟩) f1).trans d0, (hB3.cell (p := ⟨g2, _, none⟩) f1).trans d1, (hB3.cell (p := ⟨g2, _, none⟩) f1).trans d2, (hB3.cell (p := ⟨g2, _, none⟩) f1).trans d3, (hB3.cell (p := ⟨g2, _, none⟩) f1).trans d4⟩, Nat.lt_of_lt_of_le e1 hB3.size, Nat.lt_of_lt_of_le f1 hB3.size⟩ (fun hHeld => ?_)
        clear hK K hB3
        try simp only [Act.put, List.setIfInBounds_toArray, List.set_cons_zero, List.set_cons_succ]
        ((refine wpAnyH_take (i := 21) (v := ?_) (by (simp only [List.getElem?_toArray, List.getElem?_cons_succ, List.getElem?_cons_zero]); rfl) (by kernel_rfl) (by kernel_rfl) (by kernel_rfl) (by exact fun _ _ _ h => h) (Or.inl ⟨by (go_simp; try rfl), ?_⟩) (by assumption) ?_); rotate_left; focus (intro wS hSw; (try dsimp only at hSw); go_simp; first | done | with_reducible rfl); try simp only [Act.put, List.setIfInBounds_toArray, List.set_cons_zero, List.set_cons_succ])
        ((refine wpAnyH_take (i := 22) (v := ?_) (by (simp only [List.getElem?_toArray, List.getElem?_cons_succ, List.getElem?_cons_zero]); rfl) (by kernel_rfl) (by kernel_rfl) (by kernel_rfl) (by exact fun _ _ _ h => h) (Or.inl ⟨by rfl, ?_⟩) (by assumption) ?_); rotate_left; focus (intro wS hSw; (try dsimp only at hSw); go_simp; first | done | with_reducible rfl); try simp only [Act.put, List.setIfInBounds_toArray, List.set_cons_zero, List.set_cons_succ])
        ((refine wpAnyH_take (i := 23) (v := ?_) (by (simp only [List.getElem?_toArray, List.getElem?_cons_succ, List.getElem?_cons_zero]); rfl) (by kernel_rfl) (by kernel_rfl) (by kernel_rfl) (by exact fun _ _ _ h => h) (Or.inl ⟨by rfl, ?_⟩) (by assumption) ?_); rotate_left; focus (intro wS hSw; (try dsimp only at hSw); go_simp; first | done | with_reducible rfl); try simp only [Act.put, List.setIfInBounds_toArray, List.set_cons_zero, List.set_cons_succ])
        refine wpAnyH_done (by kernel_rfl) ?_ _
        go_wp2_with fail
        rw [Exit.noGoto_ret]
        go_ret
        exact ⟨rfl, HB3.out⟩
    · have hkP : k = P := by omega
      by_cases ha : k = n1 ∧ k = n2
      · obtain ⟨ha1, ha2⟩ := ha
        have hRx : R = -1 := by rw [HR.out, if_pos (by omega)]
        subst hRx
        have ff1 : ((k : Int) = n1) = True := eq_true (by omega)
        have ff2 : ((k : Int) == n1) = true := by rw [beq_iff_eq]; omega
        have ff3 : (k = n1) = True := eq_true (by omega)
        have ff4 : ((k : Int) = n2) = True := eq_true (by omega)
        have ff5 : ((k : Int) == n2) = true := by rw [beq_iff_eq]; omega
        have ff6 : (k = n2) = True := eq_true (by omega)
        clear ha1 ha2 hb hkP
        go_wp2_with fail
        rw [Exit.noGoto_ret]
        go_ret
        exact ⟨rfl, HB.out⟩
      · have hRx : R = (k : Nat) := by rw [HR.out, if_neg (by omega), hkP]
        subst hRx
        by_cases hc : k = n1
        · have hc2 : ¬ k = n2 := fun e => ha ⟨hc, e⟩
          have ff1 : ((k : Int) = n1) = True := eq_true (by omega)
          have ff2 : ((k : Int) == n1) = true := by rw [beq_iff_eq]; omega
          have ff3 : (k = n1) = True := eq_true (by omega)
          have ff4 : ((k : Int) = n2) = False := eq_false (by omega)
          have ff5 : ((k : Int) == n2) = false := by rw [beq_eq_false_iff_ne]; omega
          have ff6 : (k = n2) = False := eq_false (by omega)
          clear ha hc hc2 hb hkP
          go_wp2_with fail
          (refine wp_region_quiet_lit (by kernel_rfl) (by kernel_rfl) ?_; (repeat (first | go_big_quiet_step (fail) | (refine BigFrame.wpQuiet_skip (by rfl) ?_; try simp only [Act.put, List.setIfInBounds_toArray, List.set_cons_zero, List.set_cons_succ]))); refine wpQuiet_nil ?_; intro _ hw9; obtain ⟨nq, hw8⟩ := hw9; subst hw8)
          go_wp2_with fail
          rw [Exit.noGoto_ret]
          go_ret
          exact ⟨rfl, below_dN HB.out nq⟩
        · have hc2 : k = n2 := by omega
          have ff1 : ((k : Int) = n1) = False := eq_false (by omega)
          have ff2 : ((k : Int) == n1) = false := by rw [beq_eq_false_iff_ne]; omega
          have ff3 : (k = n1) = False := eq_false (by omega)
          have ff4 : ((k : Int) = n2) = True := eq_true (by omega)
          have ff5 : ((k : Int) == n2) = true := by rw [beq_iff_eq]; omega
          have ff6 : (k = n2) = True := eq_true (by omega)
          clear ha hc hc2 hb hkP
          go_wp2_with fail
          (refine wp_region_quiet_lit (by kernel_rfl) (by kernel_rfl) ?_; (repeat (first | go_big_quiet_step (fail) | (refine BigFrame.wpQuiet_skip (by rfl) ?_; try simp only [Act.put, List.setIfInBounds_toArray, List.set_cons_zero, List.set_cons_succ]))); refine wpQuiet_nil ?_; intro _ hw9; obtain ⟨nq, hw8⟩ := hw9; subst hw8)
          go_wp2_with fail
          rw [Exit.noGoto_ret]
          go_ret
          exact ⟨rfl, below_dN HB.out nq⟩
end Go.Proofs.Ytcadinoijclfnaa
