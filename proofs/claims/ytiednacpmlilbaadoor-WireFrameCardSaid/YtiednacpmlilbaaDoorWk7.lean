/-
  Frames: the document's, back.
-/
import Derived.Test.YtiednacpmlilbaaDoorWk6
namespace Go.Proofs.YtiednacpmlilbaaDoor
open Go.RowKit
set_option linter.unusedSimpArgs false
set_option linter.unusedVariables false

set_option maxRecDepth 100000 in
set_option maxHeartbeats 8000000 in
theorem runframe_any (w : World) (v : Value) (l : List Nat) (hv : BV w v l) (hl : l.length ≤ 900000) :
    Calls Tryd.prog 39 #[v] w fun e w' => Below w.heap.size w w' ∧ match unfL l with
      | none => e = .returned (.tuple #[.slice none 0 0, .int .i64 0, .int .i64 50])
      | some (x, u) => ∃ v', e = .returned (.tuple #[v', .int .i64 (u : Nat), .int .i64 0]) ∧ BV w' v' x := by
  have hv0 := hv
  have hok := hv.ok
  obtain ⟨a, n, c, rfl, hn, h1, h2⟩ := hv.sh
  have HN := Lib.hid hn.out
  have hnl : n ≤ 900000 := by rw [hn.out]; exact hl
  by_cases h8 : n < 8
  · have d1 : ((n : Int) < 8) = True := eq_true (by omega)
    have d2 : (n < 8) = True := eq_true h8
    rw [show unfL l = none by unfold unfL; rw [if_pos (by rw [← hn.out]; exact h8)]]
    clear hv hv0 hn
    go_enter Tryd.func39, Tryd.ntmps39
    go_wp2_with fail
    exact bodyPost_ret (v := .tuple #[.slice none 0 0, .int .i64 0, .int .i64 50]) (by simp [results, Tryd.results39, go_sem]) rfl ⟨Below.refl _ _, rfl⟩
  obtain ⟨R, hR⟩ : ∃ R, R = unfL l := ⟨_, rfl⟩
  rw [← hR]
  have HR := Lib.hid hR
  clear hR
  have d1 : ((n : Int) < 8) = False := eq_false (by omega)
  have d2 : (n < 8) = False := eq_false h8
  have hl8 : 8 ≤ l.length := by rw [← hn.out]; omega
  have hn8 : 8 ≤ n := by omega
  have HD0 := Lib.hid (d4_lt hok (by omega))
  have HOK := Lib.hid hok
  have HV := Lib.hid hv0
  have hvd := hv0.below (drew_b w)
  obtain ⟨g, o, x0, rfl, hg, e0, k0, b0⟩ := hvd.at 0 (by omega)
  obtain ⟨g1, o1, x1, ea, _, e1, k1, b1⟩ := hvd.at 1 (by omega)
  obtain ⟨rfl, rfl⟩ : g1 = g ∧ o1 = o := by injection ea with ea; injection ea with p q; exact ⟨p.symm, q.symm⟩
  obtain ⟨g2, o2, x2, ea, _, e2, k2, b2⟩ := hvd.at 2 (by omega)
  obtain ⟨rfl, rfl⟩ : g2 = g1 ∧ o2 = o1 := by injection ea with ea; injection ea with p q; exact ⟨p.symm, q.symm⟩
  obtain ⟨g3, o3, x3, ea, _, e3, k3, b3⟩ := hvd.at 3 (by omega)
  obtain ⟨rfl, rfl⟩ : g3 = g2 ∧ o3 = o2 := by injection ea with ea; injection ea with p q; exact ⟨p.symm, q.symm⟩
  have hd : d4 l = ((x0 * 256 + x1) * 256 + x2) * 256 + x3 := by unfold d4 gB; rw [e0, e1, e2, e3]; rfl
  have w0 : IntKind.i64.wrap (x0 : Int) = (x0 : Int) := IntWalk.i64_in _ (by omega)
  have w1 : IntKind.i64.wrap (x1 : Int) = (x1 : Int) := IntWalk.i64_in _ (by omega)
  have w2 : IntKind.i64.wrap (x2 : Int) = (x2 : Int) := IntWalk.i64_in _ (by omega)
  have w3 : IntKind.i64.wrap (x3 : Int) = (x3 : Int) := IntWalk.i64_in _ (by omega)
  obtain ⟨A0, hA0⟩ : ∃ A, A = x0 * 16777216 := ⟨_, rfl⟩
  obtain ⟨A1, hA1⟩ : ∃ A, A = x1 * 65536 := ⟨_, rfl⟩
  obtain ⟨A2, hA2⟩ : ∃ A, A = x2 * 256 := ⟨_, rfl⟩
  have s0 : IntKind.i64.wrap ((x0 : Int) * 16777216) = ((A0 : Nat) : Int) := by rw [hA0, IntWalk.i64_in _ (by omega)]; omega
  have s1 : IntKind.i64.wrap ((x1 : Int) * 65536) = ((A1 : Nat) : Int) := by rw [hA1, IntWalk.i64_in _ (by omega)]; omega
  have s2 : IntKind.i64.wrap ((x2 : Int) * 256) = ((A2 : Nat) : Int) := by rw [hA2, IntWalk.i64_in _ (by omega)]; omega
  have r1 := or_i64 (A := A0) (B := A1) (C := x0) (i := 24) (by omega) (by omega) (by omega)
  obtain ⟨B1, hB1⟩ : ∃ B, B = A0 + A1 := ⟨_, rfl⟩
  rw [← hB1] at r1
  have r2 := or_i64 (A := B1) (B := A2) (C := x0 * 256 + x1) (i := 16) (by omega) (by omega) (by omega)
  obtain ⟨B2, hB2⟩ : ∃ B, B = B1 + A2 := ⟨_, rfl⟩
  rw [← hB2] at r2
  have r3 := or_i64 (A := B2) (B := x3) (C := (x0 * 256 + x1) * 256 + x2) (i := 8) (by omega) (by omega) (by omega)
  rw [show B2 + x3 = ((x0 * 256 + x1) * 256 + x2) * 256 + x3 by omega] at r3
  obtain ⟨D, hD⟩ : ∃ D, D = ((x0 * 256 + x1) * 256 + x2) * 256 + x3 := ⟨_, rfl⟩
  rw [← hD] at r3
  have i0 : (0 < n) = True := eq_true (by omega)
  have i1 : (1 < n) = True := eq_true (by omega)
  have i2 : (2 < n) = True := eq_true (by omega)
  have i3 : (3 < n) = True := eq_true (by omega)
  have j1 : ((1 : Int) < (n : Int)) = True := eq_true (by omega)
  have j2 : ((2 : Int) < (n : Int)) = True := eq_true (by omega)
  have j3 : ((3 : Int) < (n : Int)) = True := eq_true (by omega)
  have HDD : Hid (D = d4 l) := Lib.hid (by rw [hD, hd])
  have hDlt : D < 4294967296 := by rw [HDD.out]; exact HD0.out
  have i0 : (0 < n) = True := eq_true (by omega)
  have i1 : (1 < n) = True := eq_true (by omega)
  have i2 : (2 < n) = True := eq_true (by omega)
  have i3 : (3 < n) = True := eq_true (by omega)
  have j1 : ((1 : Int) < (n : Int)) = True := eq_true (by omega)
  have j2 : ((2 : Int) < (n : Int)) = True := eq_true (by omega)
  have j3 : ((3 : Int) < (n : Int)) = True := eq_true (by omega)
  have HB := Lib.hid (drew_b w)
  have HK := Lib.hid (And.intro k0 (And.intro k1 (And.intro k2 k3)))
  have cn8 : IntKind.i64.wrap ((n : Int) - 8) = ((n - 8 : Nat) : Int) := by rw [IntWalk.i64_in _ (by omega)]; omega
  obtain ⟨m8, hm8⟩ : ∃ m, m = n - 8 := ⟨_, rfl⟩
  rw [← hm8] at cn8
  have HM := Lib.hid hm8
  clear hm8 hD hB2 hB1 hA0 hA1 hA2 hd e0 e1 e2 e3 k0 k1 k2 k3 hok hvd hn hl hv hv0 b0 b1 b2 b3 hl8
  go_enter Tryd.func39, Tryd.ntmps39
  go_upto_region 3 with fail
  refine wp_region_held_drew (S := fun X => X.cell? ⟨g3, o3, none⟩ = some (.int .u8 (x0 : Nat)) ∧ X.cell? ⟨g3, o3 + 1, none⟩ = some (.int .u8 (x1 : Nat)) ∧ X.cell? ⟨g3, o3 + 2, none⟩ = some (.int .u8 (x2 : Nat)) ∧ X.cell? ⟨g3, o3 + 3, none⟩ = some (.int .u8 (x3 : Nat))) (by kernel_rfl) HK.out (fun hHeld => ?_)
  ((refine wpAnyH_take (i := 0) (v := ?_) (by (simp only [List.getElem?_toArray, List.getElem?_cons_succ, List.getElem?_cons_zero]); rfl) (by kernel_rfl) (by kernel_rfl) (by kernel_rfl) (by exact fun _ _ _ h => h) (Or.inl ⟨by rfl, ?_⟩) (by assumption) ?_); rotate_left; focus (intro wS hSw; (try dsimp only at hSw); go_simp; first | done | with_reducible rfl); try simp only [Act.put, List.setIfInBounds_toArray, List.set_cons_zero, List.set_cons_succ])
  ((refine wpAnyH_take (i := 1) (v := ?_) (by (simp only [List.getElem?_toArray, List.getElem?_cons_succ, List.getElem?_cons_zero]); rfl) (by kernel_rfl) (by kernel_rfl) (by kernel_rfl) (by exact fun _ _ _ h => h) (Or.inl ⟨by rfl, ?_⟩) (by assumption) ?_); rotate_left; focus (intro wS hSw; (try dsimp only at hSw); go_simp; first | done | with_reducible rfl); try simp only [Act.put, List.setIfInBounds_toArray, List.set_cons_zero, List.set_cons_succ])
  ((refine wpAnyH_take (i := 2) (v := ?_) (by (simp only [List.getElem?_toArray, List.getElem?_cons_succ, List.getElem?_cons_zero]); rfl) (by kernel_rfl) (by kernel_rfl) (by kernel_rfl) (by exact fun _ _ _ h => h) (Or.inl ⟨by rfl, ?_⟩) (by assumption) ?_); rotate_left; focus (intro wS hSw; (try dsimp only at hSw); go_simp; first | done | with_reducible rfl); try simp only [Act.put, List.setIfInBounds_toArray, List.set_cons_zero, List.set_cons_succ])
  ((refine wpAnyH_take (i := 3) (v := ?_) (by (simp only [List.getElem?_toArray, List.getElem?_cons_succ, List.getElem?_cons_zero]); rfl) (by kernel_rfl) (by kernel_rfl) (by kernel_rfl) (by exact fun _ _ _ h => h) (Or.inl ⟨by rfl, ?_⟩) (by assumption) ?_); rotate_left; focus (intro wS hSw; (try dsimp only at hSw); go_simp; first | done | with_reducible rfl); try simp only [Act.put, List.setIfInBounds_toArray, List.set_cons_zero, List.set_cons_succ])
  ((refine wpAnyH_take (i := 4) (v := ?_) (by (simp only [List.getElem?_toArray, List.getElem?_cons_succ, List.getElem?_cons_zero]); rfl) (by kernel_rfl) (by kernel_rfl) (by kernel_rfl) (by exact fun _ _ _ h => h) (Or.inl ⟨by rfl, ?_⟩) (by assumption) ?_); rotate_left; focus (intro wS hSw; (try dsimp only at hSw); go_simp; first | done | with_reducible rfl); try simp only [Act.put, List.setIfInBounds_toArray, List.set_cons_zero, List.set_cons_succ])
  ((refine wpAnyH_take (i := 5) (v := ?_) (by (simp only [List.getElem?_toArray, List.getElem?_cons_succ, List.getElem?_cons_zero]); rfl) (by kernel_rfl) (by kernel_rfl) (by kernel_rfl) (by exact fun _ _ _ h => h) (Or.inl ⟨by rfl, ?_⟩) (by assumption) ?_); rotate_left; focus (intro wS hSw; (try dsimp only at hSw); go_simp; first | done | with_reducible rfl); try simp only [Act.put, List.setIfInBounds_toArray, List.set_cons_zero, List.set_cons_succ])
  ((refine wpAnyH_take (i := 6) (v := ?_) (by (simp only [List.getElem?_toArray, List.getElem?_cons_succ, List.getElem?_cons_zero]); rfl) (by kernel_rfl) (by kernel_rfl) (by kernel_rfl) (by exact fun _ _ _ h => h) (Or.inl ⟨by rfl, ?_⟩) (by assumption) ?_); rotate_left; focus (intro wS hSw; (try dsimp only at hSw); go_simp; first | done | with_reducible rfl); try simp only [Act.put, List.setIfInBounds_toArray, List.set_cons_zero, List.set_cons_succ])
  ((refine wpAnyH_take (i := 7) (v := ?_) (by (simp only [List.getElem?_toArray, List.getElem?_cons_succ, List.getElem?_cons_zero]); rfl) (by kernel_rfl) (by kernel_rfl) (by kernel_rfl) (by exact fun _ _ _ h => h) (Or.inl ⟨by rfl, ?_⟩) (by assumption) ?_); rotate_left; focus (intro wS hSw; (try dsimp only at hSw); go_simp; first | done | with_reducible rfl); try simp only [Act.put, List.setIfInBounds_toArray, List.set_cons_zero, List.set_cons_succ])
  ((refine wpAnyH_take (i := 8) (v := ?_) (by (simp only [List.getElem?_toArray, List.getElem?_cons_succ, List.getElem?_cons_zero]); rfl) (by kernel_rfl) (by kernel_rfl) (by kernel_rfl) (by exact fun _ _ _ h => h) (Or.inl ⟨by rfl, ?_⟩) (by assumption) ?_); rotate_left; focus (intro wS hSw; (try dsimp only at hSw); go_simp; first | done | with_reducible rfl); try simp only [Act.put, List.setIfInBounds_toArray, List.set_cons_zero, List.set_cons_succ])
  ((refine wpAnyH_take (i := 9) (v := ?_) (by (simp only [List.getElem?_toArray, List.getElem?_cons_succ, List.getElem?_cons_zero]); rfl) (by kernel_rfl) (by kernel_rfl) (by kernel_rfl) (by exact fun _ _ _ h => h) (Or.inl ⟨by rfl, ?_⟩) (by assumption) ?_); rotate_left; focus (intro wS hSw; (try dsimp only at hSw); go_simp; first | done | with_reducible rfl); try simp only [Act.put, List.setIfInBounds_toArray, List.set_cons_zero, List.set_cons_succ])
  ((refine wpAnyH_take (i := 10) (v := ?_) (by (simp only [List.getElem?_toArray, List.getElem?_cons_succ, List.getElem?_cons_zero]); rfl) (by kernel_rfl) (by kernel_rfl) (by kernel_rfl) (by exact fun _ _ _ h => h) (Or.inl ⟨by rfl, ?_⟩) (by assumption) ?_); rotate_left; focus (intro wS hSw; (try dsimp only at hSw); go_simp; first | done | with_reducible rfl); try simp only [Act.put, List.setIfInBounds_toArray, List.set_cons_zero, List.set_cons_succ])
  ((refine wpAnyH_take (i := 11) (v := ?_) (by (simp only [List.getElem?_toArray, List.getElem?_cons_succ, List.getElem?_cons_zero]); rfl) (by kernel_rfl) (by kernel_rfl) (by kernel_rfl) (by exact fun _ _ _ h => h) (Or.inl ⟨by rfl, ?_⟩) (by assumption) ?_); rotate_left; focus (intro wS hSw; (try dsimp only at hSw); go_simp; first | done | with_reducible rfl); try simp only [Act.put, List.setIfInBounds_toArray, List.set_cons_zero, List.set_cons_succ])
  ((refine wpAnyH_take (i := 12) (v := ?_) (by (simp only [List.getElem?_toArray, List.getElem?_cons_succ, List.getElem?_cons_zero]); rfl) (by kernel_rfl) (by kernel_rfl) (by kernel_rfl) (by exact fun _ _ _ h => h) (Or.inl ⟨by rfl, ?_⟩) (by assumption) ?_); rotate_left; focus (intro wS hSw; (try dsimp only at hSw); go_simp; first | done | with_reducible rfl); try simp only [Act.put, List.setIfInBounds_toArray, List.set_cons_zero, List.set_cons_succ])
  ((refine wpAnyH_take (i := 13) (v := ?_) (by (simp only [List.getElem?_toArray, List.getElem?_cons_succ, List.getElem?_cons_zero]); rfl) (by kernel_rfl) (by kernel_rfl) (by kernel_rfl) (by exact fun _ _ _ h => h) (Or.inl ⟨by rfl, ?_⟩) (by assumption) ?_); rotate_left; focus (intro wS hSw; (try dsimp only at hSw); go_simp; first | done | with_reducible rfl); try simp only [Act.put, List.setIfInBounds_toArray, List.set_cons_zero, List.set_cons_succ])
  ((refine wpAnyH_take (i := 14) (v := ?_) (by (simp only [List.getElem?_toArray, List.getElem?_cons_succ, List.getElem?_cons_zero]); rfl) (by kernel_rfl) (by kernel_rfl) (by kernel_rfl) (by exact fun _ _ _ h => h) (Or.inl ⟨by rfl, ?_⟩) (by assumption) ?_); rotate_left; focus (intro wS hSw; (try dsimp only at hSw); go_simp; first | done | with_reducible rfl); try simp only [Act.put, List.setIfInBounds_toArray, List.set_cons_zero, List.set_cons_succ])
  ((refine wpAnyH_take (i := 15) (v := ?_) (by (simp only [List.getElem?_toArray, List.getElem?_cons_succ, List.getElem?_cons_zero]); rfl) (by kernel_rfl) (by kernel_rfl) (by kernel_rfl) (by exact fun _ _ _ h => h) (Or.inl ⟨by rfl, ?_⟩) (by assumption) ?_); rotate_left; focus (intro wS hSw; (try dsimp only at hSw); go_simp; first | done | with_reducible rfl); try simp only [Act.put, List.setIfInBounds_toArray, List.set_cons_zero, List.set_cons_succ])
  ((refine wpAnyH_take (i := 16) (v := ?_) (by (simp only [List.getElem?_toArray, List.getElem?_cons_succ, List.getElem?_cons_zero]); rfl) (by kernel_rfl) (by kernel_rfl) (by kernel_rfl) (by exact fun _ _ _ h => h) (Or.inl ⟨by rfl, ?_⟩) (by assumption) ?_); rotate_left; focus (intro wS hSw; (try dsimp only at hSw); go_simp; first | done | with_reducible rfl); try simp only [Act.put, List.setIfInBounds_toArray, List.set_cons_zero, List.set_cons_succ])
  ((refine wpAnyH_take (i := 17) (v := ?_) (by (simp only [List.getElem?_toArray, List.getElem?_cons_succ, List.getElem?_cons_zero]); rfl) (by kernel_rfl) (by kernel_rfl) (by kernel_rfl) (by exact fun _ _ _ h => h) (Or.inl ⟨by rfl, ?_⟩) (by assumption) ?_); rotate_left; focus (intro wS hSw; (try dsimp only at hSw); go_simp; first | done | with_reducible rfl); try simp only [Act.put, List.setIfInBounds_toArray, List.set_cons_zero, List.set_cons_succ])
  ((refine wpAnyH_take (i := 18) (v := ?_) (by (simp only [List.getElem?_toArray, List.getElem?_cons_succ, List.getElem?_cons_zero]); rfl) (by kernel_rfl) (by kernel_rfl) (by kernel_rfl) (by exact fun _ _ _ h => h) (Or.inl ⟨by rfl, ?_⟩) (by assumption) ?_); rotate_left; focus (intro wS hSw; (try dsimp only at hSw); go_simp; first | done | with_reducible rfl); try simp only [Act.put, List.setIfInBounds_toArray, List.set_cons_zero, List.set_cons_succ])
  ((refine wpAnyH_take (i := 19) (v := ?_) (by (simp only [List.getElem?_toArray, List.getElem?_cons_succ, List.getElem?_cons_zero]); rfl) (by kernel_rfl) (by kernel_rfl) (by kernel_rfl) (by exact fun _ _ _ h => h) (Or.inl ⟨by rfl, ?_⟩) (by assumption) ?_); rotate_left; focus (intro wS hSw; (try dsimp only at hSw); go_simp; first | done | with_reducible rfl); try simp only [Act.put, List.setIfInBounds_toArray, List.set_cons_zero, List.set_cons_succ])
  ((refine wpAnyH_take (i := 20) (v := ?_) (by (simp only [List.getElem?_toArray, List.getElem?_cons_succ, List.getElem?_cons_zero]); rfl) (by kernel_rfl) (by kernel_rfl) (by kernel_rfl) (by exact fun _ _ _ h => h) (Or.inl ⟨by rfl, ?_⟩) (by assumption) ?_); rotate_left; focus (intro wS hSw; (try dsimp only at hSw); go_simp; first | done | with_reducible rfl); try simp only [Act.put, List.setIfInBounds_toArray, List.set_cons_zero, List.set_cons_succ])
  ((refine wpAnyH_take (i := 21) (v := ?_) (by (simp only [List.getElem?_toArray, List.getElem?_cons_succ, List.getElem?_cons_zero]); rfl) (by kernel_rfl) (by kernel_rfl) (by kernel_rfl) (by exact fun _ _ _ h => h) (Or.inl ⟨by rfl, ?_⟩) (by assumption) ?_); rotate_left; focus (intro wS hSw; (try dsimp only at hSw); go_simp; first | done | with_reducible rfl); try simp only [Act.put, List.setIfInBounds_toArray, List.set_cons_zero, List.set_cons_succ])
  ((refine wpAnyH_take (i := 22) (v := ?_) (by (simp only [List.getElem?_toArray, List.getElem?_cons_succ, List.getElem?_cons_zero]); rfl) (by kernel_rfl) (by kernel_rfl) (by kernel_rfl) (by exact fun _ _ _ h => h) (Or.inl ⟨by rfl, ?_⟩) (by assumption) ?_); rotate_left; focus (intro wS hSw; (try dsimp only at hSw); go_simp; first | done | with_reducible rfl); try simp only [Act.put, List.setIfInBounds_toArray, List.set_cons_zero, List.set_cons_succ])
  refine wpAnyH_done (by kernel_rfl) ?_ _
  try simp only [Act.put, List.setIfInBounds_toArray, List.set_cons_zero, List.set_cons_succ]
  clear s0 s1 s2 r1 r2 r3 w0 w1 w2 w3 i0 i1 i2 i3 j1 j2 j3 HK
  obtain ⟨W2, hW2⟩ : ∃ X, X = w.drew := ⟨_, rfl⟩
  rw [← hW2] at HB ⊢
  clear hW2
  by_cases hbad : 65536 < D ∨ m8 < D
  · have HR0 : Hid (R = none) := Lib.hid (by rw [HR.out]; unfold unfL; rw [if_neg (by rw [← HN.out]; exact h8), if_pos (by rw [← HDD.out, ← HN.out, ← HM.out]; exact hbad)])
    by_cases hb1 : 65536 < D
    · have e1 : ((65536 : Int) < (D : Int)) = True := eq_true (by omega)
      have e2 : (65536 < D) = True := eq_true hb1
      go_wp2_with fail
      exact bodyPost_ret (v := .tuple #[.slice none 0 0, .int .i64 0, .int .i64 50]) (by simp [results, Tryd.results39, go_sem]) rfl ⟨HB.out, by first | rfl | rw [HR0.out]⟩
    · have hb2 : m8 < D := hbad.resolve_left hb1
      have e1 : ((65536 : Int) < (D : Int)) = False := eq_false (by omega)
      have e2 : (65536 < D) = False := eq_false hb1
      have e3 : ((m8 : Int) < (D : Int)) = True := eq_true (by omega)
      have e4 : (m8 < D) = True := eq_true hb2
      go_wp2_with fail
      exact bodyPost_ret (v := .tuple #[.slice none 0 0, .int .i64 0, .int .i64 50]) (by simp [results, Tryd.results39, go_sem]) rfl ⟨HB.out, by first | rfl | rw [HR0.out]⟩
  · have hb1 : ¬ 65536 < D := fun h => hbad (.inl h)
    have hb2 : ¬ m8 < D := fun h => hbad (.inr h)
    have hm8 := HM.out
    have e1 : ((65536 : Int) < (D : Int)) = False := eq_false (by omega)
    have e2 : (65536 < D) = False := eq_false hb1
    have e3 : ((m8 : Int) < (D : Int)) = False := eq_false (by omega)
    have e4 : (m8 < D) = False := eq_false hb2
    obtain ⟨U, hU⟩ : ∃ U, U = 8 + D := ⟨_, rfl⟩
    have cU : IntKind.i64.wrap (8 + (D : Int)) = (U : Int) := by rw [IntWalk.i64_in _ (by omega)]; omega
    have hbm := bv_mid (HV.out.below HB.out) 8 D (by omega)
    have hbm2 := fun W (hW : Below w.heap.size w W) => bv_mid (HV.out.below hW) 8 D (by omega)
    have hsl2 : ∀ W', (Instr.slice 23 (.slice (some ⟨g3, o3, none⟩) n c) (some (.int .i64 8)) (some (.int .i64 (U : Nat))) none).run Tryd.prog W' = .ok (.slice (midB (some ⟨g3, o3, none⟩) 8 c) D (c - 8)) W' := fun W' => by
      have := by_lh (a := some ⟨g3, o3, none⟩) (ln := n) (c := c) 8 U (by omega) (by omega) W'
      rw [show U - 8 = D by omega] at this
      exact this
    obtain ⟨a8, ha8⟩ : ∃ x, x = midB (some ⟨g3, o3, none⟩) 8 c := ⟨_, rfl⟩
    obtain ⟨c8, hc8⟩ : ∃ x, x = c - 8 := ⟨_, rfl⟩
    obtain ⟨x, hx⟩ : ∃ x, x = (l.drop 8).take D := ⟨_, rfl⟩
    rw [← ha8, ← hc8] at hbm hbm2 hsl2
    rw [← hx] at hbm hbm2
    have hxl : x.length = D := by rw [hx, List.length_take, List.length_drop, ← HN.out]; omega
    have HC := Lib.hid (rframe_any W2 _ x hbm (by omega))
    have HSAME := Lib.hid (head_same (l := l) (x := x) HOK.out (by rw [← HN.out]; exact hn8) (by rw [hxl, HDD.out]))
    have HUN : Hid (R = if sumL x = d4 (l.drop 4) then some (x, U) else none) := Lib.hid (by
      rw [HR.out]
      unfold unfL
      rw [if_neg (by rw [← HN.out]; exact h8), if_neg (by rw [← HDD.out, ← HN.out, ← HM.out]; exact hbad), ← HDD.out, ← hx, ← hU])
    have HX2 := Lib.hid hbm2
    have HXL := Lib.hid hxl
    have HFL : Hid ((frameL x).length = 8 + D) := Lib.hid (by unfold frameL; simp [f4]; omega)
    clear hbm hbm2 ha8 hc8 hx hxl hU hbad hm8
    go_wp2_with (refine Calls.mono HC.out ?_; rintro e W3 ⟨hB3, -, h3⟩; obtain ⟨v3, rfl, hv3⟩ := h3 (by rw [HXL.out]; exact hb1); obtain ⟨aw, nw, cw, rfl, hnw, hw1, hw2⟩ := hv3.sh; have HNW : Hid (nw = 8 + D) := Lib.hid (by rw [hnw.out, HFL.out]); have HV3 := Lib.hid hv3; have HB3 := Lib.hid (HB.out.trans (hB3.mono HB.out.size)); clear h3 hv3 hnw hB3 HC)
    go_loopw [8] (fun i wr => ∃ k : Nat, k ≤ 8 ∧ i = .int .i64 k ∧ Below w.heap.size w wr ∧ BV wr (.slice aw nw cw) (frameL x) ∧ ∀ j, j < k → gB (frameL x) j = gB l j) (fun i _ => 8 - (intOf i).toNat)
    case atStart => exact ⟨0, by omega, rfl, HB3.out, HV3.out, fun j hj => by omega⟩
    case round =>
      obtain ⟨k, hk, rfl, hB, hvw, hj⟩ := hrel
      have HBr := Lib.hid hB
      have HVr := Lib.hid hvw
      have HJ := Lib.hid hj
      clear hB hvw hj
      have hnw := HNW.out
      by_cases hlt : k < 8
      · obtain ⟨gw, ow, xw, rfl, hgw, ew, kw, bw⟩ := (HVr.out.below (drew_b wr)).at k (by omega)
        obtain ⟨gb, ob, xb, ea, hgb, eb, kb, bb⟩ := ((HV.out.below HBr.out).below (drew_b wr)).at k (by omega)
        injection ea with ea
        obtain ⟨rfl, rfl⟩ : gb = g3 ∧ ob = o3 := by injection ea with p q; exact ⟨p.symm, q.symm⟩
        have t0 : (k < 8) = True := eq_true hlt
        have t1 : (k < nw) = True := eq_true (by omega)
        have t2 : (k < n) = True := eq_true (by omega)
        have t3 : ((k : Int) < (nw : Int)) = True := eq_true (by omega)
        have t4 : ((k : Int) < (n : Int)) = True := eq_true (by omega)
        have gw1 : gB (frameL x) k = xw := by unfold gB; rw [ew]; rfl
        have gb1 : gB l k = xb := by unfold gB; rw [eb]; rfl
        have HG := Lib.hid (And.intro gw1 gb1)
        have HKK := Lib.hid (And.intro kw kb)
        have HBD := Lib.hid (HBr.out.trans ((drew_b wr).mono HBr.out.size))
        have HVD := Lib.hid (HVr.out.below (drew_b wr))
        clear gw1 gb1 kw kb ew eb ea hnw
        go_upto_region 10 with fail
        refine wp_region_held_drew (S := fun X => X.cell? ⟨gw, ow + k, none⟩ = some (.int .u8 (xw : Nat)) ∧ X.cell? ⟨gb, ob + k, none⟩ = some (.int .u8 (xb : Nat))) (by kernel_rfl) HKK.out (fun hHeld => ?_)
        ((refine wpAnyH_take (i := 0) (v := ?_) (by (simp only [List.getElem?_toArray, List.getElem?_cons_succ, List.getElem?_cons_zero]); rfl) (by kernel_rfl) (by kernel_rfl) (by kernel_rfl) (by exact fun _ _ _ h => h) (Or.inl ⟨by rfl, ?_⟩) (by assumption) ?_); rotate_left; focus (intro wS hSw; (try dsimp only at hSw); go_simp; first | done | with_reducible rfl); try simp only [Act.put, List.setIfInBounds_toArray, List.set_cons_zero, List.set_cons_succ])
        ((refine wpAnyH_take (i := 1) (v := ?_) (by (simp only [List.getElem?_toArray, List.getElem?_cons_succ, List.getElem?_cons_zero]); rfl) (by kernel_rfl) (by kernel_rfl) (by kernel_rfl) (by exact fun _ _ _ h => h) (Or.inl ⟨by rfl, ?_⟩) (by assumption) ?_); rotate_left; focus (intro wS hSw; (try dsimp only at hSw); go_simp; first | done | with_reducible rfl); try simp only [Act.put, List.setIfInBounds_toArray, List.set_cons_zero, List.set_cons_succ])
        ((refine wpAnyH_take (i := 2) (v := ?_) (by (simp only [List.getElem?_toArray, List.getElem?_cons_succ, List.getElem?_cons_zero]); rfl) (by kernel_rfl) (by kernel_rfl) (by kernel_rfl) (by exact fun _ _ _ h => h) (Or.inl ⟨by rfl, ?_⟩) (by assumption) ?_); rotate_left; focus (intro wS hSw; (try dsimp only at hSw); go_simp; first | done | with_reducible rfl); try simp only [Act.put, List.setIfInBounds_toArray, List.set_cons_zero, List.set_cons_succ])
        ((refine wpAnyH_take (i := 3) (v := ?_) (by (simp only [List.getElem?_toArray, List.getElem?_cons_succ, List.getElem?_cons_zero]); rfl) (by kernel_rfl) (by kernel_rfl) (by kernel_rfl) (by exact fun _ _ _ h => h) (Or.inl ⟨by rfl, ?_⟩) (by assumption) ?_); rotate_left; focus (intro wS hSw; (try dsimp only at hSw); go_simp; first | done | with_reducible rfl); try simp only [Act.put, List.setIfInBounds_toArray, List.set_cons_zero, List.set_cons_succ])
        ((refine wpAnyH_take (i := 4) (v := ?_) (by (simp only [List.getElem?_toArray, List.getElem?_cons_succ, List.getElem?_cons_zero]); rfl) (by kernel_rfl) (by kernel_rfl) (by kernel_rfl) (by exact fun _ _ _ h => h) (Or.inl ⟨by rfl, ?_⟩) (by assumption) ?_); rotate_left; focus (intro wS hSw; (try dsimp only at hSw); go_simp; first | done | with_reducible rfl); try simp only [Act.put, List.setIfInBounds_toArray, List.set_cons_zero, List.set_cons_succ])
        ((refine wpAnyH_take (i := 5) (v := ?_) (by (simp only [List.getElem?_toArray, List.getElem?_cons_succ, List.getElem?_cons_zero]); rfl) (by kernel_rfl) (by kernel_rfl) (by kernel_rfl) (by exact fun _ _ _ h => h) (Or.inl ⟨by rfl, ?_⟩) (by assumption) ?_); rotate_left; focus (intro wS hSw; (try dsimp only at hSw); go_simp; first | done | with_reducible rfl); try simp only [Act.put, List.setIfInBounds_toArray, List.set_cons_zero, List.set_cons_succ])
        ((refine wpAnyH_take (i := 6) (v := ?_) (by (simp only [List.getElem?_toArray, List.getElem?_cons_succ, List.getElem?_cons_zero]); rfl) (by kernel_rfl) (by kernel_rfl) (by kernel_rfl) (by exact fun _ _ _ h => h) (Or.inl ⟨by rfl, ?_⟩) (by assumption) ?_); rotate_left; focus (intro wS hSw; (try dsimp only at hSw); go_simp; first | done | with_reducible rfl); try simp only [Act.put, List.setIfInBounds_toArray, List.set_cons_zero, List.set_cons_succ])
        ((refine wpAnyH_take (i := 7) (v := ?_) (by (simp only [List.getElem?_toArray, List.getElem?_cons_succ, List.getElem?_cons_zero]); rfl) (by kernel_rfl) (by kernel_rfl) (by kernel_rfl) (by exact fun _ _ _ h => h) (Or.inl ⟨by rfl, ?_⟩) (by assumption) ?_); rotate_left; focus (intro wS hSw; (try dsimp only at hSw); go_simp; first | done | with_reducible rfl); try simp only [Act.put, List.setIfInBounds_toArray, List.set_cons_zero, List.set_cons_succ])
        by_cases hsm : xw = xb
        · have n1 : ((xw : Int) != (xb : Int)) = false := by simp; omega
          have n2 : (xw != xb) = false := by simp; omega
          ((refine wpAnyH_take (i := 8) (v := ?_) (by (simp only [List.getElem?_toArray, List.getElem?_cons_succ, List.getElem?_cons_zero]); rfl) (by kernel_rfl) (by kernel_rfl) (by kernel_rfl) (by exact fun _ _ _ h => h) (Or.inl ⟨by rfl, ?_⟩) (by assumption) ?_); rotate_left; focus (intro wS hSw; (try dsimp only at hSw); go_simp; first | done | with_reducible rfl); try simp only [Act.put, List.setIfInBounds_toArray, List.set_cons_zero, List.set_cons_succ])
          refine wpAnyH_done (by kernel_rfl) ?_ _
          try simp only [Act.put, List.setIfInBounds_toArray, List.set_cons_zero, List.set_cons_succ]
          try go_wp2_with fail
          go_roundw
          case rel => exact ⟨k + 1, by omega, by go_num, HBD.out, HVD.out, fun j hj => by
            by_cases hjk : j = k
            · subst hjk; rw [HG.out.1, HG.out.2]; exact hsm
            · exact HJ.out j (by omega)⟩
          case measure => first | (simp [intOf]; done) | (simp [intOf]; omega)
        · have n1 : ((xw : Int) != (xb : Int)) = true := by simp; omega
          have n2 : (xw != xb) = true := by simp; omega
          have HR0 : Hid (R = none) := Lib.hid (by
            rw [HUN.out, if_neg (fun h => hsm ?_)]
            have := HSAME.out.1 h k hlt
            rw [HG.out.1, HG.out.2] at this
            exact this)
          ((refine wpAnyH_take (i := 8) (v := ?_) (by (simp only [List.getElem?_toArray, List.getElem?_cons_succ, List.getElem?_cons_zero]); rfl) (by kernel_rfl) (by kernel_rfl) (by kernel_rfl) (by exact fun _ _ _ h => h) (Or.inl ⟨by rfl, ?_⟩) (by assumption) ?_); rotate_left; focus (intro wS hSw; (try dsimp only at hSw); go_simp; first | done | with_reducible rfl); try simp only [Act.put, List.setIfInBounds_toArray, List.set_cons_zero, List.set_cons_succ])
          refine wpAnyH_done (by kernel_rfl) ?_ _
          try simp only [Act.put, List.setIfInBounds_toArray, List.set_cons_zero, List.set_cons_succ]
          try go_wp2_with fail
          exact bodyPost_ret (v := .tuple #[.slice none 0 0, .int .i64 0, .int .i64 50]) (by simp [results, Tryd.results39, go_sem]) rfl ⟨HBD.out, by first | rfl | rw [HR0.out]⟩
      · obtain rfl : k = 8 := by omega
        have HR0 : Hid (R = some (x, U)) := Lib.hid (by rw [HUN.out, if_pos (HSAME.out.2 fun j hj => HJ.out j hj)])
        obtain ⟨v5, ob5, W5, hr5, ho5, hB5, -⟩ := b_app2 (ty := 23) (bo_nil wr wr.heap.size) (HX2.out wr HBr.out) (Nat.le_refl _) (by rw [HXL.out]; simp; omega)
        rw [List.nil_append] at ho5
        have HR5 := Lib.hid hr5
        have HEND := Lib.hid (And.intro (HBr.out.trans (hB5.mono HBr.out.size)) ho5.v)
        clear hr5 ho5 hB5 hnw
        go_wp2_with (at_builtin; refine Lib.wpList_append_run _ rfl (.tmp 65) (.tmp 69) 23 23 rfl _ _ rfl rfl _ _ HR5.out ?_)
        try go_wp2_with fail
        exact bodyPost_ret (v := .tuple #[v5, .int .i64 (U : Nat), .int .i64 0]) (by simp [results, Tryd.results39, go_sem]) rfl ⟨HEND.out.1, by first | exact ⟨v5, rfl, HEND.out.2⟩ | (have h9 := HR0.out; (try simp only [Option.some.injEq, Prod.mk.injEq] at h9); obtain ⟨rfl, rfl⟩ := h9; exact ⟨v5, rfl, HEND.out.2⟩)⟩
end Go.Proofs.YtiednacpmlilbaaDoor
