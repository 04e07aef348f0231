/-
  May a table be: the program.
-/
import Derived.Test.YthmjlomlceljkaaHi1
import Derived.Deep.DeepFit
import Derived.Lib.AppendZeros
import Derived.Deep.RegionLaw
import Derived.Deep.RegionWith
import Derived.Lib.EndianBits
namespace Go.Proofs.Ythmjlomlceljkaa
open Go.RowKit
set_option linter.unusedSimpArgs false
set_option linter.unusedVariables false

theorem tbl_step {L : List FcE} {k : Nat} (last : Int) (h : k < L.length) : tblB last (L.drop k) = (frcB last (gFc L k) && tblB (gFc L k).tenant (L.drop (k + 1))) := by
  rw [List.drop_eq_getElem_cons h]
  rw [show gFc L k = L[k] from gFc_of (List.getElem?_eq_getElem h)]
  rfl
theorem tbl_end (L : List FcE) (last : Int) : tblB last (L.drop L.length) = true := by rw [List.drop_length]; rfl
/-- the tenant ahead -/
def pten (L : List FcE) (k : Nat) : Int := if k = 0 then 0 else (gFc L (k - 1)).tenant
theorem pten_succ (L : List FcE) (k : Nat) : pten L (k + 1) = (gFc L k).tenant := rfl
set_option maxRecDepth 100000 in
set_option maxHeartbeats 4000000 in
theorem mayBe_any (v : Value) (L : List FcE) (w : World) (h : FcV w v L) : Calls Try.prog 41 #[v] w fun e w' => e = .returned (.bool (tblB 0 L)) ∧ Below w.heap.size w w' := by
  obtain ⟨a, n, cap, rfl, HN, m1, m2⟩ := h.sh
  have H1 := Lib.hid h
  clear h
  go_enter Try.func41, Try.ntmps41
  go_wp2_with fail
  go_loopw [3, 5, 8] (fun l _ i wr => ∃ k : Nat, k ≤ n ∧ l = .int .i64 (pten L k) ∧ i = .int .i64 k ∧ tblB (pten L k) (L.drop k) = tblB 0 L ∧ Below w.heap.size w wr) (fun _ _ i _ => n - (intOf i).toNat)
  case atStart => exact ⟨0, Nat.zero_le _, rfl, rfl, rfl, Below.refl _ _⟩
  case round =>
    obtain ⟨k, hk, rfl, rfl, hc, hB⟩ := hrel
    have HB := Lib.hid hB
    have HC := Lib.hid hc
    clear hB hc
    by_cases hlt : k < n
    · obtain ⟨g, o, x, ea, g1, hx, c0, c1, c2, c3⟩ := (H1.out.below HB.out).at k hlt
      subst ea
      have hxe : gFc L k = x := gFc_of hx
      have HST : Hid (tblB 0 L = (frcB (pten L k) x && tblB x.tenant (L.drop (k + 1)))) := Lib.hid (by rw [← HC.out, ← hxe]; exact tbl_step _ (by rw [← HN.out]; exact hlt))
      have HPS := Lib.hid (show pten L (k + 1) = x.tenant by rw [pten_succ, hxe])
      obtain ⟨p, hp⟩ : ∃ p, p = pten L k := ⟨_, rfl⟩
      rw [← hp] at HST ⊢
      have HT := Lib.hid (fun W => isTen_any x.tenant W)
      have HM := Lib.hid (fun W => pmay_any x.rate x.burst W)
      clear hx hxe hp HC
      have ww5 : IntKind.i64.wrap ((k : Int) + 1) = (k : Int) + 1 := IntWalk.i64_in _ (by omega)
      go_upto_region 5 with fail
      obtain ⟨N, hN⟩ : ∃ n0, n0 = wr.heap.size := ⟨_, rfl⟩
      have HLON : Hid (w.heap.size ≤ N) := Lib.hid (by have := HB.out.size; omega)
      obtain ⟨W1, hA0⟩ : ∃ W0, W0 = wr.alloc (.cells #[.int .i64 x.tick, .int .i64 x.tenant, .int .i64 x.rate, .int .i64 x.burst] 87) := ⟨_, rfl⟩
      have hB : Below wr.heap.size wr W1 := by rw [hA0]; exact (Below.refl _ _).alloc (Nat.le_refl _) _
      have hS0 : W1.heap.size = N + 1 := by rw [hA0]; simp [← hN]
      have HK := Lib.hid (show Blk W1 N #[.int .i64 x.tick, .int .i64 x.tenant, .int .i64 x.rate, .int .i64 x.burst] 87 by rw [hA0, hN]; exact blk_new _ _ _)
      replace HB := Lib.hid (HB.out.trans (hB.mono HB.out.size))
      clear hB
      have HSN := Lib.hid hS0
      rw [← hN, ← hA0]
      clear hA0 hN hS0
      have qK0 : W1.cell? ⟨N, 0, none⟩ = some (.int .i64 x.tick) := cell_at HK.out 0
      have qK1 : W1.cell? ⟨N, 1, none⟩ = some (.int .i64 x.tenant) := cell_at HK.out 1
      have qK2 : W1.cell? ⟨N, 2, none⟩ = some (.int .i64 x.rate) := cell_at HK.out 2
      have qK3 : W1.cell? ⟨N, 3, none⟩ = some (.int .i64 x.burst) := cell_at HK.out 3
      have qKz : ∀ j, W1.frozen? ⟨N, j, none⟩ = false := fun j => free_at HK.out j
      have qKl : N < W1.heap.size := HK.out.lt
      clear c0 c1 c2 c3
      obtain ⟨C1, hC1⟩ : ∃ C, C = tenB x.tenant := ⟨_, rfl⟩
      obtain ⟨C2, hC2⟩ : ∃ C, C = mayR x.rate x.burst := ⟨_, rfl⟩
      rw [← hC1] at HT
      rw [← hC2] at HM
      have HFR : Hid (frcB p x = (decide (x.tick = 0) && decide (p < x.tenant) && C1 && C2)) := Lib.hid (by unfold frcB; rw [hC1, hC2])
      clear hC1 hC2
      by_cases t0 : x.tick = 0
      rotate_left
      · go_wp2_with fail
        go_ret
        exact ⟨ret_bool (by rw [HST.out, HFR.out, decide_eq_false t0]; rfl), HB.out⟩
      by_cases t1 : p < x.tenant
      rotate_left
      · go_wp2_with fail
        go_ret
        exact ⟨ret_bool (by rw [HST.out, HFR.out, show decide (p < x.tenant) = false from decide_eq_false (by omega)]; simp), HB.out⟩
      cases C1
      · go_wp2_with (go_at_call 67; refine Calls.mono (HT.out _) ?_; rintro e w' ⟨rfl, rfl⟩)
        go_ret
        exact ⟨ret_bool (by rw [HST.out, HFR.out]; simp), HB.out⟩
      cases C2
      · go_wp2_with (first | (go_at_call 67; refine Calls.mono (HT.out _) ?_; rintro e w' ⟨rfl, rfl⟩) | (go_at_call 45; refine Calls.mono (HM.out _) ?_; rintro e w' ⟨rfl, rfl⟩))
        go_ret
        exact ⟨ret_bool (by rw [HST.out, HFR.out]; simp), HB.out⟩
      · go_wp2_with (first | (go_at_call 67; refine Calls.mono (HT.out _) ?_; rintro e w' ⟨rfl, rfl⟩) | (go_at_call 45; refine Calls.mono (HM.out _) ?_; rintro e w' ⟨rfl, rfl⟩))
        go_roundw
        case rel => exact ⟨k + 1, by omega, by rw [HPS.out], by go_num, by rw [HPS.out, HST.out, HFR.out, decide_eq_true t0, decide_eq_true t1]; simp, HB.out⟩
        case measure => first | (simp [intOf]; done) | (simp [intOf]; omega)
    · obtain rfl : k = n := by omega
      have hE : tblB 0 L = true := by rw [← HC.out, HN.out]; exact tbl_end _ _
      go_wp2_with fail
      go_ret
      exact ⟨ret_bool hE.symm, HB.out⟩
end Go.Proofs.Ythmjlomlceljkaa
