/-
  May tenants be: the program.
-/
import Derived.Test.YtpgpcgpecpimlaaPo2
import Derived.Deep.RegionLaw
namespace Go.Proofs.Ytpgpcgpecpimlaa
open Go.RowKit
set_option linter.unusedSimpArgs false
set_option linter.unusedVariables false

theorem chk_step {L : List TnE} {k : Nat} (last : Int) (h : k < L.length) : chkF last (L.drop k) = (decide (last < (gt L k).id) && mayT (gt L k) && chkF (gt L k).id (L.drop (k + 1))) := by
  rw [List.drop_eq_getElem_cons h]
  rw [show gt L k = L[k] from gt_of (List.getElem?_eq_getElem h)]
  rfl
theorem chk_end (L : List TnE) (last : Int) : chkF last (L.drop L.length) = true := by rw [List.drop_length]; rfl
/-- the one ahead -/
def pid (L : List TnE) (k : Nat) : Int := if k = 0 then 0 else (gt L (k - 1)).id
theorem pid_succ (L : List TnE) (k : Nat) : pid L (k + 1) = (gt L k).id := rfl
set_option maxRecDepth 100000 in
set_option maxHeartbeats 4000000 in
theorem pcheck_any (v : Value) (L : List TnE) (w : World) (h : TV w v L) : Calls Try.prog 45 #[v] w fun e w' => e = .returned (.bool (chk L)) ∧ Below w.heap.size w w' := by
  obtain ⟨a, b, o, cap, rfl, h⟩ := h
  have m1 := h.le
  have m2 := h.max
  unfold maxLen at m2
  have H1 := Lib.hid h
  clear h
  obtain ⟨n, hn⟩ : ∃ n, n = L.length := ⟨_, rfl⟩
  have HN := Lib.hid hn
  rw [← hn] at m1 H1 ⊢
  clear hn
  go_enter Try.func45, Try.ntmps45
  go_wp2_with fail
  go_loopw [3, 8] (fun l i wr => ∃ k : Nat, k ≤ n ∧ l = .int .i64 (pid L k) ∧ i = .int .i64 k ∧ chkF (pid L k) (L.drop k) = chk L ∧ Below w.heap.size w wr) (fun _ i _ => n - (intOf i).toNat)
  case atStart => exact ⟨0, Nat.zero_le _, rfl, rfl, rfl, Below.refl _ _⟩
  case round =>
    obtain ⟨k, hk, rfl, rfl, hc, hB⟩ := hrel
    have HB := Lib.hid hB
    have HC := Lib.hid hc
    clear hB hc
    by_cases hlt : k < n
    · have hs1 := H1.out.below HB.out
      obtain ⟨e0, e1⟩ := hs1.at_ (by omega)
      subst e0
      obtain ⟨c0, c1, c2, c3, c4⟩ := hs1.cell k hlt
      have HST : Hid (chk L = (decide (pid L k < (gt L k).id) && mayT (gt L k) && chkF (gt L k).id (L.drop (k + 1)))) := Lib.hid (by rw [← HC.out]; exact chk_step _ (by rw [← HN.out]; exact hlt))
      have hps := pid_succ L k
      obtain ⟨x, hx⟩ : ∃ x, x = gt L k := ⟨_, rfl⟩
      obtain ⟨p, hp⟩ : ∃ p, p = pid L k := ⟨_, rfl⟩
      rw [← hx] at c0 c1 c2 c3 c4 HST hps
      rw [← hp] at HST ⊢
      have HPS := Lib.hid hps
      have HM := Lib.hid (fun W => mayT_any x W)
      unfold TnE.agg at HM
      clear hs1 hx hp HC hps
      go_upto_region 5 with fail
      obtain ⟨M, hM⟩ : ∃ M, M = wr.heap.size := ⟨_, rfl⟩
      obtain ⟨WX, hWX⟩ : ∃ W0, W0 = wr.alloc (.cells #[.int .i64 x.id, .int .i64 x.rate, .int .i64 x.burst, .int .i64 x.bkt, .bool x.gone] 72) := ⟨_, rfl⟩
      have HBX : Hid (Below w.heap.size w WX) := Lib.hid (by rw [hWX]; exact HB.out.alloc HB.out.size _)
      have hkX : Blk WX M #[.int .i64 x.id, .int .i64 x.rate, .int .i64 x.burst, .int .i64 x.bkt, .bool x.gone] 72 := by rw [hWX, hM]; exact blk_new _ _ _
      have hMl : w.heap.size ≤ M := by rw [hM]; exact HB.out.size
      rw [← hM, ← hWX]
      clear hWX hM
      have r0 : WX.cell? ⟨M, 0, none⟩ = some (.int .i64 x.id) := cell_at hkX 0
      have r1 : WX.cell? ⟨M, 1, none⟩ = some (.int .i64 x.rate) := cell_at hkX 1
      have r2 : WX.cell? ⟨M, 2, none⟩ = some (.int .i64 x.burst) := cell_at hkX 2
      have r3 : WX.cell? ⟨M, 3, none⟩ = some (.int .i64 x.bkt) := cell_at hkX 3
      have r4 : WX.cell? ⟨M, 4, none⟩ = some (.bool x.gone) := cell_at hkX 4
      have HKX := Lib.hid hkX
      have hlX : M < WX.heap.size := hkX.lt
      clear hkX
      clear c0 c1 c2 c3 c4
      by_cases h1 : x.id ≤ p
      · go_wp2_with fail
        go_ret
        refine ⟨ret_bool (by rw [HST.out, show decide (p < x.id) = false by simp; omega]; rfl), ?_⟩
        exact HBX.out
      · obtain ⟨C, hC⟩ : ∃ C, C = mayT x := ⟨_, rfl⟩
        rw [← hC] at HM HST
        clear hC
        cases C
        · go_wp2_with (refine Calls.mono (HM.out _) ?_; rintro e W3 ⟨rfl, hB3⟩)
          go_ret
          refine ⟨ret_bool (by rw [HST.out]; simp), ?_⟩
          exact HBX.out.trans (hB3.mono HBX.out.size)
        · go_wp2_with (refine Calls.mono (HM.out _) ?_; rintro e W3 ⟨rfl, hB3⟩; have s0 : W3.cell? ⟨M, 0, none⟩ = some (.int .i64 x.id) := cell_at (HKX.out.step hB3) 0; clear r0 r1 r2 r3 r4)
          go_roundw
          case rel => exact ⟨k + 1, by omega, by rw [HPS.out], by go_num, by rw [HPS.out, HST.out, show decide (p < x.id) = true by simp; omega]; simp, HBX.out.trans (hB3.mono HBX.out.size)⟩
          case measure => first | (simp [intOf]; done) | (simp [intOf]; omega)
    · obtain rfl : k = n := by omega
      have hE : chk L = true := by rw [← HC.out, HN.out]; exact chk_end _ _
      go_wp2_with fail
      go_ret
      exact ⟨ret_bool hE.symm, HB.out⟩
end Go.Proofs.Ytpgpcgpecpimlaa
