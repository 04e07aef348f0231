/-
  Texts of this claim, put together: Pob, Pof, Poo, Poq, Bk3, LgP, LgT, LgS1, LgI2, LgX0, LgFd, Mp, LgU, Rg, LgV, LgF, LgM.
-/
import Derived.Test.YtfgnjpdlchimpaaLc1
import Derived.Test.YtfgnjpdlchimpaaLc2
import Derived.Deep.RegionLaw
import Derived.Deep.DeepFit
import Derived.Lib.AppendZeros
import Derived.Laws.StructEq
import Derived.MapKept
import Derived.ChangeMaps5
import Derived.Carry
import Derived.RangeFuncNested
import Derived.RangeFuncBound
import Derived.RangeFuncCalls
import Derived.RangeFuncLeaves
import Derived.RangeFuncBox
namespace Go.Proofs.Ytfgnjpdlchimpaa
open Go.RowKit
set_option linter.unusedSimpArgs false
set_option linter.unusedVariables false

theorem okL_lay {L : List TnE} {x : TnE} (h : okL L) (hx : x.ok) (p q : Nat) : okL (L.take p ++ x :: L.drop q) := by
  intro y hy
  rcases List.mem_append.1 hy with h1 | h1
  · exact h y (List.mem_of_mem_take h1)
  · rcases List.mem_cons.1 h1 with rfl | h2
    · exact hx
    · exact h y (List.mem_of_mem_drop h2)
set_option maxRecDepth 100000 in
set_option maxHeartbeats 4000000 in
theorem lay_any (v : Value) (L : List TnE) (x : TnE) (w : World) (h : TV w v L) (hn : L.length ≤ 200) (hx : x.ok) : Calls Try.prog 81 #[v, x.agg] w fun e w' => ∃ v', e = .returned v' ∧ TVo w.heap.size w' v' (layL x L) ∧ Below w.heap.size w w' := by
  have HOK := Lib.hid h.ok
  obtain ⟨N, hN⟩ : ∃ N, N = w.heap.size := ⟨_, rfl⟩
  obtain ⟨W1, hW1⟩ : ∃ W1, W1 = w.alloc (.cells #[.int .i64 x.id, .int .i64 x.rate, .int .i64 x.burst, .int .i64 x.bkt, .bool x.gone] 54) := ⟨_, rfl⟩
  have hB1 : Below w.heap.size w W1 := by rw [hW1]; exact (Below.refl _ _).alloc (Nat.le_refl _) _
  have HK1 : Hid (Blk W1 N #[.int .i64 x.id, .int .i64 x.rate, .int .i64 x.burst, .int .i64 x.bkt, .bool x.gone] 54) := Lib.hid (by rw [hW1, hN]; exact blk_new _ _ _)
  have HV1 := Lib.hid (h.below hB1)
  have HB1 := Lib.hid hB1
  have HNB : Hid (w.heap.size ≤ N) := Lib.hid (by rw [hN]; exact Nat.le_refl _)
  clear hB1 h
  have HPL := Lib.hid (place_any v L x.id W1 HV1.out)
  have HXO := Lib.hid hx
  clear hx
  have q0 : W1.cell? ⟨N, 0, none⟩ = some (.int .i64 x.id) := cell_at HK1.out 0
  have q1 : W1.cell? ⟨N, 1, none⟩ = some (.int .i64 x.rate) := cell_at HK1.out 1
  have q2 : W1.cell? ⟨N, 2, none⟩ = some (.int .i64 x.burst) := cell_at HK1.out 2
  have q3 : W1.cell? ⟨N, 3, none⟩ = some (.int .i64 x.bkt) := cell_at HK1.out 3
  have q4 : W1.cell? ⟨N, 4, none⟩ = some (.bool x.gone) := cell_at HK1.out 4
  have zq : ∀ j, W1.frozen? ⟨N, j, none⟩ = false := fun j => free_at HK1.out j
  have lq : N < W1.heap.size := HK1.out.lt
  obtain ⟨p, hp⟩ : ∃ p, p = plc x.id L := ⟨_, rfl⟩
  have hpn : p ≤ L.length := by rw [hp]; exact plc_le _ _
  have HA := Lib.hid (isAt_eq x.id L)
  have HLY : Hid (layL x L = L.take p ++ x :: L.drop (p + if isAt x.id L then 1 else 0)) := Lib.hid (by rw [hp]; rfl)
  rw [← hp] at HPL HA
  obtain ⟨Y, hY⟩ : ∃ Y, Y = layL x L := ⟨_, rfl⟩
  rw [← hY] at HLY ⊢
  obtain ⟨C, hC⟩ : ∃ C, C = isAt x.id L := ⟨_, rfl⟩
  rw [← hC] at HA HPL HLY
  clear hp hY hC
  obtain ⟨a, b, o, cap, rfl, h⟩ := HV1.out
  have m1 := h.le
  have m2 := h.max
  unfold maxLen at m2
  have H1 := Lib.hid h
  clear h
  obtain ⟨n, hn⟩ : ∃ n, n = L.length := ⟨_, rfl⟩
  have HN := Lib.hid hn
  rw [← hn] at m1 H1 HPL HA hpn ⊢
  clear hn HV1
  unfold TnE.agg
  go_enter Try.func81, Try.ntmps81
  go_upto_region 1 with fail
  rw [← hN, ← hW1]
  clear hN hW1
  go_wp2_with fail
  go_at_call 96
  refine Calls.mono HPL.out ?_
  rintro e W2 ⟨rfl, hB2⟩
  have HK2 := Lib.hid (HK1.out.step hB2)
  have HB2 := Lib.hid (HB1.out.trans (hB2.mono HB1.out.size))
  have HT2 := Lib.hid (H1.out.below hB2)
  clear hB2 HB1 q0 q1 q2 q3 q4 zq lq
  have HPC : Hid True := Lib.hid trivial
  have hpc : (p ≤ cap) = True := eq_true (by omega)
  have HOM : Hid (N < W2.heap.size) := Lib.hid HK2.out.lt
  have HKd : Hid (Blk W2.drew N #[.int .i64 x.id, .int .i64 x.rate, .int .i64 x.burst, .int .i64 x.bkt, .bool x.gone] 54) := Lib.hid (HK2.out.step ((Below.refl _ _).drew))
  cases C
  · cases a with
    | none =>
      obtain rfl : n = 0 := by
        rcases Nat.eq_zero_or_pos n with h | h
        · exact h
        · exact absurd (H1.out.at_ h).1 (by simp)
      obtain rfl : p = 0 := by omega
      go_upto_region 5 with fail
      refine wp_region_held_drew (S := fun X => X.cell? ⟨N, 0, none⟩ = some (.int .i64 x.id) ∧ X.cell? ⟨N, 1, none⟩ = some (.int .i64 x.rate) ∧ X.cell? ⟨N, 2, none⟩ = some (.int .i64 x.burst) ∧ X.cell? ⟨N, 3, none⟩ = some (.int .i64 x.bkt) ∧ X.cell? ⟨N, 4, none⟩ = some (.bool x.gone) ∧ N < X.heap.size) (by kernel_rfl) ⟨cell_at HKd.out 0, cell_at HKd.out 1, cell_at HKd.out 2, cell_at HKd.out 3, cell_at HKd.out 4, HKd.out.lt⟩ (fun hHeld => ?_)
      ((refine wpAnyH_take (i := 0) (v := ?_) (by (simp only [List.getElem?_toArray, List.getElem?_cons_succ, List.getElem?_cons_zero]); rfl) (by kernel_rfl) (by kernel_rfl) (by kernel_rfl) (by exact fun _ _ _ h => h) (Or.inl ⟨by rfl, ?_⟩) (by assumption) ?_); rotate_left; focus (intro wS hSw; (try dsimp only at hSw); go_simp; first | done | with_reducible rfl); try simp only [Act.put, List.setIfInBounds_toArray, List.set_cons_zero, List.set_cons_succ])
      ((refine wpAnyH_take (i := 1) (v := ?_) (by (simp only [List.getElem?_toArray, List.getElem?_cons_succ, List.getElem?_cons_zero]); rfl) (by kernel_rfl) (by kernel_rfl) (by kernel_rfl) (by exact fun _ _ _ h => h) (Or.inl ⟨by rfl, ?_⟩) (by assumption) ?_); rotate_left; focus (intro wS hSw; (try dsimp only at hSw); go_simp; first | done | with_reducible rfl); try simp only [Act.put, List.setIfInBounds_toArray, List.set_cons_zero, List.set_cons_succ])
      ((refine wpAnyH_take (i := 2) (v := ?_) (by (simp only [List.getElem?_toArray, List.getElem?_cons_succ, List.getElem?_cons_zero]); rfl) (by kernel_rfl) (by kernel_rfl) (by kernel_rfl) (by exact fun _ _ _ h => h) (Or.inl ⟨by rfl, ?_⟩) (by assumption) ?_); rotate_left; focus (intro wS hSw; (try dsimp only at hSw); go_simp; first | done | with_reducible rfl); try simp only [Act.put, List.setIfInBounds_toArray, List.set_cons_zero, List.set_cons_succ])
      ((refine wpAnyH_take (i := 3) (v := ?_) (by (simp only [List.getElem?_toArray, List.getElem?_cons_succ, List.getElem?_cons_zero]); rfl) (by kernel_rfl) (by kernel_rfl) (by kernel_rfl) (by exact fun _ _ _ h => h) (Or.inl ⟨by rfl, ?_⟩) (by assumption) ?_); rotate_left; focus (intro wS hSw; (try dsimp only at hSw); go_simp; first | done | with_reducible rfl); try simp only [Act.put, List.setIfInBounds_toArray, List.set_cons_zero, List.set_cons_succ])
      ((refine wpAnyH_take (i := 4) (v := ?_) (by (simp only [List.getElem?_toArray, List.getElem?_cons_succ, List.getElem?_cons_zero]); rfl) (by kernel_rfl) (by kernel_rfl) (by kernel_rfl) (by exact fun _ _ _ h => h) (Or.inl ⟨by rfl, ?_⟩) (by assumption) ?_); rotate_left; focus (intro wS hSw; (try dsimp only at hSw); go_simp; first | done | with_reducible rfl); try simp only [Act.put, List.setIfInBounds_toArray, List.set_cons_zero, List.set_cons_succ])
      ((refine wpAnyH_take (i := 7) (v := ?_) (by (simp only [List.getElem?_toArray, List.getElem?_cons_succ, List.getElem?_cons_zero]); rfl) (by kernel_rfl) (by kernel_rfl) (by kernel_rfl) (by exact fun _ _ _ h => h) (Or.inl ⟨by rfl, ?_⟩) (by assumption) ?_); rotate_left; focus (intro wS hSw; (try dsimp only at hSw); go_simp; first | done | with_reducible rfl); try simp only [Act.put, List.setIfInBounds_toArray, List.set_cons_zero, List.set_cons_succ])
      refine wpAnyH_ready (rs := [5]) (by kernel_rfl) (by simp) ?_
      refine AllReadyH.cons (by (simp only [List.getElem?_toArray, List.getElem?_cons_succ, List.getElem?_cons_zero]); rfl) (fun K hK => ?_) AllReadyH.nil
      go_simp
      obtain ⟨M, hM⟩ : ∃ M, M = W2.heap.size := ⟨_, rfl⟩
      obtain ⟨W4, hW4⟩ : ∃ W4, W4 = (W2.alloc (.cells #[.int .i64 x.id, .int .i64 x.rate, .int .i64 x.burst, .int .i64 x.bkt, .bool x.gone] 54)).drew := ⟨_, rfl⟩
      have hB4 : Below W2.heap.size W2 W4 := by rw [hW4]; exact ((Below.refl _ _).alloc (Nat.le_refl _) _).drew
      have hnew : ∀ j u, x.cells[j]? = some u → W4.cell? ((⟨M, 0, none⟩ : Addr).add j) = some u := fun j u h => by
        have hb : Blk W4 M #[.int .i64 x.id, .int .i64 x.rate, .int .i64 x.burst, .int .i64 x.bkt, .bool x.gone] 54 := by rw [hW4, hM]; exact (blk_new W2 _ _).step ((Below.refl _ _).drew)
        rw [addr_add, Nat.zero_add, cell_at hb j]
        simpa [TnE.cells] using h
      have HNEW := Lib.hid hnew
      have HK4 := Lib.hid (HK2.out.step hB4)
      have HT4 := Lib.hid (HT2.out.below hB4)
      have HB24 := Lib.hid hB4
      have HB4 := Lib.hid (HB2.out.trans (hB4.mono HB2.out.size))
      rw [← hM, ← hW4]
      clear hM hW4 hnew hB4
      refine hK.out _ _ ⟨cell_at HK4.out 0, cell_at HK4.out 1, cell_at HK4.out 2, cell_at HK4.out 3, cell_at HK4.out 4, HK4.out.lt⟩ (fun hHeld => ?_)
      clear hK K
      try simp only [Act.put, List.setIfInBounds_toArray, List.set_cons_zero, List.set_cons_succ]
      refine wpAnyH_ready (rs := [6]) (by kernel_rfl) (by simp) ?_
      refine AllReadyH.cons (by (simp only [List.getElem?_toArray, List.getElem?_cons_succ, List.getElem?_cons_zero]); rfl) (fun K hK => ?_) AllReadyH.nil
      rw [if_pos (by rfl)]
      obtain ⟨v5, ob5, W5, hrun5, hrow5, hg5, hob5⟩ := app_full (W := W4) (ty := 22) (ao := none) (k := 0) (L1 := []) (M := M) (x := x) rfl (by omega) (fun _ => rfl) (fun q e => by cases e) HNEW.out
      refine op_append_run (.tmp 24) (.tmp 26) 22 rfl rfl rfl hrun5 ?_
      have hB5 : Below w.heap.size w W5 := HB4.out.grown hg5 HB4.out.size (by simp)
      have HB5 := Lib.hid hB5
      have HB25 : Hid (Below W2.heap.size W2 W5) := Lib.hid (HB24.out.grown hg5 HB24.out.size (by simp))
      have HK5 := Lib.hid (show Blk W5 N #[.int .i64 x.id, .int .i64 x.rate, .int .i64 x.burst, .int .i64 x.bkt, .bool x.gone] 54 from (hg5.block N HK4.out.lt (by simp)).trans HK4.out)
      have HT5 : Hid (TnIn W5 none 0 cap b o (gt L)) := Lib.hid (HT4.out.below ((Below.refl W4.heap.size W4).grown hg5 (Nat.le_refl _) (by simp)))
      have HR5 := Lib.hid hrow5
      have HO5b : Hid (N < ob5) := Lib.hid (by have := HK4.out.lt; omega)
      have HO5 : Hid (w.heap.size ≤ ob5) := Lib.hid (by have := HB4.out.size; omega)
      clear hrun5 hrow5 hg5 hob5 hB5
      refine hK.out _ _ ⟨cell_at HK5.out 0, cell_at HK5.out 1, cell_at HK5.out 2, cell_at HK5.out 3, cell_at HK5.out 4, HK5.out.lt⟩ (fun hHeld => ?_)
      clear hK K
      try simp only [Act.put, List.setIfInBounds_toArray, List.set_cons_zero, List.set_cons_succ]
      refine wpAnyH_ready (rs := [8]) (by kernel_rfl) (by simp) ?_
      refine AllReadyH.cons (by (simp only [List.getElem?_toArray, List.getElem?_cons_succ, List.getElem?_cons_zero]); rfl) (fun K hK => ?_) AllReadyH.nil
      rw [if_pos (by rfl)]
      obtain ⟨v6, ob6, W6, hrun6, hrow6, hg6, hob6⟩ := app_row (W := W5) (ty := 22) (L2 := []) (a2 := none) (m := 0) (c := cap) HR5.out rfl ((⟨rfl, fun h => absurd h (by omega)⟩ : PcT W5 none 0 cap [])) (by have := HN.out; first | (simp; done) | (simp; omega))
      refine op_append_run (.tmp 27) (.tmp 28) 22 rfl rfl rfl hrun6 ?_
      have hB6 : Below w.heap.size w W6 := HB5.out.grown hg6 HB5.out.size (fun g e => by obtain rfl := Option.some.inj e; exact HO5.out)
      have HB6 := Lib.hid hB6
      have hK6 : Blk W6 N #[.int .i64 x.id, .int .i64 x.rate, .int .i64 x.burst, .int .i64 x.bkt, .bool x.gone] 54 := (hg6.block N HK5.out.lt (fun e => by have := Option.some.inj e; exact absurd this (by have := HO5b.out; omega))).trans HK5.out
      have HK6 := Lib.hid hK6
      have HO6 : Hid (w.heap.size ≤ ob6) := Lib.hid (by
        rcases hob6 with h | h
        · rw [h]; exact HO5.out
        · have := HB5.out.size; omega)
      have HR6 := Lib.hid hrow6
      clear hrun6 hrow6 hg6 hob6 hB6 hK6
      refine hK.out _ _ ⟨cell_at HK6.out 0, cell_at HK6.out 1, cell_at HK6.out 2, cell_at HK6.out 3, cell_at HK6.out 4, HK6.out.lt⟩ (fun hHeld => ?_)
      clear hK K
      try simp only [Act.put, List.setIfInBounds_toArray, List.set_cons_zero, List.set_cons_succ]
      ((refine wpAnyH_take (i := 9) (v := ?_) (by (simp only [List.getElem?_toArray, List.getElem?_cons_succ, List.getElem?_cons_zero]); rfl) (by kernel_rfl) (by kernel_rfl) (by kernel_rfl) (by exact fun _ _ _ h => h) (Or.inl ⟨by rfl, ?_⟩) (by assumption) ?_); rotate_left; focus (intro wS hSw; (try dsimp only at hSw); go_simp; first | done | with_reducible rfl); try simp only [Act.put, List.setIfInBounds_toArray, List.set_cons_zero, List.set_cons_succ])
      refine wpAnyH_done (by kernel_rfl) ?_ _
      go_wp2_with fail
      go_ret
      refine ⟨v6, rfl, tvo_row (by rw [HLY.out, show L = [] from List.eq_nil_of_length_eq_zero HN.out.symm]; exact HR6.out) ?_ (fun g e => by obtain rfl := Option.some.inj e; exact HO6.out), HB6.out⟩
      rw [HLY.out]
      exact okL_lay HOK.out HXO.out _ _
    | some q =>
      go_upto_region 5 with fail
      obtain ⟨ad, had⟩ : ∃ ad : Option Addr, ad = (if cap = p then some q else some (q.add (p * 5))) := ⟨_, rfl⟩
      rw [← had]
      have HPCT : Hid (PcT W2 ad (n - p) (cap - p) (L.drop p)) := Lib.hid (pct_drop HT2.out HN.out p hpn ad (fun h e => by rw [had, if_neg (by omega), e, addr_add]))
      clear had
      refine wp_region_held_drew (S := fun X => X.cell? ⟨N, 0, none⟩ = some (.int .i64 x.id) ∧ X.cell? ⟨N, 1, none⟩ = some (.int .i64 x.rate) ∧ X.cell? ⟨N, 2, none⟩ = some (.int .i64 x.burst) ∧ X.cell? ⟨N, 3, none⟩ = some (.int .i64 x.bkt) ∧ X.cell? ⟨N, 4, none⟩ = some (.bool x.gone) ∧ N < X.heap.size) (by kernel_rfl) ⟨cell_at HKd.out 0, cell_at HKd.out 1, cell_at HKd.out 2, cell_at HKd.out 3, cell_at HKd.out 4, HKd.out.lt⟩ (fun hHeld => ?_)
      ((refine wpAnyH_take (i := 0) (v := ?_) (by (simp only [List.getElem?_toArray, List.getElem?_cons_succ, List.getElem?_cons_zero]); rfl) (by kernel_rfl) (by kernel_rfl) (by kernel_rfl) (by exact fun _ _ _ h => h) (Or.inl ⟨by rfl, ?_⟩) (by assumption) ?_); rotate_left; focus (intro wS hSw; (try dsimp only at hSw); go_simp; first | done | with_reducible rfl); try simp only [Act.put, List.setIfInBounds_toArray, List.set_cons_zero, List.set_cons_succ])
      ((refine wpAnyH_take (i := 1) (v := ?_) (by (simp only [List.getElem?_toArray, List.getElem?_cons_succ, List.getElem?_cons_zero]); rfl) (by kernel_rfl) (by kernel_rfl) (by kernel_rfl) (by exact fun _ _ _ h => h) (Or.inl ⟨by rfl, ?_⟩) (by assumption) ?_); rotate_left; focus (intro wS hSw; (try dsimp only at hSw); go_simp; first | done | with_reducible rfl); try simp only [Act.put, List.setIfInBounds_toArray, List.set_cons_zero, List.set_cons_succ])
      ((refine wpAnyH_take (i := 2) (v := ?_) (by (simp only [List.getElem?_toArray, List.getElem?_cons_succ, List.getElem?_cons_zero]); rfl) (by kernel_rfl) (by kernel_rfl) (by kernel_rfl) (by exact fun _ _ _ h => h) (Or.inl ⟨by rfl, ?_⟩) (by assumption) ?_); rotate_left; focus (intro wS hSw; (try dsimp only at hSw); go_simp; first | done | with_reducible rfl); try simp only [Act.put, List.setIfInBounds_toArray, List.set_cons_zero, List.set_cons_succ])
      ((refine wpAnyH_take (i := 3) (v := ?_) (by (simp only [List.getElem?_toArray, List.getElem?_cons_succ, List.getElem?_cons_zero]); rfl) (by kernel_rfl) (by kernel_rfl) (by kernel_rfl) (by exact fun _ _ _ h => h) (Or.inl ⟨by rfl, ?_⟩) (by assumption) ?_); rotate_left; focus (intro wS hSw; (try dsimp only at hSw); go_simp; first | done | with_reducible rfl); try simp only [Act.put, List.setIfInBounds_toArray, List.set_cons_zero, List.set_cons_succ])
      ((refine wpAnyH_take (i := 4) (v := ?_) (by (simp only [List.getElem?_toArray, List.getElem?_cons_succ, List.getElem?_cons_zero]); rfl) (by kernel_rfl) (by kernel_rfl) (by kernel_rfl) (by exact fun _ _ _ h => h) (Or.inl ⟨by rfl, ?_⟩) (by assumption) ?_); rotate_left; focus (intro wS hSw; (try dsimp only at hSw); go_simp; first | done | with_reducible rfl); try simp only [Act.put, List.setIfInBounds_toArray, List.set_cons_zero, List.set_cons_succ])
      ((refine wpAnyH_take (i := 7) (v := ?_) (by (simp only [List.getElem?_toArray, List.getElem?_cons_succ, List.getElem?_cons_zero]); rfl) (by kernel_rfl) (by kernel_rfl) (by kernel_rfl) (by exact fun _ _ _ h => h) (Or.inl ⟨by rfl, ?_⟩) (by assumption) ?_); rotate_left; focus (intro wS hSw; (try dsimp only at hSw); go_simp; first | done | with_reducible rfl); try simp only [Act.put, List.setIfInBounds_toArray, List.set_cons_zero, List.set_cons_succ])
      refine wpAnyH_ready (rs := [5]) (by kernel_rfl) (by simp) ?_
      refine AllReadyH.cons (by (simp only [List.getElem?_toArray, List.getElem?_cons_succ, List.getElem?_cons_zero]); rfl) (fun K hK => ?_) AllReadyH.nil
      go_simp
      obtain ⟨M, hM⟩ : ∃ M, M = W2.heap.size := ⟨_, rfl⟩
      obtain ⟨W4, hW4⟩ : ∃ W4, W4 = (W2.alloc (.cells #[.int .i64 x.id, .int .i64 x.rate, .int .i64 x.burst, .int .i64 x.bkt, .bool x.gone] 54)).drew := ⟨_, rfl⟩
      have hB4 : Below W2.heap.size W2 W4 := by rw [hW4]; exact ((Below.refl _ _).alloc (Nat.le_refl _) _).drew
      have hnew : ∀ j u, x.cells[j]? = some u → W4.cell? ((⟨M, 0, none⟩ : Addr).add j) = some u := fun j u h => by
        have hb : Blk W4 M #[.int .i64 x.id, .int .i64 x.rate, .int .i64 x.burst, .int .i64 x.bkt, .bool x.gone] 54 := by rw [hW4, hM]; exact (blk_new W2 _ _).step ((Below.refl _ _).drew)
        rw [addr_add, Nat.zero_add, cell_at hb j]
        simpa [TnE.cells] using h
      have HNEW := Lib.hid hnew
      have HK4 := Lib.hid (HK2.out.step hB4)
      have HT4 := Lib.hid (HT2.out.below hB4)
      have HB24 := Lib.hid hB4
      have HB4 := Lib.hid (HB2.out.trans (hB4.mono HB2.out.size))
      rw [← hM, ← hW4]
      clear hM hW4 hnew hB4
      refine hK.out _ _ ⟨cell_at HK4.out 0, cell_at HK4.out 1, cell_at HK4.out 2, cell_at HK4.out 3, cell_at HK4.out 4, HK4.out.lt⟩ (fun hHeld => ?_)
      clear hK K
      try simp only [Act.put, List.setIfInBounds_toArray, List.set_cons_zero, List.set_cons_succ]
      refine wpAnyH_ready (rs := [6]) (by kernel_rfl) (by simp) ?_
      refine AllReadyH.cons (by (simp only [List.getElem?_toArray, List.getElem?_cons_succ, List.getElem?_cons_zero]); rfl) (fun K hK => ?_) AllReadyH.nil
      rw [if_pos (by rfl)]
      obtain ⟨v5, ob5, W5, hrun5, hrow5, hg5, hob5⟩ := app_full (W := W4) (ty := 22) (ao := (some q)) (k := p) (L1 := (L.take p)) (M := M) (x := x) (by have := HN.out; simp; omega) (by have := HN.out; omega) (fun e => by cases e) (full_take HT4.out HN.out p hpn) HNEW.out
      refine op_append_run (.tmp 24) (.tmp 26) 22 rfl rfl rfl hrun5 ?_
      have hB5 : Below w.heap.size w W5 := HB4.out.grown hg5 HB4.out.size (by simp)
      have HB5 := Lib.hid hB5
      have HB25 : Hid (Below W2.heap.size W2 W5) := Lib.hid (HB24.out.grown hg5 HB24.out.size (by simp))
      have HK5 := Lib.hid (show Blk W5 N #[.int .i64 x.id, .int .i64 x.rate, .int .i64 x.burst, .int .i64 x.bkt, .bool x.gone] 54 from (hg5.block N HK4.out.lt (by simp)).trans HK4.out)
      have HT5 : Hid (TnIn W5 (some q) n cap b o (gt L)) := Lib.hid (HT4.out.below ((Below.refl W4.heap.size W4).grown hg5 (Nat.le_refl _) (by simp)))
      have HR5 := Lib.hid hrow5
      have HO5b : Hid (N < ob5) := Lib.hid (by have := HK4.out.lt; omega)
      have HO5 : Hid (w.heap.size ≤ ob5) := Lib.hid (by have := HB4.out.size; omega)
      clear hrun5 hrow5 hg5 hob5 hB5
      refine hK.out _ _ ⟨cell_at HK5.out 0, cell_at HK5.out 1, cell_at HK5.out 2, cell_at HK5.out 3, cell_at HK5.out 4, HK5.out.lt⟩ (fun hHeld => ?_)
      clear hK K
      try simp only [Act.put, List.setIfInBounds_toArray, List.set_cons_zero, List.set_cons_succ]
      refine wpAnyH_ready (rs := [8]) (by kernel_rfl) (by simp) ?_
      refine AllReadyH.cons (by (simp only [List.getElem?_toArray, List.getElem?_cons_succ, List.getElem?_cons_zero]); rfl) (fun K hK => ?_) AllReadyH.nil
      rw [if_pos (by rfl)]
      obtain ⟨v6, ob6, W6, hrun6, hrow6, hg6, hob6⟩ := app_row (W := W5) (ty := 22) (L2 := (L.drop p)) (a2 := ad) (m := (n - p)) (c := (cap - p)) HR5.out rfl ((HPCT.out.below ((Below.refl W2.heap.size W2).trans (HB25.out)))) (by have := HN.out; first | (simp; done) | (simp; omega))
      refine op_append_run (.tmp 27) (.tmp 28) 22 rfl rfl rfl hrun6 ?_
      have hB6 : Below w.heap.size w W6 := HB5.out.grown hg6 HB5.out.size (fun g e => by obtain rfl := Option.some.inj e; exact HO5.out)
      have HB6 := Lib.hid hB6
      have hK6 : Blk W6 N #[.int .i64 x.id, .int .i64 x.rate, .int .i64 x.burst, .int .i64 x.bkt, .bool x.gone] 54 := (hg6.block N HK5.out.lt (fun e => by have := Option.some.inj e; exact absurd this (by have := HO5b.out; omega))).trans HK5.out
      have HK6 := Lib.hid hK6
      have HO6 : Hid (w.heap.size ≤ ob6) := Lib.hid (by
        rcases hob6 with h | h
        · rw [h]; exact HO5.out
        · have := HB5.out.size; omega)
      have HR6 := Lib.hid hrow6
      clear hrun6 hrow6 hg6 hob6 hB6 hK6
      refine hK.out _ _ ⟨cell_at HK6.out 0, cell_at HK6.out 1, cell_at HK6.out 2, cell_at HK6.out 3, cell_at HK6.out 4, HK6.out.lt⟩ (fun hHeld => ?_)
      clear hK K
      try simp only [Act.put, List.setIfInBounds_toArray, List.set_cons_zero, List.set_cons_succ]
      ((refine wpAnyH_take (i := 9) (v := ?_) (by (simp only [List.getElem?_toArray, List.getElem?_cons_succ, List.getElem?_cons_zero]); rfl) (by kernel_rfl) (by kernel_rfl) (by kernel_rfl) (by exact fun _ _ _ h => h) (Or.inl ⟨by rfl, ?_⟩) (by assumption) ?_); rotate_left; focus (intro wS hSw; (try dsimp only at hSw); go_simp; first | done | with_reducible rfl); try simp only [Act.put, List.setIfInBounds_toArray, List.set_cons_zero, List.set_cons_succ])
      refine wpAnyH_done (by kernel_rfl) ?_ _
      go_wp2_with fail
      go_ret
      refine ⟨v6, rfl, tvo_row (by rw [HLY.out]; simpa using HR6.out) ?_ (fun g e => by obtain rfl := Option.some.inj e; exact HO6.out), HB6.out⟩
      rw [HLY.out]
      exact okL_lay HOK.out HXO.out _ _
  · have hpn2 : p < n := by have := HA.out; simp at this; exact this.1
    obtain ⟨e0, e1⟩ := H1.out.at_ (by omega)
    subst e0
    go_upto_region 5 with fail
    obtain ⟨ad, had⟩ : ∃ ad : Option Addr, ad = (if cap - p = 1 then some ⟨b, o + p * 5, none⟩ else some ⟨b, o + p * 5 + 5, none⟩) := ⟨_, rfl⟩
    rw [← had]
    have HPCT : Hid (PcT W2 ad (n - p - 1) (cap - p - 1) (L.drop (p + 1))) := Lib.hid (by
      rw [show n - p - 1 = n - (p + 1) by omega]
      exact pct_drop HT2.out HN.out (p + 1) (by omega) ad (fun h e => by rw [had, if_neg (by omega), show o + p * 5 + 5 = o + (p + 1) * 5 by omega]))
    clear had
    refine wp_region_held_drew (S := fun X => X.cell? ⟨N, 0, none⟩ = some (.int .i64 x.id) ∧ X.cell? ⟨N, 1, none⟩ = some (.int .i64 x.rate) ∧ X.cell? ⟨N, 2, none⟩ = some (.int .i64 x.burst) ∧ X.cell? ⟨N, 3, none⟩ = some (.int .i64 x.bkt) ∧ X.cell? ⟨N, 4, none⟩ = some (.bool x.gone) ∧ N < X.heap.size) (by kernel_rfl) ⟨cell_at HKd.out 0, cell_at HKd.out 1, cell_at HKd.out 2, cell_at HKd.out 3, cell_at HKd.out 4, HKd.out.lt⟩ (fun hHeld => ?_)
    ((refine wpAnyH_take (i := 0) (v := ?_) (by (simp only [List.getElem?_toArray, List.getElem?_cons_succ, List.getElem?_cons_zero]); rfl) (by kernel_rfl) (by kernel_rfl) (by kernel_rfl) (by exact fun _ _ _ h => h) (Or.inl ⟨by rfl, ?_⟩) (by assumption) ?_); rotate_left; focus (intro wS hSw; (try dsimp only at hSw); go_simp; first | done | with_reducible rfl); try simp only [Act.put, List.setIfInBounds_toArray, List.set_cons_zero, List.set_cons_succ])
    ((refine wpAnyH_take (i := 1) (v := ?_) (by (simp only [List.getElem?_toArray, List.getElem?_cons_succ, List.getElem?_cons_zero]); rfl) (by kernel_rfl) (by kernel_rfl) (by kernel_rfl) (by exact fun _ _ _ h => h) (Or.inl ⟨by rfl, ?_⟩) (by assumption) ?_); rotate_left; focus (intro wS hSw; (try dsimp only at hSw); go_simp; first | done | with_reducible rfl); try simp only [Act.put, List.setIfInBounds_toArray, List.set_cons_zero, List.set_cons_succ])
    ((refine wpAnyH_take (i := 2) (v := ?_) (by (simp only [List.getElem?_toArray, List.getElem?_cons_succ, List.getElem?_cons_zero]); rfl) (by kernel_rfl) (by kernel_rfl) (by kernel_rfl) (by exact fun _ _ _ h => h) (Or.inl ⟨by rfl, ?_⟩) (by assumption) ?_); rotate_left; focus (intro wS hSw; (try dsimp only at hSw); go_simp; first | done | with_reducible rfl); try simp only [Act.put, List.setIfInBounds_toArray, List.set_cons_zero, List.set_cons_succ])
    ((refine wpAnyH_take (i := 3) (v := ?_) (by (simp only [List.getElem?_toArray, List.getElem?_cons_succ, List.getElem?_cons_zero]); rfl) (by kernel_rfl) (by kernel_rfl) (by kernel_rfl) (by exact fun _ _ _ h => h) (Or.inl ⟨by rfl, ?_⟩) (by assumption) ?_); rotate_left; focus (intro wS hSw; (try dsimp only at hSw); go_simp; first | done | with_reducible rfl); try simp only [Act.put, List.setIfInBounds_toArray, List.set_cons_zero, List.set_cons_succ])
    ((refine wpAnyH_take (i := 4) (v := ?_) (by (simp only [List.getElem?_toArray, List.getElem?_cons_succ, List.getElem?_cons_zero]); rfl) (by kernel_rfl) (by kernel_rfl) (by kernel_rfl) (by exact fun _ _ _ h => h) (Or.inl ⟨by rfl, ?_⟩) (by assumption) ?_); rotate_left; focus (intro wS hSw; (try dsimp only at hSw); go_simp; first | done | with_reducible rfl); try simp only [Act.put, List.setIfInBounds_toArray, List.set_cons_zero, List.set_cons_succ])
    ((refine wpAnyH_take (i := 7) (v := ?_) (by (simp only [List.getElem?_toArray, List.getElem?_cons_succ, List.getElem?_cons_zero]); rfl) (by kernel_rfl) (by kernel_rfl) (by kernel_rfl) (by exact fun _ _ _ h => h) (Or.inl ⟨by rfl, ?_⟩) (by assumption) ?_); rotate_left; focus (intro wS hSw; (try dsimp only at hSw); go_simp; first | done | with_reducible rfl); try simp only [Act.put, List.setIfInBounds_toArray, List.set_cons_zero, List.set_cons_succ])
    refine wpAnyH_ready (rs := [5]) (by kernel_rfl) (by simp) ?_
    refine AllReadyH.cons (by (simp only [List.getElem?_toArray, List.getElem?_cons_succ, List.getElem?_cons_zero]); rfl) (fun K hK => ?_) AllReadyH.nil
    go_simp
    obtain ⟨M, hM⟩ : ∃ M, M = W2.heap.size := ⟨_, rfl⟩
    obtain ⟨W4, hW4⟩ : ∃ W4, W4 = (W2.alloc (.cells #[.int .i64 x.id, .int .i64 x.rate, .int .i64 x.burst, .int .i64 x.bkt, .bool x.gone] 54)).drew := ⟨_, rfl⟩
    have hB4 : Below W2.heap.size W2 W4 := by rw [hW4]; exact ((Below.refl _ _).alloc (Nat.le_refl _) _).drew
    have hnew : ∀ j u, x.cells[j]? = some u → W4.cell? ((⟨M, 0, none⟩ : Addr).add j) = some u := fun j u h => by
      have hb : Blk W4 M #[.int .i64 x.id, .int .i64 x.rate, .int .i64 x.burst, .int .i64 x.bkt, .bool x.gone] 54 := by rw [hW4, hM]; exact (blk_new W2 _ _).step ((Below.refl _ _).drew)
      rw [addr_add, Nat.zero_add, cell_at hb j]
      simpa [TnE.cells] using h
    have HNEW := Lib.hid hnew
    have HK4 := Lib.hid (HK2.out.step hB4)
    have HT4 := Lib.hid (HT2.out.below hB4)
    have HB24 := Lib.hid hB4
    have HB4 := Lib.hid (HB2.out.trans (hB4.mono HB2.out.size))
    rw [← hM, ← hW4]
    clear hM hW4 hnew hB4
    refine hK.out _ _ ⟨cell_at HK4.out 0, cell_at HK4.out 1, cell_at HK4.out 2, cell_at HK4.out 3, cell_at HK4.out 4, HK4.out.lt⟩ (fun hHeld => ?_)
    clear hK K
    try simp only [Act.put, List.setIfInBounds_toArray, List.set_cons_zero, List.set_cons_succ]
    refine wpAnyH_ready (rs := [6]) (by kernel_rfl) (by simp) ?_
    refine AllReadyH.cons (by (simp only [List.getElem?_toArray, List.getElem?_cons_succ, List.getElem?_cons_zero]); rfl) (fun K hK => ?_) AllReadyH.nil
    rw [if_pos (by rfl)]
    obtain ⟨v5, ob5, W5, hrun5, hrow5, hg5, hob5⟩ := app_full (W := W4) (ty := 22) (ao := (some ⟨b, o, none⟩)) (k := p) (L1 := (L.take p)) (M := M) (x := x) (by have := HN.out; simp; omega) (by have := HN.out; omega) (fun e => by cases e) (full_take HT4.out HN.out p hpn) HNEW.out
    refine op_append_run (.tmp 24) (.tmp 26) 22 rfl rfl rfl hrun5 ?_
    have hB5 : Below w.heap.size w W5 := HB4.out.grown hg5 HB4.out.size (by simp)
    have HB5 := Lib.hid hB5
    have HB25 : Hid (Below W2.heap.size W2 W5) := Lib.hid (HB24.out.grown hg5 HB24.out.size (by simp))
    have HK5 := Lib.hid (show Blk W5 N #[.int .i64 x.id, .int .i64 x.rate, .int .i64 x.burst, .int .i64 x.bkt, .bool x.gone] 54 from (hg5.block N HK4.out.lt (by simp)).trans HK4.out)
    have HT5 : Hid (TnIn W5 (some ⟨b, o, none⟩) n cap b o (gt L)) := Lib.hid (HT4.out.below ((Below.refl W4.heap.size W4).grown hg5 (Nat.le_refl _) (by simp)))
    have HR5 := Lib.hid hrow5
    have HO5b : Hid (N < ob5) := Lib.hid (by have := HK4.out.lt; omega)
    have HO5 : Hid (w.heap.size ≤ ob5) := Lib.hid (by have := HB4.out.size; omega)
    clear hrun5 hrow5 hg5 hob5 hB5
    refine hK.out _ _ ⟨cell_at HK5.out 0, cell_at HK5.out 1, cell_at HK5.out 2, cell_at HK5.out 3, cell_at HK5.out 4, HK5.out.lt⟩ (fun hHeld => ?_)
    clear hK K
    try simp only [Act.put, List.setIfInBounds_toArray, List.set_cons_zero, List.set_cons_succ]
    refine wpAnyH_ready (rs := [8]) (by kernel_rfl) (by simp) ?_
    refine AllReadyH.cons (by (simp only [List.getElem?_toArray, List.getElem?_cons_succ, List.getElem?_cons_zero]); rfl) (fun K hK => ?_) AllReadyH.nil
    rw [if_pos (by rfl)]
    obtain ⟨v6, ob6, W6, hrun6, hrow6, hg6, hob6⟩ := app_row (W := W5) (ty := 22) (L2 := (L.drop (p + 1))) (a2 := ad) (m := (n - p - 1)) (c := (cap - p - 1)) HR5.out rfl ((HPCT.out.below ((Below.refl W2.heap.size W2).trans (HB25.out)))) (by have := HN.out; first | (simp; done) | (simp; omega))
    refine op_append_run (.tmp 27) (.tmp 28) 22 rfl rfl rfl hrun6 ?_
    have hB6 : Below w.heap.size w W6 := HB5.out.grown hg6 HB5.out.size (fun g e => by obtain rfl := Option.some.inj e; exact HO5.out)
    have HB6 := Lib.hid hB6
    have hK6 : Blk W6 N #[.int .i64 x.id, .int .i64 x.rate, .int .i64 x.burst, .int .i64 x.bkt, .bool x.gone] 54 := (hg6.block N HK5.out.lt (fun e => by have := Option.some.inj e; exact absurd this (by have := HO5b.out; omega))).trans HK5.out
    have HK6 := Lib.hid hK6
    have HO6 : Hid (w.heap.size ≤ ob6) := Lib.hid (by
      rcases hob6 with h | h
      · rw [h]; exact HO5.out
      · have := HB5.out.size; omega)
    have HR6 := Lib.hid hrow6
    clear hrun6 hrow6 hg6 hob6 hB6 hK6
    refine hK.out _ _ ⟨cell_at HK6.out 0, cell_at HK6.out 1, cell_at HK6.out 2, cell_at HK6.out 3, cell_at HK6.out 4, HK6.out.lt⟩ (fun hHeld => ?_)
    clear hK K
    try simp only [Act.put, List.setIfInBounds_toArray, List.set_cons_zero, List.set_cons_succ]
    ((refine wpAnyH_take (i := 9) (v := ?_) (by (simp only [List.getElem?_toArray, List.getElem?_cons_succ, List.getElem?_cons_zero]); rfl) (by kernel_rfl) (by kernel_rfl) (by kernel_rfl) (by exact fun _ _ _ h => h) (Or.inl ⟨by rfl, ?_⟩) (by assumption) ?_); rotate_left; focus (intro wS hSw; (try dsimp only at hSw); go_simp; first | done | with_reducible rfl); try simp only [Act.put, List.setIfInBounds_toArray, List.set_cons_zero, List.set_cons_succ])
    refine wpAnyH_done (by kernel_rfl) ?_ _
    go_wp2_with fail
    go_ret
    refine ⟨v6, rfl, tvo_row (by rw [HLY.out]; simpa using HR6.out) ?_ (fun g e => by obtain rfl := Option.some.inj e; exact HO6.out), HB6.out⟩
    rw [HLY.out]
    exact okL_lay HOK.out HXO.out _ _
end Go.Proofs.Ytfgnjpdlchimpaa
namespace Go.Proofs.Ytfgnjpdlchimpaa
open Go.RowKit
set_option linter.unusedSimpArgs false
set_option linter.unusedVariables false

theorem tn_eq (x : TnE) (w : World) : (Op.equal 54 (.agg #[.int .i64 x.id, .int .i64 x.rate, .int .i64 x.burst, .int .i64 x.bkt, .bool x.gone]) (.agg #[.int .i64 x.id, .int .i64 x.rate, .int .i64 x.burst, .int .i64 x.bkt, .bool x.gone])).run Try.prog w = .ok true w := by
  have hg : Try.prog.fieldsOf 54 = #[⟨"Id", 3, 0, false, "", "", 0⟩, ⟨"Rate", 3, 1, false, "", "", 8⟩, ⟨"Burst", 3, 2, false, "", "", 16⟩, ⟨"Bucket", 3, 3, false, "", "", 24⟩, ⟨"Gone", 4, 4, false, "", "", 32⟩] := by kernel_rfl
  have e1 : ∀ (d : Nat) (a b : Int), (Op.equalIn (d + 1) 3 (.int .i64 a) (.int .i64 b)).run Try.prog w = .ok (a == b) w := fun d a b => run_equalIn_int w d _ .i64 .i64 a b (by kernel_rfl)
  have e3 : ∀ g : Bool, (Op.equalIn (9998 + 1) 4 (.bool g) (.bool g)).run Try.prog w = .ok true w := fun g => by cases g <;> kernel_rfl
  show (Op.equalIn (9998 + 1 + 1) _ _ _).run _ w = _
  rw [run_equalIn_struct w _ _ _ _ (by kernel_rfl) (by kernel_rfl), hg]
  simp [Op.eqFields, part, e1, e3, go_sem]
theorem tn_neq (x : TnE) (w : World) : (binOp .neq 54 (.agg #[.int .i64 x.id, .int .i64 x.rate, .int .i64 x.burst, .int .i64 x.bkt, .bool x.gone]) (.agg #[.int .i64 x.id, .int .i64 x.rate, .int .i64 x.burst, .int .i64 x.bkt, .bool x.gone])).run Try.prog w = .ok (.bool false) w := by
  simp only [binOp]
  simp [tn_eq, Result.andThen]
theorem tn_eql (x : TnE) (w : World) : (binOp .eql 54 (.agg #[.int .i64 x.id, .int .i64 x.rate, .int .i64 x.burst, .int .i64 x.bkt, .bool x.gone]) (.agg #[.int .i64 x.id, .int .i64 x.rate, .int .i64 x.burst, .int .i64 x.bkt, .bool x.gone])).run Try.prog w = .ok (.bool true) w := by
  simp only [binOp]
  simp [tn_eq, Result.andThen]
theorem an_eq (e r b : Int) (w : World) : (Op.equal 41 (.agg #[.int .i64 e, .int .i64 r, .int .i64 b, .int .i64 0, .int .i64 0]) (.agg #[.int .i64 e, .int .i64 r, .int .i64 b, .int .i64 0, .int .i64 0])).run Try.prog w = .ok true w := by
  have hf : Try.prog.fieldsOf 41 = #[⟨"E", 39, 0, false, "", "", 0⟩, ⟨"Rate", 3, 1, false, "", "", 8⟩, ⟨"Burst", 3, 2, false, "", "", 16⟩, ⟨"Lease", 3, 3, false, "", "", 24⟩, ⟨"Size", 3, 4, false, "", "", 32⟩] := by kernel_rfl
  have e1 : ∀ (d : Nat) (a b : Int), (Op.equalIn (d + 1) 3 (.int .i64 a) (.int .i64 b)).run Try.prog w = .ok (a == b) w := fun d a b => run_equalIn_int w d _ .i64 .i64 a b (by kernel_rfl)
  have e2 : ∀ a b : Int, (Op.equalIn (9998 + 1) 39 (.int .i64 a) (.int .i64 b)).run Try.prog w = .ok (a == b) w := fun a b => run_equalIn_int w 9998 _ .i64 .i64 a b (by kernel_rfl)
  show (Op.equalIn (9998 + 1 + 1) _ _ _).run _ w = _
  rw [run_equalIn_struct w _ _ _ _ (by kernel_rfl) (by kernel_rfl), hf]
  simp [Op.eqFields, part, e1, e2, go_sem]
theorem an_eql (e r b : Int) (w : World) : (binOp .eql 41 (.agg #[.int .i64 e, .int .i64 r, .int .i64 b, .int .i64 0, .int .i64 0]) (.agg #[.int .i64 e, .int .i64 r, .int .i64 b, .int .i64 0, .int .i64 0])).run Try.prog w = .ok (.bool true) w := by
  simp only [binOp]
  simp [an_eq, Result.andThen]
set_option maxRecDepth 100000 in
set_option maxHeartbeats 4000000 in
theorem same_tv (v1 v2 : Value) (L : List TnE) (w : World) (h1 : TV w v1 L) (h2 : TV w v2 L) :
    Calls Try.prog 35 #[v1, v2] w fun e w' => e = .returned (.bool true) ∧ Below w.heap.size w w' := by
  obtain ⟨a, b, o, cap, rfl, h1⟩ := h1
  obtain ⟨a', b', o', cap', rfl, h2⟩ := h2
  have m1 := h1.le
  have m2 := h1.max
  have m3 := h2.le
  have m4 := h2.max
  unfold maxLen at m2 m4
  have H1 := Lib.hid h1
  have H2 := Lib.hid h2
  clear h1 h2
  obtain ⟨n, hn⟩ : ∃ n, n = L.length := ⟨_, rfl⟩
  rw [← hn] at m1 m3 H1 H2 ⊢
  clear hn
  go_enter Try.func35, Try.ntmps35
  go_wp2_with fail
  go_loopw [5] (fun i wr => ∃ k : Nat, k ≤ n ∧ i = .int .i64 k ∧ Below w.heap.size w wr) (fun i _ => n - (intOf i).toNat)
  case atStart => exact ⟨0, Nat.zero_le _, rfl, Below.refl _ _⟩
  case round =>
    obtain ⟨k, hk, rfl, hB⟩ := hrel
    have HB := Lib.hid hB
    clear hB
    by_cases hlt : k < n
    · have hs1 := H1.out.below HB.out
      have hs2 := H2.out.below HB.out
      obtain ⟨e0, e1⟩ := hs1.at_ (by omega)
      obtain ⟨f0, f1⟩ := hs2.at_ (by omega)
      subst e0 f0
      obtain ⟨c0, c1, c2, c3, c4⟩ := hs1.cell k hlt
      obtain ⟨d0, d1, d2, d3, d4⟩ := hs2.cell k hlt
      obtain ⟨x, hx⟩ : ∃ x, x = gt L k := ⟨_, rfl⟩
      rw [← hx] at c0 c1 c2 c3 c4 d0 d1 d2 d3 d4
      have hne := tn_neq x
      clear hs1 hs2 hx
      go_wp2_with fail
      (refine wp_region_quiet_lit (by kernel_rfl) (by kernel_rfl) ?_; (repeat (first | go_big_quiet_step (fail) | (refine BigFrame.wpQuiet_skip (by rfl) ?_; try simp only [Act.put, List.setIfInBounds_toArray, List.set_cons_zero, List.set_cons_succ]))); refine wpQuiet_nil ?_; intro _ hw9; obtain ⟨nq, hw8⟩ := hw9; subst hw8)
      go_wp2_with fail
      go_roundw
      case rel => exact ⟨k + 1, by omega, by go_num, below_dN HB.out nq⟩
      case measure => first | (simp [intOf]; done) | (simp [intOf]; omega)
    · obtain rfl : k = n := by omega
      go_wp2_with fail
      go_ret
      exact ⟨rfl, HB.out⟩
end Go.Proofs.Ytfgnjpdlchimpaa
namespace Go.Proofs.Ytfgnjpdlchimpaa
open Go.RowKit
set_option linter.unusedSimpArgs false
set_option linter.unusedVariables false

theorem may_id {x : TnE} : (decide (0 < x.id) && mayT x) = mayT x := by
  unfold mayT idB
  by_cases h : 1 ≤ x.id
  · rw [show decide (0 < x.id) = true by simp; omega]; rfl
  · simp [h]
def setB (L : List TnE) (x : TnE) : Bool := chk L && mayT x
def setL (L : List TnE) (x : TnE) : List TnE := if setB L x then layR x L else L
def setE (L : List TnE) (x : TnE) : Int := if setB L x then 0 else 2
theorem clone_tv2 (v : Value) (L : List TnE) (w : World) (h : TV w v L) (hn : L.length ≤ 200) : Calls Try.prog 66 #[v] w fun e w' => ∃ v', e = .returned v' ∧ TV w' v' L ∧ Below w.heap.size w w' :=
  (clone_tv v L w h hn).mono fun _ _ ⟨v', e, h2, hB⟩ => ⟨v', e, h2.tv, hB⟩
set_option maxRecDepth 100000 in
set_option maxHeartbeats 8000000 in
theorem pset_any (v : Value) (L : List TnE) (x : TnE) (w : World) (h : TV w v L) (hn5 : L.length ≤ 200) (hx : x.ok) : Calls Try.prog 48 #[v, .agg #[.int .i64 x.id, .int .i64 x.rate, .int .i64 x.burst, .int .i64 x.bkt, .bool x.gone]] w fun e w' => ∃ v', e = .returned (.tuple #[v', .int .i64 (setE L x)]) ∧ TV w' v' (setL L x) ∧ Below w.heap.size w w' := by
  have HVW := Lib.hid h
  obtain ⟨N, hN⟩ : ∃ N, N = w.heap.size := ⟨_, rfl⟩
  obtain ⟨W1, hW1⟩ : ∃ W1, W1 = w.alloc (.cells #[.int .i64 x.id, .int .i64 x.rate, .int .i64 x.burst, .int .i64 x.bkt, .bool x.gone] 54) := ⟨_, rfl⟩
  have hB1 : Below w.heap.size w W1 := by rw [hW1]; exact (Below.refl _ _).alloc (Nat.le_refl _) _
  have HK1 : Hid (Blk W1 N #[.int .i64 x.id, .int .i64 x.rate, .int .i64 x.burst, .int .i64 x.bkt, .bool x.gone] 54) := Lib.hid (by rw [hW1, hN]; exact blk_new _ _ _)
  have HV1 := Lib.hid (h.below hB1)
  have HB1 := Lib.hid hB1
  have HNB : Hid (w.heap.size ≤ N) := Lib.hid (by rw [hN]; exact Nat.le_refl _)
  clear hB1 h
  obtain ⟨Y, hY⟩ : ∃ Y, Y = setL L x := ⟨_, rfl⟩
  obtain ⟨E, hE⟩ : ∃ E, E = setE L x := ⟨_, rfl⟩
  rw [← hY, ← hE]
  have HY := Lib.hid hY
  have HE := Lib.hid hE
  obtain ⟨C, hC⟩ : ∃ C, C = chk L := ⟨_, rfl⟩
  have HC := Lib.hid hC
  have HXO := Lib.hid hx
  have HCK := Lib.hid (pcheck_any v L W1 HV1.out)
  rw [← hC] at HCK
  obtain ⟨M, hM⟩ : ∃ M, M = mayT x := ⟨_, rfl⟩
  have HM := Lib.hid hM
  have HMY := Lib.hid (fun W => mayT_any x W)
  unfold TnE.agg at HMY
  rw [← hM] at HMY
  clear hY hE hC hM hx
  go_enter Try.func48, Try.ntmps48
  go_upto_region 1 with fail
  rw [← hN, ← hW1]
  clear hN hW1
  cases C
  · have hsb : setB L x = false := by unfold setB; rw [← HC.out]; rfl
    have hYx : Y = L := by rw [HY.out]; unfold setL; rw [hsb]; rfl
    have hEx : E = 2 := by rw [HE.out]; unfold setE; rw [hsb]; rfl
    have HYX := Lib.hid hYx
    subst hEx
    clear hYx hsb
    go_wp2_with fail
    go_at_call 33
    refine Calls.mono HCK.out ?_
    rintro e W2 ⟨rfl, hB⟩
    have HK2 := Lib.hid (HK1.out.step hB)
    have HB2 := Lib.hid (HB1.out.trans (hB.mono HB1.out.size))
    have HCL := Lib.hid (clone_tv2 v L W2 (HVW.out.below HB2.out) hn5)
    clear hB
    go_wp2_with fail
    go_at_call 66
    refine Calls.mono HCL.out ?_
    rintro e W9 ⟨v9, rfl, hv9, hB⟩
    have HV9 := Lib.hid hv9
    have HB9 := Lib.hid (HB2.out.trans (hB.mono HB2.out.size))
    clear hv9 hB
    go_wp2_with fail
    exact bodyPost_ret (v := .tuple #[v9, .int .i64 2]) (by simp [results, Try.results48, go_sem]) rfl ⟨_, rfl, by rw [HYX.out]; exact HV9.out, HB9.out⟩
  · go_wp2_with fail
    go_at_call 33
    refine Calls.mono HCK.out ?_
    rintro e W2 ⟨rfl, hB⟩
    have HK2 := Lib.hid (HK1.out.step hB)
    have HB2 := Lib.hid (HB1.out.trans (hB.mono HB1.out.size))
    clear hB
    have q0 : W2.cell? ⟨N, 0, none⟩ = some (.int .i64 x.id) := cell_at HK2.out 0
    have q1 : W2.cell? ⟨N, 1, none⟩ = some (.int .i64 x.rate) := cell_at HK2.out 1
    have q2 : W2.cell? ⟨N, 2, none⟩ = some (.int .i64 x.burst) := cell_at HK2.out 2
    have q3 : W2.cell? ⟨N, 3, none⟩ = some (.int .i64 x.bkt) := cell_at HK2.out 3
    have q4 : W2.cell? ⟨N, 4, none⟩ = some (.bool x.gone) := cell_at HK2.out 4
    have zq : ∀ j, W2.frozen? ⟨N, j, none⟩ = false := fun j => free_at HK2.out j
    have lq : N < W2.heap.size := HK2.out.lt
    cases M
    · have hsb : setB L x = false := by unfold setB; rw [← HC.out, ← HM.out]; rfl
      have hYx : Y = L := by rw [HY.out]; unfold setL; rw [hsb]; rfl
      have hEx : E = 2 := by rw [HE.out]; unfold setE; rw [hsb]; rfl
      have HYX := Lib.hid hYx
      subst hEx
      clear hYx hsb
      go_wp2_with fail
      go_at_call 65
      refine Calls.mono (HMY.out _) ?_
      rintro e W3 ⟨rfl, hB⟩
      have HB3 := Lib.hid (HB2.out.trans (hB.mono HB2.out.size))
      have HCL := Lib.hid (clone_tv2 v L W3 (HVW.out.below HB3.out) hn5)
      clear hB q0 q1 q2 q3 q4 zq lq
      go_wp2_with fail
      go_at_call 66
      refine Calls.mono HCL.out ?_
      rintro e W9 ⟨v9, rfl, hv9, hB⟩
      have HV9 := Lib.hid hv9
      have HB9 := Lib.hid (HB3.out.trans (hB.mono HB3.out.size))
      clear hv9 hB
      go_wp2_with fail
      exact bodyPost_ret (v := .tuple #[v9, .int .i64 2]) (by simp [results, Try.results48, go_sem]) rfl ⟨_, rfl, by rw [HYX.out]; exact HV9.out, HB9.out⟩
    · have hsb : setB L x = true := by unfold setB; rw [← HC.out, ← HM.out]; rfl
      have hYx : Y = layR x L := by rw [HY.out]; unfold setL; rw [hsb]; rfl
      have hEx : E = 0 := by rw [HE.out]; unfold setE; rw [hsb]; rfl
      have HYX := Lib.hid hYx
      subst hEx
      clear hYx hsb
      go_wp2_with fail
      go_at_call 65
      refine Calls.mono (HMY.out _) ?_
      rintro e W3 ⟨rfl, hB⟩
      have HK3 := Lib.hid (HK2.out.step hB)
      have HB3 := Lib.hid (HB2.out.trans (hB.mono HB2.out.size))
      clear hB q0 q1 q2 q3 q4 zq lq
      have HLY := Lib.hid (lay_any v L x W3 (HVW.out.below HB3.out) hn5 HXO.out)
      unfold TnE.agg at HLY
      rw [layL_eq, ← HYX.out] at HLY
      have q0 : W3.cell? ⟨N, 0, none⟩ = some (.int .i64 x.id) := cell_at HK3.out 0
      have q1 : W3.cell? ⟨N, 1, none⟩ = some (.int .i64 x.rate) := cell_at HK3.out 1
      have q2 : W3.cell? ⟨N, 2, none⟩ = some (.int .i64 x.burst) := cell_at HK3.out 2
      have q3 : W3.cell? ⟨N, 3, none⟩ = some (.int .i64 x.bkt) := cell_at HK3.out 3
      have q4 : W3.cell? ⟨N, 4, none⟩ = some (.bool x.gone) := cell_at HK3.out 4
      have zq : ∀ j, W3.frozen? ⟨N, j, none⟩ = false := fun j => free_at HK3.out j
      have lq : N < W3.heap.size := HK3.out.lt
      go_wp2_with fail
      go_at_call 81
      refine Calls.mono HLY.out ?_
      rintro e W4 ⟨v4, rfl, hv4, hB⟩
      have HV4 := Lib.hid hv4.tv
      have HB4 := Lib.hid (HB3.out.trans (hB.mono HB3.out.size))
      clear hv4 hB
      go_wp2_with fail
      exact bodyPost_ret (v := .tuple #[v4, .int .i64 0]) (by simp [results, Try.results48, go_sem]) rfl ⟨_, rfl, HV4.out, HB4.out⟩
set_option maxRecDepth 100000 in
set_option maxHeartbeats 8000000 in
theorem rset_any (v : Value) (L : List TnE) (x : TnE) (w : World) (h : TV w v L) (hn5 : L.length ≤ 200) (hx : x.ok) : Calls Try.prog 51 #[v, .agg #[.int .i64 x.id, .int .i64 x.rate, .int .i64 x.burst, .int .i64 x.bkt, .bool x.gone]] w fun e w' => ∃ v', e = .returned (.tuple #[v', .int .i64 (setE L x)]) ∧ TV w' v' (setL L x) ∧ Below w.heap.size w w' := by
  have HVW := Lib.hid h
  obtain ⟨N, hN⟩ : ∃ N, N = w.heap.size := ⟨_, rfl⟩
  obtain ⟨W1, hW1⟩ : ∃ W1, W1 = w.alloc (.cells #[.int .i64 x.id, .int .i64 x.rate, .int .i64 x.burst, .int .i64 x.bkt, .bool x.gone] 54) := ⟨_, rfl⟩
  have hB1 : Below w.heap.size w W1 := by rw [hW1]; exact (Below.refl _ _).alloc (Nat.le_refl _) _
  have HK1 : Hid (Blk W1 N #[.int .i64 x.id, .int .i64 x.rate, .int .i64 x.burst, .int .i64 x.bkt, .bool x.gone] 54) := Lib.hid (by rw [hW1, hN]; exact blk_new _ _ _)
  have HV1 := Lib.hid (h.below hB1)
  have HB1 := Lib.hid hB1
  have HNB : Hid (w.heap.size ≤ N) := Lib.hid (by rw [hN]; exact Nat.le_refl _)
  clear hB1 h
  obtain ⟨Y, hY⟩ : ∃ Y, Y = setL L x := ⟨_, rfl⟩
  obtain ⟨E, hE⟩ : ∃ E, E = setE L x := ⟨_, rfl⟩
  rw [← hY, ← hE]
  have HY := Lib.hid hY
  have HE := Lib.hid hE
  obtain ⟨C, hC⟩ : ∃ C, C = chk L := ⟨_, rfl⟩
  have HC := Lib.hid hC
  have HXO := Lib.hid hx
  have HCK := Lib.hid (rcheck_any v L W1 HV1.out)
  rw [← hC] at HCK
  obtain ⟨M, hM⟩ : ∃ M, M = mayT x := ⟨_, rfl⟩
  have HM := Lib.hid hM
  clear hY hE hC hM hx
  go_enter Try.func51, Try.ntmps51
  go_upto_region 1 with fail
  rw [← hN, ← hW1]
  clear hN hW1
  cases C
  · have hsb : setB L x = false := by unfold setB; rw [← HC.out]; rfl
    have hYx : Y = L := by rw [HY.out]; unfold setL; rw [hsb]; rfl
    have hEx : E = 2 := by rw [HE.out]; unfold setE; rw [hsb]; rfl
    have HYX := Lib.hid hYx
    subst hEx
    clear hYx hsb
    go_wp2_with fail
    go_at_call 30
    refine Calls.mono HCK.out ?_
    rintro e W2 ⟨rfl, hB⟩
    have HK2 := Lib.hid (HK1.out.step hB)
    have HB2 := Lib.hid (HB1.out.trans (hB.mono HB1.out.size))
    clear hB
    go_wp2_with fail
    exact bodyPost_ret (v := .tuple #[v, .int .i64 2]) (by simp [results, Try.results51, go_sem]) rfl ⟨_, rfl, by rw [HYX.out]; exact HVW.out.below HB2.out, HB2.out⟩
  · go_wp2_with fail
    go_at_call 30
    refine Calls.mono HCK.out ?_
    rintro e W2 ⟨rfl, hB⟩
    have HK2 := Lib.hid (HK1.out.step hB)
    have HB2 := Lib.hid (HB1.out.trans (hB.mono HB1.out.size))
    clear hB
    have HWI := Lib.hid (with_any v L x W2 (HVW.out.below HB2.out) hn5 HXO.out)
    unfold TnE.agg at HWI
    rw [withF_lay _ L 0 HC.out.symm] at HWI
    have HCL : Hid (chk (layR x L) = mayT x) := Lib.hid ((chk_lay x L 0 HC.out.symm).trans may_id)
    have q0 : W2.cell? ⟨N, 0, none⟩ = some (.int .i64 x.id) := cell_at HK2.out 0
    have q1 : W2.cell? ⟨N, 1, none⟩ = some (.int .i64 x.rate) := cell_at HK2.out 1
    have q2 : W2.cell? ⟨N, 2, none⟩ = some (.int .i64 x.burst) := cell_at HK2.out 2
    have q3 : W2.cell? ⟨N, 3, none⟩ = some (.int .i64 x.bkt) := cell_at HK2.out 3
    have q4 : W2.cell? ⟨N, 4, none⟩ = some (.bool x.gone) := cell_at HK2.out 4
    have zq : ∀ j, W2.frozen? ⟨N, j, none⟩ = false := fun j => free_at HK2.out j
    have lq : N < W2.heap.size := HK2.out.lt
    go_wp2_with fail
    go_at_call 83
    refine Calls.mono HWI.out ?_
    rintro e W3 ⟨v3, rfl, hv3, hB⟩
    have HV3 := Lib.hid hv3.tv
    have HB3 := Lib.hid (HB2.out.trans (hB.mono HB2.out.size))
    have HC2 := Lib.hid (rcheck_any v3 (layR x L) W3 HV3.out)
    rw [HCL.out, ← HM.out] at HC2
    clear hv3 hB q0 q1 q2 q3 q4 zq lq
    cases M
    · have hsb : setB L x = false := by unfold setB; rw [← HC.out, ← HM.out]; rfl
      have hYx : Y = L := by rw [HY.out]; unfold setL; rw [hsb]; rfl
      have hEx : E = 2 := by rw [HE.out]; unfold setE; rw [hsb]; rfl
      have HYX := Lib.hid hYx
      subst hEx
      clear hYx hsb
      go_wp2_with fail
      go_at_call 30
      refine Calls.mono HC2.out ?_
      rintro e W4 ⟨rfl, hB⟩
      have HB4 := Lib.hid (HB3.out.trans (hB.mono HB3.out.size))
      clear hB
      go_wp2_with fail
      exact bodyPost_ret (v := .tuple #[v, .int .i64 2]) (by simp [results, Try.results51, go_sem]) rfl ⟨_, rfl, by rw [HYX.out]; exact HVW.out.below HB4.out, HB4.out⟩
    · have hsb : setB L x = true := by unfold setB; rw [← HC.out, ← HM.out]; rfl
      have hYx : Y = layR x L := by rw [HY.out]; unfold setL; rw [hsb]; rfl
      have hEx : E = 0 := by rw [HE.out]; unfold setE; rw [hsb]; rfl
      have HYX := Lib.hid hYx
      subst hEx
      clear hYx hsb
      go_wp2_with fail
      go_at_call 30
      refine Calls.mono HC2.out ?_
      rintro e W4 ⟨rfl, hB⟩
      have HB4 := Lib.hid (HB3.out.trans (hB.mono HB3.out.size))
      have HV4 := Lib.hid (HV3.out.below hB)
      clear hB
      go_wp2_with fail
      exact bodyPost_ret (v := .tuple #[v3, .int .i64 0]) (by simp [results, Try.results51, go_sem]) rfl ⟨_, rfl, by rw [HYX.out]; exact HV4.out, HB4.out⟩
end Go.Proofs.Ytfgnjpdlchimpaa
namespace Go.Proofs.Ytfgnjpdlchimpaa
open Go.RowKit
set_option linter.unusedSimpArgs false
set_option linter.unusedVariables false

structure IntsIn (W : World) (a : Option Addr) (len cap : Nat) (b o : Nat) (T : Nat → Int) : Prop where
  le : len ≤ cap
  max : cap ≤ maxLen
  at_ : 0 < len → a = some ⟨b, o, none⟩ ∧ b < W.heap.size
  cell : ∀ k, k < len → W.cell? ⟨b, o + k, none⟩ = some (.int .i64 (T k))
  bd : ∀ k, k < len → -9223372036854775808 ≤ T k ∧ T k ≤ 9223372036854775807

theorem ints_cells (W : World) {a : Option Addr} {len cap : Nat} {xs : List Dt} (h : SliceFits Try.prog W 3 a len cap xs) : ∃ (b o : Nat) (T : Nat → Int), IntsIn W a len cap b o T := by
  have hc : Try.prog.cellsOf 3 = 1 := by kernel_rfl
  obtain ⟨b, o, h1, h2⟩ := h.spot (by rw [hc]; omega)
  have hex : ∀ k, ∃ q : Int, k < len → W.cell? ⟨b, o + k, none⟩ = some (.int .i64 q) ∧ -9223372036854775808 ≤ q ∧ q ≤ 9223372036854775807 := fun k => by
    by_cases hk : k < len
    · have hl := h.length
      have hx := List.getElem?_eq_getElem (l := xs) (i := k) (by omega)
      obtain ⟨n0, e0, g0⟩ := (h.each k _ hx).1.int_inv Try.underlying3
      have hcell := h2 k _ hx
      rw [e0, hc] at hcell
      exact ⟨n0, fun _ => ⟨by have := hcell 0 _ rfl; rwa [Nat.mul_one] at this, g0.1, g0.2⟩⟩
    · exact ⟨0, fun h => absurd h hk⟩
  have hg := fun k => Classical.choose_spec (hex k)
  exact ⟨b, o, fun k => Classical.choose (hex k), h.le, h.max, h1, fun k hk => (hg k hk).1, fun k hk => (hg k hk).2⟩

theorem IntsIn.below {W W' : World} {a : Option Addr} {len cap b o : Nat} {T : Nat → Int} (h : IntsIn W a len cap b o T) (hB : Below W.heap.size W W') : IntsIn W' a len cap b o T :=
  ⟨h.le, h.max, fun hk => ⟨(h.at_ hk).1, by have := (h.at_ hk).2; have := hB.size; omega⟩, fun k hk => (hB.cell (p := ⟨b, _, none⟩) (h.at_ (by omega)).2).trans (h.cell k hk), h.bd⟩

def outN (on : Nat) (T : Nat → Int) (x : TnE) : Int := if x.id - 1 < on then T (x.id - 1).toNat else 0
def swB (on : Nat) (T : Nat → Int) (x : TnE) : Bool := x.gone && decide (outN on T x ≤ 0)
def swL (on : Nat) (T : Nat → Int) (L : List TnE) : List TnE := if chk L then L.filter fun x => !swB on T x else L
theorem chk_id {L : List TnE} (h : chk L = true) {x : TnE} (hx : x ∈ L) : 0 < x.id := chkF_gt L 0 h x hx
theorem ent_sw1 : EntK 94 := fun _ _ => by kernel_rfl
set_option maxRecDepth 100000 in
set_option maxHeartbeats 4000000 in
theorem sw1_any (x : TnE) (N0 : Nat) (oa : Option Addr) (on oc ob oo : Nat) (T : Nat → Int) (w : World) (h : w.cell? ⟨N0, 0, none⟩ = some (.slice oa on oc)) (hl : N0 < w.heap.size) (hI : IntsIn w oa on oc ob oo T) (hx : 0 < x.id) (hx2 : x.id ≤ 9223372036854775807) : Calls Try.prog 94 #[.agg #[.int .i64 x.id, .int .i64 x.rate, .int .i64 x.burst, .int .i64 x.bkt, .bool x.gone], .pointer (some ⟨N0, 0, none⟩)] w fun e w' => e = .returned (.bool (swB on T x)) ∧ Below w.heap.size w w' := by
  obtain ⟨N, hN⟩ : ∃ N, N = w.heap.size := ⟨_, rfl⟩
  obtain ⟨W1, hW1⟩ : ∃ W1, W1 = w.alloc (.cells #[.int .i64 x.id, .int .i64 x.rate, .int .i64 x.burst, .int .i64 x.bkt, .bool x.gone] 54) := ⟨_, rfl⟩
  have hB1 : Below w.heap.size w W1 := by rw [hW1]; exact (Below.refl _ _).alloc (Nat.le_refl _) _
  have hk : Blk W1 N #[.int .i64 x.id, .int .i64 x.rate, .int .i64 x.burst, .int .i64 x.bkt, .bool x.gone] 54 := by rw [hW1, hN]; exact blk_new _ _ _
  obtain ⟨R, hR⟩ : ∃ R, R = swB on T x := ⟨_, rfl⟩
  rw [← hR]
  have HR := Lib.hid hR
  obtain ⟨id, rate, burst, bkt, gone⟩ := x
  simp only at hx hx2 hk hW1 ⊢
  obtain ⟨k, rfl⟩ : ∃ k : Nat, id = (k : Int) + 1 := ⟨(id - 1).toNat, by omega⟩
  have c0 : W1.cell? ⟨N, 0, none⟩ = some (.int .i64 ((k : Int) + 1)) := cell_at hk 0
  have c4 : W1.cell? ⟨N, 4, none⟩ = some (.bool gone) := cell_at hk 4
  have i0 : W1.cell? ⟨N0, 0, none⟩ = some (.slice oa on oc) := (hB1.cell (p := ⟨N0, _, none⟩) hl).trans h
  have hl1 : N0 < W1.heap.size := by have := hB1.size; omega
  have hN1 : N < W1.heap.size := hk.lt
  have HB1 := Lib.hid hB1
  have hI1 := hI.below hB1
  have m1 := hI.le
  have m2 := hI.max
  unfold maxLen at m2
  have HO : Hid (outN on T ⟨(k : Int) + 1, rate, burst, bkt, gone⟩ = if k < on then T k else 0) := Lib.hid (by unfold outN; simp only [Int.add_sub_cancel, Int.toNat_natCast]; by_cases hh : k < on <;> simp [hh])
  have hw : IntKind.i64.wrap (k : Int) = (k : Int) := IntWalk.i64_in _ (by omega)
  have HI1 := Lib.hid hI1
  clear hB1 hk h hl hI hI1 hR
  have hcs : gone = false ∨ (gone = true ∧ on ≤ k) ∨ (gone = true ∧ k < on) := by cases gone <;> simp <;> omega
  rcases hcs with rfl | ⟨rfl, g1⟩ | ⟨rfl, g1⟩
  · have hRx : R = false := by rw [HR.out]; rfl
    subst hRx
    go_enter Try.func94, Try.ntmps94
    go_upto_region 1 with fail
    rw [← hN, ← hW1]
    clear hN hW1
    go_wp2_with fail
    go_ret
    exact ⟨rfl, HB1.out⟩
  · have hRx : R = true := by rw [HR.out]; unfold swB; rw [HO.out, if_neg (by omega)]; rfl
    subst hRx
    have d1 : decide (on < k + 1) = true := decide_eq_true (by omega)
    have d2 : decide (on ≤ k) = true := decide_eq_true g1
    have d3 : decide ((on : Int) < (k : Int) + 1) = true := decide_eq_true (by omega)
    go_enter Try.func94, Try.ntmps94
    go_upto_region 1 with fail
    rw [← hN, ← hW1]
    clear hN hW1
    go_wp2_with fail
    go_ret
    exact ⟨rfl, HB1.out⟩
  · have hRx : R = decide (T k ≤ 0) := by rw [HR.out]; unfold swB; rw [HO.out, if_pos g1]; rfl
    subst hRx
    obtain ⟨e0, e1⟩ := HI1.out.at_ (by omega)
    subst e0
    have o0 := HI1.out.cell k g1
    obtain ⟨t, ht⟩ : ∃ t, t = T k := ⟨_, rfl⟩
    rw [← ht] at o0 ⊢
    have d1 : decide (on < k + 1) = false := decide_eq_false (by omega)
    have d2 : decide (on ≤ k) = false := decide_eq_false (by omega)
    have d3 : decide ((on : Int) < (k : Int) + 1) = false := decide_eq_false (by omega)
    clear ht HI1 HO HR
    go_enter Try.func94, Try.ntmps94
    go_upto_region 1 with fail
    rw [← hN, ← hW1]
    clear hN hW1
    go_wp2_with fail
    all_goals
      go_ret
      exact ⟨ret_bool (by first | rfl | (simp; omega) | simp [*]), HB1.out⟩
set_option maxRecDepth 100000 in
set_option maxHeartbeats 8000000 in
theorem psweep_any (v : Value) (L : List TnE) (oa : Option Addr) (on oc ob oo : Nat) (T : Nat → Int) (w : World) (h : TV w v L) (hI : IntsIn w oa on oc ob oo T) (hn5 : L.length ≤ 200) : Calls Try.prog 70 #[v, .slice oa on oc] w fun e w' => ∃ v', e = .returned v' ∧ TV w' v' (swL on T L) ∧ Below w.heap.size w w' := by
  have HVW := Lib.hid h
  obtain ⟨N, hN⟩ : ∃ N, N = w.heap.size := ⟨_, rfl⟩
  obtain ⟨W1, hW1⟩ : ∃ W1, W1 = w.alloc (.cells #[.slice oa on oc] 45) := ⟨_, rfl⟩
  have hB1 : Below w.heap.size w W1 := by rw [hW1]; exact (Below.refl _ _).alloc (Nat.le_refl _) _
  have HK1 : Hid (Blk W1 N #[.slice oa on oc] 45) := Lib.hid (by rw [hW1, hN]; exact blk_new _ _ _)
  have HV1 := Lib.hid (h.below hB1)
  have HB1 := Lib.hid hB1
  have HII := Lib.hid hI
  obtain ⟨C, hC⟩ : ∃ C, C = chk L := ⟨_, rfl⟩
  have HC := Lib.hid hC
  obtain ⟨Y, hY⟩ : ∃ Y, Y = swL on T L := ⟨_, rfl⟩
  rw [← hY]
  have HY := Lib.hid hY
  have HCK := Lib.hid (pcheck_any v L W1 HV1.out)
  rw [← hC] at HCK
  clear hC hY hB1 h hI
  go_enter Try.func70, Try.ntmps70
  go_upto_region 1 with fail
  rw [← hN, ← hW1]
  clear hN hW1
  cases C
  · have hYx : Y = L := by rw [HY.out]; unfold swL; rw [← HC.out]; rfl
    have HYX := Lib.hid hYx
    clear hYx
    go_wp2_with fail
    go_at_call 33
    refine Calls.mono HCK.out ?_
    rintro e W2 ⟨rfl, hB⟩
    have HK2 := Lib.hid (HK1.out.step hB)
    have HB2 := Lib.hid (HB1.out.trans (hB.mono HB1.out.size))
    have HCL := Lib.hid (clone_tv2 v L W2 (HVW.out.below HB2.out) hn5)
    clear hB
    go_wp2_with fail
    go_at_call 66
    refine Calls.mono HCL.out ?_
    rintro e W9 ⟨v9, rfl, hv9, hB⟩
    have HV9 := Lib.hid hv9
    have HB9 := Lib.hid (HB2.out.trans (hB.mono HB2.out.size))
    clear hv9 hB
    go_wp2_with fail
    go_ret
    exact ⟨_, rfl, by rw [HYX.out]; exact HV9.out, HB9.out⟩
  · have hYx : Y = L.filter fun x => !swB on T x := by rw [HY.out]; unfold swL; rw [← HC.out]; rfl
    have HYX := Lib.hid hYx
    clear hYx
    go_wp2_with fail
    go_at_call 33
    refine Calls.mono HCK.out ?_
    rintro e W2 ⟨rfl, hB⟩
    have HK2 := Lib.hid (HK1.out.step hB)
    have HB2 := Lib.hid (HB1.out.trans (hB.mono HB1.out.size))
    have hCT : ClT 94 #[.pointer (some ⟨N, 0, none⟩)] (swB on T) L W2 := fun x W hxL hB9 => by
      have hk9 := HK2.out.step hB9
      have hb := HB2.out.trans (hB9.mono HB2.out.size)
      exact sw1_any x N oa on oc ob oo T W (cell_at hk9 0) hk9.lt (HII.out.below hb) (chk_id HC.out.symm hxL) (HVW.out.ok x hxL).1.2
    have HWO := Lib.hid (without_any 94 #[.pointer (some ⟨N, 0, none⟩)] (swB on T) v L W2 (HVW.out.below HB2.out) hn5 ent_sw1 hCT)
    rw [← HYX.out] at HWO
    clear hB hCT
    go_wp2_with fail
    go_at_call 93
    refine Calls.mono HWO.out ?_
    rintro e W9 ⟨v9, rfl, hv9, hB⟩
    have HV9 := Lib.hid hv9.tv
    have HB9 := Lib.hid (HB2.out.trans (hB.mono HB2.out.size))
    clear hv9 hB
    go_wp2_with fail
    go_ret
    exact ⟨_, rfl, HV9.out, HB9.out⟩
end Go.Proofs.Ytfgnjpdlchimpaa
namespace Go.Proofs.Ytfgnjpdlchimpaa
open Go.RowKit
set_option linter.unusedSimpArgs false
set_option linter.unusedVariables false

set_option maxRecDepth 100000 in
theorem back_bd (size : Int) : 0 ≤ 1000 * within size 1000000 ∧ 1000 * within size 1000000 ≤ 1000000000 := by unfold within; omega

set_option maxHeartbeats 1000000 in
set_option maxRecDepth 100000 in
theorem back_any (b burst out size : Int) (hb : b ≤ 9223372036854775807) (ho : out ≤ 9223372036854775807) (w : World) : Calls Try.prog 84 #[.int .i64 b, .int .i64 burst, .int .i64 out, .int .i64 size] w fun e w' => e = .returned (.int .i64 (backS b burst out size)) ∧ Below w.heap.size w w' := by
  have h1 := within_bd size 1000000 (by omega)
  have h3 := back_bd size
  have hfin : backS b burst out size = cut (moreS b (1000 * within size 1000000)) burst out := (cut_more _ _ _ _ h3.1).symm
  have Hfin := Lib.hid hfin
  clear hfin
  go_enter Try.func84, Try.ntmps84
  go_wp2_with ( (go_at_call 71; refine (within_any _ _ _).mono ?_; rintro e w' ⟨rfl, rfl⟩))
  refine (through_two b (moreS b (1000 * within size 1000000)) (cut (moreS b (1000 * within size 1000000)) burst out) (w.heap.size + 1 + 1 + 1) 98 99 #[.pointer (some ⟨w.heap.size + 1 + 1, 0, none⟩)] #[.pointer (some ⟨w.heap.size, 0, none⟩), .pointer (some ⟨w.heap.size + 1, 0, none⟩)] _ ?_ (fun _ _ => rfl) (fun _ _ => rfl) ?_ ?_).mono ?_
  · refine Eq.trans (congrArg (fun k => _root_.GetElem?.getElem? _ k) ?_) (heap_alloc_new _ _)
    simp
  · refine back1_any _ _ _ _ hb h3.1 (by omega) ?_
    go_simp
  · refine back2_any _ _ _ _ _ _ ho ?_ ?_
    · go_simp
    · go_simp
  · rintro e w' ⟨rfl, rfl⟩
    go_wp2
    go_ret
    exact ⟨ret_int Hfin.out.symm, ((((Below.refl _ _).alloc (Nat.le_refl _) _).alloc (by simp) _).alloc (by simp; omega) _).alloc (by simp; omega) _⟩

def wholeS (b : Int) : Int := max b 0 / 1000
def poorB (b size : Int) : Bool := decide (size < 0 ∨ wholeS b < size)
def takeV (b size : Int) : Int := if poorB b size then 0 else b - 1000 * size
def takeE (b size : Int) : Int := if poorB b size then 170 else 0

set_option maxHeartbeats 400000 in
set_option maxRecDepth 100000 in
theorem whole_any (b : Int) (hb : b ≤ 9223372036854775807) (w : World) : Calls Try.prog 80 #[.int .i64 b] w fun e w' => e = .returned (.int .i64 (wholeS b)) ∧ w = w' := by
  go_enter Try.func80, Try.ntmps80
  go_wp2_with fail
  all_goals
    go_ret
    exact ⟨ret_int (by unfold wholeS; omega), rfl⟩
set_option maxHeartbeats 400000 in
set_option maxRecDepth 100000 in
theorem rwhole_any (b : Int) (hb : b ≤ 9223372036854775807) (w : World) : Calls Try.prog 82 #[.int .i64 b] w fun e w' => e = .returned (.int .i64 (wholeS b)) ∧ w = w' := by
  go_enter Try.func82, Try.ntmps82
  go_wp2_with fail
  all_goals
    go_ret
    exact ⟨ret_int (by unfold wholeS; omega), rfl⟩

set_option maxRecDepth 100000 in
theorem poor_eq {b size : Int} (h : size < 0 ∨ wholeS b < size) : poorB b size = true := by unfold poorB; simpa using h
set_option maxRecDepth 100000 in
theorem rich_eq {b size : Int} (h : 0 ≤ size) (h2 : size ≤ wholeS b) : poorB b size = false := by unfold poorB; simp; omega
set_option maxRecDepth 100000 in
theorem take_poor {b size : Int} (h : poorB b size = true) : Ending.returned (.tuple #[.int .i64 0, .int .i64 170]) = Ending.returned (.tuple #[.int .i64 (takeV b size), .int .i64 (takeE b size)]) := by unfold takeV takeE; rw [h]; rfl
set_option maxRecDepth 100000 in
theorem take_rich {b size x : Int} (h : poorB b size = false) (hx : x = b - 1000 * size) : Ending.returned (.tuple #[.int .i64 x, .int .i64 0]) = Ending.returned (.tuple #[.int .i64 (takeV b size), .int .i64 (takeE b size)]) := by unfold takeV takeE; rw [h, hx]; rfl

set_option maxHeartbeats 400000 in
set_option maxRecDepth 100000 in
theorem take_any (b size : Int) (hb0 : -9223372036854775808 ≤ b) (hb : b ≤ 9223372036854775807) (w : World) : Calls Try.prog 45 #[.int .i64 b, .int .i64 size] w fun e w' => e = .returned (.tuple #[.int .i64 (takeV b size), .int .i64 (takeE b size)]) ∧ w = w' := by
  have hw : wholeS b = max b 0 / 1000 := rfl
  by_cases h0 : size < 0
  · have hp := poor_eq (b := b) (.inl h0)
    clear hw
    have Hp := Lib.hid hp
    clear hp
    go_enter Try.func45, Try.ntmps45
    go_wp2_with (refine (whole_any _ hb _).mono ?_; rintro e w' ⟨rfl, rfl⟩)
    go_ret2
    exact ⟨take_poor Hp.out, rfl⟩
  · have h0' : 0 ≤ size := by omega
    clear h0
    by_cases h1 : wholeS b < size
    · have Hp := Lib.hid (poor_eq (b := b) (.inr h1))
      clear hw
      go_enter Try.func45, Try.ntmps45
      go_wp2_with (refine (whole_any _ hb _).mono ?_; rintro e w' ⟨rfl, rfl⟩)
      go_ret2
      exact ⟨take_poor Hp.out, rfl⟩
    · have h1' : size ≤ wholeS b := by omega
      have Hp := Lib.hid (rich_eq h0' h1')
      have hs : -9223372036854775808 ≤ b - 1000 * size := by omega
      have hs2 : 1000 * size ≤ 9223372036854775807 := by omega
      clear h1 hw
      go_enter Try.func45, Try.ntmps45
      go_wp2_with (refine (whole_any _ hb _).mono ?_; rintro e w' ⟨rfl, rfl⟩)
      go_ret2
      exact ⟨take_rich Hp.out rfl, rfl⟩
set_option maxHeartbeats 400000 in
set_option maxRecDepth 100000 in
theorem rtake_any (b size : Int) (hb0 : -9223372036854775808 ≤ b) (hb : b ≤ 9223372036854775807) (w : World) : Calls Try.prog 50 #[.int .i64 b, .int .i64 size] w fun e w' => e = .returned (.tuple #[.int .i64 (takeV b size), .int .i64 (takeE b size)]) ∧ w = w' := by
  have hw : wholeS b = max b 0 / 1000 := rfl
  by_cases h0 : size < 0
  · have hp := poor_eq (b := b) (.inl h0)
    clear hw
    have Hp := Lib.hid hp
    clear hp
    go_enter Try.func50, Try.ntmps50
    go_wp2_with (refine (rwhole_any _ hb _).mono ?_; rintro e w' ⟨rfl, rfl⟩)
    go_ret2
    exact ⟨take_poor Hp.out, rfl⟩
  · have h0' : 0 ≤ size := by omega
    clear h0
    by_cases h1 : wholeS b < size
    · have Hp := Lib.hid (poor_eq (b := b) (.inr h1))
      clear hw
      go_enter Try.func50, Try.ntmps50
      go_wp2_with (refine (rwhole_any _ hb _).mono ?_; rintro e w' ⟨rfl, rfl⟩)
      go_ret2
      exact ⟨take_poor Hp.out, rfl⟩
    · have h1' : size ≤ wholeS b := by omega
      have Hp := Lib.hid (rich_eq h0' h1')
      have hs : -9223372036854775808 ≤ b - 1000 * size := by omega
      have hs2 : 1000 * size ≤ 9223372036854775807 := by omega
      clear h1 hw
      go_enter Try.func50, Try.ntmps50
      go_wp2_with (refine (rwhole_any _ hb _).mono ?_; rintro e w' ⟨rfl, rfl⟩)
      go_ret2
      exact ⟨take_rich Hp.out rfl, rfl⟩
end Go.Proofs.Ytfgnjpdlchimpaa
namespace Go.Proofs.Ytfgnjpdlchimpaa
open Go.RowKit
set_option linter.unusedSimpArgs false
set_option linter.unusedVariables false

/-- a state without the tenants that go -/
def sweptS (s : StE) : StE := ⟨s.term, s.stamp, s.next, swL 16 (fun k => outL s.ls ((k : Int) + 1)) s.ts, s.ls, s.ss, s.ds⟩
def fndL (key : Int) (L : List LeE) : Option LeE := L.find? fun y => decide (y.id = key)
def fndS (s : StE) (key : Int) : Option LeE := if chkS s then fndL key s.ls else none
def outS (s : StE) (t : Int) : Int := if chkS s then outL s.ls t else 0
def ansG (e r b l z : Int) : Value := .agg #[.int .i64 e, .int .i64 r, .int .i64 b, .int .i64 l, .int .i64 z]
/-- a tenant with ticks credited -/
def credT (ls : List LeE) (ticks : Int) (t : TnE) : TnE := if t.gone then t else ⟨t.id, t.rate, t.burst, creditS t.bkt t.rate t.burst (outL ls t.id) ticks, t.gone⟩
def credS (s : StE) (ticks : Int) : StE := if chkS s then sweptS ⟨s.term, s.stamp, s.next, s.ts.map (credT s.ls ticks), s.ls, s.ss, s.ds⟩ else s
/-- is what a grant is asked with one that may be? -/
def argG (sh ep nu size : Int) : Bool := (decide (1 ≤ sh) && decide (sh ≤ 8)) && decide (1 ≤ ep) && decide (1 ≤ nu) && (decide (1 ≤ size) && decide (size ≤ 1000000))
def grE (s : StE) (sh ep nu te size : Int) : Int :=
  if argG sh ep nu size then
    (match fnd te s.ts with
    | none => 161
    | some t => if t.gone then 161 else if 64 ≤ s.ls.length ∨ 1099511627776 ≤ s.next then 100 else takeE t.bkt size)
  else 2
def grL (s : StE) (sh ep nu te size : Int) : StE :=
  let t := (fnd te s.ts).getD z0
  ⟨s.term, s.stamp, s.next + 1, setL s.ts ⟨t.id, t.rate, t.burst, takeV t.bkt size, t.gone⟩, s.ls ++ [⟨s.next, te, sh, ep, nu, size, 0⟩], s.ss, s.ds⟩
def grS (s : StE) (sh ep nu te size : Int) : StE := if chkS s then (if grE s sh ep nu te size = 0 then sweptS (grL s sh ep nu te size) else sweptS s) else s
def grA (s : StE) (sh ep nu te size : Int) : Value :=
  if chkS s then (if grE s sh ep nu te size = 0 then ansG 0 ((fnd te s.ts).getD z0).rate ((fnd te s.ts).getD z0).burst s.next size else ansG (grE s sh ep nu te size) 0 0 0 0) else ansG 2 0 0 0 0
/-- what a report is answered -/
def rpE (s : StE) (sh ep le sp : Int) : Int :=
  if chkS s then
    (match fndL le s.ls with
    | none => 180
    | some x => if x.shaper = sh ∧ x.epoch = ep then (if sp < x.spent ∨ x.size < sp then 2 else 0) else 180)
  else 2
def wo (key : Int) (L : List LeE) : List LeE := L.filter fun y => !decide (y.id = key)
def spL (key sp : Int) (L : List LeE) : List LeE := L.map fun y => if y.id = key then ⟨y.id, y.tenant, y.shaper, y.epoch, y.number, y.size, sp⟩ else y
/-- tenants, one of which gets back what is left -/
def bkL (ts : List TnE) (te out left : Int) : List TnE :=
  let t := (fndC te ts).getD z0
  if t.gone then ts else setL ts ⟨t.id, t.rate, t.burst, backS t.bkt t.burst out left, t.gone⟩
def rpL (s : StE) (le sp : Int) (cl : Bool) : StE :=
  let x := (fndL le s.ls).getD zLe
  if cl = false ∧ sp < x.size then ⟨s.term, s.stamp, s.next, s.ts, spL le sp s.ls, s.ss, s.ds⟩
  else ⟨s.term, s.stamp, s.next, if cl then bkL s.ts x.tenant (outL (wo le s.ls) x.tenant) (x.size - sp) else s.ts, wo le s.ls, s.ss, s.ds⟩
def rpS (s : StE) (sh ep le sp : Int) (cl : Bool) : StE := if chkS s then (if rpE s sh ep le sp = 0 then sweptS (rpL s le sp cl) else sweptS s) else s
def exS (s : StE) (l : List Int) : StE := if chkS s then sweptS ⟨s.term, s.stamp, s.next, s.ts, s.ls.filter fun y => !l.contains y.id, s.ss, s.ds⟩ else s
end Go.Proofs.Ytfgnjpdlchimpaa
namespace Go.Proofs.Ytfgnjpdlchimpaa
open Go.RowKit
set_option linter.unusedSimpArgs false
set_option linter.unusedVariables false

def zTn : TnE := ⟨0, 0, 0, 0, false⟩
def gTn (L : List TnE) (k : Nat) : TnE := (L[k]?).getD zTn
theorem gTn_lt {L : List TnE} {k : Nat} (h : k < L.length) : L[k]? = some (gTn L k) := by unfold gTn; rw [List.getElem?_eq_getElem h]; rfl
theorem gTn_of {L : List TnE} {k : Nat} {x : TnE} (h : L[k]? = some x) : gTn L k = x := by unfold gTn; rw [h]; rfl
def llTn (L : List TnE) : List Value := L.flatMap TnE.cells
theorem llTn_append (a b : List TnE) : llTn (a ++ b) = llTn a ++ llTn b := by simp [llTn]
theorem llTn_one (m : TnE) : llTn [m] = m.cells := by simp [llTn]
theorem llTn_len : ∀ L : List TnE, (llTn L).length = L.length * 5
  | [] => rfl
  | m :: l => by
    show (m.cells ++ llTn l).length = _
    rw [List.length_append, llTn_len l]
    simp [TnE.cells]
    omega
theorem llTn_g : ∀ (L : List TnE), llTn L = tnL (gTn L) L.length := by
  intro L
  suffices h : ∀ n, n ≤ L.length → llTn (L.take n) = tnL (gTn L) n by
    have := h L.length (Nat.le_refl _)
    rwa [List.take_length] at this
  intro n
  induction n with
  | zero => intro _; rfl
  | succ n ih =>
    intro hn
    rw [tnL_succ, ← ih (by omega), List.take_add_one, gTn_lt (by omega)]
    rw [llTn_append]
    simp [llTn]
theorem llTn_take (L : List TnE) (i : Nat) (hi : i ≤ L.length) : (llTn L).take (i * 5) = llTn (L.take i) := by
  have h : llTn L = llTn (L.take i) ++ llTn (L.drop i) := by rw [← llTn_append, List.take_append_drop]
  rw [h, List.take_append_of_le_length (by rw [llTn_len, List.length_take, Nat.min_eq_left hi]; exact Nat.le_refl _), List.take_of_length_le (by rw [llTn_len, List.length_take, Nat.min_eq_left hi]; exact Nat.le_refl _)]
/-- the list that a value stands for -/
def TnV (W : World) (v : Value) (L : List TnE) : Prop := ∃ a b o cap, v = .slice a L.length cap ∧ TnIn W a L.length cap b o (gTn L)
theorem TnV.below {W W' : World} {v : Value} {L : List TnE} (h : TnV W v L) (hB : Below W.heap.size W W') : TnV W' v L := by
  obtain ⟨a, b, o, c, rfl, h⟩ := h
  exact ⟨a, b, o, c, rfl, h.below hB⟩
def okTn (L : List TnE) : Prop := ∀ x ∈ L, x.ok
theorem okTn_g {L : List TnE} (h : okTn L) (k : Nat) (hk : k < L.length) : (gTn L k).ok := h _ (List.mem_of_getElem? (gTn_lt hk))
theorem TnV.ok {W : World} {v : Value} {L : List TnE} (h : TnV W v L) : okTn L := by
  obtain ⟨a, b, o, c, rfl, h⟩ := h
  intro x hx
  obtain ⟨k, hk, rfl⟩ := List.mem_iff_getElem.1 hx
  have := h.bd k hk
  rwa [gTn_of (List.getElem?_eq_getElem hk)] at this
theorem TnV.sh {W : World} {v : Value} {L : List TnE} (h : TnV W v L) : ∃ a n c, v = .slice a n c ∧ Hid (n = L.length) ∧ n ≤ c ∧ c ≤ 9223372036854775807 := by
  obtain ⟨a, b, o, c, rfl, h⟩ := h
  exact ⟨a, _, c, rfl, Lib.hid rfl, h.le, by have := h.max; unfold maxLen at this; exact this⟩
theorem TnV.at {W : World} {a : Option Addr} {n c : Nat} {L : List TnE} (h : TnV W (.slice a n c) L) (k : Nat) (hk : k < n) : ∃ (g o : Nat) (e : TnE), a = some ⟨g, o, none⟩ ∧ g < W.heap.size ∧ L[k]? = some e ∧ W.cell? ⟨g, o + k * 5, none⟩ = some (.int .i64 e.id) ∧ W.cell? ⟨g, o + k * 5 + 1, none⟩ = some (.int .i64 e.rate) ∧ W.cell? ⟨g, o + k * 5 + 2, none⟩ = some (.int .i64 e.burst) ∧ W.cell? ⟨g, o + k * 5 + 3, none⟩ = some (.int .i64 e.bkt) ∧ W.cell? ⟨g, o + k * 5 + 4, none⟩ = some (.bool e.gone) := by
  obtain ⟨a', b, o, c', ee, h⟩ := h
  injection ee with e1 e2 e3
  subst e1 e2 e3
  have h1 := h.at_ (by omega)
  exact ⟨b, o, gTn L k, h1.1, h1.2, gTn_lt hk, h.cell k hk⟩
theorem tn9v_row {W : World} {v : Value} {ob : Option Nat} {L : List TnE} (h : Row W v ob 54 5 L.length (llTn L)) (ho : okTn L) : TnV W v L := by
  rw [llTn_g] at h
  obtain ⟨a, c, e, h2⟩ := tn_row h (okTn_g ho)
  exact ⟨a, _, 0, c, e, h2⟩
theorem tn9v_nil (W : World) : TnV W (.slice none 0 0) [] := ⟨none, 0, 0, 0, rfl, Nat.le_refl _, Nat.zero_le _, fun h => absurd h (by simp), fun k hk => absurd hk (by simp), fun k hk => absurd hk (by simp)⟩
theorem tn9v_cells (W : World) {a : Option Addr} {len cap : Nat} {xs : List Dt} (h : SliceFits Try.prog W 54 a len cap xs) : ∃ L : List TnE, L.length = len ∧ TnV W (.slice a len cap) L := by
  obtain ⟨b, o, E, hE⟩ := tn_cells W h
  refine ⟨(List.range len).map E, by simp, a, b, o, cap, by simp, ?_⟩
  have hg : ∀ k, k < len → gTn ((List.range len).map E) k = E k := fun k hk => gTn_of (by simp [hk])
  rw [show ((List.range len).map E).length = len by simp]
  exact ⟨hE.le, hE.max, hE.at_, fun k hk => by rw [hg k hk]; exact hE.cell k hk, fun k hk => by rw [hg k hk]; exact hE.bd k hk⟩
theorem tnZero9 : (Try.prog.info? 54).map (fun i => (i.zero, i.size, i.bytes)) = some (some (Value.agg #[.int .i64 0, .int .i64 0, .int .i64 0, .int .i64 0, .bool false]), 5, 40) := by kernel_rfl
theorem llTn_ones (L : List TnE) : ∀ u ∈ llTn L, u.oneCell' = true := by
  intro u hu
  simp only [llTn, List.mem_flatMap] at hu
  obtain ⟨y, _, hk⟩ := hu
  have : y.cells.all (fun u => u.oneCell') = true := rfl
  exact List.all_eq_true.1 this u hk
theorem tn_at9 {W : World} {a : Option Addr} {n c b o : Nat} {E : Nat → TnE} (h : TnIn W a n c b o E) (j : Nat) (u : Value) (hu : (tnL E n)[j]? = some u) : W.cell? ⟨b, o + j, none⟩ = some u := by
  have hj : j < n * 5 := by have := (List.getElem?_eq_some_iff.1 hu).1; rwa [tnL_len] at this
  obtain ⟨k, i, hk, hi, rfl⟩ : ∃ k i, k < n ∧ i < 5 ∧ j = k * 5 + i := ⟨j / 5, j % 5, by omega, by omega, by omega⟩
  rw [tnL_at E n k i hk hi] at hu
  obtain ⟨c0, c1, c2, c3, c4⟩ := h.cell k hk
  match i, hi with
  | 0, _ => simp [TnE.cells] at hu; subst hu; exact c0
  | 1, _ => simp [TnE.cells] at hu; subst hu; rw [← Nat.add_assoc]; exact c1
  | 2, _ => simp [TnE.cells] at hu; subst hu; rw [← Nat.add_assoc]; exact c2
  | 3, _ => simp [TnE.cells] at hu; subst hu; rw [← Nat.add_assoc]; exact c3
  | 4, _ => simp [TnE.cells] at hu; subst hu; rw [← Nat.add_assoc]; exact c4
/-- a row of the call's own, its block no older than M -/
def TnO (M : Nat) (W : World) (v : Value) (ob : Option Nat) (L : List TnE) : Prop := Row W v ob 54 5 L.length (llTn L) ∧ okTn L ∧ ∀ g, ob = some g → M ≤ g
theorem tn9o_nil (W : World) (M : Nat) : TnO M W (.slice none 0 0) none [] := ⟨Row.nil _ _ _, fun x h => absurd h (by simp), fun g e => by cases e⟩
theorem TnO.v {W : World} {M : Nat} {v : Value} {ob : Option Nat} {L : List TnE} (h : TnO M W v ob L) : TnV W v L := tn9v_row h.1 h.2.1
theorem TnO.step {A B : World} {M : Nat} {v : Value} {ob : Option Nat} {L : List TnE} (h : TnO M A v ob L) (hB : Below A.heap.size A B) : TnO M B v ob L := ⟨h.1.congr fun g e => hB.block g (by subst e; exact h.1.lt), h.2.1, h.2.2⟩
theorem TnO.fr {A B : World} {M N : Nat} {v : Value} {ob : Option Nat} {L : List TnE} (h : TnO M A v ob L) (hf : Fr [N] A B) (hN : N < M) : TnO M B v ob L := ⟨h.1.congr fun g e => hf.block g (by subst e; exact h.1.lt) (by have := h.2.2 g e; simp; omega), h.2.1, h.2.2⟩
/-- append of a piece (empty too) to a row of the call's own -/
theorem tn_app {W : World} {M : Nat} {ty : TypeId} {v v2 : Value} {ob : Option Nat} {L L2 : List TnE} (h : TnO M W v ob L) (h2 : TnV W v2 L2) (hM : M ≤ W.heap.size) (hn : L.length + L2.length ≤ 100000) :
    ∃ v' ob' w', (Builtin.append_ #[22, 22] ty #[v, v2]).run Try.prog W = .ok v' w' ∧ TnO M w' v' ob' (L ++ L2) ∧ Below M W w' := by
  have ho2 := h2.ok
  obtain ⟨r1, r4, r5⟩ := h
  obtain ⟨a2, b2, o2, c2, rfl, d1⟩ := h2
  obtain ⟨i0, hi, hz0, hz1, hz2⟩ := info_parts tnZero9
  rcases Nat.eq_zero_or_pos L2.length with h0 | h0
  · have hL2 : L2 = [] := List.eq_nil_of_length_eq_zero h0
    subst hL2
    rw [List.append_nil]
    exact ⟨v, ob, W, run_append_row_zero (P := Try.prog) (w := W) 22 ty 54 i0 5 Try.underlying22 hi v ob _ _ r1 a2 c2, ⟨r1, r4, r5⟩, Below.refl _ _⟩
  · obtain ⟨e0, e1⟩ := d1.at_ h0
    subst e0
    have hat := fun j u hu => tn_at9 d1 j u hu
    rw [← llTn_g] at hat
    obtain ⟨v', ob', w', hrun, s1, s2, s3⟩ := run_append_row (P := Try.prog) W 22 ty 54 i0 _ 5 40 Try.underlying22 hi hz0 hz1 hz2 rfl (by decide) v ob L.length (llTn L) r1 ⟨b2, o2, none⟩ L2.length c2 (llTn L2) h0 (llTn_len L2) (fun j u hu => by rw [addr_add]; exact hat j u hu) (llTn_ones L2) (by unfold maxLen; omega) (by omega)
    refine ⟨v', some ob', w', hrun, ⟨by rw [List.length_append, llTn_append]; exact s1, fun x hx => ?_, fun g e => ?_⟩, ?_⟩
    · rcases List.mem_append.1 hx with h | h
      · exact r4 x h
      · exact ho2 x h
    · obtain rfl := Option.some.inj e
      rcases s3 with h | h
      · exact r5 _ h
      · omega
    · exact (Below.refl M W).grown s2 hM r5
/-- one element in a new block, as a piece -/
theorem tn9v_one {W : World} {b : Nat} {e : TnE} (h : Blk W b #[.int .i64 e.id, .int .i64 e.rate, .int .i64 e.burst, .int .i64 e.bkt, .bool e.gone] 54) (ho : e.ok) : TnV W (.slice (some ⟨b, 0, none⟩) 1 1) [e] := by
  refine ⟨some ⟨b, 0, none⟩, b, 0, 1, rfl, Nat.le_refl _, by unfold maxLen; simp, fun _ => ⟨rfl, h.lt⟩, fun k hk => ?_, fun k hk => ?_⟩
  · obtain rfl : k = 0 := by simpa using hk
    exact ⟨cell_at h 0, cell_at h 1, cell_at h 2, cell_at h 3, cell_at h 4⟩
  · obtain rfl : k = 0 := by simpa using hk
    exact ho
theorem tv_tn {W : World} {v : Value} {L : List TnE} (h : TV W v L) : TnV W v L := by
  obtain ⟨a, b, o, c, e, h⟩ := h
  exact ⟨a, b, o, c, e, h⟩
theorem tn_tv {W : World} {v : Value} {L : List TnE} (h : TnV W v L) : TV W v L := by
  obtain ⟨a, b, o, c, e, h⟩ := h
  exact ⟨a, b, o, c, e, h⟩
end Go.Proofs.Ytfgnjpdlchimpaa
namespace Go.Proofs.Ytfgnjpdlchimpaa
open Go.RowKit
set_option linter.unusedSimpArgs false
set_option linter.unusedVariables false

/-- a state in rows of the call's own -/
def SVO (M : Nat) (W : World) (v : Value) (s : StE) : Prop := ∃ vt vl vs vd ot ol os od, v = .agg #[.int .i64 s.term, .int .i64 s.stamp, .int .i64 s.next, vt, vl, vs, vd] ∧ TnO M W vt ot s.ts ∧ LeO M W vl ol s.ls ∧ SeO M W vs os s.ss ∧ DkO M W vd od s.ds
theorem SVO.sv {M : Nat} {W : World} {v : Value} {s : StE} (h : SVO M W v s) : SV W v s := by
  obtain ⟨vt, vl, vs, vd, ot, ol, os, od, e, h1, h2, h3, h4⟩ := h
  exact ⟨vt, vl, vs, vd, e, tn_tv h1.v, h2.v, h3.v, h4.v⟩
theorem TnO.le {M M' : Nat} {W : World} {v : Value} {ob : Option Nat} {L : List TnE} (h : TnO M W v ob L) (hm : M' ≤ M) : TnO M' W v ob L := ⟨h.1, h.2.1, fun g e => Nat.le_trans hm (h.2.2 g e)⟩
theorem LeO.le {M M' : Nat} {W : World} {v : Value} {ob : Option Nat} {L : List LeE} (h : LeO M W v ob L) (hm : M' ≤ M) : LeO M' W v ob L := ⟨h.1, h.2.1, fun g e => Nat.le_trans hm (h.2.2 g e)⟩
theorem SeO.le {M M' : Nat} {W : World} {v : Value} {ob : Option Nat} {L : List SeE} (h : SeO M W v ob L) (hm : M' ≤ M) : SeO M' W v ob L := ⟨h.1, h.2.1, fun g e => Nat.le_trans hm (h.2.2 g e)⟩
theorem DkO.le {M M' : Nat} {W : World} {v : Value} {ob : Option Nat} {L : List DkE} (h : DkO M W v ob L) (hm : M' ≤ M) : DkO M' W v ob L := ⟨h.1, h.2.1, fun g e => Nat.le_trans hm (h.2.2 g e)⟩
theorem SVO.below {M : Nat} {W W' : World} {v : Value} {s : StE} (h : SVO M W v s) (hB : Below W.heap.size W W') : SVO M W' v s := by
  obtain ⟨vt, vl, vs, vd, ot, ol, os, od, e, h1, h2, h3, h4⟩ := h
  exact ⟨vt, vl, vs, vd, ot, ol, os, od, e, h1.step hB, h2.step hB, h3.step hB, h4.step hB⟩
theorem Blk.stepM {A B : World} {M n : Nat} {c : Array Value} {t : TypeId} (h : Blk A n c t) (hB : Below M A B) (hn : n < M) : Blk B n c t := (hB.block n hn).trans h
theorem clone_tn (v : Value) (L : List TnE) (w : World) (h : TV w v L) (hn : L.length ≤ 5000) : Calls Try.prog 66 #[v] w fun e w' => ∃ v' ob, e = .returned v' ∧ TnO w.heap.size w' v' ob L ∧ Below w.heap.size w w' := by
  have hok := h.ok
  obtain ⟨a, b, o, cap, rfl, h⟩ := h
  have := tclone_any a L.length cap b o (gt L) w h hn
  rw [← tnL_gt] at this
  refine this.mono ?_
  rintro e w' ⟨v', ob, rfl, hr, ho, hB⟩
  exact ⟨v', ob, rfl, ⟨hr, hok, ho⟩, hB⟩
end Go.Proofs.Ytfgnjpdlchimpaa
namespace Go.Proofs.Ytfgnjpdlchimpaa
open Go.RowKit
set_option linter.unusedSimpArgs false
set_option linter.unusedVariables false

def inL (L : List Int) : List Value := L.map fun x => .int .i64 x
def gI (L : List Int) (k : Nat) : Int := (L[k]?).getD 0
def okI (L : List Int) : Prop := ∀ x ∈ L, -9223372036854775808 ≤ x ∧ x ≤ 9223372036854775807
theorem gI_lt {L : List Int} {k : Nat} (h : k < L.length) : L[k]? = some (gI L k) := by unfold gI; rw [List.getElem?_eq_getElem h]; rfl
theorem inL_len (L : List Int) : (inL L).length = L.length * 1 := by simp [inL]
theorem inL_append (a b : List Int) : inL (a ++ b) = inL a ++ inL b := by simp [inL]
theorem inL_at (L : List Int) (k : Nat) : (inL L)[k]? = (L[k]?).map fun x => .int .i64 x := by simp [inL]
theorem inL_ones (L : List Int) : ∀ u ∈ inL L, u.oneCell' = true := by
  intro u hu
  obtain ⟨x, _, rfl⟩ := List.mem_map.1 hu
  rfl
/-- the value v stands for the list L of ints -/
def InV (W : World) (v : Value) (L : List Int) : Prop := ∃ a b o cap, v = .slice a L.length cap ∧ IntsIn W a L.length cap b o (gI L)
theorem InV.below {W W' : World} {v : Value} {L : List Int} (h : InV W v L) (hB : Below W.heap.size W W') : InV W' v L := by
  obtain ⟨a, b, o, c, e, h⟩ := h
  exact ⟨a, b, o, c, e, h.below hB⟩
theorem InV.sh {W : World} {v : Value} {L : List Int} (h : InV W v L) : ∃ a n c, v = .slice a n c ∧ Hid (n = L.length) ∧ n ≤ c ∧ c ≤ 9223372036854775807 := by
  obtain ⟨a, b, o, c, rfl, h⟩ := h
  exact ⟨a, _, c, rfl, Lib.hid rfl, h.le, by have := h.max; unfold maxLen at this; exact this⟩
theorem InV.at {W : World} {a : Option Addr} {n c : Nat} {L : List Int} (h : InV W (.slice a n c) L) (k : Nat) (hk : k < n) : ∃ (g o : Nat) (x : Int), a = some ⟨g, o, none⟩ ∧ g < W.heap.size ∧ L[k]? = some x ∧ W.cell? ⟨g, o + k, none⟩ = some (.int .i64 x) ∧ -9223372036854775808 ≤ x ∧ x ≤ 9223372036854775807 := by
  obtain ⟨a', b, o, c', ee, h⟩ := h
  injection ee with e1 e2 e3
  subst e1 e2 e3
  have h1 := h.at_ (by omega)
  exact ⟨b, o, gI L k, h1.1, h1.2, gI_lt hk, h.cell k hk, h.bd k hk⟩
theorem InV.ok {W : World} {v : Value} {L : List Int} (h : InV W v L) : okI L := by
  obtain ⟨a, b, o, c, rfl, h⟩ := h
  intro x hx
  obtain ⟨k, hk, rfl⟩ := List.mem_iff_getElem.1 hx
  have := h.bd k hk
  unfold gI at this
  rw [List.getElem?_eq_getElem hk] at this
  exact this
theorem inv_cells (W : World) {a : Option Addr} {len cap : Nat} {xs : List Dt} (h : SliceFits Try.prog W 3 a len cap xs) : ∃ L : List Int, L.length = len ∧ InV W (.slice a len cap) L := by
  obtain ⟨b, o, T, h⟩ := ints_cells W h
  refine ⟨(List.range len).map T, by simp, a, b, o, cap, by simp, ?_⟩
  have e : ∀ k, k < len → gI ((List.range len).map T) k = T k := fun k hk => by simp [gI, hk]
  simp only [List.length_map, List.length_range]
  exact ⟨h.le, h.max, h.at_, fun k hk => by rw [e k hk]; exact h.cell k hk, fun k hk => by rw [e k hk]; exact h.bd k hk⟩
def InO (M : Nat) (W : World) (v : Value) (ob : Option Nat) (L : List Int) : Prop := Row W v ob 3 1 L.length (inL L) ∧ okI L ∧ ∀ g, ob = some g → M ≤ g
theorem ino_nil (W : World) (M : Nat) : InO M W (.slice none 0 0) none [] := ⟨Row.nil _ _ _, fun x h => absurd h (by simp), fun g e => by cases e⟩
theorem inv_row {W : World} {v : Value} {ob : Option Nat} {L : List Int} (h : Row W v ob 3 1 L.length (inL L)) (ho : okI L) : InV W v L := by
  rcases h.cases with ⟨rfl, rfl, hl, hx⟩ | ⟨g, cap, cur, rfl, rfl, h3, h4, h5, h6, h7⟩
  · have hn : L = [] := List.eq_nil_of_length_eq_zero hl
    subst hn
    exact ⟨none, 0, 0, 0, rfl, Nat.le_refl _, Nat.zero_le _, fun h => absurd h (by simp), fun k hk => absurd hk (by simp), fun k hk => absurd hk (by simp)⟩
  · refine ⟨some ⟨g, 0, none⟩, g, 0, cap, rfl, h4, h5, fun _ => ⟨rfl, (Array.getElem?_eq_some_iff.1 h3).1⟩, fun k hk => ?_, fun k hk => ho _ (List.mem_of_getElem? (gI_lt hk))⟩
    obtain ⟨g', e, a, _⟩ := h.cell k (by omega)
    obtain rfl := Option.some.inj e
    rw [Nat.zero_add, a, inL_at, gI_lt hk]
    rfl
theorem InO.v {W : World} {M : Nat} {v : Value} {ob : Option Nat} {L : List Int} (h : InO M W v ob L) : InV W v L := inv_row h.1 h.2.1
theorem InO.step {A B : World} {M : Nat} {v : Value} {ob : Option Nat} {L : List Int} (h : InO M A v ob L) (hB : Below A.heap.size A B) : InO M B v ob L := ⟨h.1.congr fun g e => hB.block g (by subst e; exact h.1.lt), h.2.1, h.2.2⟩
theorem InO.fr {A B : World} {M N : Nat} {v : Value} {ob : Option Nat} {L : List Int} (h : InO M A v ob L) (hf : Fr [N] A B) (hN : N < M) : InO M B v ob L := ⟨h.1.congr fun g e => hf.block g (by subst e; exact h.1.lt) (by have := h.2.2 g e; simp; omega), h.2.1, h.2.2⟩
theorem inZero : (Try.prog.info? 3).map (fun i => (i.zero, i.size, i.bytes)) = some (some (.int .i64 0), 1, 8) := by kernel_rfl
theorem in_app {W : World} {M : Nat} {ty : TypeId} {v v2 : Value} {ob : Option Nat} {L L2 : List Int} (h : InO M W v ob L) (h2 : InV W v2 L2) (hM : M ≤ W.heap.size) (hn : L.length + L2.length ≤ 100000) :
    ∃ v' ob' w', (Builtin.append_ #[45, 45] ty #[v, v2]).run Try.prog W = .ok v' w' ∧ InO M w' v' ob' (L ++ L2) ∧ Below M W w' := by
  have ho2 := h2.ok
  obtain ⟨r1, r4, r5⟩ := h
  obtain ⟨a2, b2, o2, c2, rfl, d1⟩ := h2
  obtain ⟨i0, hi, hz0, hz1, hz2⟩ := info_parts inZero
  rcases Nat.eq_zero_or_pos L2.length with h0 | h0
  · have hL2 : L2 = [] := List.eq_nil_of_length_eq_zero h0
    subst hL2
    rw [List.append_nil]
    exact ⟨v, ob, W, run_append_row_zero (P := Try.prog) (w := W) 45 ty 3 i0 1 Try.underlying45 hi v ob _ _ r1 a2 c2, ⟨r1, r4, r5⟩, Below.refl _ _⟩
  · obtain ⟨e0, e1⟩ := d1.at_ h0
    subst e0
    have hat : ∀ (j : Nat) (u : Value), (inL L2)[j]? = some u → W.cell? ⟨b2, o2 + j, none⟩ = some u := fun j u hu => by
      rw [inL_at] at hu
      obtain ⟨x, hx, rfl⟩ := Option.map_eq_some_iff.1 hu
      have hj := (List.getElem?_eq_some_iff.1 hx).1
      rw [gI_lt hj] at hx
      obtain rfl := Option.some.inj hx
      exact d1.cell j hj
    obtain ⟨v', ob', w', hrun, s1, s2, s3⟩ := run_append_row (P := Try.prog) W 45 ty 3 i0 _ 1 8 Try.underlying45 hi hz0 hz1 hz2 rfl (by decide) v ob L.length (inL L) r1 ⟨b2, o2, none⟩ L2.length c2 (inL L2) h0 (inL_len L2) (fun j u hu => by rw [addr_add]; exact hat j u hu) (inL_ones L2) (by unfold maxLen; omega) (by omega)
    refine ⟨v', some ob', w', hrun, ⟨by rw [List.length_append, inL_append]; exact s1, fun x hx => ?_, fun g e => ?_⟩, ?_⟩
    · rcases List.mem_append.1 hx with h | h
      · exact r4 x h
      · exact ho2 x h
    · obtain rfl := Option.some.inj e
      rcases s3 with h | h
      · exact r5 _ h
      · omega
    · exact (Below.refl M W).grown s2 hM r5
theorem inv_one {W : World} {b : Nat} {x : Int} (h : Blk W b #[.int .i64 x] 3) (ho : -9223372036854775808 ≤ x ∧ x ≤ 9223372036854775807) : InV W (.slice (some ⟨b, 0, none⟩) 1 1) [x] := by
  refine ⟨some ⟨b, 0, none⟩, b, 0, 1, rfl, Nat.le_refl _, by unfold maxLen; simp, fun _ => ⟨rfl, h.lt⟩, fun k hk => ?_, fun k hk => ?_⟩
  · obtain rfl : k = 0 := by simpa using hk
    exact cell_at h 0
  · obtain rfl : k = 0 := by simpa using hk
    exact ho
end Go.Proofs.Ytfgnjpdlchimpaa
namespace Go.Proofs.Ytfgnjpdlchimpaa
open Go.RowKit
set_option linter.unusedSimpArgs false
set_option linter.unusedVariables false

/-- what is out of tenants 1 to i -/
def outsL (ls : List LeE) (i : Nat) : List Int := (List.range i).map fun (k : Nat) => outL ls ((k : Int) + 1)
theorem outsL_succ (ls : List LeE) (i : Nat) : outsL ls (i + 1) = outsL ls i ++ [outL ls ((i : Int) + 1)] := by simp [outsL, List.range_succ]
theorem outsL_len (ls : List LeE) (i : Nat) : (outsL ls i).length = i := by simp [outsL]
theorem swL_outs (ls : List LeE) (L : List TnE) : swL 16 (gI (outsL ls 16)) L = swL 16 (fun k => outL ls ((k : Int) + 1)) L := by
  unfold swL
  split
  · congr 1
    funext x
    unfold swB outN
    by_cases h : x.id - 1 < 16
    · have e : gI (outsL ls 16) (x.id - 1).toNat = outL ls (((x.id - 1).toNat : Int) + 1) := by
        unfold gI outsL
        have : (x.id - 1).toNat < 16 := by omega
        rw [List.getElem?_map, List.getElem?_range this]
        rfl
      simp only [e]
    · rw [if_neg (by simpa using h), if_neg (by simpa using h)]
  · rfl
theorem InV.ints {W : World} {a : Option Addr} {n c : Nat} {L : List Int} (h : InV W (.slice a n c) L) : ∃ b o, IntsIn W a n c b o (gI L) := by
  obtain ⟨a', b, o, c', ee, h⟩ := h
  injection ee with e1 e2 e3
  subst e1 e2 e3
  exact ⟨b, o, h⟩
def isNB : Value → Bool
  | .bool _ => false
  | _ => true
/-- a table of others isn't in a block without bools -/
theorem TV.fr {W W' : World} {v : Value} {L : List TnE} {N : Nat} {cs : Array Value} {t : TypeId} (h : TV W v L) (hb : Blk W N cs t) (hf : Fr [N] W W') (hn : cs.toList.all isNB = true := by rfl) : TV W' v L := by
  obtain ⟨a, b, o, c, e, h⟩ := h
  refine ⟨a, b, o, c, e, ⟨h.le, h.max, fun hk => ⟨(h.at_ hk).1, by have := (h.at_ hk).2; have := hf.size; omega⟩, fun k hk => ?_, h.bd⟩⟩
  have hbl := (h.at_ (by omega)).2
  have hne : b ≠ N := by
    intro e
    subst e
    have hc := (h.cell k hk).2.2.2.2
    rw [cell_at hb] at hc
    have := List.all_eq_true.1 hn _ (List.mem_of_getElem? (by rw [Array.getElem?_toList]; exact hc))
    cases this
  have hblk := hf.block b hbl (by simpa using hne)
  have hcell : ∀ j, W'.cell? ⟨b, j, none⟩ = W.cell? ⟨b, j, none⟩ := fun j => by unfold World.cell?; rw [hblk]
  have := h.cell k hk
  rw [hcell, hcell, hcell, hcell, hcell]
  exact this
def isSl : Value → Bool
  | .slice _ _ _ => true
  | _ => false
/-- leases of others aren't in a block of seven cells, a slice among them -/
theorem LeV.fr {W W' : World} {v : Value} {L : List LeE} {N : Nat} {cs : Array Value} {t : TypeId} (h : LeV W v L) (hb : Blk W N cs t) (hf : Fr [N] W W') (hn : (decide (cs.size ≤ 6) || (decide (cs.size = 7) && (cs[3]?.map isSl).getD false)) = true := by rfl) : LeV W' v L := by
  obtain ⟨a, b, o, c, e, h⟩ := h
  refine ⟨a, b, o, c, e, ⟨h.le, h.max, fun hk => ⟨(h.at_ hk).1, by have := (h.at_ hk).2; have := hf.size; omega⟩, fun k hk => ?_, h.bd⟩⟩
  have hbl := (h.at_ (by omega)).2
  simp only [Bool.or_eq_true, Bool.and_eq_true, decide_eq_true_eq] at hn
  have hne : b ≠ N := by
    intro e
    subst e
    obtain ⟨h0, h1, h2, h3, h4, h5, h6⟩ := h.cell k hk
    rw [cell_at hb] at h6 h3
    have := (Array.getElem?_eq_some_iff.1 h6).1
    rcases hn with hn | hn
    · omega
    have ho : o + k * 7 + 3 = 3 := by omega
    rw [ho] at h3
    rw [h3] at hn
    exact absurd hn.2 (by simp [isSl])
  have hblk := hf.block b hbl (by simpa using hne)
  have hcell : ∀ j, W'.cell? ⟨b, j, none⟩ = W.cell? ⟨b, j, none⟩ := fun j => by unfold World.cell?; rw [hblk]
  have := h.cell k hk
  rw [hcell, hcell, hcell, hcell, hcell, hcell, hcell]
  exact this
end Go.Proofs.Ytfgnjpdlchimpaa
namespace Go.Proofs.Ytfgnjpdlchimpaa
open Go.RowKit
set_option linter.unusedSimpArgs false
set_option linter.unusedVariables false

theorem fndL_step {L : List LeE} {k : Nat} {x : LeE} (key : Int) (h : L[k]? = some x) : fndL key (L.drop k) = if x.id = key then some x else fndL key (L.drop (k + 1)) := by
  have hk := (List.getElem?_eq_some_iff.1 h).1
  have hx : L[k] = x := by have := List.getElem?_eq_getElem hk; rw [this] at h; exact Option.some.inj h
  rw [List.drop_eq_getElem_cons hk, hx]
  unfold fndL
  by_cases he : x.id = key
  · rw [if_pos he, List.find?_cons_of_pos (by simp [he])]
  · rw [if_neg he, List.find?_cons_of_neg (by simp [he])]
set_option maxRecDepth 100000 in
set_option maxHeartbeats 8000000 in
theorem rfindS_any (v : Value) (s : StE) (key : Int) (w : World) (h : SV w v s) (hf : fewS s) :
    Calls Try.prog 12 #[v, .int .i64 key] w fun e w' => e = .returned (.tuple #[((fndS s key).getD zLe).agg, .bool (fndS s key).isSome]) ∧ Below w.heap.size w w' := by
  have HFEW := Lib.hid hf
  obtain ⟨f1, f2, f3, f4⟩ := hf
  obtain ⟨vt, vl, vs, vd, rfl, ht, hl, hs, hd⟩ := h
  obtain ⟨ta, tn, tc, rfl, Htn, tn1, tn2⟩ := ht.sh
  obtain ⟨la, ln, lc, rfl, Hln, ln1, ln2⟩ := hl.sh
  obtain ⟨sa, sn, sc, rfl, Hsn, sn1, sn2⟩ := hs.sh
  obtain ⟨da, dn, dc, rfl, Hdn, dn1, dn2⟩ := hd.sh
  have HT0 := Lib.hid ht
  have HL0 := Lib.hid hl
  have HS0 := Lib.hid hs
  have HD0 := Lib.hid hd
  have HT := Lib.hid ht
  have HL := Lib.hid hl
  have HS := Lib.hid hs
  have HD := Lib.hid hd
  clear ht hl hs hd
  rw [← Hln.out] at f2
  rw [← Htn.out] at f1
  have HSV : Hid (∀ W, TV W (.slice ta tn tc) s.ts → LeV W (.slice la ln lc) s.ls → SeV W (.slice sa sn sc) s.ss → DkV W (.slice da dn dc) s.ds → SV W (.agg #[.int .i64 s.term, .int .i64 s.stamp, .int .i64 s.next, .slice ta tn tc, .slice la ln lc, .slice sa sn sc, .slice da dn dc]) s) := Lib.hid (fun W h1 h2 h3 h4 => ⟨_, _, _, _, rfl, h1, h2, h3, h4⟩)
  have HCK := Lib.hid (fun W v (h : SV W v s) => rcheckS_any v s W h HFEW.out)
  obtain ⟨C, hC⟩ : ∃ C, C = chkS s := ⟨_, rfl⟩
  rw [← hC] at HCK
  obtain ⟨R, hR⟩ : ∃ R : Value, R = .tuple #[((fndS s key).getD zLe).agg, .bool (fndS s key).isSome] := ⟨_, rfl⟩
  rw [← hR]
  obtain ⟨F, hF⟩ : ∃ F : Nat → Option LeE, F = fun k => if C then fndL key (s.ls.drop k) else none := ⟨_, rfl⟩
  have hf0 : fndS s key = F 0 := by rw [hF]; unfold fndS; rw [← hC]; simp only [List.drop_zero]
  rw [hf0] at hR
  have HST : Hid (C = true → ∀ k x, s.ls[k]? = some x → F k = if x.id = key then some x else F (k + 1)) := Lib.hid (fun hc k x h => by rw [hF]; simp only [hc, if_true]; exact fndL_step key h)
  have HEN : Hid (F ln = none) := Lib.hid (by rw [hF, Hln.out]; simp only [List.drop_length]; split <;> rfl)
  have HNO : Hid (C = false → ∀ k, F k = none) := Lib.hid (fun hc k => by rw [hF]; simp [hc])
  have HR9 := Lib.hid hR
  clear hC hR hF hf0
  have HB : Hid (Below w.heap.size w w) := Lib.hid (Below.refl _ _)
  go_enter Try.func12, Try.ntmps12
  go_upto_region 1 with fail
  obtain ⟨N, hN⟩ : ∃ n0, n0 = w.heap.size := ⟨_, rfl⟩
  have HLON : Hid (w.heap.size ≤ N) := Lib.hid (by have := HB.out.size; omega)
  obtain ⟨W1, hA0⟩ : ∃ W0, W0 = w.alloc (.cells #[.int .i64 s.term, .int .i64 s.stamp, .int .i64 s.next, .slice ta tn tc, .slice la ln lc, .slice sa sn sc, .slice da dn dc] 27) := ⟨_, rfl⟩
  have hB : Below w.heap.size w W1 := by rw [hA0]; exact (Below.refl _ _).alloc (Nat.le_refl _) _
  have hS0 : W1.heap.size = N + 1 := by rw [hA0]; simp [← hN]
  have HR := Lib.hid (show Blk W1 N #[.int .i64 s.term, .int .i64 s.stamp, .int .i64 s.next, .slice ta tn tc, .slice la ln lc, .slice sa sn sc, .slice da dn dc] 27 by rw [hA0, hN]; exact blk_new _ _ _)
  replace HB := Lib.hid (HB.out.trans (hB.mono HB.out.size))
  replace HT := Lib.hid (HT0.out.below HB.out)
  replace HL := Lib.hid (HL0.out.below HB.out)
  replace HS := Lib.hid (HS0.out.below HB.out)
  replace HD := Lib.hid (HD0.out.below HB.out)
  clear hB
  obtain ⟨W2, hA1⟩ : ∃ W0, W0 = W1.alloc (.cells #[.int .i64 0, .int .i64 0, .int .i64 0, .int .i64 0, .int .i64 0, .int .i64 0, .int .i64 0] 31) := ⟨_, rfl⟩
  have hB : Below W1.heap.size W1 W2 := by rw [hA1]; exact (Below.refl _ _).alloc (Nat.le_refl _) _
  have hS1 : W2.heap.size = N + 2 := by rw [hA1]; simp [hS0]
  have HZ := Lib.hid (show Blk W2 (N + 1) #[.int .i64 0, .int .i64 0, .int .i64 0, .int .i64 0, .int .i64 0, .int .i64 0, .int .i64 0] 31 by rw [hA1, ← hS0]; exact blk_new _ _ _)
  replace HB := Lib.hid (HB.out.trans (hB.mono HB.out.size))
  replace HT := Lib.hid (HT0.out.below HB.out)
  replace HL := Lib.hid (HL0.out.below HB.out)
  replace HS := Lib.hid (HS0.out.below HB.out)
  replace HD := Lib.hid (HD0.out.below HB.out)
  replace HR := Lib.hid (HR.out.step hB)
  clear hB
  have HSN := Lib.hid hS1
  rw [← hN, ← hA0, ← hA1]
  clear hA1 hA0 hN hS0 hS1
  have qR0 : W2.cell? ⟨N, 0, none⟩ = some (.int .i64 s.term) := cell_at HR.out 0
  have qR1 : W2.cell? ⟨N, 1, none⟩ = some (.int .i64 s.stamp) := cell_at HR.out 1
  have qR2 : W2.cell? ⟨N, 2, none⟩ = some (.int .i64 s.next) := cell_at HR.out 2
  have qR3 : W2.cell? ⟨N, 3, none⟩ = some (.slice ta tn tc) := cell_at HR.out 3
  have qR4 : W2.cell? ⟨N, 4, none⟩ = some (.slice la ln lc) := cell_at HR.out 4
  have qR5 : W2.cell? ⟨N, 5, none⟩ = some (.slice sa sn sc) := cell_at HR.out 5
  have qR6 : W2.cell? ⟨N, 6, none⟩ = some (.slice da dn dc) := cell_at HR.out 6
  have qRz : ∀ j, W2.frozen? ⟨N, j, none⟩ = false := fun j => free_at HR.out j
  have qRl : N < W2.heap.size := HR.out.lt
  go_wp2_with fail
  clear qR0 qR1 qR2 qR3 qR4 qR5 qR6 qRz qRl
  go_loopw [6] (fun k wr => ∃ i : Nat, i ≤ ln ∧ k = .int .i64 i ∧ F 0 = F i ∧ Below W2.heap.size W2 wr) (fun k _ => ln - (intOf k).toNat)
  case atStart => exact ⟨0, Nat.zero_le _, rfl, rfl, Below.refl _ _⟩
  case round =>
    obtain ⟨i, hi, rfl, hfi, hB⟩ := hrel
    have HBC := Lib.hid hB
    have HFI := Lib.hid hfi
    clear hfi
    replace HB := Lib.hid (HB.out.trans (hB.mono HB.out.size))
    replace HT := Lib.hid (HT0.out.below HB.out)
    replace HL := Lib.hid (HL0.out.below HB.out)
    replace HS := Lib.hid (HS0.out.below HB.out)
    replace HD := Lib.hid (HD0.out.below HB.out)
    replace HR := Lib.hid (HR.out.step hB)
    replace HZ := Lib.hid (HZ.out.step hB)
    clear hB
    by_cases hk : i < ln
    · skip
      have b9 : (i < ln) = True := eq_true hk
      have b8 : decide (i < ln) = true := decide_eq_true hk
      have b7 : decide ((i : Int) < (ln : Int)) = true := decide_eq_true (by omega)
      obtain ⟨g, o, x, ea, g1, g2, q0, q1, q2, q3, q4, q5, q6⟩ := HL.out.at i hk
      subst ea
      have HG2 := Lib.hid g2
      clear g2 q0 q1 q2 q3 q4 q5 q6
      have qR0 : wr.cell? ⟨N, 0, none⟩ = some (.int .i64 s.term) := cell_at HR.out 0
      have qR1 : wr.cell? ⟨N, 1, none⟩ = some (.int .i64 s.stamp) := cell_at HR.out 1
      have qR2 : wr.cell? ⟨N, 2, none⟩ = some (.int .i64 s.next) := cell_at HR.out 2
      have qR3 : wr.cell? ⟨N, 3, none⟩ = some (.slice ta tn tc) := cell_at HR.out 3
      have qR4 : wr.cell? ⟨N, 4, none⟩ = some (.slice (some ⟨g, o, none⟩) ln lc) := cell_at HR.out 4
      have qR5 : wr.cell? ⟨N, 5, none⟩ = some (.slice sa sn sc) := cell_at HR.out 5
      have qR6 : wr.cell? ⟨N, 6, none⟩ = some (.slice da dn dc) := cell_at HR.out 6
      have qRz : ∀ j, wr.frozen? ⟨N, j, none⟩ = false := fun j => free_at HR.out j
      have qRl : N < wr.heap.size := HR.out.lt
      go_wp2_with fail
      go_at_call 13
      go_fit (HCK.out _ _ (HSV.out _ HT.out HL.out HS.out HD.out))
      rintro e W3 ⟨rfl, hB⟩
      clear qR0 qR1 qR2 qR3 qR4 qR5 qR6 qRz qRl
      replace HB := Lib.hid (HB.out.trans (hB.mono HB.out.size))
      replace HT := Lib.hid (HT0.out.below HB.out)
      replace HL := Lib.hid (HL0.out.below HB.out)
      replace HS := Lib.hid (HS0.out.below HB.out)
      replace HD := Lib.hid (HD0.out.below HB.out)
      replace HR := Lib.hid (HR.out.step hB)
      replace HZ := Lib.hid (HZ.out.step hB)
      replace HBC := Lib.hid (HBC.out.trans (hB.mono HBC.out.size))
      clear hB
      cases C
      · skip
        have hf0 : F 0 = none := HNO.out rfl 0
        obtain rfl : R = .tuple #[zLe.agg, .bool false] := by rw [HR9.out, hf0]; rfl
        clear hf0
        have qZ0 : W3.cell? ⟨(N + 1), 0, none⟩ = some (.int .i64 0) := cell_at HZ.out 0
        have qZ1 : W3.cell? ⟨(N + 1), 1, none⟩ = some (.int .i64 0) := cell_at HZ.out 1
        have qZ2 : W3.cell? ⟨(N + 1), 2, none⟩ = some (.int .i64 0) := cell_at HZ.out 2
        have qZ3 : W3.cell? ⟨(N + 1), 3, none⟩ = some (.int .i64 0) := cell_at HZ.out 3
        have qZ4 : W3.cell? ⟨(N + 1), 4, none⟩ = some (.int .i64 0) := cell_at HZ.out 4
        have qZ5 : W3.cell? ⟨(N + 1), 5, none⟩ = some (.int .i64 0) := cell_at HZ.out 5
        have qZ6 : W3.cell? ⟨(N + 1), 6, none⟩ = some (.int .i64 0) := cell_at HZ.out 6
        have qZz : ∀ j, W3.frozen? ⟨(N + 1), j, none⟩ = false := fun j => free_at HZ.out j
        have qZl : (N + 1) < W3.heap.size := HZ.out.lt
        go_wp2_with fail
        clear qZ0 qZ1 qZ2 qZ3 qZ4 qZ5 qZ6 qZz qZl
        obtain ⟨LS, hLS⟩ : ∃ L : List Value, L = [.int .i64 0, .int .i64 0, .int .i64 0, .int .i64 0, .int .i64 0, .int .i64 0, .int .i64 0] := ⟨_, rfl⟩
        obtain ⟨W4, hWS⟩ : ∃ WS, WS = W3.setCells (N + 1) 0 LS := ⟨_, rfl⟩
        have hch := hWS
        rw [hLS] at hch
        simp only [World.setCells, Nat.zero_add, Nat.reduceAdd] at hch
        rw [← hch]
        clear hch
        have hkS := stC_blk HZ.out LS (by rw [hLS]; rfl)
        have hfS := stC_fr (N + 1) LS 0 W3
        rw [← hWS] at hkS hfS
        rw [hLS] at hkS
        replace HB := Lib.hid (HB.out.trans (hfS.below HB.out.size (by have := HLON.out; simp; try omega)))
        replace HT := Lib.hid (HT0.out.below HB.out)
        replace HL := Lib.hid (HL0.out.below HB.out)
        replace HS := Lib.hid (HS0.out.below HB.out)
        replace HD := Lib.hid (HD0.out.below HB.out)
        replace HR := Lib.hid (show Blk W4 N #[.int .i64 s.term, .int .i64 s.stamp, .int .i64 s.next, .slice ta tn tc, .slice (some ⟨g, o, none⟩) ln lc, .slice sa sn sc, .slice da dn dc] 27 from (hfS.block _ HR.out.lt (by simp; try omega)).trans HR.out)
        replace HZ := Lib.hid (show Blk W4 (N + 1) #[.int .i64 0, .int .i64 0, .int .i64 0, .int .i64 0, .int .i64 0, .int .i64 0, .int .i64 0] 31 from hkS)
        clear hWS hLS hkS hfS
        have qZ0 : W4.cell? ⟨(N + 1), 0, none⟩ = some (.int .i64 0) := cell_at HZ.out 0
        have qZ1 : W4.cell? ⟨(N + 1), 1, none⟩ = some (.int .i64 0) := cell_at HZ.out 1
        have qZ2 : W4.cell? ⟨(N + 1), 2, none⟩ = some (.int .i64 0) := cell_at HZ.out 2
        have qZ3 : W4.cell? ⟨(N + 1), 3, none⟩ = some (.int .i64 0) := cell_at HZ.out 3
        have qZ4 : W4.cell? ⟨(N + 1), 4, none⟩ = some (.int .i64 0) := cell_at HZ.out 4
        have qZ5 : W4.cell? ⟨(N + 1), 5, none⟩ = some (.int .i64 0) := cell_at HZ.out 5
        have qZ6 : W4.cell? ⟨(N + 1), 6, none⟩ = some (.int .i64 0) := cell_at HZ.out 6
        have qZz : ∀ j, W4.frozen? ⟨(N + 1), j, none⟩ = false := fun j => free_at HZ.out j
        have qZl : (N + 1) < W4.heap.size := HZ.out.lt
        exact bodyPost_ret (v := .tuple #[.agg #[.int .i64 0, .int .i64 0, .int .i64 0, .int .i64 0, .int .i64 0, .int .i64 0, .int .i64 0], .bool false]) (by simp [results, Try.results12, go_sem, qZ0, qZ1, qZ2, qZ3, qZ4, qZ5, qZ6]) rfl ⟨rfl, HB.out⟩
      have hst := HST.out rfl i x HG2.out
      obtain ⟨g', o', y, ea, g1', g2, q0, q1, q2, q3, q4, q5, q6⟩ := HL.out.at i hk
      injection ea with ea
      injection ea with ea1 ea2 _
      subst ea1 ea2
      obtain rfl : x = y := Option.some.inj (HG2.out.symm.trans g2)
      have ww5 : IntKind.i64.wrap ((i : Int) + 1) = (i : Int) + 1 := IntWalk.i64_in _ (by omega)
      clear g2
      cases hd : (x.id == key)
      · skip
        have hne : ¬ x.id = key := by simpa using hd
        rw [if_neg hne] at hst
        have HN := Lib.hid (HFI.out.trans hst)
        have d2 : (x.id = key) = False := eq_false hne
        clear hst hne
        have qR0 : W3.cell? ⟨N, 0, none⟩ = some (.int .i64 s.term) := cell_at HR.out 0
        have qR1 : W3.cell? ⟨N, 1, none⟩ = some (.int .i64 s.stamp) := cell_at HR.out 1
        have qR2 : W3.cell? ⟨N, 2, none⟩ = some (.int .i64 s.next) := cell_at HR.out 2
        have qR3 : W3.cell? ⟨N, 3, none⟩ = some (.slice ta tn tc) := cell_at HR.out 3
        have qR4 : W3.cell? ⟨N, 4, none⟩ = some (.slice (some ⟨g, o, none⟩) ln lc) := cell_at HR.out 4
        have qR5 : W3.cell? ⟨N, 5, none⟩ = some (.slice sa sn sc) := cell_at HR.out 5
        have qR6 : W3.cell? ⟨N, 6, none⟩ = some (.slice da dn dc) := cell_at HR.out 6
        have qRz : ∀ j, W3.frozen? ⟨N, j, none⟩ = false := fun j => free_at HR.out j
        have qRl : N < W3.heap.size := HR.out.lt
        go_wp2_with fail
        go_roundw
        case rel => exact ⟨i + 1, by omega, by go_num, HN.out, HBC.out⟩
        case measure => first | (simp [intOf]; done) | (simp [intOf]; omega)
      · skip
        have he : x.id = key := by simpa using hd
        rw [if_pos he] at hst
        obtain rfl : R = .tuple #[x.agg, .bool true] := by rw [HR9.out, HFI.out, hst]; rfl
        have HE := Lib.hid he
        clear hst he
        have qR0 : W3.cell? ⟨N, 0, none⟩ = some (.int .i64 s.term) := cell_at HR.out 0
        have qR1 : W3.cell? ⟨N, 1, none⟩ = some (.int .i64 s.stamp) := cell_at HR.out 1
        have qR2 : W3.cell? ⟨N, 2, none⟩ = some (.int .i64 s.next) := cell_at HR.out 2
        have qR3 : W3.cell? ⟨N, 3, none⟩ = some (.slice ta tn tc) := cell_at HR.out 3
        have qR4 : W3.cell? ⟨N, 4, none⟩ = some (.slice (some ⟨g, o, none⟩) ln lc) := cell_at HR.out 4
        have qR5 : W3.cell? ⟨N, 5, none⟩ = some (.slice sa sn sc) := cell_at HR.out 5
        have qR6 : W3.cell? ⟨N, 6, none⟩ = some (.slice da dn dc) := cell_at HR.out 6
        have qRz : ∀ j, W3.frozen? ⟨N, j, none⟩ = false := fun j => free_at HR.out j
        have qRl : N < W3.heap.size := HR.out.lt
        have qZ0 : W3.cell? ⟨(N + 1), 0, none⟩ = some (.int .i64 0) := cell_at HZ.out 0
        have qZ1 : W3.cell? ⟨(N + 1), 1, none⟩ = some (.int .i64 0) := cell_at HZ.out 1
        have qZ2 : W3.cell? ⟨(N + 1), 2, none⟩ = some (.int .i64 0) := cell_at HZ.out 2
        have qZ3 : W3.cell? ⟨(N + 1), 3, none⟩ = some (.int .i64 0) := cell_at HZ.out 3
        have qZ4 : W3.cell? ⟨(N + 1), 4, none⟩ = some (.int .i64 0) := cell_at HZ.out 4
        have qZ5 : W3.cell? ⟨(N + 1), 5, none⟩ = some (.int .i64 0) := cell_at HZ.out 5
        have qZ6 : W3.cell? ⟨(N + 1), 6, none⟩ = some (.int .i64 0) := cell_at HZ.out 6
        have qZz : ∀ j, W3.frozen? ⟨(N + 1), j, none⟩ = false := fun j => free_at HZ.out j
        have qZl : (N + 1) < W3.heap.size := HZ.out.lt
        go_wp2_with fail
        clear qR0 qR1 qR2 qR3 qR4 qR5 qR6 qRz qRl qZ0 qZ1 qZ2 qZ3 qZ4 qZ5 qZ6 qZz qZl
        obtain ⟨LS, hLS⟩ : ∃ L : List Value, L = [.int .i64 x.id, .int .i64 x.tenant, .int .i64 x.shaper, .int .i64 x.epoch, .int .i64 x.number, .int .i64 x.size, .int .i64 x.spent] := ⟨_, rfl⟩
        obtain ⟨W4, hWS⟩ : ∃ WS, WS = W3.setCells (N + 1) 0 LS := ⟨_, rfl⟩
        have hch := hWS
        rw [hLS] at hch
        simp only [World.setCells, Nat.zero_add, Nat.reduceAdd] at hch
        rw [← hch]
        clear hch
        have hkS := stC_blk HZ.out LS (by rw [hLS]; rfl)
        have hfS := stC_fr (N + 1) LS 0 W3
        rw [← hWS] at hkS hfS
        rw [hLS] at hkS
        replace HB := Lib.hid (HB.out.trans (hfS.below HB.out.size (by have := HLON.out; simp; try omega)))
        replace HT := Lib.hid (HT0.out.below HB.out)
        replace HL := Lib.hid (HL0.out.below HB.out)
        replace HS := Lib.hid (HS0.out.below HB.out)
        replace HD := Lib.hid (HD0.out.below HB.out)
        replace HR := Lib.hid (show Blk W4 N #[.int .i64 s.term, .int .i64 s.stamp, .int .i64 s.next, .slice ta tn tc, .slice (some ⟨g, o, none⟩) ln lc, .slice sa sn sc, .slice da dn dc] 27 from (hfS.block _ HR.out.lt (by simp; try omega)).trans HR.out)
        replace HZ := Lib.hid (show Blk W4 (N + 1) #[.int .i64 x.id, .int .i64 x.tenant, .int .i64 x.shaper, .int .i64 x.epoch, .int .i64 x.number, .int .i64 x.size, .int .i64 x.spent] 31 from hkS)
        clear hWS hLS hkS hfS
        have qZ0 : W4.cell? ⟨(N + 1), 0, none⟩ = some (.int .i64 x.id) := cell_at HZ.out 0
        have qZ1 : W4.cell? ⟨(N + 1), 1, none⟩ = some (.int .i64 x.tenant) := cell_at HZ.out 1
        have qZ2 : W4.cell? ⟨(N + 1), 2, none⟩ = some (.int .i64 x.shaper) := cell_at HZ.out 2
        have qZ3 : W4.cell? ⟨(N + 1), 3, none⟩ = some (.int .i64 x.epoch) := cell_at HZ.out 3
        have qZ4 : W4.cell? ⟨(N + 1), 4, none⟩ = some (.int .i64 x.number) := cell_at HZ.out 4
        have qZ5 : W4.cell? ⟨(N + 1), 5, none⟩ = some (.int .i64 x.size) := cell_at HZ.out 5
        have qZ6 : W4.cell? ⟨(N + 1), 6, none⟩ = some (.int .i64 x.spent) := cell_at HZ.out 6
        have qZz : ∀ j, W4.frozen? ⟨(N + 1), j, none⟩ = false := fun j => free_at HZ.out j
        have qZl : (N + 1) < W4.heap.size := HZ.out.lt
        exact bodyPost_ret (v := .tuple #[.agg #[.int .i64 x.id, .int .i64 x.tenant, .int .i64 x.shaper, .int .i64 x.epoch, .int .i64 x.number, .int .i64 x.size, .int .i64 x.spent], .bool true]) (by simp [results, Try.results12, go_sem, qZ0, qZ1, qZ2, qZ3, qZ4, qZ5, qZ6]) rfl ⟨rfl, HB.out⟩
    · skip
      have b9 : (i < ln) = False := eq_false hk
      have b8 : decide (i < ln) = false := decide_eq_false hk
      have b7 : decide ((i : Int) < (ln : Int)) = false := decide_eq_false (by omega)
      obtain rfl : ln = i := by omega
      obtain rfl : R = .tuple #[zLe.agg, .bool false] := by rw [HR9.out, HFI.out, HEN.out]; rfl
      have qR0 : wr.cell? ⟨N, 0, none⟩ = some (.int .i64 s.term) := cell_at HR.out 0
      have qR1 : wr.cell? ⟨N, 1, none⟩ = some (.int .i64 s.stamp) := cell_at HR.out 1
      have qR2 : wr.cell? ⟨N, 2, none⟩ = some (.int .i64 s.next) := cell_at HR.out 2
      have qR3 : wr.cell? ⟨N, 3, none⟩ = some (.slice ta tn tc) := cell_at HR.out 3
      have qR4 : wr.cell? ⟨N, 4, none⟩ = some (.slice la ln lc) := cell_at HR.out 4
      have qR5 : wr.cell? ⟨N, 5, none⟩ = some (.slice sa sn sc) := cell_at HR.out 5
      have qR6 : wr.cell? ⟨N, 6, none⟩ = some (.slice da dn dc) := cell_at HR.out 6
      have qRz : ∀ j, wr.frozen? ⟨N, j, none⟩ = false := fun j => free_at HR.out j
      have qRl : N < wr.heap.size := HR.out.lt
      have qZ0 : wr.cell? ⟨(N + 1), 0, none⟩ = some (.int .i64 0) := cell_at HZ.out 0
      have qZ1 : wr.cell? ⟨(N + 1), 1, none⟩ = some (.int .i64 0) := cell_at HZ.out 1
      have qZ2 : wr.cell? ⟨(N + 1), 2, none⟩ = some (.int .i64 0) := cell_at HZ.out 2
      have qZ3 : wr.cell? ⟨(N + 1), 3, none⟩ = some (.int .i64 0) := cell_at HZ.out 3
      have qZ4 : wr.cell? ⟨(N + 1), 4, none⟩ = some (.int .i64 0) := cell_at HZ.out 4
      have qZ5 : wr.cell? ⟨(N + 1), 5, none⟩ = some (.int .i64 0) := cell_at HZ.out 5
      have qZ6 : wr.cell? ⟨(N + 1), 6, none⟩ = some (.int .i64 0) := cell_at HZ.out 6
      have qZz : ∀ j, wr.frozen? ⟨(N + 1), j, none⟩ = false := fun j => free_at HZ.out j
      have qZl : (N + 1) < wr.heap.size := HZ.out.lt
      go_wp2_with fail
      clear qR0 qR1 qR2 qR3 qR4 qR5 qR6 qRz qRl qZ0 qZ1 qZ2 qZ3 qZ4 qZ5 qZ6 qZz qZl
      obtain ⟨LS, hLS⟩ : ∃ L : List Value, L = [.int .i64 0, .int .i64 0, .int .i64 0, .int .i64 0, .int .i64 0, .int .i64 0, .int .i64 0] := ⟨_, rfl⟩
      obtain ⟨W3, hWS⟩ : ∃ WS, WS = wr.setCells (N + 1) 0 LS := ⟨_, rfl⟩
      have hch := hWS
      rw [hLS] at hch
      simp only [World.setCells, Nat.zero_add, Nat.reduceAdd] at hch
      rw [← hch]
      clear hch
      have hkS := stC_blk HZ.out LS (by rw [hLS]; rfl)
      have hfS := stC_fr (N + 1) LS 0 wr
      rw [← hWS] at hkS hfS
      rw [hLS] at hkS
      replace HB := Lib.hid (HB.out.trans (hfS.below HB.out.size (by have := HLON.out; simp; try omega)))
      replace HT := Lib.hid (HT0.out.below HB.out)
      replace HL := Lib.hid (HL0.out.below HB.out)
      replace HS := Lib.hid (HS0.out.below HB.out)
      replace HD := Lib.hid (HD0.out.below HB.out)
      replace HR := Lib.hid (show Blk W3 N #[.int .i64 s.term, .int .i64 s.stamp, .int .i64 s.next, .slice ta tn tc, .slice la ln lc, .slice sa sn sc, .slice da dn dc] 27 from (hfS.block _ HR.out.lt (by simp; try omega)).trans HR.out)
      replace HZ := Lib.hid (show Blk W3 (N + 1) #[.int .i64 0, .int .i64 0, .int .i64 0, .int .i64 0, .int .i64 0, .int .i64 0, .int .i64 0] 31 from hkS)
      clear hWS hLS hkS hfS
      have qZ0 : W3.cell? ⟨(N + 1), 0, none⟩ = some (.int .i64 0) := cell_at HZ.out 0
      have qZ1 : W3.cell? ⟨(N + 1), 1, none⟩ = some (.int .i64 0) := cell_at HZ.out 1
      have qZ2 : W3.cell? ⟨(N + 1), 2, none⟩ = some (.int .i64 0) := cell_at HZ.out 2
      have qZ3 : W3.cell? ⟨(N + 1), 3, none⟩ = some (.int .i64 0) := cell_at HZ.out 3
      have qZ4 : W3.cell? ⟨(N + 1), 4, none⟩ = some (.int .i64 0) := cell_at HZ.out 4
      have qZ5 : W3.cell? ⟨(N + 1), 5, none⟩ = some (.int .i64 0) := cell_at HZ.out 5
      have qZ6 : W3.cell? ⟨(N + 1), 6, none⟩ = some (.int .i64 0) := cell_at HZ.out 6
      have qZz : ∀ j, W3.frozen? ⟨(N + 1), j, none⟩ = false := fun j => free_at HZ.out j
      have qZl : (N + 1) < W3.heap.size := HZ.out.lt
      exact bodyPost_ret (v := .tuple #[.agg #[.int .i64 0, .int .i64 0, .int .i64 0, .int .i64 0, .int .i64 0, .int .i64 0, .int .i64 0], .bool false]) (by simp [results, Try.results12, go_sem, qZ0, qZ1, qZ2, qZ3, qZ4, qZ5, qZ6]) rfl ⟨rfl, HB.out⟩
end Go.Proofs.Ytfgnjpdlchimpaa
namespace Go.Proofs.Ytfgnjpdlchimpaa
open Go.RowKit Go.ChangeMaps
set_option linter.unusedSimpArgs false
set_option linter.unusedVariables false

/-- what a type of keys must bear -/
structure KeyK (P : Program) (k : TypeId) (d : TypeDesc) {κ : Type} [DecidableEq κ] (enc : κ → Value) : Prop where
  under : P.underlying k = some d
  check : ∀ em x w, (Instr.checkKey em 10000 k (enc x)).run P w = .ok () w
  eq : ∀ x y w, (Op.equal k (enc x) (enc y)).run P w = .ok (decide (x = y)) w
  now : (∀ x y, Instr.sameNow d (enc x) (enc y) = some (decide (x = y))) ∨ (∀ x y, Instr.sameNow d (enc x) (enc y) = none)
  bits : ∀ x, Instr.sameBits 10000 (enc x) (enc x) = true

def ents {κ : Type} (enc : κ → Value) (L : List (κ × Value × Nat)) : List MapEntry := L.map fun e => ⟨enc e.1, e.2.1, e.2.2⟩
def findL {κ : Type} [DecidableEq κ] (x : κ) : List (κ × Value × Nat) → Nat → Option (Nat × Value)
  | [], _ => none
  | e :: l, i => if x = e.1 then some (i, e.2.1) else findL x l (i + 1)

section
variable {P : Program} {k : TypeId} {d : TypeDesc} {κ : Type} [DecidableEq κ] {enc : κ → Value}

theorem findAsking_run (K : KeyK P k d enc) (x : κ) (w : World) : ∀ (L : List (κ × Value × Nat)) (i : Nat), (Instr.findAsking k (enc x) (ents enc L) i).run P w = .ok (findL x L i) w
  | [], i => rfl
  | e :: l, i => by
    have ih := findAsking_run K x w l (i + 1)
    show (Instr.findAsking k (enc x) (⟨enc e.1, e.2.1, e.2.2⟩ :: ents enc l) i).run P w = _
    simp only [Instr.findAsking, Sem.run_bind, K.eq, Result.andThen_ok, findL]
    by_cases h : x = e.1
    · simp [h]
    · simpa [h] using ih
theorem findNow_run (K : KeyK P k d enc) (x : κ) : ∀ (L : List (κ × Value × Nat)) (i : Nat), Instr.findNow d (enc x) (ents enc L) i = some (findL x L i) ∨ Instr.findNow d (enc x) (ents enc L) i = none := by
  intro L
  rcases K.now with h | h
  · induction L with
    | nil => intro i; exact .inl rfl
    | cons e l ih =>
      intro i
      have e1 : ents enc (e :: l) = ⟨enc e.1, e.2.1, e.2.2⟩ :: ents enc l := rfl
      rw [e1]
      simp only [Instr.findNow, h, findL]
      by_cases hx : x = e.1
      · simp [hx]
      · simpa [hx] using ih (i + 1)
  · intro i
    cases L with
    | nil => exact .inl rfl
    | cons e l =>
      have e1 : ents enc (e :: l) = ⟨enc e.1, e.2.1, e.2.2⟩ :: ents enc l := rfl
      rw [e1]
      simp only [Instr.findNow, h]
      exact .inr trivial
theorem findKey_run (K : KeyK P k d enc) (x : κ) (w : World) (L : List (κ × Value × Nat)) : (Instr.findKey k (enc x) (ents enc L)).run P w = .ok (findL x L 0) w := by
  simp only [Instr.findKey, Sem.run_bind, run_underlying K.under, Result.andThen_ok]
  rcases findNow_run K x L 0 with h | h
  · simp [h]
  · simp only [h]
    exact findAsking_run K x w L 0

/-- the map in block b answers M -/
def MapO (w : World) (b : Nat) (enc : κ → Value) (M : κ → Option Value) : Prop :=
  ∃ (L : List (κ × Value × Nat)) (clock : Nat), w.heap[b]? = some (.map (ents enc L).toArray clock) ∧ ∀ x, (findL x L 0).map (·.2) = M x

theorem MapO.congr {w w' : World} {b : Nat} {M : κ → Option Value} (h : MapO w b enc M) (hb : w'.heap[b]? = w.heap[b]?) : MapO w' b enc M := by
  obtain ⟨L, c, h1, h2⟩ := h
  exact ⟨L, c, hb.trans h1, h2⟩
theorem MapO.lt {w : World} {b : Nat} {M : κ → Option Value} (h : MapO w b enc M) : b < w.heap.size := by
  obtain ⟨L, c, h1, h2⟩ := h
  exact (Array.getElem?_eq_some_iff.1 h1).1
theorem MapO.step {w w' : World} {b : Nat} {M : κ → Option Value} (h : MapO w b enc M) (hB : Below w.heap.size w w') : MapO w' b enc M := h.congr (hB.block b h.lt)
theorem MapO.new (w : World) : MapO (κ := κ) (w.alloc (.map #[] 0)) w.heap.size enc fun _ => none := ⟨[], 0, heap_alloc_new w _, fun _ => rfl⟩
theorem MapO.fun_eq {w : World} {b : Nat} {M M' : κ → Option Value} (h : MapO w b enc M) (he : ∀ x, M x = M' x) : MapO w b enc M' := by
  obtain ⟨L, c, h1, h2⟩ := h
  exact ⟨L, c, h1, fun x => (h2 x).trans (he x)⟩

theorem MapO.look {w : World} {b : Nat} {M : κ → Option Value} (h : MapO w b enc M) (K : KeyK P k d enc) {t e : TypeId} (ht : P.underlying t = some (.map k e)) {z : Value} (hz : (zeroValue e).run P w = .ok z w) (x : κ) :
    (Instr.lookup t (.map (some b)) (enc x) false).run P w = .ok ((M x).getD z) w := by
  obtain ⟨L, c, h1, h2⟩ := h
  rw [← h2 x]
  simp only [Instr.lookup, Sem.run_bind, run_underlying ht, Result.andThen_ok, MapKept.run_getObj_map h1, Sem.run_pure, K.check, findKey_run K x w L]
  cases hf : findL x L 0 with
  | none => simp [hz]
  | some r => simp
theorem MapO.look_ok {w : World} {b : Nat} {M : κ → Option Value} (h : MapO w b enc M) (K : KeyK P k d enc) {t e : TypeId} (ht : P.underlying t = some (.map k e)) {z : Value} (hz : (zeroValue e).run P w = .ok z w) (x : κ) :
    (Instr.lookup t (.map (some b)) (enc x) true).run P w = .ok (.tuple #[(M x).getD z, .bool (M x).isSome]) w := by
  obtain ⟨L, c, h1, h2⟩ := h
  rw [← h2 x]
  simp only [Instr.lookup, Sem.run_bind, run_underlying ht, Result.andThen_ok, MapKept.run_getObj_map h1, Sem.run_pure, K.check, findKey_run K x w L]
  cases hf : findL x L 0 with
  | none => simp [hz]
  | some r => simp

theorem findL_ge {x : κ} : ∀ (L : List (κ × Value × Nat)) (i : Nat) {j : Nat} {v : Value}, findL x L i = some (j, v) → i ≤ j ∧ ∃ r, L[j - i]? = some (x, v, r)
  | [], i, j, v, h => by simp [findL] at h
  | e :: l, i, j, v, h => by
    simp only [findL] at h
    by_cases hx : x = e.1
    · rw [if_pos hx] at h
      simp only [Option.some.injEq, Prod.mk.injEq] at h
      obtain ⟨rfl, rfl⟩ := h
      exact ⟨Nat.le_refl _, e.2.2, by simp [hx]⟩
    · rw [if_neg hx] at h
      obtain ⟨h1, r, h2⟩ := findL_ge l (i + 1) h
      refine ⟨by omega, r, ?_⟩
      rw [show j - i = (j - (i + 1)) + 1 by omega, List.getElem?_cons_succ]
      exact h2
theorem findL_push (x y : κ) (v : Value) (r : Nat) : ∀ (L : List (κ × Value × Nat)) (i : Nat), findL x L i = none → ((findL y (L ++ [(x, v, r)]) i).map (·.2)) = if y = x then some v else (findL y L i).map (·.2)
  | [], i, _ => by
    by_cases h : y = x <;> simp [findL, h]
  | e :: l, i, h => by
    simp only [findL] at h
    by_cases hx : x = e.1
    · rw [if_pos hx] at h; cases h
    · rw [if_neg hx] at h
      have ih := findL_push x y v r l (i + 1) h
      simp only [List.cons_append, findL]
      by_cases hy : y = e.1
      · have : y ≠ x := fun e' => hx (e' ▸ hy)
        simp [hy, this]
        intro e'; exact absurd e'.symm hx
      · simp only [if_neg hy]
        exact ih
theorem findL_set (x y : κ) (v : Value) : ∀ (L : List (κ × Value × Nat)) (i j : Nat) (u : Value), findL x L i = some (j, u) → ((findL y (L.modify (j - i) fun e => (x, v, e.2.2)) i).map (·.2)) = if y = x then some v else (findL y L i).map (·.2)
  | [], i, j, u, h => by simp [findL] at h
  | e :: l, i, j, u, h => by
    have hg := findL_ge _ _ h
    simp only [findL] at h
    by_cases hx : x = e.1
    · rw [if_pos hx] at h
      simp only [Option.some.injEq, Prod.mk.injEq] at h
      obtain ⟨rfl, rfl⟩ := h
      simp only [Nat.sub_self, List.modify_zero_cons, findL]
      by_cases hy : y = x
      · simp [hy]
      · have : y ≠ e.1 := fun e' => hy (e'.trans hx.symm)
        simp [hy, this]
    · rw [if_neg hx] at h
      obtain ⟨h1, _⟩ := findL_ge _ _ h
      have ih := findL_set x y v l (i + 1) j u h
      rw [show j - i = (j - (i + 1)) + 1 by omega]
      simp only [List.modify_succ_cons, findL]
      by_cases hy : y = e.1
      · have : y ≠ x := fun e' => hx (e' ▸ hy)
        simp [hy]
        intro e'; exact absurd e'.symm hx
      · simp only [if_neg hy]
        exact ih

theorem MapO.put {w : World} {b : Nat} {M : κ → Option Value} (h : MapO w b enc M) (K : KeyK P k d enc) {t e : TypeId} (ht : P.underlying t = some (.map k e)) (x : κ) (v : Value) :
    ∃ w', (Instr.mapUpdate t (.map (some b)) (enc x) v).run P w = .ok () w' ∧ MapO w' b enc (fun y => if y = x then some v else M y) ∧ Fr [b] w w' ∧ w'.heap.size = w.heap.size := by
  obtain ⟨L, c, h1, h2⟩ := h
  have hfr : ∀ o, Fr [b] w (setBlock w b o) := fun o => ⟨rfl, rfl, rfl, by simp [setBlock], fun i _ hi => heap_setBlock_other h1 _ (by simpa using hi)⟩
  cases hf : findL x L 0 with
  | none =>
    refine ⟨setBlock w b (.map (ents enc (L ++ [(x, v, c)])).toArray (c + 1)), ?_, ⟨_, _, heap_setBlock_same h1 _, fun y => ?_⟩, hfr _, by simp [setBlock]⟩
    · have e0 : ents enc (L ++ [(x, v, c)]) = ents enc L ++ [⟨enc x, v, c⟩] := by simp [ents]
      rw [e0]
      simp only [Instr.mapUpdate, Sem.run_bind, run_underlying ht, Result.andThen_ok, MapKept.run_getObj_map h1, K.check, findKey_run K x w L, hf]
      rw [MapKept.run_setObj_map _ h1]
      simp [setBlock]
    · rw [findL_push x y v c L 0 hf, h2 y]
  | some r =>
    obtain ⟨j, u⟩ := r
    obtain ⟨_, rr, hj⟩ := findL_ge _ _ hf
    rw [Nat.sub_zero] at hj
    have hj' : (ents enc L)[j]? = some ⟨enc x, u, rr⟩ := by simp [ents, hj]
    refine ⟨setBlock w b (.map (ents enc (L.modify j fun e => (x, v, e.2.2))).toArray c), ?_, ⟨_, _, heap_setBlock_same h1 _, fun y => ?_⟩, hfr _, by simp [setBlock]⟩
    · have e1 : (ents enc L).toArray.modify j (fun e => ({ e with key := enc x, val := v } : MapEntry)) = (ents enc (L.modify j fun e => (x, v, e.2.2))).toArray := by
        rw [← Array.toList_inj]
        simp only [Array.toList_modify, ents]
        apply List.ext_getElem?
        intro i
        simp only [List.getElem?_modify, List.getElem?_map, Option.map_map]
        by_cases hij : j = i
        · simp [hij, Function.comp_def]
        · simp [hij]
      have e2 : ((ents enc L).toArray[j]?.map (·.key)).getD (enc x) = enc x := by
        rw [List.getElem?_toArray, hj']
        rfl
      have e3 : (Instr.keyThatStays (((ents enc L).toArray[j]?.map (·.key)).getD (enc x)) (enc x)).run P w = .ok (enc x) w := by
        rw [e2]
        unfold Instr.keyThatStays
        rw [if_pos (K.bits x)]
        rfl
      simp only [Instr.mapUpdate, Sem.run_bind, run_underlying ht, Result.andThen_ok, MapKept.run_getObj_map h1, K.check, findKey_run K x w L, hf, e3]
      rw [MapKept.run_setObj_map _ h1, ← e1]
      rfl
    · have := findL_set x y v L 0 j u hf
      rw [Nat.sub_zero] at this
      rw [this, h2 y]
end

/-- keys that are ints -/
theorem key_int {P : Program} {k : TypeId} (hk : P.underlying k = some (.int .i64)) : KeyK P k (.int .i64) fun x : Int => Value.int .i64 x where
  under := hk
  check em x w := by
    show (Instr.checkKey em (9999 + 1) k _).run P w = _
    unfold Instr.checkKey
    simp [Sem.run_bind, run_underlying hk, Result.andThen]
  eq x y w := by
    show (Op.equalIn (9999 + 1) k _ _).run P w = _
    rw [run_equalIn_int w 9999 k .i64 .i64 x y hk]
    congr 1
  now := .inl fun x y => by simp [Instr.sameNow]; rfl
  bits x := by simp [Instr.sameBits]
end Go.Proofs.Ytfgnjpdlchimpaa
namespace Go.Proofs.Ytfgnjpdlchimpaa
open Go.RowKit Go.ChangeMaps
set_option linter.unusedSimpArgs false
set_option linter.unusedVariables false

theorem find_born (st : Nat) : ∀ (l : List MapEntry) (j : Nat) (e : MapEntry), (l.map (·.born)).Nodup → l[j]? = some e → e.born = st → l.findIdx? (fun q => ((q.born : Nat) : Int) == ((st : Nat) : Int)) = some j
  | [], j, e, _, h, _ => by simp at h
  | a :: r, 0, e, _, h, he => by
    simp at h
    subst h
    rw [List.findIdx?_cons, he]
    simp
  | a :: r, j + 1, e, hn, h, he => by
    simp only [List.map_cons, List.nodup_cons] at hn
    simp only [List.getElem?_cons_succ] at h
    have hne : ¬ a.born = st := fun e1 => hn.1 (List.mem_map.2 ⟨e, List.mem_of_getElem? h, by rw [he, e1]⟩)
    have hb : (((a.born : Nat) : Int) == ((st : Nat) : Int)) = false := by
      rw [beq_eq_false_iff_ne]
      omega
    rw [List.findIdx?_cons, hb]
    simp [find_born st r j e hn.2 h he]
section
variable {P : Program} {k : TypeId} {d : TypeDesc} {κ : Type} [DecidableEq κ] {enc : κ → Value}
/-- the map in block b, which holds ints: what it answers -/
def MapT (w : World) (b : Nat) (enc : κ → Value) (F : κ → Int) : Prop :=
  ∃ (L : List (κ × Value × Nat)) (clock : Nat), w.heap[b]? = some (.map (ents enc L).toArray clock) ∧ (∀ e ∈ L, e.2.2 < clock) ∧ (L.map fun e => e.2.2).Nodup ∧ ∀ x, ((findL x L 0).map (·.2)).getD (.int .i64 0) = .int .i64 (F x)
/-- and the entry with the stamp st is x's -/
def MapE (w : World) (b : Nat) (enc : κ → Value) (F : κ → Int) (x : κ) (st : Nat) : Prop :=
  ∃ (L : List (κ × Value × Nat)) (clock j : Nat) (v : Value), w.heap[b]? = some (.map (ents enc L).toArray clock) ∧ (∀ e ∈ L, e.2.2 < clock) ∧ (L.map fun e => e.2.2).Nodup ∧ (∀ x, ((findL x L 0).map (·.2)).getD (.int .i64 0) = .int .i64 (F x)) ∧ findL x L 0 = some (j, v) ∧ L[j]? = some (x, v, st)
theorem MapT.congr {w w' : World} {b : Nat} {F : κ → Int} (h : MapT w b enc F) (hb : w'.heap[b]? = w.heap[b]?) : MapT w' b enc F := by
  obtain ⟨L, c, h1, h2⟩ := h
  exact ⟨L, c, hb.trans h1, h2⟩
theorem MapE.congr {w w' : World} {b st : Nat} {F : κ → Int} {x : κ} (h : MapE w b enc F x st) (hb : w'.heap[b]? = w.heap[b]?) : MapE w' b enc F x st := by
  obtain ⟨L, c, j, v, h1, h2⟩ := h
  exact ⟨L, c, j, v, hb.trans h1, h2⟩
theorem MapT.lt {w : World} {b : Nat} {F : κ → Int} (h : MapT w b enc F) : b < w.heap.size := by
  obtain ⟨L, c, h1, h2⟩ := h
  exact (Array.getElem?_eq_some_iff.1 h1).1
theorem MapT.step {w w' : World} {b : Nat} {F : κ → Int} (h : MapT w b enc F) (hB : Below w.heap.size w w') : MapT w' b enc F := h.congr (hB.block b h.lt)
theorem MapT.new (w : World) : MapT (κ := κ) (w.alloc (.map #[] 0)) w.heap.size enc fun _ => 0 := ⟨[], 0, heap_alloc_new w _, by simp, by simp, fun _ => rfl⟩
theorem MapT.fun_eq {w : World} {b : Nat} {F F' : κ → Int} (h : MapT w b enc F) (he : ∀ x, F x = F' x) : MapT w b enc F' := by
  have : F = F' := funext he
  exact this ▸ h
theorem MapE.t {w : World} {b st : Nat} {F : κ → Int} {x : κ} (h : MapE w b enc F x st) : MapT w b enc F := by
  obtain ⟨L, c, j, v, h1, h2, h3, h4, _⟩ := h
  exact ⟨L, c, h1, h2, h3, h4⟩
theorem MapT.o {w : World} {b : Nat} {F : κ → Int} (h : MapT w b enc F) : ∃ M, MapO w b enc M ∧ ∀ x, (M x).getD (.int .i64 0) = .int .i64 (F x) := by
  obtain ⟨L, c, h1, _, _, h4⟩ := h
  exact ⟨fun x => (findL x L 0).map (·.2), ⟨L, c, h1, fun _ => rfl⟩, h4⟩
theorem MapT.look {w : World} {b : Nat} {F : κ → Int} (h : MapT w b enc F) (K : KeyK P k d enc) {t e : TypeId} (ht : P.underlying t = some (.map k e)) (hz : (zeroValue e).run P w = .ok (.int .i64 0) w) (x : κ) :
    (Instr.lookup t (.map (some b)) (enc x) false).run P w = .ok (.int .i64 (F x)) w := by
  obtain ⟨M, hM, hF⟩ := h.o
  rw [← hF x]
  exact hM.look K ht hz x
theorem MapT.entry {w : World} {b : Nat} {F : κ → Int} (h : MapT w b enc F) (K : KeyK P k d enc) {t e : TypeId} (ht : P.underlying t = some (.map k e)) (hz : ∀ u, (zeroValue e).run P u = .ok (.int .i64 0) u) (x : κ) :
    ∃ w' st, (Instr.mapEntry t (.map (some b)) (enc x)).run P w = .ok (.tuple #[.int .i64 (F x), goInt ((st : Nat) : Int)]) w' ∧ MapE w' b enc F x st ∧ Fr [b] w w' ∧ w'.heap.size = w.heap.size := by
  obtain ⟨L, c, h1, h2, h3, h4⟩ := h
  have hfr : ∀ o, Fr [b] w (setBlock w b o) := fun o => ⟨rfl, rfl, rfl, by simp [setBlock], fun i _ hi => heap_setBlock_other h1 _ (by simpa using hi)⟩
  have h4x := h4 x
  cases hf : findL x L 0 with
  | none =>
    rw [hf] at h4x
    have hpush := fun y => findL_push x y (.int .i64 0) c L 0 hf
    have hx2 := hpush x
    rw [if_pos rfl] at hx2
    obtain ⟨⟨j, v⟩, hj, hv⟩ := Option.map_eq_some_iff.1 hx2
    obtain rfl : v = .int .i64 0 := hv
    obtain ⟨_, r, hr⟩ := findL_ge _ _ hj
    rw [Nat.sub_zero] at hr
    have hjl : j = L.length := by
      rcases Nat.lt_or_ge j L.length with hjl | hjl
      · exfalso
        rw [List.getElem?_append_left hjl] at hr
        have hgo : ∀ (M : List (κ × Value × Nat)) (i : Nat), findL x M i = none → ∀ e ∈ M, e.1 ≠ x := by
          intro M
          induction M with
          | nil => intro i _ e he; simp at he
          | cons a M ih =>
            intro i hi e he
            simp only [findL] at hi
            by_cases hx : x = a.1
            · rw [if_pos hx] at hi; cases hi
            · rw [if_neg hx] at hi
              rcases List.mem_cons.1 he with rfl | he
              · exact fun e' => hx e'.symm
              · exact ih _ hi e he
        exact hgo L 0 hf _ (List.mem_of_getElem? hr) rfl
      · have := (List.getElem?_eq_some_iff.1 hr).1
        simp at this
        omega
    refine ⟨setBlock w b (.map (ents enc (L ++ [(x, .int .i64 0, c)])).toArray (c + 1)), c, ?_, ⟨_, _, j, .int .i64 0, heap_setBlock_same h1 _, ?_, ?_, fun y => ?_, hj, ?_⟩, hfr _, by simp [setBlock]⟩
    · have e0 : ents enc (L ++ [(x, .int .i64 0, c)]) = ents enc L ++ [⟨enc x, .int .i64 0, c⟩] := by simp [ents]
      have e1 : Value.int .i64 (F x) = .int .i64 0 := h4x.symm
      rw [e0, e1]
      simp only [Instr.mapEntry, Sem.run_bind, run_underlying ht, Result.andThen_ok, MapKept.run_getObj_map h1, K.check, findKey_run K x w L, hf, hz]
      rw [MapKept.run_setObj_map _ h1]
      simp [setBlock]
    · intro e he
      rcases List.mem_append.1 he with he | he
      · have := h2 e he; omega
      · simp at he; subst he; exact Nat.lt_succ_self c
    · rw [List.map_append]
      refine List.nodup_append.2 ⟨h3, by simp, fun a ha q hq e1 => ?_⟩
      simp at hq
      obtain ⟨e, he, rfl⟩ := List.mem_map.1 ha
      have := h2 e he
      omega
    · rw [hpush y]
      by_cases hy : y = x
      · rw [if_pos hy, hy, ← h4x]; rfl
      · rw [if_neg hy]; exact h4 y
    · rw [hjl]; simp
  | some r =>
    obtain ⟨j, u⟩ := r
    rw [hf] at h4x
    obtain ⟨_, rr, hj⟩ := findL_ge _ _ hf
    rw [Nat.sub_zero] at hj
    obtain rfl : u = .int .i64 (F x) := h4x
    have hj' : (ents enc L)[j]? = some ⟨enc x, .int .i64 (F x), rr⟩ := by simp [ents, hj]
    refine ⟨setBlock w b (.map (ents enc L).toArray c), rr, ?_, ⟨L, c, j, _, heap_setBlock_same h1 _, h2, h3, h4, hf, hj⟩, hfr _, by simp [setBlock]⟩
    have e2 : ((ents enc L).toArray[j]?.map (·.key)).getD (enc x) = enc x := by
      rw [List.getElem?_toArray, hj']
      rfl
    have e4 : ((ents enc L).toArray[j]?.map (fun x => ((x.born : Nat) : Int))).getD 0 = ((rr : Nat) : Int) := by
      rw [List.getElem?_toArray, hj']
      rfl
    have e3 : (Instr.keyThatStays (((ents enc L).toArray[j]?.map (·.key)).getD (enc x)) (enc x)).run P w = .ok (enc x) w := by
      rw [e2]
      unfold Instr.keyThatStays
      rw [if_pos (K.bits x)]
      rfl
    have e1 : (ents enc L).toArray.modify j (fun e => ({ e with key := enc x } : MapEntry)) = (ents enc L).toArray := by
      rw [← Array.toList_inj]
      simp only [Array.toList_modify]
      apply List.ext_getElem?
      intro i
      simp only [List.getElem?_modify]
      by_cases hij : j = i
      · subst hij; rw [hj']; simp
      · simp [hij]
    simp only [Instr.mapEntry, Sem.run_bind, run_underlying ht, Result.andThen_ok, MapKept.run_getObj_map h1, K.check, findKey_run K x w L, hf, e3, e4]
    rw [MapKept.run_setObj_map _ h1, e1]
    rfl
theorem MapE.store {w : World} {b st : Nat} {F : κ → Int} {x : κ} (h : MapE w b enc F x st) (t : TypeId) (n : Int) :
    ∃ w', (Instr.entryStore t (.map (some b)) (goInt ((st : Nat) : Int)) (.int .i64 n)).run P w = .ok () w' ∧ MapT w' b enc (fun y => if y = x then n else F y) ∧ Fr [b] w w' ∧ w'.heap.size = w.heap.size := by
  obtain ⟨L, c, j, v, h1, h2, h3, h4, h5, h6⟩ := h
  have hfr : ∀ o, Fr [b] w (setBlock w b o) := fun o => ⟨rfl, rfl, rfl, by simp [setBlock], fun i _ hi => heap_setBlock_other h1 _ (by simpa using hi)⟩
  have hset := fun y => findL_set x y (.int .i64 n) L 0 j v h5
  rw [Nat.sub_zero] at hset
  have e9 : L.modify j (fun e => (x, Value.int .i64 n, e.2.2)) = L.modify j (fun e => (e.1, Value.int .i64 n, e.2.2)) := by
    apply List.ext_getElem?
    intro i
    simp only [List.getElem?_modify]
    by_cases hij : j = i
    · subst hij; rw [h6]; simp
    · simp [hij]
  have h6' : (ents enc L)[j]? = some ⟨enc x, v, st⟩ := by simp [ents, h6]
  have hidx : (ents enc L).toArray.findIdx? (fun e => ((e.born : Nat) : Int) == ((st : Nat) : Int)) = some j := by
    have hn : ((ents enc L).map (·.born)).Nodup := by
      have : (ents enc L).map (·.born) = L.map fun e => e.2.2 := by simp [ents, Function.comp_def]
      rw [this]; exact h3
    rw [List.findIdx?_toArray]
    exact find_born st _ j _ hn h6' rfl
  have hmod : (L.modify j fun e => (e.1, Value.int .i64 n, e.2.2)).map (fun e => e.2.2) = L.map fun e => e.2.2 := by
    apply List.ext_getElem?
    intro i
    simp only [List.getElem?_map, List.getElem?_modify]
    by_cases hij : j = i
    · subst hij; rw [h6]; simp
    · simp [hij]
  refine ⟨setBlock w b (.map (ents enc (L.modify j fun e => (e.1, Value.int .i64 n, e.2.2))).toArray c), ?_, ⟨_, _, heap_setBlock_same h1 _, ?_, ?_, fun y => ?_⟩, hfr _, by simp [setBlock]⟩
  · have e1 : (ents enc L).toArray.modify j (fun e => ({ e with val := .int .i64 n } : MapEntry)) = (ents enc (L.modify j fun e => (e.1, .int .i64 n, e.2.2))).toArray := by
      rw [← Array.toList_inj]
      simp only [Array.toList_modify, ents]
      apply List.ext_getElem?
      intro i
      simp only [List.getElem?_modify, List.getElem?_map, Option.map_map]
      by_cases hij : j = i
      · simp [hij, Function.comp_def]
      · simp [hij]
    simp only [Instr.entryStore, Sem.run_bind, Result.andThen_ok, MapKept.run_getObj_map h1, goInt, asInt, asIntOf, hidx, Sem.run_pure]
    rw [MapKept.run_setObj_map _ h1, e1]
    rfl
  · intro e he
    have : e.2.2 ∈ (L.modify j fun e => (e.1, Value.int .i64 n, e.2.2)).map (fun e => e.2.2) := List.mem_map.2 ⟨e, he, rfl⟩
    rw [hmod] at this
    obtain ⟨e', he', h'⟩ := List.mem_map.1 this
    have := h2 e' he'
    omega
  · rw [hmod]; exact h3
  · rw [← e9, hset y]
    by_cases hy : y = x
    · rw [if_pos hy]; simp [hy]
    · rw [if_neg hy]; simp only [if_neg hy]; exact h4 y
end
theorem key_whose : KeyK Try.prog 66 (.struct #[⟨"tenant", 3, 0, false, "", "weir/ledger", 0⟩]) fun c : Int => Value.agg #[.int .i64 c] where
  under := by kernel_rfl
  check em x w := by
    show (Instr.checkKey em (9998 + 1 + 1) _ _).run _ w = _
    have hu : Try.prog.underlying 66 = some (.struct #[⟨"tenant", 3, 0, false, "", "weir/ledger", 0⟩]) := by kernel_rfl
    have hi : Try.prog.underlying 3 = some (.int .i64) := by kernel_rfl
    have h1 : ∀ w, (Instr.checkKey em (9998 + 1) 3 (.int .i64 x)).run Try.prog w = .ok () w := fun w => by
      unfold Instr.checkKey
      simp [Sem.run_bind, run_underlying hi, Result.andThen]
    have h2 : ∀ w, (part 3 #[.int .i64 x] 0).run Try.prog w = .ok (.int .i64 x) w := fun w => by simp [part, go_sem]
    unfold Instr.checkKey
    simp only [Sem.run_bind, run_underlying hu, Result.andThen_ok]
    simp [h1, h2, Result.andThen]
  eq x y w := by
    show (Op.equalIn (9998 + 1 + 1) _ _ _).run _ w = _
    have hf : Try.prog.fieldsOf 66 = #[⟨"tenant", 3, 0, false, "", "weir/ledger", 0⟩] := by kernel_rfl
    rw [run_equalIn_struct w _ _ _ _ (by kernel_rfl) (by kernel_rfl), hf]
    have e1 : ∀ a b : Int, (Op.equalIn (9998 + 1) 3 (.int .i64 a) (.int .i64 b)).run Try.prog w = .ok (a == b) w := fun a b => run_equalIn_int w 9998 _ .i64 .i64 a b (by kernel_rfl)
    cases h1 : x == y
    · have : ¬ x = y := by simpa using h1
      simp [Op.eqFields, part, e1, h1, go_sem, this]
    · have : x = y := by simpa using h1
      simp [Op.eqFields, part, e1, go_sem, this]
  now := .inr fun _ _ => rfl
  bits x := by
    show Instr.sameBits (9998 + 1 + 1) _ _ = true
    simp [Instr.sameBits]
end Go.Proofs.Ytfgnjpdlchimpaa
namespace Go.Proofs.Ytfgnjpdlchimpaa
open Go.RowKit
set_option linter.unusedSimpArgs false
set_option linter.unusedVariables false

/-- An iterator, called in any world behind W0: the elements come one by one, each as E says in the world in which it comes; a round may change what Kp lets it. -/
def SeqE {α : Type} (n : Nat) (P : Program) (g : Nat) (lb : Array Value) (encs : α → Array Value) (E : List α → α → World → Prop) (Kp : World → World → Prop) (S : List α → Prop) (N : Nat) (W0 : World) : Prop :=
  ∀ (l : Nat) (J Jx : List α → World → Prop) (W : World), Below W0.heap.size W0 W → (∀ s A B, J s A → Below A.heap.size A B → J s B) →
    (∀ pre x W1, J pre W1 → E pre x W1 → pre.length < N → YieldAt Fence.wide (n - 1) P l (encs x) W1 fun e W' =>
      (e = .returned (.bool true) ∧ J (pre ++ [x]) W' ∧ Kp W1 W') ∨ (e = .returned (.bool false) ∧ Jx (pre ++ [x]) W')) →
    J [] W →
    CallsIn Fence.wide n P g (#[.func (.yield l) #[] #[]] ++ lb) W fun e W' => (∃ v, e = .returned v) ∧ ((∃ xs, S xs ∧ J xs W') ∨ (∃ pre, Jx pre W'))

/-- Of the blocks below n only those of l may have turned. -/
structure FrB (n : Nat) (l : List Nat) (w w' : World) : Prop where
  os : w'.os = w.os
  tape : w'.tape = w.tape
  output : w'.output = w.output
  size : w.heap.size ≤ w'.heap.size
  block : ∀ k, k < n → k ∉ l → w'.heap[k]? = w.heap[k]?
theorem FrB.refl (n : Nat) (l : List Nat) (w : World) : FrB n l w w := ⟨rfl, rfl, rfl, Nat.le_refl _, fun _ _ _ => rfl⟩
theorem FrB.trans {n : Nat} {l : List Nat} {a b c : World} (h : FrB n l a b) (k : FrB n l b c) : FrB n l a c :=
  ⟨k.os.trans h.os, k.tape.trans h.tape, k.output.trans h.output, Nat.le_trans h.size k.size, fun i hi hn => (k.block i hi hn).trans (h.block i hi hn)⟩
theorem FrB.mono {n : Nat} {l l' : List Nat} {a b : World} (h : FrB n l a b) (hl : ∀ x ∈ l, x ∈ l') : FrB n l' a b := ⟨h.os, h.tape, h.output, h.size, fun i hi hn => h.block i hi fun hm => hn (hl i hm)⟩
theorem FrB.of_fr {n : Nat} {l : List Nat} {a b : World} (h : Fr l a b) (hn : n ≤ a.heap.size) : FrB n l a b := ⟨h.os, h.tape, h.output, h.size, fun i hi hm => h.block i (by omega) hm⟩
theorem FrB.of_below {n : Nat} {l : List Nat} {B : Nat} {a b : World} (h : Below B a b) (hn : n ≤ B) : FrB n l a b := ⟨h.os, h.tape, h.output, h.size, fun i hi _ => h.block i (by omega)⟩
theorem FrB.put (n : Nat) (W : World) (L : Nat) (o : Obj) : FrB n [L] W (W.putObj L o) := ⟨rfl, rfl, rfl, by simp, fun k _ hk => World.putObj_heap_other (by simpa using hk)⟩
theorem FrB.below {n : Nat} {l : List Nat} {B : Nat} {a b : World} (h : FrB n l a b) (hB : B ≤ n) (hl : ∀ x ∈ l, B ≤ x) : Below B a b := ⟨h.os, h.tape, h.output, h.size, fun k hk => h.block k (by omega) fun hm => by have := hl k hm; omega⟩

/-- how a round's body may be left -/
def roundE {α : Type} (n : Nat) (bl : List Nat) (I : List α → World → Prop) (Ix : Code → List α → World → Prop) (xs : List α) (W : World) : Exit → Act → World → Prop
  | .normal, _, W' => FrB n bl W W' ∧ I xs W'
  | .ret, _, W' => FrB n bl W W' ∧ Ix .ret xs W'
  | .exit id, _, W' => FrB n bl W W' ∧ Ix (.exit id) xs W'
  | .goto t, _, W' => FrB n bl W W' ∧ Ix (.goto t) xs W'
  | .panic _, _, _ => False
  | .outgrown, _, _ => False

theorem range_E {α : Type} {P : Program} {n : Nat} (h1 : 1 ≤ n) {g : Operand} {ps : Array Tmp} {assign body : Code} {Q : Exit → Act → World → Prop} {a : Act} {w : World} {gf : Nat} {lb : Array Value}
    (hg : a.eval g = .func (.func gf) #[] lb) (eg : ∀ args w, (callFunc gf args).run P w = .ok (.enter gf args) w)
    {encs : α → Array Value} {E : List α → α → World → Prop} {S : List α → Prop} {N : Nat} (bl : List Nat) (hseq : SeqE (n - 1) P gf lb encs E (FrB (w.heap.size + 2) ((w.heap.size + 1) :: bl)) S N w) (hps : ∀ x, (encs x).size = ps.size)
    (I : List α → World → Prop) (Ix : Code → List α → World → Prop)
    (hIb : ∀ s A B, I s A → Below A.heap.size A B → I s B)
    (hIp : ∀ s A o, I s A → w.heap.size + 1 < A.heap.size → I s (A.putObj (w.heap.size + 1) o))
    (hXp : ∀ c s A o, Ix c s A → w.heap.size + 1 < A.heap.size → Ix c s (A.putObj (w.heap.size + 1) o))
    (hb0 : w.heap.size ∉ bl) (hb1 : w.heap.size + 1 ∉ bl) (h0 : I [] w)
    (hround : ∀ pre x W, I pre W → E pre x W → pre.length < N → w.heap.size + 1 < W.heap.size →
      assign.wpIn (Fence.wide.inRound (w.heap.size + 1)) (n - 1 - 1) P (Exit.then (fun a₁ w₁ => Below W.heap.size W w₁ ∧ ∀ o, body.wpIn (Fence.wide.inRound (w.heap.size + 1)) (n - 1 - 1) P (roundE (w.heap.size + 2) bl I Ix (pre ++ [x]) (w₁.putObj (w.heap.size + 1) o)) a₁ (w₁.putObj (w.heap.size + 1) o)) (fun _ _ _ => False))
        { tmps := (ps.zip (encs x)).foldl (fun t (p, v) => t.setIfInBounds p v) a.tmps, defers := [] } W)
    (hdone : ∀ xs W, S xs → I xs W → W.heap[w.heap.size]? = some (.deferred (some [])) → Q .normal { a with defers := { target := .collected w.heap.size, args := #[] } :: a.defers } W)
    (hstop : ∀ c xs W, Ix c xs W → W.heap[w.heap.size]? = some (.deferred (some [])) → c.wpIn Fence.wide n P Q { a with defers := { target := .collected w.heap.size, args := #[] } :: a.defers } W) :
    (Code.rangeFunc g ps assign body).wpIn Fence.wide n P Q a w := by
  refine wpIn_rangeFunc fun fn hfn => ?_
  obtain ⟨L, hL⟩ : ∃ L, L = w.heap.size + 1 := ⟨_, rfl⟩
  rw [← hL] at hseq hIp hXp hb1 hround
  let rc : LoopState → Option Code → Obj := fun st pe => .loop { state := st, pending := pe, fn, tmps := a.tmps, params := ps, assign, body, defers := w.heap.size }
  obtain ⟨W1, hW1⟩ : ∃ W1, W1 = (w.alloc (.deferred (some []))).alloc (rc .ready none) := ⟨_, rfl⟩
  have hB1 : Below w.heap.size w W1 := by rw [hW1]; exact ((Below.refl _ _).alloc (Nat.le_refl _) _).alloc (by simp) _
  have hl1 : W1.heap[L]? = some (rc .ready none) := by
    have := World.alloc_heap_new (w.alloc (.deferred (some []))) (rc .ready none)
    rw [World.size_alloc, ← hL, ← hW1] at this
    exact this
  have hd1 : W1.heap[w.heap.size]? = some (.deferred (some [])) := by
    rw [hW1]
    exact (Below.heap_alloc _ _ _ (by simp)).trans (World.alloc_heap_new w _)
  refine ⟨L, [{ target := .collected w.heap.size, args := #[] }], W1, { target := .fn (.func gf) lb, args := #[.func (.yield L) #[] #[]] }, W1, gf, #[.func (.yield L) #[] #[]] ++ lb, W1, ?_, ?_, ?_, ?_, fun _ => h1, ?_⟩
  · rw [hW1, hL]
    exact run_enterLoop_outer _ _ _ _ _
  · simp only [resolve, hg]
    simp [go_sem]
  · intro f' _
    trivial
  · simp [invoke, go_sem, eg]
  refine (hseq L (fun s A => I s A ∧ A.heap[L]? = some (rc .ready none) ∧ A.heap[w.heap.size]? = some (.deferred (some [])))
    (fun s A => ∃ c, Ix c s A ∧ A.heap[L]? = some (rc .done (some c)) ∧ A.heap[w.heap.size]? = some (.deferred (some []))) W1 hB1 ?_ ?_ ⟨hIb _ _ _ h0 hB1, hl1, hd1⟩).mono ?_
  · rintro s A B ⟨q1, q2, q3⟩ hB
    exact ⟨hIb _ _ _ q1 hB, (hB.block L (Array.getElem?_eq_some_iff.1 q2).1).trans q2, (hB.block _ (Array.getElem?_eq_some_iff.1 q3).1).trans q3⟩
  · rintro pre x A ⟨q1, q2, q3⟩ hE hlen
    have hlt : L < A.heap.size := (Array.getElem?_eq_some_iff.1 q2).1
    refine ⟨fn, _, assign, body, run_yield q2 (hps x), roundIn_of_wpIn hfn (wpIn_mono (hround pre x A q1 hE hlen hlt) ?_)⟩
    rintro e1 a1 A1 hp
    cases e1 with
    | normal =>
      obtain ⟨hB, hbody⟩ := hp
      have hlt1 : L < A1.heap.size := Nat.lt_of_lt_of_le hlt hB.size
      have r1 : A1.heap[L]? = some (rc .ready none) := (hB.block L hlt).trans q2
      have r2 : A1.heap[w.heap.size]? = some (.deferred (some [])) := (hB.block _ (by omega)).trans q3
      refine ⟨A1.putObj L (rc .busy none), run_beginRound r1 rfl, wpIn_mono (hbody (rc .busy none)) ?_⟩
      have s1 : (A1.putObj L (rc .busy none)).heap[L]? = some (rc .busy none) := World.putObj_heap_same hlt1
      have s2 : (A1.putObj L (rc .busy none)).heap[w.heap.size]? = some (.deferred (some [])) := (World.putObj_heap_other (by omega)).trans r2
      have hfin : ∀ (j : Option Code) (A3 : World), FrB (w.heap.size + 2) bl (A1.putObj L (rc .busy none)) A3 → (Instr.endRound L j).run P A3 = .ok (.bool j.isNone) (A3.putObj L (rc (if j.isNone then .ready else .done) j)) ∧ L < A3.heap.size ∧
          (A3.putObj L (rc (if j.isNone then .ready else .done) j)).heap[L]? = some (rc (if j.isNone then .ready else .done) j) ∧ (A3.putObj L (rc (if j.isNone then .ready else .done) j)).heap[w.heap.size]? = some (.deferred (some [])) := fun j A3 hF => by
        have t1 : A3.heap[L]? = some (rc .busy none) := (hF.block L (by omega) hb1).trans s1
        have t0 : L < A3.heap.size := (Array.getElem?_eq_some_iff.1 t1).1
        exact ⟨run_endRound j t1, t0, World.putObj_heap_same t0, (World.putObj_heap_other (by omega)).trans ((hF.block _ (by omega) hb0).trans s2)⟩
      rintro e3 a3 A3 hp3
      cases e3 with
      | normal =>
        obtain ⟨hF, hi⟩ := hp3
        obtain ⟨f1, f0, f2, f3⟩ := hfin none A3 hF
        refine ⟨_, _, f1, .inl ⟨rfl, ⟨hIp _ _ _ hi f0, f2, f3⟩, ?_⟩⟩
        exact (((FrB.of_below hB (by omega)).trans ((FrB.put _ A1 L (rc .busy none)).mono (by simp))).trans (hF.mono (by simp +contextual))).trans ((FrB.put _ A3 L _).mono (by simp))
      | ret =>
        obtain ⟨hF, hi⟩ := hp3
        obtain ⟨f1, f0, f2, f3⟩ := hfin (some .ret) A3 hF
        exact ⟨_, _, f1, .inr ⟨rfl, .ret, hXp _ _ _ _ hi f0, f2, f3⟩⟩
      | exit id =>
        obtain ⟨hF, hi⟩ := hp3
        obtain ⟨f1, f0, f2, f3⟩ := hfin (some (.exit id)) A3 hF
        exact ⟨_, _, f1, .inr ⟨rfl, .exit id, hXp _ _ _ _ hi f0, f2, f3⟩⟩
      | goto t =>
        obtain ⟨hF, hi⟩ := hp3
        obtain ⟨f1, f0, f2, f3⟩ := hfin (some (.goto t)) A3 hF
        exact ⟨_, _, f1, .inr ⟨rfl, .goto t, hXp _ _ _ _ hi f0, f2, f3⟩⟩
      | panic ch => exact hp3.elim
      | outgrown => exact hp3.elim
    | ret => exact hp.elim
    | exit id => exact hp.elim
    | goto t => exact hp.elim
    | panic ch => exact hp.elim
    | outgrown => exact hp.elim
  · rintro e W2 ⟨⟨v, rfl⟩, (⟨xs, hS, hi, q2, q3⟩ | ⟨pre, c, hi, q2, q3⟩)⟩
    · have hlt : L < W2.heap.size := (Array.getElem?_eq_some_iff.1 q2).1
      exact ⟨none, _, run_endLoop q2 (by simp), hdone xs _ hS (hIp _ _ _ hi hlt) ((World.putObj_heap_other (by omega)).trans q3)⟩
    · have hlt : L < W2.heap.size := (Array.getElem?_eq_some_iff.1 q2).1
      exact ⟨some c, _, run_endLoop q2 (by simp), hstop c pre _ (hXp _ _ _ _ hi hlt) ((World.putObj_heap_other (by omega)).trans q3)⟩
end Go.Proofs.Ytfgnjpdlchimpaa
namespace Go.Proofs.Ytfgnjpdlchimpaa
open Go.RowKit
set_option linter.unusedSimpArgs false
set_option linter.unusedVariables false

set_option maxRecDepth 100000 in
set_option maxHeartbeats 8000000 in
theorem outs_any (v : Value) (s : StE) (w : World) (h : SV w v s) (hf : fewS s) (hz : sizeB s.ls) :
    Calls Try.prog 32 #[v] w fun e w' => ∃ b, e = .returned (.map (some b)) ∧ MapT w' b (fun c : Int => Value.agg #[.int .i64 c]) (outL s.ls) ∧ Below w.heap.size w w' := by
  obtain ⟨f1, f2, f3, f4⟩ := hf
  have HZ := Lib.hid hz
  have HTK := Lib.hid (fun k x t h => outL_take s.ls k x t h)
  have HBD := Lib.hid (fun k t => outL_bd (s.ls.take k) t (fun x hx => hz x (List.mem_of_mem_take hx)))
  clear hz
  obtain ⟨vt, vl, vs, vd, rfl, ht, hl, hs, hd⟩ := h
  obtain ⟨ta, tn, tc, rfl, Htn, tn1, tn2⟩ := ht.sh
  obtain ⟨la, ln, lc, rfl, Hln, ln1, ln2⟩ := hl.sh
  obtain ⟨sa, sn, sc, rfl, Hsn, sn1, sn2⟩ := hs.sh
  obtain ⟨da, dn, dc, rfl, Hdn, dn1, dn2⟩ := hd.sh
  have HT0 := Lib.hid ht
  have HL0 := Lib.hid hl
  have HS0 := Lib.hid hs
  have HD0 := Lib.hid hd
  have HT := Lib.hid ht
  have HL := Lib.hid hl
  have HS := Lib.hid hs
  have HD := Lib.hid hd
  clear ht hl hs hd
  rw [← Hln.out] at f2
  obtain ⟨F, hF⟩ : ∃ F : Nat → Int → Int, F = fun k t => outL (s.ls.take k) t := ⟨_, rfl⟩
  have hF0 : ∀ t, F 0 t = 0 := fun t => by rw [hF]; rfl
  have hFn : outL s.ls = F ln := by rw [hF, Hln.out]; simp
  rw [hFn]
  have HTK2 : Hid (∀ k x t, s.ls[k]? = some x → F (k + 1) t = F k t + (if x.tenant = t then x.size - x.spent else 0)) := Lib.hid (fun k x t h => by rw [hF]; exact HTK.out k x t h)
  have HBD2 : Hid (∀ k t, 0 ≤ F k t ∧ F k t ≤ (s.ls.take k).length * 1000000) := Lib.hid (fun k t => by rw [hF]; exact HBD.out k t)
  have HF0 := Lib.hid hF0
  have zl : ∀ u, (zeroValue 3).run Try.prog u = .ok (.int .i64 0) u := fun u => by kernel_rfl
  have HKW := Lib.hid (fun (X : World) (b : Nat) (G : Int → Int) (x : Int) (h : MapT X b (fun c : Int => Value.agg #[.int .i64 c]) G) => h.look key_whose Try.underlying63 (zl X) x)
  have HKE := Lib.hid (fun (X : World) (b : Nat) (G : Int → Int) (x : Int) (h : MapT X b (fun c : Int => Value.agg #[.int .i64 c]) G) => h.entry key_whose Try.underlying63 zl x)
  clear zl
  clear hF hFn HTK HBD hF0
  have HB : Hid (Below w.heap.size w w) := Lib.hid (Below.refl _ _)
  go_enter Try.func32, Try.ntmps32
  go_upto_region 1 with fail
  obtain ⟨N, hN⟩ : ∃ n0, n0 = w.heap.size := ⟨_, rfl⟩
  have HLON : Hid (w.heap.size ≤ N) := Lib.hid (by have := HB.out.size; omega)
  obtain ⟨W1, hA0⟩ : ∃ W0, W0 = w.alloc (.cells #[.int .i64 s.term, .int .i64 s.stamp, .int .i64 s.next, .slice ta tn tc, .slice la ln lc, .slice sa sn sc, .slice da dn dc] 27) := ⟨_, rfl⟩
  have hB : Below w.heap.size w W1 := by rw [hA0]; exact (Below.refl _ _).alloc (Nat.le_refl _) _
  have hS0 : W1.heap.size = N + 1 := by rw [hA0]; simp [← hN]
  have HR := Lib.hid (show Blk W1 N #[.int .i64 s.term, .int .i64 s.stamp, .int .i64 s.next, .slice ta tn tc, .slice la ln lc, .slice sa sn sc, .slice da dn dc] 27 by rw [hA0, hN]; exact blk_new _ _ _)
  replace HB := Lib.hid (HB.out.trans (hB.mono HB.out.size))
  replace HT := Lib.hid (HT0.out.below HB.out)
  replace HL := Lib.hid (HL0.out.below HB.out)
  replace HS := Lib.hid (HS0.out.below HB.out)
  replace HD := Lib.hid (HD0.out.below HB.out)
  clear hB
  have HSN := Lib.hid hS0
  rw [← hN, ← hA0]
  clear hA0 hN hS0
  obtain ⟨b, hb⟩ : ∃ n0, n0 = W1.heap.size := ⟨_, rfl⟩
  obtain ⟨V1, hV1⟩ : ∃ W0, W0 = W1.alloc (.map #[] 0) := ⟨_, rfl⟩
  have hB : Below W1.heap.size W1 V1 := by rw [hV1]; exact (Below.refl _ _).alloc (Nat.le_refl _) _
  have HM0 := Lib.hid (show MapT V1 b (fun c : Int => Value.agg #[.int .i64 c]) (fun _ => 0) by rw [hV1, hb]; exact MapT.new _)
  have HNB : Hid (N < b) := Lib.hid (by rw [hb]; exact HR.out.lt)
  have HLB : Hid (w.heap.size ≤ b) := Lib.hid (by rw [hb]; exact HB.out.size)
  have hmm : (Instr.makeMap 63 none).run Try.prog W1 = .ok (.map (some b)) V1 := by rw [hb, hV1]; kernel_rfl
  clear hV1 hb
  go_upto_region 2 with fail
  replace HB := Lib.hid (HB.out.trans (hB.mono HB.out.size))
  replace HT := Lib.hid (HT0.out.below HB.out)
  replace HL := Lib.hid (HL0.out.below HB.out)
  replace HS := Lib.hid (HS0.out.below HB.out)
  replace HD := Lib.hid (HD0.out.below HB.out)
  replace HR := Lib.hid (HR.out.step hB)
  clear hmm hB
  have qR0 : V1.cell? ⟨N, 0, none⟩ = some (.int .i64 s.term) := cell_at HR.out 0
  have qR1 : V1.cell? ⟨N, 1, none⟩ = some (.int .i64 s.stamp) := cell_at HR.out 1
  have qR2 : V1.cell? ⟨N, 2, none⟩ = some (.int .i64 s.next) := cell_at HR.out 2
  have qR3 : V1.cell? ⟨N, 3, none⟩ = some (.slice ta tn tc) := cell_at HR.out 3
  have qR4 : V1.cell? ⟨N, 4, none⟩ = some (.slice la ln lc) := cell_at HR.out 4
  have qR5 : V1.cell? ⟨N, 5, none⟩ = some (.slice sa sn sc) := cell_at HR.out 5
  have qR6 : V1.cell? ⟨N, 6, none⟩ = some (.slice da dn dc) := cell_at HR.out 6
  have qRz : ∀ j, V1.frozen? ⟨N, j, none⟩ = false := fun j => free_at HR.out j
  have qRl : N < V1.heap.size := HR.out.lt
  go_wp2_with fail
  clear qR0 qR1 qR2 qR3 qR4 qR5 qR6 qRz qRl
  go_loopw [5, 10] (fun _ k wr => ∃ i : Nat, i ≤ ln ∧ k = .int .i64 i ∧ MapT wr b (fun c : Int => Value.agg #[.int .i64 c]) (F i) ∧ FrB V1.heap.size [b] V1 wr) (fun _ k _ => ln - (intOf k).toNat)
  case atStart => exact ⟨0, Nat.zero_le _, rfl, HM0.out.fun_eq (fun t => (HF0.out t).symm), FrB.refl _ _ _⟩
  case round =>
    obtain ⟨i, hi, rfl, hm, hfrb⟩ := hrel
    have HFRB := Lib.hid hfrb
    have HM := Lib.hid hm
    have HBW : Hid (Below wr.heap.size wr wr) := Lib.hid (Below.refl _ _)
    replace HB := Lib.hid (HB.out.trans (hfrb.below HB.out.size (by simp; exact HLB.out)))
    replace HR := Lib.hid (show Blk wr N _ _ from (hfrb.block N HR.out.lt (by have := HNB.out; simp; omega)).trans HR.out)
    clear hm hfrb
    replace HT := Lib.hid (HT0.out.below HB.out)
    replace HL := Lib.hid (HL0.out.below HB.out)
    replace HS := Lib.hid (HS0.out.below HB.out)
    replace HD := Lib.hid (HD0.out.below HB.out)
    by_cases hk : i < ln
    · skip
      have b9 : (i < ln) = True := eq_true hk
      obtain ⟨g, o, x, ea, g1, g2, q0, q1, q2, q3, q4, q5, q6⟩ := HL.out.at i hk
      subst ea
      have hx9 := HZ.out x (List.mem_of_getElem? g2)
      have HST := Lib.hid (fun t => HTK2.out i x t g2)
      have hzb := HBD2.out i x.tenant
      rw [List.length_take, ← Hln.out] at hzb
      obtain ⟨z, hz⟩ : ∃ z, z = F i x.tenant := ⟨_, rfl⟩
      have HZI := Lib.hid hz
      rw [← hz] at hzb
      have hzb0 := hzb.1
      have hzb1 : z ≤ 200000000 := by have := hzb.2; omega
      clear hz hzb
      obtain ⟨d, hd⟩ : ∃ d, d = x.size - x.spent := ⟨_, rfl⟩
      have ww1 : IntKind.i64.wrap (x.size - x.spent) = d := (IntWalk.i64_in _ (by omega)).trans hd.symm
      obtain ⟨u, hu⟩ : ∃ u, u = z + d := ⟨_, rfl⟩
      have ww2 : IntKind.i64.wrap (z + d) = u := (IntWalk.i64_in _ (by omega)).trans hu.symm
      have HD9 := Lib.hid hd
      have HU9 := Lib.hid hu
      have ww5 : IntKind.i64.wrap ((i : Int) + 1) = (i : Int) + 1 := IntWalk.i64_in _ (by omega)
      clear hd hu g2 hx9
      have hB9 := Lib.hid HM.out.lt
      have qR0 : wr.cell? ⟨N, 0, none⟩ = some (.int .i64 s.term) := cell_at HR.out 0
      have qR1 : wr.cell? ⟨N, 1, none⟩ = some (.int .i64 s.stamp) := cell_at HR.out 1
      have qR2 : wr.cell? ⟨N, 2, none⟩ = some (.int .i64 s.next) := cell_at HR.out 2
      have qR3 : wr.cell? ⟨N, 3, none⟩ = some (.slice ta tn tc) := cell_at HR.out 3
      have qR4 : wr.cell? ⟨N, 4, none⟩ = some (.slice (some ⟨g, o, none⟩) ln lc) := cell_at HR.out 4
      have qR5 : wr.cell? ⟨N, 5, none⟩ = some (.slice sa sn sc) := cell_at HR.out 5
      have qR6 : wr.cell? ⟨N, 6, none⟩ = some (.slice da dn dc) := cell_at HR.out 6
      have qRz : ∀ j, wr.frozen? ⟨N, j, none⟩ = false := fun j => free_at HR.out j
      have qRl : N < wr.heap.size := HR.out.lt
      go_upto_region 5 with fail
      clear qR0 qR1 qR2 qR3 qR4 qR5 qR6 qRz qRl
      obtain ⟨E9, hE9⟩ : ∃ n0, n0 = wr.heap.size := ⟨_, rfl⟩
      have HXE9HR : Hid (N < E9) := Lib.hid (by rw [hE9]; exact HR.out.lt)
      have HLOE9 : Hid (w.heap.size ≤ E9) := Lib.hid (by have := HB.out.size; omega)
      obtain ⟨W2, hA0⟩ : ∃ W0, W0 = wr.alloc (.cells #[.int .i64 x.id, .int .i64 x.tenant, .int .i64 x.shaper, .int .i64 x.epoch, .int .i64 x.number, .int .i64 x.size, .int .i64 x.spent] 31) := ⟨_, rfl⟩
      have hB : Below wr.heap.size wr W2 := by rw [hA0]; exact (Below.refl _ _).alloc (Nat.le_refl _) _
      have hS0 : W2.heap.size = E9 + 1 := by rw [hA0]; simp [← hE9]
      have HE := Lib.hid (show Blk W2 E9 #[.int .i64 x.id, .int .i64 x.tenant, .int .i64 x.shaper, .int .i64 x.epoch, .int .i64 x.number, .int .i64 x.size, .int .i64 x.spent] 31 by rw [hA0, hE9]; exact blk_new _ _ _)
      replace HB := Lib.hid (HB.out.trans (hB.mono HB.out.size))
      replace HT := Lib.hid (HT0.out.below HB.out)
      replace HL := Lib.hid (HL0.out.below HB.out)
      replace HS := Lib.hid (HS0.out.below HB.out)
      replace HD := Lib.hid (HD0.out.below HB.out)
      replace HR := Lib.hid (HR.out.step hB)
      replace HBW := Lib.hid (HBW.out.trans (hB.mono HBW.out.size))
      replace HM := Lib.hid (HM.out.step hB)
      clear hB
      have HSE9 := Lib.hid hS0
      rw [← hE9, ← hA0]
      clear hA0 hE9 hS0
      clear q0 q1 q2 q3 q4 q5 q6
      have HLK := Lib.hid (HKW.out _ b (F i) x.tenant (HM.out.congr (show W2.drew.heap[b]? = W2.heap[b]? from rfl)))
      rw [← HZI.out] at HLK
      refine wp_region_held_drew (S := fun X => (X.cell? ⟨E9, 0, none⟩ = some (.int .i64 x.id) ∧ X.cell? ⟨E9, 1, none⟩ = some (.int .i64 x.tenant) ∧ X.cell? ⟨E9, 2, none⟩ = some (.int .i64 x.shaper) ∧ X.cell? ⟨E9, 3, none⟩ = some (.int .i64 x.epoch) ∧ X.cell? ⟨E9, 4, none⟩ = some (.int .i64 x.number) ∧ X.cell? ⟨E9, 5, none⟩ = some (.int .i64 x.size) ∧ X.cell? ⟨E9, 6, none⟩ = some (.int .i64 x.spent) ∧ E9 < X.heap.size)) (by kernel_rfl) ⟨cell_at HE.out 0, cell_at HE.out 1, cell_at HE.out 2, cell_at HE.out 3, cell_at HE.out 4, cell_at HE.out 5, cell_at HE.out 6, HE.out.lt⟩ (fun hHeld => ?_)
      ((refine wpAnyH_take (i := 0) (v := ?_) (by (simp only [List.getElem?_toArray, List.getElem?_cons_succ, List.getElem?_cons_zero]); rfl) (by kernel_rfl) (by kernel_rfl) (by kernel_rfl) (by exact fun _ _ _ h => h) (Or.inl ⟨by rfl, ?_⟩) (by assumption) ?_); rotate_left; focus (intro wS hSw; (try dsimp only at hSw); go_simp; first | done | with_reducible rfl); try simp only [Act.put, List.setIfInBounds_toArray, List.set_cons_zero, List.set_cons_succ])
      ((refine wpAnyH_take (i := 1) (v := ?_) (by (simp only [List.getElem?_toArray, List.getElem?_cons_succ, List.getElem?_cons_zero]); rfl) (by kernel_rfl) (by kernel_rfl) (by kernel_rfl) (by exact fun _ _ _ h => h) (Or.inl ⟨by rfl, ?_⟩) (by assumption) ?_); rotate_left; focus (intro wS hSw; (try dsimp only at hSw); go_simp; first | done | with_reducible rfl); try simp only [Act.put, List.setIfInBounds_toArray, List.set_cons_zero, List.set_cons_succ])
      ((refine wpAnyH_take (i := 2) (v := ?_) (by (simp only [List.getElem?_toArray, List.getElem?_cons_succ, List.getElem?_cons_zero]); rfl) (by kernel_rfl) (by kernel_rfl) (by kernel_rfl) (by exact fun _ _ _ h => h) (Or.inl ⟨by rfl, ?_⟩) (by assumption) ?_); rotate_left; focus (intro wS hSw; (try dsimp only at hSw); go_simp; first | done | with_reducible rfl); try simp only [Act.put, List.setIfInBounds_toArray, List.set_cons_zero, List.set_cons_succ])
      ((refine wpAnyH_take (i := 3) (v := ?_) (by (simp only [List.getElem?_toArray, List.getElem?_cons_succ, List.getElem?_cons_zero]); rfl) (by kernel_rfl) (by kernel_rfl) (by kernel_rfl) (by exact fun _ _ _ h => h) (Or.inl ⟨by rfl, ?_⟩) (by assumption) ?_); rotate_left; focus (intro wS hSw; (try dsimp only at hSw); go_simp; first | done | with_reducible rfl); try simp only [Act.put, List.setIfInBounds_toArray, List.set_cons_zero, List.set_cons_succ])
      ((refine wpAnyH_take (i := 5) (v := ?_) (by (simp only [List.getElem?_toArray, List.getElem?_cons_succ, List.getElem?_cons_zero]); rfl) (by kernel_rfl) (by kernel_rfl) (by kernel_rfl) (by exact fun _ _ _ h => h) (Or.inl ⟨by rfl, ?_⟩) (by assumption) ?_); rotate_left; focus (intro wS hSw; (try dsimp only at hSw); go_simp; first | done | with_reducible rfl); try simp only [Act.put, List.setIfInBounds_toArray, List.set_cons_zero, List.set_cons_succ])
      ((refine wpAnyH_take (i := 6) (v := ?_) (by (simp only [List.getElem?_toArray, List.getElem?_cons_succ, List.getElem?_cons_zero]); rfl) (by kernel_rfl) (by kernel_rfl) (by kernel_rfl) (by exact fun _ _ _ h => h) (Or.inl ⟨by rfl, ?_⟩) (by assumption) ?_); rotate_left; focus (intro wS hSw; (try dsimp only at hSw); go_simp; first | done | with_reducible rfl); try simp only [Act.put, List.setIfInBounds_toArray, List.set_cons_zero, List.set_cons_succ])
      ((refine wpAnyH_take (i := 7) (v := ?_) (by (simp only [List.getElem?_toArray, List.getElem?_cons_succ, List.getElem?_cons_zero]); rfl) (by kernel_rfl) (by kernel_rfl) (by kernel_rfl) (by exact fun _ _ _ h => h) (Or.inl ⟨by rfl, ?_⟩) (by assumption) ?_); rotate_left; focus (intro wS hSw; (try dsimp only at hSw); go_simp; first | done | with_reducible rfl); try simp only [Act.put, List.setIfInBounds_toArray, List.set_cons_zero, List.set_cons_succ])
      ((refine wpAnyH_take (i := 8) (v := ?_) (by (simp only [List.getElem?_toArray, List.getElem?_cons_succ, List.getElem?_cons_zero]); rfl) (by kernel_rfl) (by kernel_rfl) (by kernel_rfl) (by exact fun _ _ _ h => h) (Or.inl ⟨by rfl, ?_⟩) (by assumption) ?_); rotate_left; focus (intro wS hSw; (try dsimp only at hSw); go_simp; first | done | with_reducible rfl); try simp only [Act.put, List.setIfInBounds_toArray, List.set_cons_zero, List.set_cons_succ])
      ((refine wpAnyH_take (i := 9) (v := ?_) (by (simp only [List.getElem?_toArray, List.getElem?_cons_succ, List.getElem?_cons_zero]); rfl) (by kernel_rfl) (by kernel_rfl) (by kernel_rfl) (by exact fun _ _ _ h => h) (Or.inl ⟨by rfl, ?_⟩) (by assumption) ?_); rotate_left; focus (intro wS hSw; (try dsimp only at hSw); go_simp; first | done | with_reducible rfl); try simp only [Act.put, List.setIfInBounds_toArray, List.set_cons_zero, List.set_cons_succ])
      obtain ⟨W8, st, hrun, hme, hfr, hsz⟩ := HKE.out W2.drew b (F i) x.tenant (HM.out.congr (w' := W2.drew) rfl)
      rw [← HZI.out] at hrun
      try simp only at hrun
      replace hfr : Fr [b] W2 W8 := ⟨hfr.os, hfr.tape, hfr.output, hfr.size, hfr.block⟩
      have hEb : E9 ≠ b := by
        intro e
        obtain ⟨L, c, h1, _⟩ := HM.out
        rw [← e] at h1
        exact absurd (HE.out.symm.trans h1) (by simp)
      have HEN := Lib.hid (show Blk W8 E9 #[.int .i64 x.id, .int .i64 x.tenant, .int .i64 x.shaper, .int .i64 x.epoch, .int .i64 x.number, .int .i64 x.size, .int .i64 x.spent] 31 from (hfr.block E9 HE.out.lt (by simp; exact hEb)).trans HE.out)
      refine wpAnyH_ready (rs := [4, 11]) (by kernel_rfl) (by simp) ?_
      refine AllReadyH.cons (by (simp only [List.getElem?_toArray, List.getElem?_cons_succ, List.getElem?_cons_zero]); rfl) (fun K hK => ?_) (AllReadyH.cons (by (simp only [List.getElem?_toArray, List.getElem?_cons_succ, List.getElem?_cons_zero]); rfl) (fun K hK => ?_) AllReadyH.nil)
      all_goals rw [if_pos (by rfl)]
      · skip
        have hlk := HLK.out
        go_simp
        refine hK.out _ _ ⟨cell_at HE.out 0, cell_at HE.out 1, cell_at HE.out 2, cell_at HE.out 3, cell_at HE.out 4, cell_at HE.out 5, cell_at HE.out 6, HE.out.lt⟩ (fun hHeld => ?_)
        clear hK K hlk
        try simp only [Act.put, List.setIfInBounds_toArray, List.set_cons_zero, List.set_cons_succ]
        ((refine wpAnyH_take (i := 10) (v := ?_) (by (simp only [List.getElem?_toArray, List.getElem?_cons_succ, List.getElem?_cons_zero]); rfl) (by kernel_rfl) (by kernel_rfl) (by kernel_rfl) (by exact fun _ _ _ h => h) (Or.inl ⟨by rfl, ?_⟩) (by assumption) ?_); rotate_left; focus (intro wS hSw; (try dsimp only at hSw); go_simp; first | done | with_reducible rfl); try simp only [Act.put, List.setIfInBounds_toArray, List.set_cons_zero, List.set_cons_succ])
        refine wpAnyH_ready (rs := [11]) (by kernel_rfl) (by simp) ?_
        refine AllReadyH.cons (by (simp only [List.getElem?_toArray, List.getElem?_cons_succ, List.getElem?_cons_zero]); rfl) (fun K hK => ?_) AllReadyH.nil
        rw [if_pos (by rfl)]
        go_simp
        replace HE := HEN
        refine hK.out _ _ ⟨cell_at HE.out 0, cell_at HE.out 1, cell_at HE.out 2, cell_at HE.out 3, cell_at HE.out 4, cell_at HE.out 5, cell_at HE.out 6, HE.out.lt⟩ (fun hHeld => ?_)
        clear hK K hrun
        try simp only [Act.put, List.setIfInBounds_toArray, List.set_cons_zero, List.set_cons_succ]
        ((refine wpAnyH_take (i := 12) (v := ?_) (by (simp only [List.getElem?_toArray, List.getElem?_cons_succ, List.getElem?_cons_zero]); rfl) (by kernel_rfl) (by kernel_rfl) (by kernel_rfl) (by exact fun _ _ _ h => h) (Or.inl ⟨by rfl, ?_⟩) (by assumption) ?_); rotate_left; focus (intro wS hSw; (try dsimp only at hSw); go_simp; first | done | with_reducible rfl); try simp only [Act.put, List.setIfInBounds_toArray, List.set_cons_zero, List.set_cons_succ])
        refine wpAnyH_ready (rs := [13]) (by kernel_rfl) (by simp) ?_
        refine AllReadyH.cons (by (simp only [List.getElem?_toArray, List.getElem?_cons_succ, List.getElem?_cons_zero]); rfl) (fun K hK => ?_) AllReadyH.nil
        rw [if_pos (by rfl)]
        obtain ⟨W9, hrun, hmt, hfr2, hsz2⟩ := hme.store (P := Try.prog) 63 u
        change (Instr.entryStore 63 (.map (some b)) (.int .i64 ((st : Nat) : Int)) (.int .i64 u)).run Try.prog W8 = .ok () W9 at hrun
        go_simp
        replace HE := Lib.hid (show Blk W9 E9 #[.int .i64 x.id, .int .i64 x.tenant, .int .i64 x.shaper, .int .i64 x.epoch, .int .i64 x.number, .int .i64 x.size, .int .i64 x.spent] 31 from (hfr2.block E9 HE.out.lt (by simp; exact hEb)).trans HE.out)
        refine hK.out _ _ ⟨cell_at HE.out 0, cell_at HE.out 1, cell_at HE.out 2, cell_at HE.out 3, cell_at HE.out 4, cell_at HE.out 5, cell_at HE.out 6, HE.out.lt⟩ (fun hHeld => ?_)
        clear hK K hrun
        refine wpAnyH_done (by kernel_rfl) ?_ _
        try simp only [Act.put, List.setIfInBounds_toArray, List.set_cons_zero, List.set_cons_succ]
        go_wp2_with fail
        have hfin : MapT W9 b (fun c : Int => Value.agg #[.int .i64 c]) (F (i + 1)) := hmt.fun_eq (fun t => by
          have h1 := HST.out t
          by_cases ht : t = x.tenant
          · simp only [if_pos ht]
            rw [if_pos ht.symm, ht, ← HZI.out] at h1
            rw [ht, h1, ← HD9.out, ← HU9.out]
          · simp only [if_neg ht]
            rw [if_neg (fun e => ht e.symm)] at h1
            omega)
        have hfrf : FrB V1.heap.size [b] V1 W9 := HFRB.out.trans ((FrB.of_below HBW.out HFRB.out.size).trans ((FrB.of_fr hfr (Nat.le_trans HFRB.out.size HBW.out.size)).trans (FrB.of_fr hfr2 (by have := hfr.size; have := HFRB.out.size; have := HBW.out.size; omega))))
        have HFIN := Lib.hid hfin
        have HFRF := Lib.hid hfrf
        clear hfin hfrf hmt hme hfr hfr2 hsz hsz2
        go_wp2_with fail
        go_roundw
        case rel => exact ⟨i + 1, by omega, by go_num, HFIN.out, HFRF.out⟩
        case measure => first | (simp [intOf]; done) | (simp [intOf]; omega)
      · skip
        go_simp
        replace HE := HEN
        refine hK.out _ _ ⟨cell_at HE.out 0, cell_at HE.out 1, cell_at HE.out 2, cell_at HE.out 3, cell_at HE.out 4, cell_at HE.out 5, cell_at HE.out 6, HE.out.lt⟩ (fun hHeld => ?_)
        clear hK K hrun
        try simp only [Act.put, List.setIfInBounds_toArray, List.set_cons_zero, List.set_cons_succ]
        ((refine wpAnyH_take (i := 12) (v := ?_) (by (simp only [List.getElem?_toArray, List.getElem?_cons_succ, List.getElem?_cons_zero]); rfl) (by kernel_rfl) (by kernel_rfl) (by kernel_rfl) (by exact fun _ _ _ h => h) (Or.inl ⟨by rfl, ?_⟩) (by assumption) ?_); rotate_left; focus (intro wS hSw; (try dsimp only at hSw); go_simp; first | done | with_reducible rfl); try simp only [Act.put, List.setIfInBounds_toArray, List.set_cons_zero, List.set_cons_succ])
        refine wpAnyH_ready (rs := [4]) (by kernel_rfl) (by simp) ?_
        refine AllReadyH.cons (by (simp only [List.getElem?_toArray, List.getElem?_cons_succ, List.getElem?_cons_zero]); rfl) (fun K hK => ?_) AllReadyH.nil
        rw [if_pos (by rfl)]
        have hl0 := HKW.out W8 b (F i) x.tenant hme.t
        rw [← HZI.out] at hl0
        have hlk := hl0
        go_simp
        refine hK.out _ _ ⟨cell_at HE.out 0, cell_at HE.out 1, cell_at HE.out 2, cell_at HE.out 3, cell_at HE.out 4, cell_at HE.out 5, cell_at HE.out 6, HE.out.lt⟩ (fun hHeld => ?_)
        clear hK K hlk
        try simp only [Act.put, List.setIfInBounds_toArray, List.set_cons_zero, List.set_cons_succ]
        clear hl0
        ((refine wpAnyH_take (i := 10) (v := ?_) (by (simp only [List.getElem?_toArray, List.getElem?_cons_succ, List.getElem?_cons_zero]); rfl) (by kernel_rfl) (by kernel_rfl) (by kernel_rfl) (by exact fun _ _ _ h => h) (Or.inl ⟨by rfl, ?_⟩) (by assumption) ?_); rotate_left; focus (intro wS hSw; (try dsimp only at hSw); go_simp; first | done | with_reducible rfl); try simp only [Act.put, List.setIfInBounds_toArray, List.set_cons_zero, List.set_cons_succ])
        refine wpAnyH_ready (rs := [13]) (by kernel_rfl) (by simp) ?_
        refine AllReadyH.cons (by (simp only [List.getElem?_toArray, List.getElem?_cons_succ, List.getElem?_cons_zero]); rfl) (fun K hK => ?_) AllReadyH.nil
        rw [if_pos (by rfl)]
        obtain ⟨W9, hrun, hmt, hfr2, hsz2⟩ := hme.store (P := Try.prog) 63 u
        change (Instr.entryStore 63 (.map (some b)) (.int .i64 ((st : Nat) : Int)) (.int .i64 u)).run Try.prog W8 = .ok () W9 at hrun
        go_simp
        replace HE := Lib.hid (show Blk W9 E9 #[.int .i64 x.id, .int .i64 x.tenant, .int .i64 x.shaper, .int .i64 x.epoch, .int .i64 x.number, .int .i64 x.size, .int .i64 x.spent] 31 from (hfr2.block E9 HE.out.lt (by simp; exact hEb)).trans HE.out)
        refine hK.out _ _ ⟨cell_at HE.out 0, cell_at HE.out 1, cell_at HE.out 2, cell_at HE.out 3, cell_at HE.out 4, cell_at HE.out 5, cell_at HE.out 6, HE.out.lt⟩ (fun hHeld => ?_)
        clear hK K hrun
        refine wpAnyH_done (by kernel_rfl) ?_ _
        try simp only [Act.put, List.setIfInBounds_toArray, List.set_cons_zero, List.set_cons_succ]
        go_wp2_with fail
        have hfin : MapT W9 b (fun c : Int => Value.agg #[.int .i64 c]) (F (i + 1)) := hmt.fun_eq (fun t => by
          have h1 := HST.out t
          by_cases ht : t = x.tenant
          · simp only [if_pos ht]
            rw [if_pos ht.symm, ht, ← HZI.out] at h1
            rw [ht, h1, ← HD9.out, ← HU9.out]
          · simp only [if_neg ht]
            rw [if_neg (fun e => ht e.symm)] at h1
            omega)
        have hfrf : FrB V1.heap.size [b] V1 W9 := HFRB.out.trans ((FrB.of_below HBW.out HFRB.out.size).trans ((FrB.of_fr hfr (Nat.le_trans HFRB.out.size HBW.out.size)).trans (FrB.of_fr hfr2 (by have := hfr.size; have := HFRB.out.size; have := HBW.out.size; omega))))
        have HFIN := Lib.hid hfin
        have HFRF := Lib.hid hfrf
        clear hfin hfrf hmt hme hfr hfr2 hsz hsz2
        go_wp2_with fail
        go_roundw
        case rel => exact ⟨i + 1, by omega, by go_num, HFIN.out, HFRF.out⟩
        case measure => first | (simp [intOf]; done) | (simp [intOf]; omega)
    · skip
      have b9 : (i < ln) = False := eq_false hk
      obtain rfl : ln = i := by omega
      have qR0 : wr.cell? ⟨N, 0, none⟩ = some (.int .i64 s.term) := cell_at HR.out 0
      have qR1 : wr.cell? ⟨N, 1, none⟩ = some (.int .i64 s.stamp) := cell_at HR.out 1
      have qR2 : wr.cell? ⟨N, 2, none⟩ = some (.int .i64 s.next) := cell_at HR.out 2
      have qR3 : wr.cell? ⟨N, 3, none⟩ = some (.slice ta tn tc) := cell_at HR.out 3
      have qR4 : wr.cell? ⟨N, 4, none⟩ = some (.slice la ln lc) := cell_at HR.out 4
      have qR5 : wr.cell? ⟨N, 5, none⟩ = some (.slice sa sn sc) := cell_at HR.out 5
      have qR6 : wr.cell? ⟨N, 6, none⟩ = some (.slice da dn dc) := cell_at HR.out 6
      have qRz : ∀ j, wr.frozen? ⟨N, j, none⟩ = false := fun j => free_at HR.out j
      have qRl : N < wr.heap.size := HR.out.lt
      go_wp2_with fail
      go_ret
      exact ⟨b, rfl, HM.out, HB.out⟩
end Go.Proofs.Ytfgnjpdlchimpaa
namespace Go.Proofs.Ytfgnjpdlchimpaa
open Go.RowKit
set_option linter.unusedSimpArgs false
set_option linter.unusedVariables false

set_option maxRecDepth 100000 in
set_option maxHeartbeats 4000000 in
theorem pFind_any (v : Value) (L : List TnE) (key : Int) (w : World) (h : TV w v L) : Calls Try.prog 44 #[v, .int .i64 key] w fun e w' => e = .returned (.tuple #[((fndC key L).getD z0).agg, .bool (fndC key L).isSome]) ∧ Below w.heap.size w w' := by
  obtain ⟨N, hN⟩ : ∃ N, N = w.heap.size := ⟨_, rfl⟩
  obtain ⟨W1, hW1⟩ : ∃ W1, W1 = w.alloc (.cells #[.int .i64 0, .int .i64 0, .int .i64 0, .int .i64 0, .bool false] 54) := ⟨_, rfl⟩
  have hB1 : Below w.heap.size w W1 := by rw [hW1]; exact (Below.refl _ _).alloc (Nat.le_refl _) _
  have HK1 : Hid (Blk W1 N #[.int .i64 0, .int .i64 0, .int .i64 0, .int .i64 0, .bool false] 54) := Lib.hid (by rw [hW1, hN]; exact blk_new _ _ _)
  have HV1 := Lib.hid (h.below hB1)
  have HB1 := Lib.hid hB1
  have HNB : Hid (w.heap.size ≤ N) := Lib.hid (by rw [hN]; exact Nat.le_refl _)
  clear hB1 h
  have HCK := Lib.hid (pcheck_any v L W1 HV1.out)
  obtain ⟨R, hR⟩ : ∃ R : Value, R = .tuple #[((fndC key L).getD z0).agg, .bool (fndC key L).isSome] := ⟨_, rfl⟩
  rw [← hR]
  have HR := Lib.hid hR
  obtain ⟨C, hC⟩ : ∃ C, C = chk L := ⟨_, rfl⟩
  rw [← hC] at HCK
  have HC := Lib.hid hC
  clear hR hC
  go_enter Try.func44, Try.ntmps44
  go_upto_region 1 with fail
  rw [← hN, ← hW1]
  clear hN hW1
  cases C
  · have hRx : R = .tuple #[.agg #[.int .i64 0, .int .i64 0, .int .i64 0, .int .i64 0, .bool false], .bool false] := by rw [HR.out]; unfold fndC; rw [← HC.out]; rfl
    subst hRx
    go_wp2_with fail
    go_at_call 33
    refine Calls.mono HCK.out ?_
    rintro e W2 ⟨rfl, hB⟩
    have HK2 := Lib.hid (HK1.out.step hB)
    have HB2 := Lib.hid (HB1.out.trans (hB.mono HB1.out.size))
    clear hB
    have q0 : W2.cell? ⟨N, 0, none⟩ = some (.int .i64 0) := cell_at HK2.out 0
    have q1 : W2.cell? ⟨N, 1, none⟩ = some (.int .i64 0) := cell_at HK2.out 1
    have q2 : W2.cell? ⟨N, 2, none⟩ = some (.int .i64 0) := cell_at HK2.out 2
    have q3 : W2.cell? ⟨N, 3, none⟩ = some (.int .i64 0) := cell_at HK2.out 3
    have q4 : W2.cell? ⟨N, 4, none⟩ = some (.bool false) := cell_at HK2.out 4
    have zq : ∀ j, W2.frozen? ⟨N, j, none⟩ = false := fun j => free_at HK2.out j
    have lq : N < W2.heap.size := HK2.out.lt
    go_wp2_with fail
    clear q0 q1 q2 q3 q4
    obtain ⟨LS, hLS⟩ : ∃ L : List Value, L = [.int .i64 0, .int .i64 0, .int .i64 0, .int .i64 0, .bool false] := ⟨_, rfl⟩
    obtain ⟨WS, hWS⟩ : ∃ WS, WS = W2.setCells (N) 0 LS := ⟨_, rfl⟩
    have hchS := hWS
    rw [hLS] at hchS
    simp only [World.setCells, Nat.zero_add, Nat.reduceAdd] at hchS
    rw [← hchS]
    clear hchS
    have hkS := stC_blk HK2.out LS (by rw [hLS]; rfl)
    have hfrS := stC_fr (N) LS 0 W2
    rw [← hWS] at hkS hfrS
    rw [hLS] at hkS
    have r0 : WS.cell? ⟨N, 0, none⟩ = some (.int .i64 0) := cell_at hkS 0
    have r1 : WS.cell? ⟨N, 1, none⟩ = some (.int .i64 0) := cell_at hkS 1
    have r2 : WS.cell? ⟨N, 2, none⟩ = some (.int .i64 0) := cell_at hkS 2
    have r3 : WS.cell? ⟨N, 3, none⟩ = some (.int .i64 0) := cell_at hkS 3
    have r4 : WS.cell? ⟨N, 4, none⟩ = some (.bool false) := cell_at hkS 4
    clear hWS hLS
    have hBS := HB2.out.trans (hfrS.below HB2.out.size (by have := HNB.out; simp; omega))
    exact bodyPost_ret (v := .tuple #[.agg #[.int .i64 0, .int .i64 0, .int .i64 0, .int .i64 0, .bool false], .bool false]) (by simp [results, Try.results44, go_sem, r0, r1, r2, r3, r4]) rfl ⟨rfl, hBS⟩
  · have hRx : R = .tuple #[((fnd key L).getD z0).agg, .bool (fnd key L).isSome] := by rw [HR.out]; unfold fndC; rw [← HC.out]; rfl
    go_wp2_with fail
    go_at_call 33
    refine Calls.mono HCK.out ?_
    rintro e W2 ⟨rfl, hB⟩
    have HK2 := Lib.hid (HK1.out.step hB)
    have HB2 := Lib.hid (HB1.out.trans (hB.mono HB1.out.size))
    have hFD := pfind_ok v L key W2 (HV1.out.below hB) HC.out.symm
    clear hB
    obtain ⟨y, hy⟩ : ∃ y, y = (fnd key L).getD z0 := ⟨_, rfl⟩
    obtain ⟨b9, hb9⟩ : ∃ b9, b9 = (fnd key L).isSome := ⟨_, rfl⟩
    rw [← hy, ← hb9] at hFD hRx
    have HFD := Lib.hid hFD
    unfold TnE.agg at HFD hRx
    subst hRx
    clear hFD hy hb9
    go_wp2_with fail
    go_at_call 79
    refine Calls.mono HFD.out ?_
    rintro e W3 ⟨rfl, hB⟩
    have HK3 := Lib.hid (HK2.out.step hB)
    have HB3 := Lib.hid (HB2.out.trans (hB.mono HB2.out.size))
    clear hB
    have q0 : W3.cell? ⟨N, 0, none⟩ = some (.int .i64 0) := cell_at HK3.out 0
    have q1 : W3.cell? ⟨N, 1, none⟩ = some (.int .i64 0) := cell_at HK3.out 1
    have q2 : W3.cell? ⟨N, 2, none⟩ = some (.int .i64 0) := cell_at HK3.out 2
    have q3 : W3.cell? ⟨N, 3, none⟩ = some (.int .i64 0) := cell_at HK3.out 3
    have q4 : W3.cell? ⟨N, 4, none⟩ = some (.bool false) := cell_at HK3.out 4
    have zq : ∀ j, W3.frozen? ⟨N, j, none⟩ = false := fun j => free_at HK3.out j
    have lq : N < W3.heap.size := HK3.out.lt
    go_wp2_with fail
    clear q0 q1 q2 q3 q4
    obtain ⟨LS, hLS⟩ : ∃ L : List Value, L = [.int .i64 y.id, .int .i64 y.rate, .int .i64 y.burst, .int .i64 y.bkt, .bool y.gone] := ⟨_, rfl⟩
    obtain ⟨WS, hWS⟩ : ∃ WS, WS = W3.setCells (N) 0 LS := ⟨_, rfl⟩
    have hchS := hWS
    rw [hLS] at hchS
    simp only [World.setCells, Nat.zero_add, Nat.reduceAdd] at hchS
    rw [← hchS]
    clear hchS
    have hkS := stC_blk HK3.out LS (by rw [hLS]; rfl)
    have hfrS := stC_fr (N) LS 0 W3
    rw [← hWS] at hkS hfrS
    rw [hLS] at hkS
    have r0 : WS.cell? ⟨N, 0, none⟩ = some (.int .i64 y.id) := cell_at hkS 0
    have r1 : WS.cell? ⟨N, 1, none⟩ = some (.int .i64 y.rate) := cell_at hkS 1
    have r2 : WS.cell? ⟨N, 2, none⟩ = some (.int .i64 y.burst) := cell_at hkS 2
    have r3 : WS.cell? ⟨N, 3, none⟩ = some (.int .i64 y.bkt) := cell_at hkS 3
    have r4 : WS.cell? ⟨N, 4, none⟩ = some (.bool y.gone) := cell_at hkS 4
    clear hWS hLS
    have hBS := HB3.out.trans (hfrS.below HB3.out.size (by have := HNB.out; simp; omega))
    exact bodyPost_ret (v := .tuple #[.agg #[.int .i64 y.id, .int .i64 y.rate, .int .i64 y.burst, .int .i64 y.bkt, .bool y.gone], .bool b9]) (by simp [results, Try.results44, go_sem, r0, r1, r2, r3, r4]) rfl ⟨rfl, hBS⟩
end Go.Proofs.Ytfgnjpdlchimpaa
namespace Go.Proofs.Ytfgnjpdlchimpaa
open Go.RowKit
set_option linter.unusedSimpArgs false
set_option linter.unusedVariables false

set_option maxRecDepth 100000 in
set_option maxHeartbeats 2000000 in
theorem isShaper_any (n : Int) (w : World) : Calls Try.prog 46 #[.int .i64 n] w fun e w' => e = .returned (.bool (decide (1 ≤ n) && decide (n ≤ 8))) ∧ Below w.heap.size w w' := by
  go_enter Try.func46, Try.ntmps46
  by_cases h1 : 1 ≤ n
  all_goals
    by_cases h2 : n ≤ 8
    all_goals
      go_wp2_with fail
      go_ret
      exact ⟨ret_bool (by simp [h1, h2]), Below.refl _ _⟩
set_option maxRecDepth 100000 in
set_option maxHeartbeats 2000000 in
theorem isSize_any (n : Int) (w : World) : Calls Try.prog 47 #[.int .i64 n] w fun e w' => e = .returned (.bool (decide (1 ≤ n) && decide (n ≤ 1000000))) ∧ Below w.heap.size w w' := by
  go_enter Try.func47, Try.ntmps47
  by_cases h1 : 1 ≤ n
  all_goals
    by_cases h2 : n ≤ 1000000
    all_goals
      go_wp2_with fail
      go_ret
      exact ⟨ret_bool (by simp [h1, h2]), Below.refl _ _⟩
set_option maxRecDepth 100000 in
set_option maxHeartbeats 8000000 in
theorem may_lease (v : Value) (s : StE) (x : LeE) (w : World) (h : SV w v s) (hf : fewS s) :
    Calls Try.prog 34 #[v, .agg #[.int .i64 x.id, .int .i64 x.tenant, .int .i64 x.shaper, .int .i64 x.epoch, .int .i64 x.number, .int .i64 x.size, .int .i64 x.spent]] w fun e w' => e = .returned (.bool (leMay s.ts x)) ∧ Below w.heap.size w w' := by
  obtain ⟨vt, vl, vs, vd, rfl, ht, hl, hs, hd⟩ := h
  obtain ⟨ta, tn, tc, rfl, Htn, tn1, tn2⟩ := ht.sh
  obtain ⟨la, ln, lc, rfl, Hln, ln1, ln2⟩ := hl.sh
  obtain ⟨sa, sn, sc, rfl, Hsn, sn1, sn2⟩ := hs.sh
  obtain ⟨da, dn, dc, rfl, Hdn, dn1, dn2⟩ := hd.sh
  have HT0 := Lib.hid ht
  have HL0 := Lib.hid hl
  have HS0 := Lib.hid hs
  have HD0 := Lib.hid hd
  have HT := Lib.hid ht
  have HL := Lib.hid hl
  have HS := Lib.hid hs
  have HD := Lib.hid hd
  clear ht hl hs hd
  have HFD := Lib.hid (fun W key (h : TV W (.slice ta tn tc) s.ts) => pFind_any _ s.ts key W h)
  obtain ⟨R, hR⟩ : ∃ R, R = leMay s.ts x := ⟨_, rfl⟩
  rw [← hR]
  unfold leMay at hR
  obtain ⟨sm, hsm⟩ : ∃ sm, sm = (fndC x.tenant s.ts).isSome := ⟨_, rfl⟩
  obtain ⟨y, hy⟩ : ∃ y, y = (fndC x.tenant s.ts).getD z0 := ⟨_, rfl⟩
  have HFX0 := Lib.hid (fun W h => HFD.out W x.tenant h)
  rw [← hsm, ← hy] at HFX0
  rw [← hsm] at hR
  obtain ⟨sh, hsh⟩ : ∃ sh, sh = (decide (1 ≤ x.shaper) && decide (x.shaper ≤ 8)) := ⟨_, rfl⟩
  obtain ⟨sz, hsz⟩ : ∃ sz, sz = (decide (1 ≤ x.size) && decide (x.size ≤ 1000000)) := ⟨_, rfl⟩
  have HSH := Lib.hid (fun W => isShaper_any x.shaper W)
  have HSZ := Lib.hid (fun W => isSize_any x.size W)
  rw [← hsh] at HSH
  rw [← hsz] at HSZ
  rw [← hsh, ← hsz] at hR
  have HR9 := Lib.hid hR
  clear hsm hy hR hsh hsz
  unfold TnE.agg at HFX0
  have HB : Hid (Below w.heap.size w w) := Lib.hid (Below.refl _ _)
  go_enter Try.func34, Try.ntmps34
  go_upto_region 1 with fail
  obtain ⟨N, hN⟩ : ∃ n0, n0 = w.heap.size := ⟨_, rfl⟩
  have HLON : Hid (w.heap.size ≤ N) := Lib.hid (by have := HB.out.size; omega)
  obtain ⟨W1, hA0⟩ : ∃ W0, W0 = w.alloc (.cells #[.int .i64 s.term, .int .i64 s.stamp, .int .i64 s.next, .slice ta tn tc, .slice la ln lc, .slice sa sn sc, .slice da dn dc] 27) := ⟨_, rfl⟩
  have hB : Below w.heap.size w W1 := by rw [hA0]; exact (Below.refl _ _).alloc (Nat.le_refl _) _
  have hS0 : W1.heap.size = N + 1 := by rw [hA0]; simp [← hN]
  have HR := Lib.hid (show Blk W1 N #[.int .i64 s.term, .int .i64 s.stamp, .int .i64 s.next, .slice ta tn tc, .slice la ln lc, .slice sa sn sc, .slice da dn dc] 27 by rw [hA0, hN]; exact blk_new _ _ _)
  replace HB := Lib.hid (HB.out.trans (hB.mono HB.out.size))
  replace HT := Lib.hid (HT0.out.below HB.out)
  replace HL := Lib.hid (HL0.out.below HB.out)
  replace HS := Lib.hid (HS0.out.below HB.out)
  replace HD := Lib.hid (HD0.out.below HB.out)
  clear hB
  obtain ⟨W2, hA1⟩ : ∃ W0, W0 = W1.alloc (.cells #[.int .i64 x.id, .int .i64 x.tenant, .int .i64 x.shaper, .int .i64 x.epoch, .int .i64 x.number, .int .i64 x.size, .int .i64 x.spent] 31) := ⟨_, rfl⟩
  have hB : Below W1.heap.size W1 W2 := by rw [hA1]; exact (Below.refl _ _).alloc (Nat.le_refl _) _
  have hS1 : W2.heap.size = N + 2 := by rw [hA1]; simp [hS0]
  have HE := Lib.hid (show Blk W2 (N + 1) #[.int .i64 x.id, .int .i64 x.tenant, .int .i64 x.shaper, .int .i64 x.epoch, .int .i64 x.number, .int .i64 x.size, .int .i64 x.spent] 31 by rw [hA1, ← hS0]; exact blk_new _ _ _)
  replace HB := Lib.hid (HB.out.trans (hB.mono HB.out.size))
  replace HT := Lib.hid (HT0.out.below HB.out)
  replace HL := Lib.hid (HL0.out.below HB.out)
  replace HS := Lib.hid (HS0.out.below HB.out)
  replace HD := Lib.hid (HD0.out.below HB.out)
  replace HR := Lib.hid (HR.out.step hB)
  clear hB
  have HSN := Lib.hid hS1
  rw [← hN, ← hA0, ← hA1]
  clear hA1 hA0 hN hS0 hS1
  have qR0 : W2.cell? ⟨N, 0, none⟩ = some (.int .i64 s.term) := cell_at HR.out 0
  have qR1 : W2.cell? ⟨N, 1, none⟩ = some (.int .i64 s.stamp) := cell_at HR.out 1
  have qR2 : W2.cell? ⟨N, 2, none⟩ = some (.int .i64 s.next) := cell_at HR.out 2
  have qR3 : W2.cell? ⟨N, 3, none⟩ = some (.slice ta tn tc) := cell_at HR.out 3
  have qR4 : W2.cell? ⟨N, 4, none⟩ = some (.slice la ln lc) := cell_at HR.out 4
  have qR5 : W2.cell? ⟨N, 5, none⟩ = some (.slice sa sn sc) := cell_at HR.out 5
  have qR6 : W2.cell? ⟨N, 6, none⟩ = some (.slice da dn dc) := cell_at HR.out 6
  have qRz : ∀ j, W2.frozen? ⟨N, j, none⟩ = false := fun j => free_at HR.out j
  have qRl : N < W2.heap.size := HR.out.lt
  have qE0 : W2.cell? ⟨(N + 1), 0, none⟩ = some (.int .i64 x.id) := cell_at HE.out 0
  have qE1 : W2.cell? ⟨(N + 1), 1, none⟩ = some (.int .i64 x.tenant) := cell_at HE.out 1
  have qE2 : W2.cell? ⟨(N + 1), 2, none⟩ = some (.int .i64 x.shaper) := cell_at HE.out 2
  have qE3 : W2.cell? ⟨(N + 1), 3, none⟩ = some (.int .i64 x.epoch) := cell_at HE.out 3
  have qE4 : W2.cell? ⟨(N + 1), 4, none⟩ = some (.int .i64 x.number) := cell_at HE.out 4
  have qE5 : W2.cell? ⟨(N + 1), 5, none⟩ = some (.int .i64 x.size) := cell_at HE.out 5
  have qE6 : W2.cell? ⟨(N + 1), 6, none⟩ = some (.int .i64 x.spent) := cell_at HE.out 6
  have qEz : ∀ j, W2.frozen? ⟨(N + 1), j, none⟩ = false := fun j => free_at HE.out j
  have qEl : (N + 1) < W2.heap.size := HE.out.lt
  go_wp2_with fail
  go_at_call 44
  go_fit (HFX0.out _ HT.out)
  rintro e W3 ⟨rfl, hB⟩
  clear qR0 qR1 qR2 qR3 qR4 qR5 qR6 qRz qRl qE0 qE1 qE2 qE3 qE4 qE5 qE6 qEz qEl
  replace HB := Lib.hid (HB.out.trans (hB.mono HB.out.size))
  replace HT := Lib.hid (HT0.out.below HB.out)
  replace HL := Lib.hid (HL0.out.below HB.out)
  replace HS := Lib.hid (HS0.out.below HB.out)
  replace HD := Lib.hid (HD0.out.below HB.out)
  replace HR := Lib.hid (HR.out.step hB)
  replace HE := Lib.hid (HE.out.step hB)
  clear hB
  go_upto_region 2 with fail
  obtain ⟨F9, hF9⟩ : ∃ n0, n0 = W3.heap.size := ⟨_, rfl⟩
  have HXF9HR : Hid (N < F9) := Lib.hid (by rw [hF9]; exact HR.out.lt)
  have HXF9HE : Hid ((N + 1) < F9) := Lib.hid (by rw [hF9]; exact HE.out.lt)
  have HLOF9 : Hid (w.heap.size ≤ F9) := Lib.hid (by have := HB.out.size; omega)
  obtain ⟨W4, hA0⟩ : ∃ W0, W0 = W3.alloc (.cells #[.int .i64 y.id, .int .i64 y.rate, .int .i64 y.burst, .int .i64 y.bkt, .bool y.gone] 54) := ⟨_, rfl⟩
  have hB : Below W3.heap.size W3 W4 := by rw [hA0]; exact (Below.refl _ _).alloc (Nat.le_refl _) _
  have hS0 : W4.heap.size = F9 + 1 := by rw [hA0]; simp [← hF9]
  have HF9 := Lib.hid (show Blk W4 F9 #[.int .i64 y.id, .int .i64 y.rate, .int .i64 y.burst, .int .i64 y.bkt, .bool y.gone] 54 by rw [hA0, hF9]; exact blk_new _ _ _)
  replace HB := Lib.hid (HB.out.trans (hB.mono HB.out.size))
  replace HT := Lib.hid (HT0.out.below HB.out)
  replace HL := Lib.hid (HL0.out.below HB.out)
  replace HS := Lib.hid (HS0.out.below HB.out)
  replace HD := Lib.hid (HD0.out.below HB.out)
  replace HR := Lib.hid (HR.out.step hB)
  replace HE := Lib.hid (HE.out.step hB)
  clear hB
  have HSF9 := Lib.hid hS0
  rw [← hF9, ← hA0]
  clear hA0 hF9 hS0
  cases sm
  · skip
    have hR : R = false := by rw [HR9.out]; simp [*]
    subst hR
    have qE0 : W4.cell? ⟨(N + 1), 0, none⟩ = some (.int .i64 x.id) := cell_at HE.out 0
    have qE1 : W4.cell? ⟨(N + 1), 1, none⟩ = some (.int .i64 x.tenant) := cell_at HE.out 1
    have qE2 : W4.cell? ⟨(N + 1), 2, none⟩ = some (.int .i64 x.shaper) := cell_at HE.out 2
    have qE3 : W4.cell? ⟨(N + 1), 3, none⟩ = some (.int .i64 x.epoch) := cell_at HE.out 3
    have qE4 : W4.cell? ⟨(N + 1), 4, none⟩ = some (.int .i64 x.number) := cell_at HE.out 4
    have qE5 : W4.cell? ⟨(N + 1), 5, none⟩ = some (.int .i64 x.size) := cell_at HE.out 5
    have qE6 : W4.cell? ⟨(N + 1), 6, none⟩ = some (.int .i64 x.spent) := cell_at HE.out 6
    have qEz : ∀ j, W4.frozen? ⟨(N + 1), j, none⟩ = false := fun j => free_at HE.out j
    have qEl : (N + 1) < W4.heap.size := HE.out.lt
    go_wp2_with fail
    go_ret
    exact ⟨rfl, HB.out⟩
  · skip
    have qE0 : W4.cell? ⟨(N + 1), 0, none⟩ = some (.int .i64 x.id) := cell_at HE.out 0
    have qE1 : W4.cell? ⟨(N + 1), 1, none⟩ = some (.int .i64 x.tenant) := cell_at HE.out 1
    have qE2 : W4.cell? ⟨(N + 1), 2, none⟩ = some (.int .i64 x.shaper) := cell_at HE.out 2
    have qE3 : W4.cell? ⟨(N + 1), 3, none⟩ = some (.int .i64 x.epoch) := cell_at HE.out 3
    have qE4 : W4.cell? ⟨(N + 1), 4, none⟩ = some (.int .i64 x.number) := cell_at HE.out 4
    have qE5 : W4.cell? ⟨(N + 1), 5, none⟩ = some (.int .i64 x.size) := cell_at HE.out 5
    have qE6 : W4.cell? ⟨(N + 1), 6, none⟩ = some (.int .i64 x.spent) := cell_at HE.out 6
    have qEz : ∀ j, W4.frozen? ⟨(N + 1), j, none⟩ = false := fun j => free_at HE.out j
    have qEl : (N + 1) < W4.heap.size := HE.out.lt
    go_wp2_with fail
    go_at_call 46
    go_fit (HSH.out _)
    rintro e W5 ⟨rfl, hB⟩
    clear qE0 qE1 qE2 qE3 qE4 qE5 qE6 qEz qEl
    replace HB := Lib.hid (HB.out.trans (hB.mono HB.out.size))
    replace HT := Lib.hid (HT0.out.below HB.out)
    replace HL := Lib.hid (HL0.out.below HB.out)
    replace HS := Lib.hid (HS0.out.below HB.out)
    replace HD := Lib.hid (HD0.out.below HB.out)
    replace HR := Lib.hid (HR.out.step hB)
    replace HE := Lib.hid (HE.out.step hB)
    replace HF9 := Lib.hid (HF9.out.step hB)
    clear hB
    cases sh
    · skip
      have hR : R = false := by rw [HR9.out]; simp [*]
      subst hR
      have qE0 : W5.cell? ⟨(N + 1), 0, none⟩ = some (.int .i64 x.id) := cell_at HE.out 0
      have qE1 : W5.cell? ⟨(N + 1), 1, none⟩ = some (.int .i64 x.tenant) := cell_at HE.out 1
      have qE2 : W5.cell? ⟨(N + 1), 2, none⟩ = some (.int .i64 x.shaper) := cell_at HE.out 2
      have qE3 : W5.cell? ⟨(N + 1), 3, none⟩ = some (.int .i64 x.epoch) := cell_at HE.out 3
      have qE4 : W5.cell? ⟨(N + 1), 4, none⟩ = some (.int .i64 x.number) := cell_at HE.out 4
      have qE5 : W5.cell? ⟨(N + 1), 5, none⟩ = some (.int .i64 x.size) := cell_at HE.out 5
      have qE6 : W5.cell? ⟨(N + 1), 6, none⟩ = some (.int .i64 x.spent) := cell_at HE.out 6
      have qEz : ∀ j, W5.frozen? ⟨(N + 1), j, none⟩ = false := fun j => free_at HE.out j
      have qEl : (N + 1) < W5.heap.size := HE.out.lt
      go_wp2_with fail
      go_ret
      exact ⟨rfl, HB.out⟩
    · skip
      by_cases h2 : 1 ≤ x.epoch
      · skip
        have t2 : decide (1 ≤ x.epoch) = true := decide_eq_true h2
        by_cases h3 : 1 ≤ x.number
        · skip
          have t3 : decide (1 ≤ x.number) = true := decide_eq_true h3
          have qE0 : W5.cell? ⟨(N + 1), 0, none⟩ = some (.int .i64 x.id) := cell_at HE.out 0
          have qE1 : W5.cell? ⟨(N + 1), 1, none⟩ = some (.int .i64 x.tenant) := cell_at HE.out 1
          have qE2 : W5.cell? ⟨(N + 1), 2, none⟩ = some (.int .i64 x.shaper) := cell_at HE.out 2
          have qE3 : W5.cell? ⟨(N + 1), 3, none⟩ = some (.int .i64 x.epoch) := cell_at HE.out 3
          have qE4 : W5.cell? ⟨(N + 1), 4, none⟩ = some (.int .i64 x.number) := cell_at HE.out 4
          have qE5 : W5.cell? ⟨(N + 1), 5, none⟩ = some (.int .i64 x.size) := cell_at HE.out 5
          have qE6 : W5.cell? ⟨(N + 1), 6, none⟩ = some (.int .i64 x.spent) := cell_at HE.out 6
          have qEz : ∀ j, W5.frozen? ⟨(N + 1), j, none⟩ = false := fun j => free_at HE.out j
          have qEl : (N + 1) < W5.heap.size := HE.out.lt
          go_wp2_with fail
          go_at_call 47
          go_fit (HSZ.out _)
          rintro e W6 ⟨rfl, hB⟩
          clear qE0 qE1 qE2 qE3 qE4 qE5 qE6 qEz qEl
          replace HB := Lib.hid (HB.out.trans (hB.mono HB.out.size))
          replace HT := Lib.hid (HT0.out.below HB.out)
          replace HL := Lib.hid (HL0.out.below HB.out)
          replace HS := Lib.hid (HS0.out.below HB.out)
          replace HD := Lib.hid (HD0.out.below HB.out)
          replace HR := Lib.hid (HR.out.step hB)
          replace HE := Lib.hid (HE.out.step hB)
          replace HF9 := Lib.hid (HF9.out.step hB)
          clear hB
          cases sz
          · skip
            have hR : R = false := by rw [HR9.out]; simp [*]
            subst hR
            have qE0 : W6.cell? ⟨(N + 1), 0, none⟩ = some (.int .i64 x.id) := cell_at HE.out 0
            have qE1 : W6.cell? ⟨(N + 1), 1, none⟩ = some (.int .i64 x.tenant) := cell_at HE.out 1
            have qE2 : W6.cell? ⟨(N + 1), 2, none⟩ = some (.int .i64 x.shaper) := cell_at HE.out 2
            have qE3 : W6.cell? ⟨(N + 1), 3, none⟩ = some (.int .i64 x.epoch) := cell_at HE.out 3
            have qE4 : W6.cell? ⟨(N + 1), 4, none⟩ = some (.int .i64 x.number) := cell_at HE.out 4
            have qE5 : W6.cell? ⟨(N + 1), 5, none⟩ = some (.int .i64 x.size) := cell_at HE.out 5
            have qE6 : W6.cell? ⟨(N + 1), 6, none⟩ = some (.int .i64 x.spent) := cell_at HE.out 6
            have qEz : ∀ j, W6.frozen? ⟨(N + 1), j, none⟩ = false := fun j => free_at HE.out j
            have qEl : (N + 1) < W6.heap.size := HE.out.lt
            go_wp2_with fail
            go_ret
            exact ⟨rfl, HB.out⟩
          · skip
            by_cases h5 : 0 ≤ x.spent
            · skip
              have t5 : decide (0 ≤ x.spent) = true := decide_eq_true h5
              by_cases h6 : x.spent < x.size
              · skip
                have t6 : decide (x.spent < x.size) = true := decide_eq_true h6
                have hR : R = true := by rw [HR9.out]; simp [*]
                subst hR
                have qE0 : W6.cell? ⟨(N + 1), 0, none⟩ = some (.int .i64 x.id) := cell_at HE.out 0
                have qE1 : W6.cell? ⟨(N + 1), 1, none⟩ = some (.int .i64 x.tenant) := cell_at HE.out 1
                have qE2 : W6.cell? ⟨(N + 1), 2, none⟩ = some (.int .i64 x.shaper) := cell_at HE.out 2
                have qE3 : W6.cell? ⟨(N + 1), 3, none⟩ = some (.int .i64 x.epoch) := cell_at HE.out 3
                have qE4 : W6.cell? ⟨(N + 1), 4, none⟩ = some (.int .i64 x.number) := cell_at HE.out 4
                have qE5 : W6.cell? ⟨(N + 1), 5, none⟩ = some (.int .i64 x.size) := cell_at HE.out 5
                have qE6 : W6.cell? ⟨(N + 1), 6, none⟩ = some (.int .i64 x.spent) := cell_at HE.out 6
                have qEz : ∀ j, W6.frozen? ⟨(N + 1), j, none⟩ = false := fun j => free_at HE.out j
                have qEl : (N + 1) < W6.heap.size := HE.out.lt
                go_wp2_with fail
                go_ret
                exact ⟨rfl, HB.out⟩
              · skip
                have t6 : decide (x.spent < x.size) = false := decide_eq_false h6
                have hR : R = false := by rw [HR9.out]; simp [*]
                subst hR
                have qE0 : W6.cell? ⟨(N + 1), 0, none⟩ = some (.int .i64 x.id) := cell_at HE.out 0
                have qE1 : W6.cell? ⟨(N + 1), 1, none⟩ = some (.int .i64 x.tenant) := cell_at HE.out 1
                have qE2 : W6.cell? ⟨(N + 1), 2, none⟩ = some (.int .i64 x.shaper) := cell_at HE.out 2
                have qE3 : W6.cell? ⟨(N + 1), 3, none⟩ = some (.int .i64 x.epoch) := cell_at HE.out 3
                have qE4 : W6.cell? ⟨(N + 1), 4, none⟩ = some (.int .i64 x.number) := cell_at HE.out 4
                have qE5 : W6.cell? ⟨(N + 1), 5, none⟩ = some (.int .i64 x.size) := cell_at HE.out 5
                have qE6 : W6.cell? ⟨(N + 1), 6, none⟩ = some (.int .i64 x.spent) := cell_at HE.out 6
                have qEz : ∀ j, W6.frozen? ⟨(N + 1), j, none⟩ = false := fun j => free_at HE.out j
                have qEl : (N + 1) < W6.heap.size := HE.out.lt
                go_wp2_with fail
                go_ret
                exact ⟨rfl, HB.out⟩
            · skip
              have t5 : decide (0 ≤ x.spent) = false := decide_eq_false h5
              have hR : R = false := by rw [HR9.out]; simp [*]
              subst hR
              have qE0 : W6.cell? ⟨(N + 1), 0, none⟩ = some (.int .i64 x.id) := cell_at HE.out 0
              have qE1 : W6.cell? ⟨(N + 1), 1, none⟩ = some (.int .i64 x.tenant) := cell_at HE.out 1
              have qE2 : W6.cell? ⟨(N + 1), 2, none⟩ = some (.int .i64 x.shaper) := cell_at HE.out 2
              have qE3 : W6.cell? ⟨(N + 1), 3, none⟩ = some (.int .i64 x.epoch) := cell_at HE.out 3
              have qE4 : W6.cell? ⟨(N + 1), 4, none⟩ = some (.int .i64 x.number) := cell_at HE.out 4
              have qE5 : W6.cell? ⟨(N + 1), 5, none⟩ = some (.int .i64 x.size) := cell_at HE.out 5
              have qE6 : W6.cell? ⟨(N + 1), 6, none⟩ = some (.int .i64 x.spent) := cell_at HE.out 6
              have qEz : ∀ j, W6.frozen? ⟨(N + 1), j, none⟩ = false := fun j => free_at HE.out j
              have qEl : (N + 1) < W6.heap.size := HE.out.lt
              go_wp2_with fail
              go_ret
              exact ⟨rfl, HB.out⟩
        · skip
          have t3 : decide (1 ≤ x.number) = false := decide_eq_false h3
          have hR : R = false := by rw [HR9.out]; simp [*]
          subst hR
          have qE0 : W5.cell? ⟨(N + 1), 0, none⟩ = some (.int .i64 x.id) := cell_at HE.out 0
          have qE1 : W5.cell? ⟨(N + 1), 1, none⟩ = some (.int .i64 x.tenant) := cell_at HE.out 1
          have qE2 : W5.cell? ⟨(N + 1), 2, none⟩ = some (.int .i64 x.shaper) := cell_at HE.out 2
          have qE3 : W5.cell? ⟨(N + 1), 3, none⟩ = some (.int .i64 x.epoch) := cell_at HE.out 3
          have qE4 : W5.cell? ⟨(N + 1), 4, none⟩ = some (.int .i64 x.number) := cell_at HE.out 4
          have qE5 : W5.cell? ⟨(N + 1), 5, none⟩ = some (.int .i64 x.size) := cell_at HE.out 5
          have qE6 : W5.cell? ⟨(N + 1), 6, none⟩ = some (.int .i64 x.spent) := cell_at HE.out 6
          have qEz : ∀ j, W5.frozen? ⟨(N + 1), j, none⟩ = false := fun j => free_at HE.out j
          have qEl : (N + 1) < W5.heap.size := HE.out.lt
          go_wp2_with fail
          go_ret
          exact ⟨rfl, HB.out⟩
      · skip
        have t2 : decide (1 ≤ x.epoch) = false := decide_eq_false h2
        have hR : R = false := by rw [HR9.out]; simp [*]
        subst hR
        have qE0 : W5.cell? ⟨(N + 1), 0, none⟩ = some (.int .i64 x.id) := cell_at HE.out 0
        have qE1 : W5.cell? ⟨(N + 1), 1, none⟩ = some (.int .i64 x.tenant) := cell_at HE.out 1
        have qE2 : W5.cell? ⟨(N + 1), 2, none⟩ = some (.int .i64 x.shaper) := cell_at HE.out 2
        have qE3 : W5.cell? ⟨(N + 1), 3, none⟩ = some (.int .i64 x.epoch) := cell_at HE.out 3
        have qE4 : W5.cell? ⟨(N + 1), 4, none⟩ = some (.int .i64 x.number) := cell_at HE.out 4
        have qE5 : W5.cell? ⟨(N + 1), 5, none⟩ = some (.int .i64 x.size) := cell_at HE.out 5
        have qE6 : W5.cell? ⟨(N + 1), 6, none⟩ = some (.int .i64 x.spent) := cell_at HE.out 6
        have qEz : ∀ j, W5.frozen? ⟨(N + 1), j, none⟩ = false := fun j => free_at HE.out j
        have qEl : (N + 1) < W5.heap.size := HE.out.lt
        go_wp2_with fail
        go_ret
        exact ⟨rfl, HB.out⟩
end Go.Proofs.Ytfgnjpdlchimpaa
